package label_test

import (
	"math"
	"reflect"
	"slices"
	"testing"

	"haulier/api"
	"haulier/book"
	"haulier/errand"
	"haulier/label"
	"haulier/sample"
)

// smallMeters are meters by which a minute more breaks clauses of small books, and such by which it breaks none.
func smallMeters() []api.Meter {
	return []api.Meter{
		{}, {Now: 1}, {Now: 2, Acc: 2, Day: 2, Week: 2, Labour: 2}, {Now: 3, Lie: 2, Acc: 1, Half: true}, {Now: 4, Lie: 3, Dawn: 1, Reduces: 1},
		{Now: 5, Lie: 5, Brief: true}, {Now: 4, Dawn: 4, Sabbath: 4, Day: 3, Longers: 1}, {Now: 7, Dawn: 6, Week: 5, Last: 3, Labour: 6}, {Now: 12},
	}
}

// TestSmallWorlds: of all small tasks all right spots, with few meters each, by small books, against the chapter's words.
func TestSmallWorlds(t *testing.T) {
	books, meters := sample.TinyBooks(), smallMeters()
	turn, none := 0, 0
	sample.SmallTasks(func(l []api.Task) {
		for _, s := range sample.Spots(l) {
			for i := range 5 {
				turn++
				b := books[turn%len(books)]
				m := meters[turn%len(meters)]
				if i == 0 {
					b = sample.Tiny()
				}
				if len(checkLabel(t, b, l, at(m, s))) == 0 {
					none++
				}
			}
		}
	})
	if turn < 20000 || none < 300 {
		t.Errorf("the test itself: %d labels, of which %d have no ways", turn, none)
	}
}

// TestShortRows: all rows of up to four minutes, of each kind and of none, from the start of some small tasks.
func TestShortRows(t *testing.T) {
	row := make([]int, 0, 4)
	var from label.Label
	var b api.Book
	var l []api.Task
	var all func()
	done := 0
	all = func() {
		to, may := checkRow(t, b, l, from, row...)
		if bound := plainBound(l, from); may && errand.Done(l, to.S) {
			done++
			if to.M.Now < bound {
				t.Errorf("%v does all of %v from %+v on, ahead of %d", row, l, from, bound)
			}
		}
		if len(row) == cap(row) {
			return
		}
		for kind := -1; kind <= api.Kinds; kind++ {
			row = append(row, kind)
			all()
			row = row[:len(row)-1]
		}
	}
	for _, b = range []api.Book{sample.Tiny(), book.Europe()} {
		for _, l = range [][]api.Task{nil, {task(0, 0)}, {task(2, 0)}, {task(1, 1, 1, 2), task(1, 0)}, {task(0, 2, 2, 3)}, {task(0, 2, 0, 1), task(0, 0), task(0, 1, 3, 5)}, {task(3, 1, 0, 40320)}, {task(1, 0), task(1, 1, 2, 5)}} {
			start, _ := errand.Start(l)
			for _, m := range []api.Meter{{}, {Now: 2, Lie: 2, Acc: 2, Day: 2}, {Now: 40317, Dawn: 40316, Sabbath: 40310}} {
				from = at(m, start)
				all()
			}
		}
	}
	if done < 400 {
		t.Errorf("the test itself: %d rows do all", done)
	}
}

// TestRowsOfWays: from the start of all small tasks, all rows of ways, some minutes far: each way is as the chapter's words say, and none does all ahead of the bound at the start.
func TestRowsOfWays(t *testing.T) {
	books := sample.TinyBooks()
	labels, done, turn := 0, 0, 0
	var on func(b api.Book, l []api.Task, x label.Label, bound, left int)
	on = func(b api.Book, l []api.Task, x label.Label, bound, left int) {
		labels++
		if errand.Done(l, x.S) {
			done++
			if x.M.Now < bound {
				t.Errorf("all of %v is done with %+v, ahead of %d", l, x, bound)
			}
		}
		if left == 0 {
			return
		}
		ways, err := label.Ways(b, l, x)
		if !slices.Equal(ways, plainWays(b, l, x)) || err != api.OK {
			t.Errorf("Ways(%+v, %v, %+v) = %+v, %d", b, l, x, ways, err)
		}
		for _, w := range ways {
			on(b, l, w.To, bound, left-1)
		}
	}
	sample.SmallTasks(func(l []api.Task) {
		turn++
		start, _ := errand.Start(l)
		x := label.Label{S: start}
		bound, err := label.Bound(l, x)
		if err != api.OK {
			t.Errorf("Bound(%v, %+v): %d", l, x, err)
		}
		on(books[turn%len(books)], l, x, bound, 7)
	})
	if labels < 300000 || done < 10000 {
		t.Errorf("the test itself: %d labels, with %d of which all is done", labels, done)
	}
}

// anyLabel is tasks and a label of them, as draws below n tell.
func anyLabel(draw func(n int) int, b api.Book) ([]api.Task, label.Label) {
	l := sample.AnyTasks(draw, draw(8), []int{2, 5, 20, 100}[draw(4)])
	return l, at(sample.AnyMeter(draw, b), sample.AnySpot(draw, l))
}

// TestDrawn: of many labels, tasks and books, ways and bounds are what the chapter's words say, and what is played of one kind is one of the ways.
func TestDrawn(t *testing.T) {
	draw := chance(25)
	books := sample.May()
	var count [4]int
	for i := range 20000 {
		b := books[i%len(books)]
		l, x := anyLabel(draw, b)
		// Now and then a service is due at once.
		if s := x.S; s.Task < len(l) && l[s.Task].Serve > 0 && s.Served == 0 && draw(2) == 0 {
			x.S.Driven = l[s.Task].Drive
			l[s.Task].Open = sample.Spans(x.M.Now-min(x.M.Now, draw(2)), x.M.Now+1)
			if x.M.Now == 40320 {
				l[s.Task].Open = sample.Spans(0, 40320)
			}
		}
		count[len(checkLabel(t, b, l, x))]++
	}
	if min(count[0], count[1], count[2], count[3]) < 500 {
		t.Errorf("the test itself: so many labels have 0, 1, 2 and 3 ways: %v", count)
	}
}

// rowOf is a row of up to so many minutes from the label on, as draws below n tell: ways, and among them seldom what is none.
func rowOf(draw func(n int) int, b api.Book, l []api.Task, x label.Label, most int) []int {
	var row []int
	for len(row) < most {
		ways := plainWays(b, l, x)
		if len(ways) == 0 {
			return append(row, draw(6)-1)
		}
		w := ways[draw(len(ways))]
		if draw(3) > 0 {
			w = ways[0]
		}
		row, x = append(row, w.Kind), w.To
		if draw(300) == 0 {
			row = append(row, draw(6)-1)
		}
	}
	return row
}

// TestTwoRows: Play of two rows, one behind the other, is Play of both; the bounds never fall, and nothing is done ahead of them.
func TestTwoRows(t *testing.T) {
	draw := chance(254)
	books := append(sample.May(), sample.Roomy(func(b *api.Book) {}), sample.Roomy(func(b *api.Book) { b.Drive = 20 }))
	follow, not, done := 0, 0, 0
	for i := range 3000 {
		b := books[i%len(books)]
		if i%3 == 0 {
			b = books[len(books)-1-i%2]
		}
		l, x := anyLabel(draw, b)
		if draw(2) == 0 {
			x = label.Label{S: x.S}
		}
		row := rowOf(draw, b, l, x, draw(200))
		half := draw(len(row) + 1)
		to, may := checkRow(t, b, l, x, row...)
		amid, first := checkRow(t, b, l, x, row[:half]...)
		if !first {
			not++
			if may {
				t.Errorf("%v may follow %+v, and %v may not", row, x, row[:half])
			}
			continue
		}
		if may {
			follow++
			checkPlay(t, b, l, amid, to, row[half:]...)
		} else {
			checkNoPlay(t, b, l, amid, row[half:]...)
		}
		was := plainBound(l, x)
		checkBound(t, l, amid, was+idle(row[:half]))
		if errand.Done(l, amid.S) {
			done++
			if amid.M.Now < was {
				t.Errorf("%v does all of %v from %+v on ahead of %d", row[:half], l, x, was)
			}
		}
	}
	if min(follow, not, done) < 100 {
		t.Errorf("the test itself: %d rows may follow, %d not by their half, %d do all", follow, not, done)
	}
}

// idle is how many minutes of the row are of rest or of waiting.
func idle(row []int) int {
	n := 0
	for _, kind := range row {
		if kind == api.Rest || kind == api.Avail {
			n++
		}
	}
	return n
}

// TestFollowing: timelines that follow drawn tasks, by a book that lets them, are played to their ends, with all done, not ahead of the bound; without their last minute not all is done.
func TestFollowing(t *testing.T) {
	draw := chance(2500)
	b := sample.Roomy(func(b *api.Book) {})
	for i := range 400 {
		l := sample.AnyTasks(draw, 1+draw(10), []int{2, 5, 20, 60}[i%4])
		sample.OpenLate(l)
		start, _ := errand.Start(l)
		x := label.Label{S: start}
		row := minutes(sample.Following(draw, l, start, 0))
		to, may := checkRow(t, b, l, x, row...)
		if bound, err := label.Bound(l, x); !may || to.S != spot(len(l), 0, 0) || to.M.Now < bound || to.M.Now != bound+idle(row) || err != api.OK {
			t.Errorf("%v comes to %+v of %v, %t, with the bound %d, %d", row, to, l, may, bound, err)
		}
		if len(row) > 0 && row[len(row)-1] >= api.Work {
			if to, _ := checkRow(t, b, l, x, row[:len(row)-1]...); errand.Done(l, to.S) {
				t.Errorf("%v does all of %v a minute too early", row, l)
			}
		}
	}
}

// callAll: all calls by the book, of the tasks, from some labels on, such as may be and others.
func callAll(b api.Book, l []api.Task, row []int) []any {
	var told []any
	tell := func(l ...any) { told = append(told, l...) }
	for _, s := range []api.Spot{spot(0, 0, 0), spot(0, 2, 0), spot(0, 2, 1), spot(1, 0, 0), spot(4, 3, 0), spot(len(l), 0, 0), spot(-1, math.MinInt, math.MaxInt)} {
		for _, m := range []api.Meter{{}, {Now: 6}, {Now: 40320}, {Now: -1}} {
			x := at(m, s)
			tell(label.Check(b, l, x))
			ways, err := label.Ways(b, l, x)
			tell(ways, err)
			bound, err := label.Bound(l, x)
			tell(bound, err)
			to, may, err := label.Play(b, l, x, row...)
			tell(to, may, err)
		}
	}
	return told
}

// TestArguments: what is handed in reads as before, and what lies beside it in memory is neither read nor written.
func TestArguments(t *testing.T) {
	rows := [][]int{nil, kinds("D2 A3 W3 D4"), kinds("R9"), {3, 3, 4}, {-1}, kinds("R1000 D1")}
	for i, l := range sample.TaskLists() {
		row := rows[i%len(rows)]
		want := callAll(book.Europe(), l, row)
		memory, windows := sample.AmidTasks(l)
		before, beforeWindows := sample.AmidTasks(l)
		same := sample.Among(row, []int{-1, api.Rest, api.Drive}, func(mine []int) {
			if got := callAll(book.Europe(), memory[2:2+len(l)], mine); !reflect.DeepEqual(got, want) {
				t.Errorf("of %v amid other memory all that is told is %v, want %v", short(l), got, want)
			}
		})
		if !same || !reflect.DeepEqual(memory, before) || !slices.Equal(windows, beforeWindows) {
			t.Errorf("%v, or %v, does not read as before", short(l), row)
		}
	}
}

// TestAnswersStay: what Ways has handed out reads as before behind later calls, and what is put behind it, or written to it, is told by none.
func TestAnswersStay(t *testing.T) {
	draw := chance(7)
	var kept []func() bool
	for range 300 {
		l, x := anyLabel(draw, book.Europe())
		one, _ := label.Ways(book.Europe(), l, x)
		kept = append(kept, sample.Stays(one))
		other, _ := label.Ways(book.Europe(), l, x)
		if !slices.Equal(one, other) {
			t.Errorf("Ways of %+v tells %+v, and then %+v", x, one, other)
		}
		_ = append(other, way(9, busy(), spot(9, 9, 9)))
		for i := range other {
			other[i] = way(9, busy(), spot(9, 9, 9))
		}
		checkLabel(t, book.Europe(), l, x)
	}
	for _, same := range kept {
		if !same() {
			t.Fatal("what was handed out reads otherwise later")
		}
	}
}

// TestNothingIsKept: what was told before is nothing to what is told of the same memory with other tasks in it.
func TestNothingIsKept(t *testing.T) {
	l, row := journey(), kinds("D2 A3 W3 D4")
	before := callAll(book.Europe(), l, row)
	l[0], l[3].Open[0] = task(2, 1, 6, 7), sample.Span(6, 9)
	if !reflect.DeepEqual(callAll(book.Europe(), l, row), callAll(book.Europe(), slices.Clone(l), slices.Clone(row))) {
		t.Error("other tasks in the same memory are told otherwise than in new one")
	}
	checkNoPlay(t, book.Europe(), l, label.Label{}, row...)
	row[5] = api.Avail
	checkNoPlay(t, book.Europe(), l, label.Label{}, row...)
	checkPlay(t, book.Europe(), l, label.Label{}, at(api.Meter{Now: 7, Acc: 2, Day: 2, Week: 2, Labour: 3}, spot(2, 0, 0)), kinds("D2 A4 W1")...)
	l[0].Drive = -1
	checkErr(t, book.Europe(), l, label.Label{}, api.ErrRange)
	if !reflect.DeepEqual(callAll(book.Europe(), journey(), kinds("D2 A3 W3 D4")), before) {
		t.Error("what is told of the same tasks is another thing now")
	}
}

// TestAnyNumbers: each call ends, and tells what the chapter's words say, whatever the numbers are.
func TestAnyNumbers(t *testing.T) {
	numbers := append(sample.Minutes(), 1440, 10080)
	draw := chance(1900)
	one := func() int { return numbers[draw(len(numbers))] }
	var told [20]int
	for range 50000 {
		b, l, x := book.Europe(), journey(), at(busy(), sample.AnySpot(draw, journey()))
		if draw(4) == 0 {
			*sample.BookNumbers(&b)[draw(book.Fields)] = one()
		}
		if draw(4) == 0 {
			l[draw(len(l))] = task(one(), one(), one(), one())
		}
		if draw(4) == 0 {
			x.S = spot(one(), one(), one())
		}
		if draw(4) == 0 {
			*sample.MeterNumbers(&x.M)[draw(10)] = one()
		}
		if draw(4) == 0 {
			x.M.Now = one()
		}
		err := plainCheck(b, l, x)
		told[err]++
		checkLabel(t, b, l, x)
		if row := []int{one(), one(), one()}; err == api.OK {
			checkRow(t, b, l, x, row...)
		}
	}
	for _, err := range []api.Errno{api.OK, api.ErrArg, api.ErrRange, api.ErrSpan, api.ErrBook} {
		if told[err] < 300 {
			t.Errorf("the test itself: %d is told %d times", err, told[err])
		}
	}
}
