package spell_test

import (
	"math"
	"slices"
	"strings"
	"testing"

	"haulier/api"
	"haulier/book"
	"haulier/sample"
	"haulier/spell"
)

var span = sample.Span

// asked: what Of is asked.
type asked struct {
	b           api.Book
	s           api.Span
	dawn        int
	half, split bool
}

func (a asked) of() (spell.Worth, api.Errno) { return spell.Of(a.b, a.s, a.dawn, a.half, a.split) }

// told: what a spell is worth, in words.
func told(w spell.Worth) string {
	var l []string
	for _, one := range []struct {
		name string
		is   bool
	}{{"Break", w.Break}, {"Half", w.Half}, {"Part", w.Part}, {"Daily", w.Daily}, {"Reduced", w.Reduced}, {"Weekly", w.Weekly}, {"Brief", w.Brief}} {
		if one.is {
			l = append(l, one.name)
		}
	}
	return strings.Join(l, " ")
}

// plain: what a spell is worth, as the document has it, counted minute by minute, each thing ahead of what it leaves no room for.
func plain(a asked) spell.Worth {
	long, inRound := 0, 0
	for m := a.s.From; m < a.s.To; m++ {
		long++
		if m < a.dawn+a.b.Round {
			inRound++
		}
	}
	var w spell.Worth
	switch {
	case long >= a.b.Weekly:
		w.Daily, w.Weekly = true, true
	case long >= a.b.Short:
		w.Daily, w.Weekly, w.Brief = true, true, true
	case long >= a.b.Reduced:
		w.Daily, w.Reduced = true, !a.split && inRound < a.b.Regular
	case long >= a.b.Part:
		w.Part = true
	}
	switch {
	case long >= a.b.Break || a.half && long >= a.b.Second:
		w.Break = true
	case a.half || long >= a.b.First:
		w.Half = true
	}
	return w
}

// plainErr: what is wrong with what Of is asked, as the document has it.
func plainErr(a asked) api.Errno {
	if book.Check(a.b) != api.OK {
		return api.ErrBook
	}
	if !(a.s.From < a.s.To) {
		return api.ErrSpan
	}
	if !(a.s.From >= 0 && a.s.To <= 40320) {
		return api.ErrRange
	}
	if !(a.dawn >= 0 && a.dawn <= a.s.From) {
		return api.ErrArg
	}
	return api.OK
}

// checkPlain: what Of tells is what the document has it tell.
func checkPlain(t *testing.T, a asked) {
	t.Helper()
	var want spell.Worth
	wantErr := plainErr(a)
	if wantErr == api.OK {
		want = plain(a)
	}
	before := a
	if got, err := a.of(); got != want || err != wantErr {
		t.Errorf("Of(%+v) = %q, %d, want %q, %d", a, told(got), err, told(want), wantErr)
	}
	if a != before {
		t.Errorf("behind Of what was handed in is %+v, and was %+v", a, before)
	}
}

// checkTold: what Of tells is want, in words, and so does the document, minute by minute.
func checkTold(t *testing.T, a asked, want string) {
	t.Helper()
	if w := told(plain(a)); w != want || plainErr(a) != api.OK {
		t.Errorf("the test itself: %+v is told as %q, and should be %q", a, w, want)
	}
	if got, err := a.of(); told(got) != want || err != api.OK {
		t.Errorf("Of(%+v) = %q, %d, want %q", a, told(got), err, want)
	}
}

// checkErr: Of tells that error, and nothing else, whichever first parts there were.
func checkErr(t *testing.T, b api.Book, s api.Span, dawn int, want api.Errno) {
	t.Helper()
	for _, first := range firsts() {
		a := asked{b, s, dawn, first[0], first[1]}
		if got, err := a.of(); got != (spell.Worth{}) || err != want {
			t.Errorf("Of(%+v) = %q, %d, want %d alone", a, told(got), err, want)
		}
	}
}

// firsts: Half and Split, as they may be.
func firsts() [][2]bool { return [][2]bool{{false, false}, {true, false}, {false, true}, {true, true}} }

// lengths: those from which a spell is worth more by the book, in the order of what it is worth; and those that are one less, and one more.
func lengths(b api.Book) []int {
	l := []int{1, 2, 40319, 40320}
	for _, n := range []int{b.First, b.Second, b.Break, b.Part, b.Reduced, b.Regular, b.Short, b.Weekly, b.Round} {
		l = append(l, n-1, n, n+1)
	}
	slices.Sort(l)
	return slices.DeleteFunc(slices.Compact(l), func(n int) bool { return n < 1 || n > 40320 })
}

// may: books that may be.
func may() []api.Book { return slices.Concat(sample.Books(), sample.Others()) }

// TestBooks: the books that the tests are of.
func TestBooks(t *testing.T) {
	for _, b := range may() {
		if err := book.Check(b); err != api.OK {
			t.Errorf("the test itself: the book %+v may not be", b)
		}
	}
	for _, b := range sample.NoBooks() {
		if err := book.Check(b); err != api.ErrBook {
			t.Errorf("the test itself: the book %+v may be", b)
		}
	}
}

// TestLengths: by the European book, each length from which a spell is worth more, and a minute below and above it.
func TestLengths(t *testing.T) {
	for _, one := range []struct {
		least, most                int
		neither, half, split, both string
	}{
		{1, 14, "", "Half", "", "Half"},
		{15, 29, "Half", "Half", "Half", "Half"},
		{30, 44, "Half", "Break", "Half", "Break"},
		{45, 179, "Break", "Break", "Break", "Break"},
		{180, 539, "Break Part", "Break Part", "Break Part", "Break Part"},
		{540, 659, "Break Daily Reduced", "Break Daily Reduced", "Break Daily", "Break Daily"},
		{660, 1439, "Break Daily", "Break Daily", "Break Daily", "Break Daily"},
		{1440, 2699, "Break Daily Weekly Brief", "Break Daily Weekly Brief", "Break Daily Weekly Brief", "Break Daily Weekly Brief"},
		{2700, 40220, "Break Daily Weekly", "Break Daily Weekly", "Break Daily Weekly", "Break Daily Weekly"},
	} {
		for _, long := range []int{one.least, one.least + 1, (one.least + one.most) / 2, one.most - 1, one.most} {
			for i, want := range []string{one.neither, one.half, one.split, one.both} {
				first := firsts()[i]
				checkTold(t, asked{book.Europe(), span(100, 100+long), 0, first[0], first[1]}, want)
				checkTold(t, asked{book.Europe(), span(100, 100+long), 99, first[0], first[1]}, want)
				checkTold(t, asked{book.Europe(), span(100, 100+long), 100, first[0], first[1]}, want)
			}
		}
	}
}

// TestExample: the chapter's one.
func TestExample(t *testing.T) {
	for _, from := range []int{0, 1, 500, 40290} {
		for _, split := range []bool{false, true} {
			for _, half := range []bool{false, true} {
				got, err := spell.Of(book.Europe(), span(from, from+30), 0, half, split)
				if got.Break != half || err != api.OK {
					t.Errorf("30 minutes from %d: %q, %d, while a break's first part is told by %t", from, told(got), err, half)
				}
			}
		}
	}
}

// TestReduced: by the European book, where a spell lies in its round; that ends with 1440 behind dawn.
func TestReduced(t *testing.T) {
	const reduced, daily, weekly = "Break Daily Reduced", "Break Daily", "Break Daily Weekly Brief"
	for _, one := range []struct {
		from, to int
		want     string
	}{
		// It ends ahead of the round's end, at it, and behind it.
		{779, 1438, reduced}, {779, 1439, daily}, {779, 1440, daily}, {779, 1441, daily}, {779, 2218, daily}, {779, 2219, weekly},
		{780, 1320, reduced}, {780, 1439, reduced}, {780, 1440, daily}, {780, 1441, daily}, {780, 2219, daily}, {780, 2220, weekly},
		{781, 1440, reduced}, {781, 1441, reduced}, {781, 1442, reduced}, {781, 2220, reduced}, {781, 2221, weekly},
		{898, 1438, reduced}, {899, 1439, reduced}, {900, 1440, reduced}, {901, 1441, reduced}, {902, 1442, reduced},
		// It is long enough, but too little of it lies in the round.
		{900, 1560, reduced}, {1000, 2000, reduced}, {1438, 2200, reduced},
		// It begins ahead of the round's end, at it, and behind it.
		{1439, 2099, reduced}, {1440, 2100, reduced}, {1441, 2101, reduced}, {1439, 1979, reduced}, {1440, 1980, reduced}, {1441, 1981, reduced},
		{1439, 2878, reduced}, {1440, 2879, reduced}, {1441, 2880, reduced}, {1439, 2879, weekly}, {1440, 2880, weekly}, {1441, 2881, weekly},
		{5000, 5660, reduced}, {30000, 31439, reduced}, {30000, 31440, weekly},
		// It begins with dawn.
		{0, 540, reduced}, {0, 659, reduced}, {0, 660, daily}, {0, 1439, daily}, {0, 1440, weekly},
	} {
		for _, dawn := range []int{0, 1, 1439, 1440, 8000} {
			for _, half := range []bool{false, true} {
				s := span(one.from+dawn, one.to+dawn)
				checkTold(t, asked{book.Europe(), s, dawn, half, false}, one.want)
				checkTold(t, asked{book.Europe(), s, dawn, half, true}, strings.TrimSuffix(one.want, " Reduced"))
			}
		}
	}
}

// TestBreaks: breaks and their first parts, by books in which the parts are the same, as long as a break, or the first one the longer.
func TestBreaks(t *testing.T) {
	for _, one := range []struct {
		first, second, long int
		fresh, half         string
	}{
		{15, 30, 14, "", "Half"}, {15, 30, 15, "Half", "Half"}, {15, 30, 29, "Half", "Half"}, {15, 30, 30, "Half", "Break"}, {15, 30, 44, "Half", "Break"}, {15, 30, 45, "Break", "Break"},
		{30, 15, 14, "", "Half"}, {30, 15, 15, "", "Break"}, {30, 15, 29, "", "Break"}, {30, 15, 30, "Half", "Break"}, {30, 15, 44, "Half", "Break"}, {30, 15, 45, "Break", "Break"},
		{20, 20, 19, "", "Half"}, {20, 20, 20, "Half", "Break"}, {20, 20, 21, "Half", "Break"},
		{15, 45, 15, "Half", "Half"}, {15, 45, 44, "Half", "Half"}, {15, 45, 45, "Break", "Break"}, {15, 45, 46, "Break", "Break"},
		{45, 15, 14, "", "Half"}, {45, 15, 15, "", "Break"}, {45, 15, 44, "", "Break"}, {45, 15, 45, "Break", "Break"},
		{45, 45, 44, "", "Half"}, {45, 45, 45, "Break", "Break"}, {45, 45, 46, "Break", "Break"},
		{1, 1, 1, "Half", "Break"}, {1, 1, 44, "Half", "Break"}, {1, 1, 45, "Break", "Break"},
		{44, 1, 43, "", "Break"}, {44, 1, 44, "Half", "Break"}, {1, 44, 43, "Half", "Half"}, {1, 44, 44, "Half", "Break"},
	} {
		b := book.Europe()
		b.First, b.Second = one.first, one.second
		for _, split := range []bool{false, true} {
			checkTold(t, asked{b, span(7, 7+one.long), 3, false, split}, one.fresh)
			checkTold(t, asked{b, span(7, 7+one.long), 3, true, split}, one.half)
		}
	}
}

// TestOthers: books in which two lengths are the same, so that what lies between them is nothing, and one in which a regular rest is longer than a round.
func TestOthers(t *testing.T) {
	b := book.Europe()
	b.Break, b.Part, b.Reduced = 180, 180, 540
	checkTold(t, asked{b, span(0, 179), 0, false, false}, "Half")
	checkTold(t, asked{b, span(0, 180), 0, false, false}, "Break Part")
	b.Part = 540
	checkTold(t, asked{b, span(0, 539), 0, false, false}, "Break")
	checkTold(t, asked{b, span(0, 540), 0, false, false}, "Break Daily Reduced")
	b.Regular = 540
	checkTold(t, asked{b, span(0, 539), 0, false, false}, "Break")
	checkTold(t, asked{b, span(0, 540), 0, false, false}, "Break Daily")
	checkTold(t, asked{b, span(901, 1441), 0, false, false}, "Break Daily Reduced")
	b.Regular, b.Short = 1440, 1440
	checkTold(t, asked{b, span(0, 1439), 0, false, false}, "Break Daily Reduced")
	checkTold(t, asked{b, span(0, 1440), 0, false, false}, "Break Daily Weekly Brief")
	b.Weekly = 1440
	checkTold(t, asked{b, span(0, 1439), 0, false, true}, "Break Daily")
	checkTold(t, asked{b, span(0, 1440), 0, false, false}, "Break Daily Weekly")
	checkTold(t, asked{sample.Late(), span(0, 1500), 0, false, false}, "Break Daily Reduced")
	checkTold(t, asked{sample.Late(), span(0, 1599), 0, false, false}, "Break Daily Reduced")
	checkTold(t, asked{sample.Late(), span(0, 1599), 0, false, true}, "Break Daily")
	checkTold(t, asked{sample.Late(), span(0, 1600), 0, false, false}, "Break Daily Weekly Brief")
	low, high := sample.Lowest(), sample.Highest()
	checkTold(t, asked{low, span(0, 1), 0, false, false}, "Break Daily Weekly")
	checkTold(t, asked{low, span(40319, 40320), 40319, true, true}, "Break Daily Weekly")
	checkTold(t, asked{high, span(0, 40318), 0, false, false}, "")
	checkTold(t, asked{high, span(1, 40319), 1, true, false}, "Half")
	checkTold(t, asked{high, span(0, 40319), 0, false, false}, "Break Daily Reduced")
	checkTold(t, asked{high, span(1, 40320), 0, true, true}, "Break Daily")
	checkTold(t, asked{high, span(0, 40320), 0, false, false}, "Break Daily Weekly")
}

// TestSpan: spans that are not right, or beyond the limits, and those that are just within them.
func TestSpan(t *testing.T) {
	for _, b := range may() {
		for _, s := range []api.Span{span(0, 0), span(5, 5), span(5, 4), span(40320, 0), span(40320, 40320), span(1, 0), span(math.MaxInt, math.MinInt), span(math.MinInt, math.MinInt), span(math.MaxInt, math.MaxInt), span(0, math.MinInt), span(math.MaxInt, 0), span(-1, -1), span(-1, -2), span(40321, 40321), span(40322, 40321)} {
			checkErr(t, b, s, 0, api.ErrSpan)
			checkErr(t, b, s, -1, api.ErrSpan)
			checkErr(t, b, s, math.MaxInt, api.ErrSpan)
		}
		for _, s := range []api.Span{span(-1, 0), span(-1, 1), span(-1, 40320), span(-1, 40321), span(0, 40321), span(40319, 40321), span(40320, 40321), span(40321, 40322), span(-2, -1), span(math.MinInt, math.MaxInt), span(math.MinInt, 5), span(math.MinInt, math.MinInt+1), span(5, math.MaxInt), span(math.MaxInt-1, math.MaxInt), span(0, 1<<32+1)} {
			checkErr(t, b, s, 0, api.ErrRange)
			checkErr(t, b, s, -1, api.ErrRange)
			checkErr(t, b, s, math.MinInt, api.ErrRange)
			checkErr(t, b, s, math.MaxInt, api.ErrRange)
		}
		for _, s := range []api.Span{span(0, 1), span(0, 40320), span(40319, 40320)} {
			checkPlain(t, asked{b, s, 0, false, false})
		}
	}
}

// TestDawn: from 0 to From it may be, and nowhere else.
func TestDawn(t *testing.T) {
	for _, b := range may() {
		for _, s := range []api.Span{span(0, 1), span(0, 40320), span(1, 700), span(800, 1500), span(40319, 40320)} {
			for _, dawn := range []int{-1, -2, -40320, math.MinInt, s.From + 1, s.From + 2, s.To, s.To + 1, 40320, 40321, 1 << 32, math.MaxInt} {
				if dawn < 0 || dawn > s.From {
					checkErr(t, b, s, dawn, api.ErrArg)
				}
			}
			for _, dawn := range []int{0, s.From / 2, max(0, s.From-1), s.From} {
				checkPlain(t, asked{b, s, dawn, false, false})
			}
		}
	}
}

// TestNoBook: a book that may not be is told ahead of all else, for each of layer 7's reasons.
func TestNoBook(t *testing.T) {
	for _, b := range sample.NoBooks() {
		for _, s := range []api.Span{span(0, 700), span(5, 5), span(-1, 4), span(0, 40321), span(math.MaxInt, math.MinInt)} {
			for _, dawn := range []int{0, -1, 1, math.MinInt, math.MaxInt} {
				checkErr(t, b, s, dawn, api.ErrBook)
			}
		}
		for _, dawn := range []int{0, 1, 40320, -1, 40321, math.MinInt, math.MaxInt} {
			checkLast(t, b, dawn, 0, 0, api.ErrBook)
		}
	}
}

// TestEdges: spans and dawns at all edges, by books that may be and one that may not.
func TestEdges(t *testing.T) {
	for _, b := range append(sample.Books(), sample.Late(), api.Book{}) {
		for _, from := range sample.Minutes() {
			for _, to := range sample.Minutes() {
				for _, dawn := range sample.Minutes() {
					for _, first := range firsts() {
						checkPlain(t, asked{b, span(from, to), dawn, first[0], first[1]})
					}
				}
			}
		}
	}
}

// TestLong: spells of each length at which something may change, that lie in their round in each way.
func TestLong(t *testing.T) {
	for _, b := range may() {
		for _, long := range lengths(b) {
			for _, dawn := range []int{0, 1, 700} {
				for _, behind := range []int{0, 1, b.Round - long, b.Round - b.Regular, b.Round - b.Reduced, b.Round, b.Round + 50} {
					for off := -1; off <= 1; off++ {
						from := dawn + behind + off
						for _, first := range firsts() {
							checkPlain(t, asked{b, span(from, from+long), dawn, first[0], first[1]})
						}
					}
				}
			}
		}
	}
}

// TestEach: spells of all lengths up to beyond a weekly rest, by the European book.
func TestEach(t *testing.T) {
	for long := 1; long < 2750; long++ {
		for _, first := range firsts() {
			for _, from := range []int{0, 779, 780, 781, 1441} {
				checkPlain(t, asked{book.Europe(), span(from, from+long), 0, first[0], first[1]})
			}
		}
	}
}

// few: all books that may be of small numbers, as far as a spell's worth hangs on them.
func few() []api.Book {
	l := []api.Book{sample.Lowest()}
	// The greater ones first, so that what may not be is left out on the way.
	for _, field := range []func(b *api.Book) *int{
		func(b *api.Book) *int { return &b.Round },
		func(b *api.Book) *int { return &b.Weekly },
		func(b *api.Book) *int { return &b.Short },
		func(b *api.Book) *int { return &b.Regular },
		func(b *api.Book) *int { return &b.Reduced },
		func(b *api.Book) *int { return &b.Part },
		func(b *api.Book) *int { return &b.Break },
		func(b *api.Book) *int { return &b.First },
		func(b *api.Book) *int { return &b.Second },
	} {
		var more []api.Book
		for _, b := range l {
			for n := 1; n <= 4; n++ {
				*field(&b) = n
				if book.Check(b) == api.OK {
					more = append(more, b)
				}
			}
		}
		l = more
	}
	return l
}

// TestSmall: by all books of small numbers, all short spells, with each dawn.
func TestSmall(t *testing.T) {
	l := few()
	if len(l) < 200 {
		t.Errorf("the test itself: there are but %d books", len(l))
	}
	for _, b := range l {
		for from := range 6 {
			for long := 1; long <= 5; long++ {
				for dawn := range from + 1 {
					for _, first := range firsts() {
						checkPlain(t, asked{b, span(from, from+long), dawn, first[0], first[1]})
					}
				}
			}
		}
	}
}

// TestLonger: P12.3: what a spell is that goes on for a minute.
func TestLonger(t *testing.T) {
	steps := 0
	for _, b := range append(may(), few()...) {
		for _, long := range lengths(b) {
			for _, behind := range []int{0, 1, max(0, b.Round-b.Regular-1), max(0, b.Round-b.Regular), max(0, b.Round-b.Regular) + 1, b.Round} {
				for _, first := range firsts() {
					steps += checkLonger(t, asked{b, span(3+behind, 3+behind+long), 3, first[0], first[1]})
				}
			}
		}
	}
	if steps < 10000 {
		t.Errorf("the test itself: only %d spells went on", steps)
	}
}

// checkLonger: a spell, and the same one that goes on for a minute; it counts those that can.
func checkLonger(t *testing.T, a asked) int {
	t.Helper()
	w, err := a.of()
	longer := a
	longer.s.To++
	l, errLonger := longer.of()
	if err != api.OK || errLonger != api.OK {
		return 0
	}
	if w.Break && !l.Break || w.Daily && !l.Daily || w.Weekly && !l.Weekly || w.Daily && !w.Reduced && l.Reduced {
		t.Errorf("%+v is %q, and a minute longer it is %q", a, told(w), told(l))
	}
	return 1
}

// plainLast: the last minute from which a rest so long ends not behind the round's end, looked for one by one.
func plainLast(b api.Book, dawn, long int) int {
	for m := dawn + b.Round; m > 0; m-- {
		if m+long <= dawn+b.Round {
			return m
		}
	}
	return 0
}

// checkLast: what Latest and Regular tell.
func checkLast(t *testing.T, b api.Book, dawn, latest, regular int, want api.Errno) {
	t.Helper()
	before := b
	if got, err := spell.Latest(b, dawn); got != latest || err != want {
		t.Errorf("Latest(%+v, %d) = %d, %d, want %d, %d", b, dawn, got, err, latest, want)
	}
	if got, err := spell.Regular(b, dawn); got != regular || err != want {
		t.Errorf("Regular(%+v, %d) = %d, %d, want %d, %d", b, dawn, got, err, regular, want)
	}
	if b != before {
		t.Errorf("the book became %+v, and was %+v", b, before)
	}
}

// TestLast: by the European book, and one in which a regular rest is longer than a round.
func TestLast(t *testing.T) {
	for _, one := range []struct {
		b                     api.Book
		dawn, latest, regular int
	}{
		{book.Europe(), 0, 900, 780}, {book.Europe(), 1, 901, 781}, {book.Europe(), 8000, 8900, 8780},
		{book.Europe(), 40319, 41219, 41099}, {book.Europe(), 40320, 41220, 41100},
		{sample.Late(), 0, 100, 0}, {sample.Late(), 1098, 1198, 0}, {sample.Late(), 1099, 1199, 0}, {sample.Late(), 1100, 1200, 0}, {sample.Late(), 1101, 1201, 1}, {sample.Late(), 1102, 1202, 2}, {sample.Late(), 40320, 40420, 39220},
		{sample.Lowest(), 0, 1, 1}, {sample.Lowest(), 40320, 40321, 40321},
		{sample.Highest(), 0, 1, 0}, {sample.Highest(), 1, 2, 1}, {sample.Highest(), 40320, 40321, 40320},
		{sample.Wide(), 0, 1000, 900}, {sample.Wide(), 300, 1300, 1200},
	} {
		checkLast(t, one.b, one.dawn, one.latest, one.regular, api.OK)
	}
}

// TestLastErrors: dawns that may not be.
func TestLastErrors(t *testing.T) {
	for _, b := range may() {
		for _, dawn := range []int{-1, -2, -40320, math.MinInt, math.MinInt + 1, 40321, 40322, 1 << 32, 1<<32 + 1, math.MaxInt - 1, math.MaxInt} {
			checkLast(t, b, dawn, 0, 0, api.ErrArg)
		}
	}
}

// TestLastEach: against minutes that are looked for one by one.
func TestLastEach(t *testing.T) {
	for _, b := range append(may(), few()...) {
		for _, dawn := range []int{0, 1, 2, 3, 4, 539, 1099, 1100, 1101, 40319, 40320} {
			checkLast(t, b, dawn, plainLast(b, dawn, b.Reduced), plainLast(b, dawn, b.Regular), api.OK)
		}
	}
	for dawn := 0; dawn <= 40320; dawn += 7 {
		checkLast(t, book.Europe(), dawn, dawn+900, dawn+780, api.OK)
	}
}

// TestLastOf: a rest as long as Regular that begins with the minute that Regular tells is no reduced one, a minute later it is; one as long as Reduced that begins with that of Latest is daily, and ends with the round.
func TestLastOf(t *testing.T) {
	tried := 0
	for _, b := range may() {
		for _, dawn := range []int{0, 1, 700, 2000} {
			latest, _ := spell.Latest(b, dawn)
			regular, _ := spell.Regular(b, dawn)
			w, err := spell.Of(b, span(latest, latest+b.Reduced), dawn, false, false)
			if err == api.OK && (!w.Daily || latest+b.Reduced != dawn+b.Round) {
				t.Errorf("by %+v a reduced rest from %d on, behind %d, is %q", b, latest, dawn, told(w))
			}
			if b.Regular > b.Round || regular+1+b.Regular > api.MaxTime || b.Regular == b.Short {
				continue
			}
			tried++
			on, _ := spell.Of(b, span(regular, regular+b.Regular), dawn, false, false)
			late, _ := spell.Of(b, span(regular+1, regular+1+b.Regular), dawn, false, false)
			if !on.Daily || on.Reduced || !late.Reduced {
				t.Errorf("by %+v a regular rest from %d on, behind %d, is %q, and a minute later %q", b, regular, dawn, told(on), told(late))
			}
		}
	}
	if tried < 20 {
		t.Errorf("the test itself: only %d were tried", tried)
	}
}
