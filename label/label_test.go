package label_test

import (
	"math"
	"slices"
	"testing"

	"haulier/api"
	"haulier/book"
	"haulier/label"
	"haulier/meter"
	"haulier/sample"
)

// TestExample: the chapter's one: behind 270 minutes of driving, by the European book, with driving left.
func TestExample(t *testing.T) {
	l := []api.Task{task(300, 0)}
	row := slices.Repeat([]int{api.Drive}, 270)
	m := api.Meter{Now: 270, Acc: 270, Day: 270, Week: 270, Labour: 270}
	x := at(m, spot(0, 270, 0))
	checkPlay(t, book.Europe(), l, label.Label{}, x, row...)
	checkWays(t, book.Europe(), l, x,
		way(api.Rest, with(m, func(m *api.Meter) { m.Now, m.Lie = 271, 1 }), spot(0, 270, 0)),
		way(api.Avail, with(m, func(m *api.Meter) { m.Now = 271 }), spot(0, 270, 0)))
	checkNoPlay(t, book.Europe(), l, label.Label{}, append(row, api.Drive)...)
	checkBound(t, l, x, 300)
}

// TestCheckBooks: by each book that may be, a label is one; by those that may not be, for each reason, it is ErrBook, whatever else is wrong.
func TestCheckBooks(t *testing.T) {
	labels := []label.Label{{}, at(busy(), spot(0, 1, 0)), at(sample.Full(40320), spot(7, 0, 0))}
	for _, b := range sample.May() {
		for _, x := range labels {
			checkLabel(t, b, journey(), x)
		}
	}
	for _, b := range sample.NoBooks() {
		for _, x := range append(labels, at(api.Meter{Now: -1}, spot(0, 0, 0)), at(busy(), spot(0, 3, 0)), at(api.Meter{Acc: 1}, spot(-1, 0, 0))) {
			checkErr(t, b, journey(), x, api.ErrBook)
			checkErr(t, b, []api.Task{task(-1, 0)}, x, api.ErrBook)
			checkErr(t, b, make([]api.Task, 2002), x, api.ErrBook)
		}
	}
}

// TestCheckTasks: what layer 19 tells of tasks is told, ahead of what is wrong with the label; of tasks that may be it is nothing.
func TestCheckTasks(t *testing.T) {
	labels := []label.Label{{}, at(busy(), spot(0, 3, 0)), at(busy(), spot(-1, 0, 0)), at(api.Meter{Now: -1}, spot(0, 0, 0)), at(api.Meter{Now: math.MaxInt}, spot(math.MinInt, 0, 0))}
	for _, w := range sample.NoTasks() {
		for _, l := range [][]api.Task{{w.Task}, {w.Task, task(5, 0)}, {task(5, 0), task(0, 0), w.Task}} {
			for _, x := range labels {
				checkErr(t, book.Europe(), l, x, w.Err)
			}
		}
	}
	for _, x := range labels {
		checkErr(t, book.Europe(), make([]api.Task, 2002), x, api.ErrMany)
		checkErr(t, book.Europe(), append(make([]api.Task, 2001), task(-1, 0)), x, api.ErrMany)
	}
	for _, one := range sample.Tasks() {
		checkLabel(t, book.Europe(), []api.Task{one, task(1, 0)}, label.Label{S: spot(1, 0, 0)})
	}
	checkLabel(t, book.Europe(), make([]api.Task, 2001), label.Label{S: spot(2001, 0, 0)})
}

// TestCheckMeters: meters that may not be, number by number, and at both ends of 64 bits; and others, up to their limits.
func TestCheckMeters(t *testing.T) {
	for _, m := range sample.NoMeters() {
		checkErr(t, book.Europe(), journey(), at(m, spot(0, 1, 0)), api.ErrArg)
		checkErr(t, sample.Tiny(), nil, at(m, spot(0, 0, 0)), api.ErrArg)
		checkErr(t, book.Europe(), journey(), at(m, spot(0, 3, 0)), api.ErrArg)
	}
	for _, now := range []int{0, 1, 5000, 40319, 40320} {
		checkLabel(t, book.Europe(), journey(), at(api.Meter{Now: now}, spot(0, 1, 0)))
		checkLabel(t, book.Europe(), journey(), at(sample.Full(now), spot(0, 1, 0)))
		for i := range sample.MeterNumbers(&api.Meter{}) {
			m := api.Meter{Now: now}
			*sample.MeterNumbers(&m)[i] = now
			checkLabel(t, book.Europe(), journey(), at(m, spot(0, 1, 0)))
		}
	}
}

// TestCheckSpots: spots around a journey and at both ends of 64 bits: just those of which layer 19 says so are right.
func TestCheckSpots(t *testing.T) {
	numbers := []int{math.MinInt, math.MinInt + 1, -2, -1, 0, 1, 2, 3, 4, 5, 6, 7, 8, 9, 10080, 40320, 1 << 32, math.MaxInt - 1, math.MaxInt}
	rights := sample.Spots(journey())
	if len(rights) != 16 {
		t.Errorf("the test itself: %d spots are right", len(rights))
	}
	for _, done := range numbers {
		for _, driven := range numbers {
			for _, served := range numbers {
				x := at(busy(), spot(done, driven, served))
				if slices.Contains(rights, x.S) {
					checkLabel(t, book.Europe(), journey(), x)
				} else {
					checkErr(t, book.Europe(), journey(), x, api.ErrArg)
				}
			}
		}
	}
}

// TestCheckNoSpots: each way in which a spot is not right, of a task with both a drive and a service.
func TestCheckNoSpots(t *testing.T) {
	l := []api.Task{task(2, 3, 5, 7), task(0, 0), task(4, 0)}
	for _, c := range []struct {
		name string
		s    api.Spot
	}{
		{"below 0: Task", spot(-1, 0, 0)},
		{"below 0: Driven", spot(0, -1, 0)},
		{"below 0: Served", spot(0, 2, -1)},
		{"behind the last task", spot(4, 0, 0)},
		{"all done, and more driven", spot(3, 1, 0)},
		{"all done, and more served", spot(3, 0, 1)},
		{"more driven than the task has", spot(0, 3, 0)},
		{"more driven than a task without a service has", spot(2, 5, 0)},
		{"more served than the task has", spot(0, 2, 4)},
		{"served ahead of what is driven", spot(0, 1, 1)},
		{"served where there is no service", spot(2, 4, 1)},
		{"at a task that is done", spot(0, 2, 3)},
		{"at a task without a service that is done", spot(2, 4, 0)},
		{"at a task in which there is nothing to do", spot(1, 0, 0)},
	} {
		t.Run(c.name, func(t *testing.T) {
			for _, b := range []api.Book{book.Europe(), sample.Tiny()} {
				checkErr(t, b, l, at(api.Meter{}, c.s), api.ErrArg)
				checkErr(t, b, l, at(api.Meter{Now: 40320}, c.s), api.ErrArg)
				checkErr(t, b, l, at(api.Meter{Now: -1}, c.s), api.ErrArg)
			}
		})
	}
}

// TestNoTasks: with no tasks there is the spot 0 alone, and neither driving nor work.
func TestNoTasks(t *testing.T) {
	for _, l := range [][]api.Task{nil, {}} {
		checkWays(t, book.Europe(), l, label.Label{}, way(api.Rest, api.Meter{Now: 1, Lie: 1}, spot(0, 0, 0)), way(api.Avail, api.Meter{Now: 1}, spot(0, 0, 0)))
		checkBound(t, l, label.Label{}, 0)
		checkBound(t, l, at(busy(), spot(0, 0, 0)), 5000)
		checkPlay(t, book.Europe(), l, label.Label{}, at(api.Meter{Now: 3, Lie: 1}, spot(0, 0, 0)), api.Rest, api.Avail, api.Rest)
		for _, s := range []api.Spot{spot(1, 0, 0), spot(-1, 0, 0), spot(0, 1, 0), spot(0, 0, 1), spot(math.MaxInt, 0, 0)} {
			checkErr(t, book.Europe(), l, at(busy(), s), api.ErrArg)
		}
	}
}

// TestOrderOfErrors: of several errors, ErrBook is told, then that of the tasks, then ErrArg.
func TestOrderOfErrors(t *testing.T) {
	none := sample.Changed(func(b *api.Book) { b.Drive = 0 })
	for _, c := range []struct {
		name string
		b    api.Book
		l    []api.Task
		x    label.Label
		want api.Errno
	}{
		{"all", none, []api.Task{task(-1, 0)}, at(api.Meter{Now: -1}, spot(-1, 0, 0)), api.ErrBook},
		{"the book and the tasks", none, []api.Task{task(-1, 0)}, label.Label{}, api.ErrBook},
		{"the book and the meter", none, journey(), at(api.Meter{Now: -1}, spot(0, 0, 0)), api.ErrBook},
		{"the book and the spot", none, journey(), at(busy(), spot(-1, 0, 0)), api.ErrBook},
		{"the book alone", none, journey(), at(busy(), spot(0, 0, 0)), api.ErrBook},
		{"the tasks and the meter", book.Europe(), []api.Task{task(0, 1)}, at(api.Meter{Now: -1}, spot(0, 0, 0)), api.ErrNone},
		{"the tasks and the spot", book.Europe(), []api.Task{task(0, 1, 7, 7)}, at(busy(), spot(-1, 0, 0)), api.ErrSpan},
		{"the tasks, the meter and the spot", book.Europe(), []api.Task{task(0, 1, 7, 40321)}, at(api.Meter{Now: -1}, spot(-1, 0, 0)), api.ErrRange},
		{"the tasks alone", book.Europe(), []api.Task{task(0, 1, 5, 7, 6, 8)}, label.Label{}, api.ErrOverlap},
		{"the meter and the spot", book.Europe(), journey(), at(api.Meter{Now: -1}, spot(-1, 0, 0)), api.ErrArg},
		{"the meter alone", book.Europe(), journey(), at(api.Meter{Now: -1}, spot(0, 0, 0)), api.ErrArg},
		{"the spot alone", book.Europe(), journey(), at(busy(), spot(-1, 0, 0)), api.ErrArg},
	} {
		t.Run(c.name, func(t *testing.T) { checkErr(t, c.b, c.l, c.x, c.want) })
	}
}

// TestBound: of no tasks, of tasks that are done, all or in part, amid a drive and amid a service; with nothing driven or served it is as much more.
func TestBound(t *testing.T) {
	day := []api.Task{task(100, 20, 0, 40320), task(0, 0), task(30, 0), task(0, 7, 5, 9)}
	for _, c := range []struct {
		name string
		l    []api.Task
		now  int
		s    api.Spot
		want int
	}{
		{"nothing to do", []api.Task{task(0, 0), task(0, 0)}, 9, spot(2, 0, 0), 9},
		{"nothing done", day, 0, spot(0, 0, 0), 157},
		{"nothing done, later", day, 1000, spot(0, 0, 0), 1157},
		{"a minute driven", day, 1000, spot(0, 1, 0), 1156},
		{"amid a drive", day, 1000, spot(0, 60, 0), 1097},
		{"a drive done", day, 1000, spot(0, 100, 0), 1057},
		{"a minute served", day, 1000, spot(0, 100, 1), 1056},
		{"amid a service", day, 1000, spot(0, 100, 15), 1042},
		{"the last minute of a service is left", day, 1000, spot(0, 100, 19), 1038},
		{"tasks done in part", day, 1000, spot(2, 0, 0), 1037},
		{"amid a drive without a service", day, 1000, spot(2, 29, 0), 1008},
		{"a service without a drive", day, 1000, spot(3, 0, 0), 1007},
		{"amid that", day, 1000, spot(3, 0, 6), 1001},
		{"all done", day, 1000, spot(4, 0, 0), 1000},
		{"all done, at the begin", day, 0, spot(4, 0, 0), 0},
		{"all done, at the end", day, 40320, spot(4, 0, 0), 40320},
		{"beyond the end", day, 40320, spot(0, 0, 0), 40477},
		{"the greatest task", []api.Task{task(10080, 1440, 0, 1)}, 40320, spot(0, 0, 0), 51840},
		{"as many as there may be", slices.Repeat([]api.Task{task(10080, 1440, 0, 1)}, 2001), 40320, spot(0, 0, 0), 40320 + 2001*11520},
		{"as many, but for some", slices.Repeat([]api.Task{task(10080, 1440, 0, 1)}, 2001), 40319, spot(1000, 10080, 440), 40319 + 1000 + 1000*11520},
		{"as many with nothing in them", make([]api.Task, 2001), 7, spot(2001, 0, 0), 7},
	} {
		t.Run(c.name, func(t *testing.T) {
			for _, m := range []api.Meter{{Now: c.now}, sample.Full(c.now)} {
				checkBound(t, c.l, at(m, c.s), c.want)
			}
		})
	}
}

// TestBoundWhateverTheBook: a bound asks of no book: it is told of labels behind which, by some book, nothing may follow.
func TestBoundWhateverTheBook(t *testing.T) {
	l := []api.Task{task(0, 9, 0, 1)}
	x := at(api.Meter{Now: 900}, spot(0, 0, 1))
	checkWays(t, book.Europe(), l, x)
	checkBound(t, l, x, 908)
	if err := meter.Check(sample.Full(40320)); err != api.OK {
		t.Errorf("the test itself: %d", err)
	}
	checkBound(t, l, at(sample.Full(40320), spot(0, 0, 1)), 40328)
}
