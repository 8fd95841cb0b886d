package front_test

import (
	"math"
	"slices"
	"testing"

	"haulier/api"
	"haulier/below"
	"haulier/book"
	"haulier/front"
	"haulier/meter"
	"haulier/sample"
)

// What is said often here, in short.
var (
	spot = sample.Spot
	with = sample.With
	busy = sample.Busy
)

// drove is a meter with so much driving since the last break, and so much of the day: under each that has no less of both.
func drove(acc, day int) api.Meter { return api.Meter{Now: 5000, Acc: acc, Day: day} }

// drives are such meters, from two numbers each.
func drives(l ...[2]int) []api.Meter {
	var meters []api.Meter
	for _, one := range l {
		meters = append(meters, drove(one[0], one[1]))
	}
	return meters
}

// oddSpots are spots of all kinds: of tasks, of none, and at both ends of 64 bits.
func oddSpots() []api.Spot {
	l := []api.Spot{{}, spot(-1, 0, 0), spot(0, -1, 0), spot(0, 0, -1), spot(7, 40321, 3), spot(-5, -6, -7)}
	for _, n := range []int{math.MinInt, math.MinInt + 1, math.MaxInt - 1, math.MaxInt} {
		l = append(l, spot(n, 0, 0), spot(0, n, 0), spot(0, 0, n), spot(n, n, n))
	}
	return l
}

// TestExample: of two meters that differ in driving since the last break alone the lesser one stays.
func TestExample(t *testing.T) {
	less, _, _ := meter.Of(book.Europe(), sample.Chain(0, [2]int{3, 100}, [2]int{0, 45}, [2]int{3, 50}))
	more, _, _ := meter.Of(book.Europe(), sample.Chain(0, [2]int{3, 100}, [2]int{1, 45}, [2]int{3, 50}))
	if less != with(more, func(m *api.Meter) { m.Acc = 50 }) || more.Acc != 150 {
		t.Errorf("the test itself: %+v and %+v don't differ in driving since the last break alone", less, more)
	}
	s := spot(0, 150, 0)
	f := begun(t, book.Europe())
	checkPut(t, f, s, less, true)
	checkPut(t, f, s, more, false)
	checkAll(t, f, s, less)
	f = begun(t, book.Europe())
	checkPut(t, f, s, more, true)
	checkPut(t, f, s, less, true)
	checkAll(t, f, s, less)
	checkLen(t, f, 1)
}

// TestNew: a front of a book that may be has no meters, and takes the first one, whichever that is.
func TestNew(t *testing.T) {
	for _, b := range sample.May() {
		checkNone(t, begun(t, b))
		for _, m := range []api.Meter{{}, busy(), sample.Full(40320), {Now: -1}} {
			f := begun(t, b)
			checkPut(t, f, spot(1, 2, 3), m, true)
			checkAll(t, f, spot(1, 2, 3), m)
			checkLen(t, f, 1)
			checkSpots(t, f, spot(1, 2, 3))
		}
	}
}

// TestNewNoBooks: of books that may not be, for each reason, there is no front.
func TestNewNoBooks(t *testing.T) {
	l := append(sample.NoBooks(), api.Book{})
	for i := range book.Fields {
		for _, n := range []int{math.MinInt, math.MinInt + 1, -1, 40321, 40322, 1 << 32, math.MaxInt - 1, math.MaxInt} {
			b := book.Europe()
			*sample.BookNumbers(&b)[i] = n
			l = append(l, b)
		}
	}
	for _, b := range l {
		if f, err := front.New(b); f != nil || err != api.ErrBook {
			t.Errorf("New(%+v) = %v, %d", b, f, err)
		}
	}
}

// TestNewLimits: each number of a book at its limits, and beyond them, one by one.
func TestNewLimits(t *testing.T) {
	for i := range book.Fields {
		low, high := sample.Lowest(), sample.Highest()
		begun(t, low)
		begun(t, high)
		*sample.BookNumbers(&low)[i]--
		checkNew(t, low, api.ErrBook)
		n := sample.BookNumbers(&high)[i]
		for *n++; *n < 40321 && book.Check(high) == api.OK; *n++ {
			checkNew(t, high, api.OK)
		}
		checkNew(t, high, api.ErrBook)
	}
}

// checkNew: the error that New tells, and a front just if there is none.
func checkNew(t *testing.T, b api.Book, want api.Errno) {
	t.Helper()
	if f, err := front.New(b); err != want || (f != nil) != (want == api.OK) {
		t.Errorf("New(%+v) = %v, %d, want %d", b, f, err, want)
	}
}

// TestPut: at one spot, what is taken, and what is there behind it.
func TestPut(t *testing.T) {
	r, v := sample.Rungs(), sample.Rivals()
	both := with(v[0], func(m *api.Meter) { m.Day = 1 })
	all := with(both, func(m *api.Meter) { m.Week = 29 })
	for _, c := range []struct {
		name  string
		there []api.Meter
		m     api.Meter
		takes bool
		want  []api.Meter
	}{
		{"the first one", nil, r[0], true, r[:1]},
		{"the first one, of noughts", nil, api.Meter{}, true, []api.Meter{{}}},
		{"the same", r[:1], r[0], false, r[:1]},
		{"the same, of several: the first", v, v[0], false, v},
		{"the same, of several: amid", v, v[3], false, v},
		{"the same, of several: the last", v, v[5], false, v},
		{"one is under it", r[:1], r[1], false, r[:1]},
		{"one is under it by much", r[:1], r[4], false, r[:1]},
		{"the first of several is under it", v, with(v[0], func(m *api.Meter) { m.Week, m.Labour = 35, 40 }), false, v},
		{"one amid several is under it", v, with(v[3], func(m *api.Meter) { m.Last = 1 }), false, v},
		{"the last of several is under it", v, with(v[5], func(m *api.Meter) { m.Brief = true }), false, v},
		{"several are under it", v, api.Meter{Now: 5000, Acc: 2, Day: 2, Week: 30}, false, v},
		{"all are under it", v[:2], api.Meter{Now: 5000, Acc: 2, Day: 2, Week: 30}, false, v[:2]},
		{"under the one", r[1:2], r[0], true, r[:1]},
		{"under the one by much", r[4:], r[0], true, r[:1]},
		{"under one of several", v, with(v[2], func(m *api.Meter) { m.Acc = 0 }), true, []api.Meter{v[0], v[1], v[3], v[4], v[5], with(v[2], func(m *api.Meter) { m.Acc = 0 })}},
		{"under the first of several", v, with(v[0], func(m *api.Meter) { m.Split = true }), true, append(slices.Clone(v[1:]), with(v[0], func(m *api.Meter) { m.Split = true }))},
		{"under the last of several", v, with(v[5], func(m *api.Meter) { m.Split = true }), true, append(slices.Clone(v[:5]), with(v[5], func(m *api.Meter) { m.Split = true }))},
		{"under two of several", v, both, true, append(slices.Clone(v[2:]), both)},
		{"under three of several", v, all, true, append(slices.Clone(v[2:3]), v[4], v[5], all)},
		{"under all of two", v[:2], both, true, []api.Meter{both}},
		{"under all of three", []api.Meter{v[0], v[3], v[1]}, all, true, []api.Meter{all}},
		{"under two, the one between them not", drives([2]int{20, 10}, [2]int{5, 30}, [2]int{10, 20}), drove(9, 9), true, drives([2]int{5, 30}, [2]int{9, 9})},
		{"neither, beside one", v[:1], v[1], true, v[:2]},
		{"neither, beside several", v[:5], v[5], true, v},
		{"neither, at another minute", r[:1], with(r[0], func(m *api.Meter) { m.Now = 5001 }), true, []api.Meter{r[0], with(r[0], func(m *api.Meter) { m.Now = 5001 })}},
		{"better in one, worse in another", drives([2]int{5, 5}), drove(4, 6), true, drives([2]int{5, 5}, [2]int{4, 6})},
	} {
		s := spot(1, 2, 0)
		f := begun(t, book.Europe())
		for _, m := range c.there {
			checkPut(t, f, s, m, true)
		}
		checkAll(t, f, s, c.there...)
		if got := f.Put(s, c.m); got != c.takes {
			t.Errorf("%s: Put = %t", c.name, got)
		}
		if got := f.All(s); !slices.Equal(got, c.want) {
			t.Errorf("%s: behind it, there are %+v, want %+v", c.name, got, c.want)
		}
		checkLen(t, f, len(c.want))
		checkSpots(t, f, s)
		if got := f.Put(s, c.m); got {
			t.Errorf("%s: Put again = %t", c.name, got)
		}
		checkAll(t, f, s, c.want...)
	}
}

// TestPutRungs: meters each of which is under the next one, in each order: taken is what is ahead of all that were put.
func TestPutRungs(t *testing.T) {
	r := sample.Rungs()
	sample.Orders([]int{0, 1, 2, 3, 4}, func(order []int) {
		f := begun(t, book.Europe())
		least := len(r)
		for _, i := range order {
			checkPut(t, f, api.Spot{}, r[i], i < least)
			least = min(least, i)
			checkAll(t, f, api.Spot{}, r[least])
		}
	})
}

// TestPutRivals: meters none of which is under another one, in each order, all stay.
func TestPutRivals(t *testing.T) {
	sample.Orders(sample.Rivals(), func(order []api.Meter) {
		f := begun(t, book.Europe())
		for _, m := range order {
			checkPut(t, f, api.Spot{}, m, true)
		}
		for _, m := range order {
			checkPut(t, f, api.Spot{}, m, false)
		}
		checkAll(t, f, api.Spot{}, order...)
		checkLen(t, f, len(order))
	})
}

// TestBook: whether a meter is under another one goes by the front's own book.
func TestBook(t *testing.T) {
	short, long := api.Meter{Now: 5000, Day: 540}, api.Meter{Now: 5000, Day: 541}
	f, g := begun(t, book.Europe()), begun(t, sample.Changed(func(b *api.Book) { b.Day = 541 }))
	for _, one := range []*front.Front{f, g} {
		checkPut(t, one, api.Spot{}, long, true)
		checkPut(t, one, api.Spot{}, short, true)
	}
	// By the European book the longer day, that counts, is none yet of the shorter one.
	checkAll(t, f, api.Spot{}, long, short)
	checkAll(t, g, api.Spot{}, short)
}

// TestOtherSpots: a meter that is under one at another spot, above it, or the same, changes nothing there, and is taken.
func TestOtherSpots(t *testing.T) {
	r := sample.Rungs()
	here := spot(1, 2, 3)
	for _, there := range append(oddSpots(), spot(0, 2, 3), spot(2, 2, 3), spot(1, 1, 3), spot(1, 3, 3), spot(1, 2, 2), spot(1, 2, 4), spot(2, 1, 3), spot(3, 2, 1), spot(1, 3, 2)) {
		for _, m := range []api.Meter{r[0], r[2], r[4], {}, {Now: -1}} {
			f := begun(t, book.Europe())
			checkPut(t, f, here, r[2], true)
			checkPut(t, f, there, m, true)
			checkAll(t, f, here, r[2])
			checkAll(t, f, there, m)
			checkLen(t, f, 2)
			checkPut(t, f, there, r[2], m != r[0] && m != r[2])
			checkAll(t, f, here, r[2])
			checkPut(t, f, here, r[2], false)
			checkPut(t, f, here, r[1], true)
			checkAll(t, f, here, r[1])
		}
	}
}

// TestNoMeters: meters that may not be, alone, twice the same, and beside others: none is under them, and they are under none.
func TestNoMeters(t *testing.T) {
	r := sample.Rungs()
	s := spot(3, 0, 0)
	for _, bad := range append(sample.NoMeters(), sample.BadMeters()...) {
		f := begun(t, book.Europe())
		checkPut(t, f, s, bad, true)
		checkPut(t, f, s, bad, false)
		checkAll(t, f, s, bad)
		for _, m := range []api.Meter{r[2], {Now: bad.Now, Dawn: -9, Acc: -1}} {
			checkPut(t, f, s, m, true)
			checkPut(t, f, s, bad, false)
			checkPut(t, f, s, m, false)
		}
		checkAll(t, f, s, bad, r[2], api.Meter{Now: bad.Now, Dawn: -9, Acc: -1})
		checkPut(t, f, s, r[0], true)
		checkAll(t, f, s, bad, api.Meter{Now: bad.Now, Dawn: -9, Acc: -1}, r[0])
		checkLen(t, f, 3)
	}
}

// TestNoMetersBeside: meters that would be under others, or above them, but for one number that may not be.
func TestNoMetersBeside(t *testing.T) {
	r := sample.Rungs()
	low, high := r[0], r[4]
	tooLow := with(low, func(m *api.Meter) { m.Acc = -1 })
	tooHigh := with(high, func(m *api.Meter) { m.Labour = 5001 })
	sample.Orders([]api.Meter{low, tooLow, tooHigh, tooLow}, func(order []api.Meter) {
		f := begun(t, book.Europe())
		var want []api.Meter
		for _, m := range order {
			checkPut(t, f, api.Spot{}, m, !slices.Contains(want, m))
			if !slices.Contains(want, m) {
				want = append(want, m)
			}
		}
		checkAll(t, f, api.Spot{}, want...)
		checkPut(t, f, api.Spot{}, high, false)
		checkLen(t, f, 3)
	})
}

// TestPutFalse: behind a Put that is false, of each kind, All, Len and Spots tell what they told.
func TestPutFalse(t *testing.T) {
	r, v := sample.Rungs(), sample.Rivals()
	f := begun(t, book.Europe())
	for i, s := range []api.Spot{spot(2, 0, 0), spot(0, 5, 0), spot(0, 0, 0)} {
		checkPut(t, f, s, r[i], true)
	}
	for _, m := range v[1:] {
		checkPut(t, f, spot(1, 0, 1), m, true)
	}
	same := func() {
		t.Helper()
		checkSpots(t, f, spot(0, 0, 0), spot(0, 5, 0), spot(1, 0, 1), spot(2, 0, 0))
		checkLen(t, f, 8)
		checkAll(t, f, spot(0, 0, 0), r[2])
		checkAll(t, f, spot(0, 5, 0), r[1])
		checkAll(t, f, spot(1, 0, 1), v[1:]...)
		checkAll(t, f, spot(2, 0, 0), r[0])
		checkAll(t, f, spot(1, 0, 0))
	}
	same()
	for _, c := range []struct {
		s api.Spot
		l []api.Meter
	}{
		{spot(2, 0, 0), r},
		{spot(0, 5, 0), r[1:]},
		{spot(0, 0, 0), r[2:]},
		{spot(1, 0, 1), v[1:]},
		{spot(1, 0, 1), []api.Meter{with(v[1], func(m *api.Meter) { m.Acc++ }), with(v[5], func(m *api.Meter) { m.Acc++ })}},
	} {
		for _, m := range c.l {
			checkPut(t, f, c.s, m, false)
			same()
		}
	}
}

// TestAll: none, one and several, in the order in which they were put, also behind Puts that took some away from the begin, from amid, and from the end.
func TestAll(t *testing.T) {
	row := [][2]int{{1, 90}, {20, 80}, {30, 70}, {40, 60}, {50, 50}}
	for _, c := range []struct{ then, want [][2]int }{
		{nil, row},
		{[][2]int{{60, 40}}, append(slices.Clone(row), [2]int{60, 40})},
		{[][2]int{{0, 99}}, append(slices.Clone(row), [2]int{0, 99})},
		{[][2]int{{0, 90}}, [][2]int{{20, 80}, {30, 70}, {40, 60}, {50, 50}, {0, 90}}},
		{[][2]int{{1, 80}}, [][2]int{{30, 70}, {40, 60}, {50, 50}, {1, 80}}},
		{[][2]int{{25, 70}}, [][2]int{{1, 90}, {20, 80}, {40, 60}, {50, 50}, {25, 70}}},
		{[][2]int{{20, 60}}, [][2]int{{1, 90}, {50, 50}, {20, 60}}},
		{[][2]int{{45, 50}}, [][2]int{{1, 90}, {20, 80}, {30, 70}, {40, 60}, {45, 50}}},
		{[][2]int{{30, 50}}, [][2]int{{1, 90}, {20, 80}, {30, 50}}},
		{[][2]int{{0, 0}}, [][2]int{{0, 0}}},
		{[][2]int{{0, 90}, {45, 50}, {25, 70}}, [][2]int{{20, 80}, {40, 60}, {0, 90}, {45, 50}, {25, 70}}},
		{[][2]int{{45, 50}, {45, 49}, {60, 1}, {0, 100}, {19, 79}}, [][2]int{{1, 90}, {30, 70}, {40, 60}, {45, 49}, {60, 1}, {0, 100}, {19, 79}}},
		{[][2]int{{50, 50}, {1, 91}, {20, 60}, {40, 60}, {20, 60}}, [][2]int{{1, 90}, {50, 50}, {20, 60}}},
	} {
		s := spot(4, 3, 0)
		f := begun(t, book.Europe())
		checkAll(t, f, s)
		for i, m := range drives(row...) {
			checkPut(t, f, s, m, true)
			checkAll(t, f, s, drives(row[:i+1]...)...)
		}
		for _, m := range drives(c.then...) {
			f.Put(s, m)
		}
		checkAll(t, f, s, drives(c.want...)...)
		checkLen(t, f, len(c.want))
		checkAll(t, f, spot(4, 3, 1))
	}
}

// TestLen: over several spots, behind Puts that take away more than they bring.
func TestLen(t *testing.T) {
	f := begun(t, book.Europe())
	one, two, three := spot(0, 0, 0), spot(0, 1, 0), spot(1, 0, 0)
	for _, c := range []struct {
		s    api.Spot
		m    api.Meter
		want int
	}{
		{one, drove(10, 90), 1}, {one, drove(20, 80), 2}, {one, drove(20, 80), 2}, {one, drove(30, 70), 3},
		{two, drove(10, 90), 4}, {two, drove(90, 10), 5}, {two, drove(91, 10), 5},
		{three, drove(50, 50), 6}, {three, drove(49, 50), 6},
		{one, drove(15, 65), 5}, {one, drove(0, 0), 4}, {one, drove(0, 0), 4}, {two, drove(5, 5), 3}, {three, drove(4, 4), 3},
		{two, drove(4, 6), 4}, {three, drove(3, 5), 5}, {three, drove(3, 4), 4},
	} {
		f.Put(c.s, c.m)
		checkLen(t, f, c.want)
	}
	checkSpots(t, f, one, two, three)
}

// TestSpots: in rising order by Task, then by Driven, then by Served, whichever was put first; each once, however many meters are there.
func TestSpots(t *testing.T) {
	for _, want := range [][]api.Spot{
		{spot(1, 0, 0), spot(2, 0, 0), spot(3, 0, 0)},
		{spot(1, 9, 9), spot(2, 5, 0), spot(3, 0, 9), spot(10, 0, 0)},
		{spot(0, 1, 0), spot(0, 2, 0), spot(0, 10, 0)},
		{spot(0, 1, 9), spot(0, 2, 8), spot(0, 10, 7), spot(0, 11, 0)},
		{spot(0, 0, 1), spot(0, 0, 2), spot(0, 0, 10)},
		{spot(5, 5, -3), spot(5, 5, -2), spot(5, 5, 0), spot(5, 5, 1)},
		{spot(5, -3, 9), spot(5, -2, 7), spot(5, 0, -9), spot(5, 1, -10)},
		{spot(-3, 9, 9), spot(-2, 7, 0), spot(0, -9, 4), spot(1, -10, -10)},
		{spot(0, 0, 0), spot(0, 0, 1), spot(0, 1, 0), spot(0, 1, 1), spot(1, 0, 0), spot(1, 0, 1)},
		{spot(math.MinInt, 0, 0), spot(math.MinInt+1, 0, 0), spot(-1, 0, 0), spot(0, 0, 0), spot(math.MaxInt-1, 0, 0), spot(math.MaxInt, 0, 0)},
		{spot(0, math.MinInt, 0), spot(0, math.MinInt+1, 0), spot(0, -1, 0), spot(0, 0, 0), spot(0, math.MaxInt-1, 0), spot(0, math.MaxInt, 0)},
		{spot(0, 0, math.MinInt), spot(0, 0, math.MinInt+1), spot(0, 0, -1), spot(0, 0, 0), spot(0, 0, math.MaxInt-1), spot(0, 0, math.MaxInt)},
		{spot(math.MinInt, math.MaxInt, math.MaxInt), spot(0, math.MinInt, math.MaxInt), spot(0, math.MaxInt, math.MinInt), spot(0, math.MaxInt, math.MaxInt), spot(math.MaxInt, math.MinInt, math.MinInt)},
	} {
		sample.Orders(want, func(order []api.Spot) {
			f := begun(t, book.Europe())
			for i, s := range order {
				checkPut(t, f, s, busy(), true)
				if i%2 == 0 {
					checkPut(t, f, s, api.Meter{}, true)
				}
			}
			if got := f.Spots(); !slices.Equal(got, want) {
				t.Fatalf("behind Puts at %v, Spots() = %v", order, got)
			}
		})
	}
}

// TestNil: it has no meters, and takes none.
func TestNil(t *testing.T) {
	var f *front.Front
	checkNone(t, f)
	for _, s := range oddSpots() {
		for _, m := range []api.Meter{{}, busy(), {Now: -1}} {
			checkPut(t, f, s, m, false)
			checkNone(t, f)
		}
	}
	if f != nil {
		t.Error("nil is none any more")
	}
}

// TestZero: a front that New has not made has no meters, and takes them; as it is of no book, none is under another one.
func TestZero(t *testing.T) {
	var f front.Front
	checkNone(t, &f)
	r := sample.Rungs()
	for _, s := range []api.Spot{spot(3, 2, 1), spot(1, 2, 3)} {
		for _, m := range r {
			checkPut(t, &f, s, m, true)
			checkPut(t, &f, s, m, false)
		}
		checkAll(t, &f, s, r...)
	}
	checkLen(t, &f, 10)
	checkSpots(t, &f, spot(1, 2, 3), spot(3, 2, 1))
}

// TestEnds: numbers at both ends of 64 bits in each number of a meter, and in each of a spot, beside others.
func TestEnds(t *testing.T) {
	ends := []int{math.MinInt, math.MinInt + 1, -1, 0, 1, 5000, math.MaxInt - 1, math.MaxInt}
	for _, b := range []api.Book{book.Europe(), sample.Tiny(), sample.Highest()} {
		for i := range sample.MeterNumbers(&api.Meter{}) {
			p := both(t, b)
			for _, m := range []api.Meter{{Now: 5000}, sample.Full(5000)} {
				for _, n := range ends {
					*sample.MeterNumbers(&m)[i] = n
					for _, s := range oddSpots() {
						p.put(s, m)
					}
				}
			}
			for _, now := range ends {
				p.put(spot(1, 1, 1), api.Meter{Now: now})
				p.put(spot(1, 1, 1), sample.Full(now))
			}
			p.same()
			p.holds()
		}
	}
}

// TestUnder: the test's own meters are under each other as it says.
func TestUnder(t *testing.T) {
	for _, c := range []struct {
		x, y api.Meter
		want bool
	}{
		{drove(4, 6), drove(4, 7), true}, {drove(4, 6), drove(5, 6), true}, {drove(4, 6), drove(5, 5), false}, {drove(4, 6), drove(4, 6), true},
	} {
		if got := below.Under(book.Europe(), c.x, c.y); got != c.want {
			t.Errorf("the test itself: Under(%+v, %+v) = %t", c.x, c.y, got)
		}
	}
}
