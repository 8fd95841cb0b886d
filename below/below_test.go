package below_test

import (
	"math"
	"slices"
	"testing"

	"haulier/api"
	"haulier/below"
	"haulier/book"
	"haulier/meter"
	"haulier/sample"
)

// What is said often here, in short.
var (
	with = sample.With
	busy = sample.Busy
	full = sample.Full
)

// resting: a meter all of whose numbers are different, and amid a spell of rest.
func resting() api.Meter { return with(busy(), func(m *api.Meter) { m.Lie = 20 }) }

// off: the meter, with the number so much off.
func off(m api.Meter, n number, by int) api.Meter {
	*n.of(&m) += by
	return m
}

// set: the meter, with the flag so.
func set(m api.Meter, f flag, is bool) api.Meter {
	*f.of(&m) = is
	return m
}

// days: the meter, with so much driving since the last daily rest, and so many longer days.
func days(m api.Meter, day, longers int) api.Meter {
	m.Day, m.Longers = day, longers
	return m
}

// roomy: the book, without limits that days of the tests' meters could come to.
func roomy(b api.Book) api.Book {
	b.Day, b.Longer, b.Longers = 40320, 40320, 1000
	return b
}

// TestExample: behind equal minutes, one who has driven less since the last break is under one who has driven more.
func TestExample(t *testing.T) {
	less, _, _ := meter.Of(book.Europe(), sample.Chain(0, [2]int{3, 100}, [2]int{0, 45}, [2]int{3, 50}))
	more, _, _ := meter.Of(book.Europe(), sample.Chain(0, [2]int{3, 100}, [2]int{1, 45}, [2]int{3, 50}))
	if less != with(more, func(m *api.Meter) { m.Acc = 50 }) || more.Acc != 150 {
		t.Errorf("the test itself: %+v and %+v don't differ in driving since the last break alone", less, more)
	}
	checkUnder(t, book.Europe(), less, more, true)
	checkUnder(t, book.Europe(), more, less, false)
	checkLeast(t, book.Europe(), []api.Meter{more, less}, less)
}

// TestSame: a meter that may be is under one that is the same.
func TestSame(t *testing.T) {
	for _, b := range sample.May() {
		for _, now := range []int{0, 1, 2, 5000, 10080, 40319, 40320} {
			checkUnder(t, b, api.Meter{Now: now}, api.Meter{Now: now}, true)
			checkUnder(t, b, full(now), full(now), true)
		}
		checkUnder(t, b, busy(), busy(), true)
		checkUnder(t, b, resting(), resting(), true)
	}
}

// TestNumbers: meters that differ in one number alone, by one and by more, in x and in y.
func TestNumbers(t *testing.T) {
	for _, b := range append([]api.Book{book.Europe()}, sample.Others()...) {
		for _, m := range []api.Meter{busy(), resting()} {
			for _, n := range numbers() {
				for _, by := range []int{1, 2, 19, 100} {
					if n.name == "Lie" && by > m.Lie || n.name == "Reduces" && by > m.Reduces {
						continue
					}
					for _, up := range []int{-1, 1} {
						want := n.better == up
						checkUnder(t, b, off(m, n, up*by), m, want)
						checkUnder(t, b, m, off(m, n, -up*by), want)
					}
				}
				checkUnder(t, b, off(m, n, 0), m, true)
			}
		}
	}
}

// TestNumbersAll: meters that differ in one number alone, as far as it may, by all books that may be, but that no day is a longer one.
func TestNumbersAll(t *testing.T) {
	for _, b := range sample.May() {
		b := roomy(b)
		for _, n := range numbers() {
			if n.name == "Now" {
				continue
			}
			for _, now := range []int{1, 2, 40320} {
				for _, m := range []api.Meter{{Now: now}, full(now), with(full(now), func(m *api.Meter) { m.Half, m.Split, m.Brief = false, false, false })} {
					least, most := m, m
					*n.of(&least), *n.of(&most) = 0, now
					checkUnder(t, b, least, most, n.better < 0)
					checkUnder(t, b, most, least, n.better > 0)
					checkUnder(t, b, off(most, n, -1), most, n.better < 0)
					checkUnder(t, b, most, off(most, n, -1), n.better > 0)
				}
			}
		}
	}
}

// TestNow: what is the same at other minutes is not under each other, be it a minute or a week.
func TestNow(t *testing.T) {
	for _, b := range sample.May() {
		for _, by := range []int{1, 2, 7, 1440, b.Length} {
			for _, m := range []api.Meter{{}, busy(), full(10080)} {
				if m.Now+by > 40320 {
					continue
				}
				later := with(m, func(m *api.Meter) { m.Now += by })
				checkUnder(t, b, m, later, false)
				checkUnder(t, b, later, m, false)
				// Not even if all else is better.
				later = api.Meter{Now: later.Now, Lie: m.Lie, Half: m.Half, Dawn: later.Now, Sabbath: later.Now, Split: true}
				checkUnder(t, b, later, m, false)
			}
		}
	}
}

// TestFlags: meters that differ in one bool alone, in x and in y; and in none.
func TestFlags(t *testing.T) {
	for _, b := range sample.May() {
		for _, m := range []api.Meter{busy(), resting(), {}, full(40320)} {
			for _, f := range flags() {
				is, not := set(m, f, true), set(m, f, false)
				checkUnder(t, b, is, is, true)
				checkUnder(t, b, not, not, true)
				checkUnder(t, b, is, not, f.name == "Split")
				checkUnder(t, b, not, is, f.name == "Brief")
			}
		}
	}
}

// TestLongers: longer days of x, below those of y, the same and above, while the days of both are no longer ones, are both longer ones, or either is.
func TestLongers(t *testing.T) {
	m := with(busy(), func(m *api.Meter) { m.Dawn = 4000 })
	for _, one := range []struct {
		dayX, longersX, dayY, longersY int
		want                           bool
	}{
		{200, 0, 300, 1, true}, {200, 1, 300, 1, true}, {200, 2, 300, 1, false}, {200, 3, 300, 1, false},
		{540, 1, 540, 1, true}, {540, 2, 540, 1, false}, {540, 0, 540, 1, true}, {200, 2, 540, 2, true}, {200, 3, 540, 3, true}, {540, 9, 540, 9, true},
		{541, 1, 541, 1, true}, {541, 2, 541, 1, false}, {541, 0, 541, 1, true}, {541, 2, 600, 2, true}, {541, 3, 600, 3, true}, {541, 9, 600, 9, true}, {541, 9, 600, 8, false},
		{540, 0, 541, 1, true}, {540, 1, 541, 1, false}, {540, 2, 541, 1, false}, {540, 0, 541, 0, false},
		{540, 1, 541, 2, true}, {540, 2, 541, 2, false}, {540, 3, 541, 2, false},
		{540, 1, 541, 3, true}, {540, 2, 541, 3, false}, {540, 3, 541, 3, false}, {540, 0, 541, 3, true},
		{540, 1, 541, 9, true}, {540, 2, 541, 9, false}, {540, 3, 541, 9, false}, {540, 8, 541, 9, false},
		{0, 1, 541, 2, true}, {0, 2, 541, 2, false}, {0, 1, 900, 2, true}, {0, 2, 900, 9, false}, {539, 1, 541, 1, false}, {540, 1, 900, 1, false},
		{541, 0, 540, 0, false}, {541, 0, 540, 1, false}, {541, 0, 540, 9, false}, {600, 0, 0, 2, false},
	} {
		checkUnder(t, book.Europe(), days(m, one.dayX, one.longersX), days(m, one.dayY, one.longersY), one.want)
	}
}

// TestLongersBooks: days around the book's Day, and longer days around the book's Longers, by many books, each with each.
func TestLongersBooks(t *testing.T) {
	for _, day := range []int{1, 2, 540, 4900} {
		for _, most := range []int{0, 1, 2, 3, 1000} {
			b := sample.Changed(func(b *api.Book) { b.Day, b.Longer, b.Longers = day, 5000, most })
			var l []api.Meter
			for d := max(0, day-2); d <= day+3; d++ {
				for _, longers := range []int{0, 1, 2, 3, 4, 999, 1000, 1001} {
					l = append(l, days(busy(), d, longers))
				}
			}
			for _, x := range l {
				for _, y := range l {
					checkPair(t, b, x, y)
					if x.Day <= day && y.Day == day+1 {
						checkUnder(t, b, x, y, x.Longers+1 <= y.Longers && x.Longers+1 <= most)
					}
				}
			}
		}
	}
}

// TestLongersNone: by a book that has no longer days, none who may drive on into one is under one who did.
func TestLongersNone(t *testing.T) {
	b := sample.Changed(func(b *api.Book) { b.Longers = 0 })
	checkUnder(t, b, days(busy(), 540, 0), days(busy(), 541, 1), false)
	checkUnder(t, b, days(busy(), 540, 0), days(busy(), 541, 5), false)
	checkUnder(t, b, days(busy(), 541, 0), days(busy(), 541, 5), true)
	checkUnder(t, b, days(busy(), 540, 0), days(busy(), 540, 0), true)
}

// change: how a meter is turned in one field, and what it is to be ahead of that.
type change struct{ ahead, how func(m *api.Meter) }

// changes: for each field that may differ, what makes a meter better there, and what makes it worse, in the same order.
func changes() (goods, bads []change) {
	ready := func(*api.Meter) {}
	for _, n := range append(numbers(), longerDays()) {
		if n.better != 0 {
			goods = append(goods, change{ready, func(m *api.Meter) { *n.of(m) += n.better }})
			bads = append(bads, change{ready, func(m *api.Meter) { *n.of(m) -= n.better }})
		}
	}
	for _, f := range flags() {
		if f.better != 0 {
			is, not := func(m *api.Meter) { *f.of(m) = f.better > 0 }, func(m *api.Meter) { *f.of(m) = f.better < 0 }
			goods = append(goods, change{not, is})
			bads = append(bads, change{is, not})
		}
	}
	return goods, bads
}

// longerDays: Longers, as a number that may be less, as it may where days are no longer ones.
func longerDays() number {
	return number{"Longers", -1, func(m *api.Meter) *int { return &m.Longers }}
}

// turned: a meter amid a spell of rest, ready to be turned by these changes; and that one turned by them.
func turned(l ...change) (y, x api.Meter) {
	y = with(resting(), func(m *api.Meter) { m.Longers = 7 })
	for _, one := range l {
		one.ahead(&y)
	}
	x = y
	for _, one := range l {
		one.how(&x)
	}
	return y, x
}

// TestSeveral: meters that differ in several fields: better in each two, worse in each two, and better in one and worse in another.
func TestSeveral(t *testing.T) {
	goods, bads := changes()
	for _, b := range append(sample.Others(), book.Europe()) {
		for i := range goods {
			for j := range goods {
				y, x := turned(goods[i], goods[j])
				checkUnder(t, b, x, y, true)
				checkUnder(t, b, y, x, false)
				y, x = turned(bads[i], bads[j])
				checkUnder(t, b, x, y, false)
				checkUnder(t, b, y, x, true)
				if i == j {
					continue
				}
				y, x = turned(goods[i], bads[j])
				checkUnder(t, b, x, y, false)
				checkUnder(t, b, y, x, false)
			}
		}
	}
}

// TestAll: meters that are better in all that may differ; in all but one field, in which they are worse; and in all, at another Now, with another Lie or Half.
func TestAll(t *testing.T) {
	goods, bads := changes()
	for _, b := range append(sample.Others(), book.Europe()) {
		y, x := turned(goods...)
		checkUnder(t, b, x, y, true)
		checkUnder(t, b, y, x, false)
		for i := range goods {
			l := slices.Clone(goods)
			l[i] = bads[i]
			y, x := turned(l...)
			checkUnder(t, b, x, y, false)
			checkUnder(t, b, y, x, false)
		}
		for _, other := range []func(m *api.Meter){
			func(m *api.Meter) { m.Now++ }, func(m *api.Meter) { m.Now-- },
			func(m *api.Meter) { m.Lie++ }, func(m *api.Meter) { m.Lie-- }, func(m *api.Meter) { m.Lie = 0 },
			func(m *api.Meter) { m.Half = !m.Half },
		} {
			checkUnder(t, b, with(x, other), y, false)
			checkUnder(t, b, x, with(y, other), false)
		}
	}
}

// pairs: meters of which the first is under the second by all books of some numbers.
func pairs() [][2]api.Meter {
	best := api.Meter{Now: 5000, Dawn: 5000, Sabbath: 5000, Split: true}
	return [][2]api.Meter{
		{{}, {}}, {busy(), busy()}, {full(40320), full(40320)}, {resting(), resting()},
		{with(busy(), func(m *api.Meter) { m.Acc = 0 }), busy()},
		{with(best, func(m *api.Meter) { m.Half = true }), with(busy(), func(m *api.Meter) { m.Day, m.Split = 0, false })},
	}
}

// TestNoBooks: by a book that may not be, for each reason, no meter is under any.
func TestNoBooks(t *testing.T) {
	for _, p := range pairs() {
		for _, b := range sample.May() {
			checkUnder(t, b, p[0], p[1], true)
		}
		for _, b := range sample.NoBooks() {
			checkUnder(t, b, p[0], p[1], false)
			checkUnder(t, b, p[1], p[0], false)
		}
	}
	for _, b := range sample.NoBooks() {
		for _, m := range sample.BadMeters() {
			checkUnder(t, b, m, m, false)
			checkUnder(t, b, api.Meter{}, m, false)
			checkUnder(t, b, m, api.Meter{}, false)
		}
	}
}

// TestNoMeters: of meters that may not be, for each reason, none is under any, nor is any under it.
func TestNoMeters(t *testing.T) {
	few := []api.Book{book.Europe(), sample.Lowest(), sample.Highest(), sample.Tiny()}
	for _, bad := range sample.NoMeters() {
		for _, b := range few {
			checkUnder(t, b, bad, bad, false)
			for _, m := range []api.Meter{{Now: bad.Now}, full(bad.Now), {Now: bad.Now, Dawn: bad.Now, Sabbath: bad.Now, Split: true}, {}, busy()} {
				checkUnder(t, b, bad, m, false)
				checkUnder(t, b, m, bad, false)
			}
		}
	}
}

// TestNoMetersAlone: meters of which one is under the other but for one number that may not be, of x, of y, and of both.
func TestNoMetersAlone(t *testing.T) {
	beyond := []int{1, 2, 1000, 40320, 1 << 32, math.MaxInt - 40320}
	for _, b := range append(sample.Others(), roomy(book.Europe())) {
		for _, n := range numbers() {
			if n.better == 0 {
				continue
			}
			for _, m := range []api.Meter{{Now: 5000}, full(5000)} {
				least, most := with(m, func(m *api.Meter) { *n.of(m) = 0 }), with(m, func(m *api.Meter) { *n.of(m) = m.Now })
				for _, by := range beyond {
					lower, higher := off(least, n, -by), off(most, n, by)
					one, other := lower, least
					if n.better > 0 {
						one, other = higher, most
					}
					checkUnder(t, b, one, other, false)
					checkUnder(t, b, one, one, false)
					one, other = most, higher
					if n.better > 0 {
						one, other = least, lower
					}
					checkUnder(t, b, one, other, false)
					checkUnder(t, b, other, other, false)
					checkUnder(t, b, lower, higher, false)
					checkUnder(t, b, higher, lower, false)
				}
			}
		}
		for _, by := range beyond {
			low, high := api.Meter{Now: 5000, Day: 5000, Longers: -by}, api.Meter{Now: 5000, Day: 5000, Longers: 5000 + by}
			for _, two := range [][2]api.Meter{{low, {Now: 5000, Day: 5000}}, {{Now: 5000, Day: 5000}, high}, {low, high}, {low, low}, {high, high}} {
				checkUnder(t, b, two[0], two[1], false)
			}
			for _, now := range []int{-by, 40320 + by} {
				checkUnder(t, b, api.Meter{Now: now}, api.Meter{Now: now}, false)
			}
			checkUnder(t, b, api.Meter{Now: 5, Lie: 5 + by}, api.Meter{Now: 5, Lie: 5 + by}, false)
			checkUnder(t, b, api.Meter{Now: 5, Lie: -by}, api.Meter{Now: 5, Lie: -by}, false)
		}
	}
}

// TestEnds: numbers at both ends of 64 bits, each with each, in x and in y.
func TestEnds(t *testing.T) {
	ends := []int{math.MinInt, math.MinInt + 1, -1, 0, 1, 5000, math.MaxInt - 1, math.MaxInt}
	for _, b := range []api.Book{book.Europe(), sample.Tiny(), {}, {Day: math.MaxInt, Longers: math.MinInt}, {Day: math.MinInt, Longers: math.MaxInt}} {
		for _, m := range []api.Meter{{Now: 5000}, full(5000)} {
			for _, n := range append(numbers(), longerDays()) {
				for _, left := range ends {
					for _, right := range ends {
						x, y := m, m
						*n.of(&x), *n.of(&y) = left, right
						checkPair(t, b, x, y)
					}
				}
			}
		}
	}
}

// TestAny: meters and books of all kinds, of which many are under each other, and most are not.
func TestAny(t *testing.T) {
	draws := chance(17)
	under, not := 0, 0
	for _, b := range sample.May() {
		for range 600 {
			y := sample.AnyMeter(draws.Intn, b)
			x := better(draws, b, y)
			if meter.Check(x) != api.OK || meter.Check(y) != api.OK {
				t.Fatalf("the test itself: %+v or %+v may not be", x, y)
			}
			// Worse in something, mostly.
			other := x
			for _, n := range numbers() {
				if draws.Intn(9) == 0 {
					*n.of(&other) = some(draws, x.Now)
				}
			}
			checkPair(t, b, x, y)
			checkPair(t, b, other, y)
			checkPair(t, b, sample.AnyMeter(draws.Intn, b), y)
			if x != y && below.Under(b, x, y) {
				under++
			}
			if !below.Under(b, other, y) {
				not++
			}
		}
	}
	if under < 10000 || not < 10000 {
		t.Errorf("the test itself: %d are under, and %d are not", under, not)
	}
}
