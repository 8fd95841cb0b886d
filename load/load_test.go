package load_test

import (
	"math"
	"slices"
	"testing"

	"haulier/api"
	"haulier/load"
	"haulier/sample"
)

// TestExample: the chapter's one.
func TestExample(t *testing.T) {
	legs, err := load.Legs([]int{5, -3, 2})
	if !slices.Equal(legs, []int{7, 2, 5, 3}) || err != api.OK {
		t.Errorf("Legs = %v, %d, want 7 2 5 3", legs, err)
	}
	if peak, err := load.Peak([]int{5, -3, 2}); peak != 7 || err != api.OK {
		t.Errorf("Peak = %d, %d, want 7", peak, err)
	}
	if !load.Fits(7, []int{5, -3, 2}) || load.Fits(6, []int{5, -3, 2}) {
		t.Error("they fit 7, and no less")
	}
	if eased := load.Ease([]int{5, -3, 2}); !slices.Equal(eased, []int{5, 2, -3}) {
		t.Errorf("Ease = %v, want 5 2 -3", eased)
	}
}

// TestLegs: no loads, one, several; of one kind, of both by turns, of 0s; a first and a last one of each kind; greatest legs wherever they may be.
func TestLegs(t *testing.T) {
	for _, c := range []struct {
		l, legs []int
		peak    int
	}{
		{nil, list(0), 0},
		{list(), list(0), 0},
		{list(5), list(5, 0), 5},
		{list(-5), list(0, 5), 5},
		{list(0), list(0, 0), 0},
		{list(1), list(1, 0), 1},
		{list(-1), list(0, 1), 1},
		// All brought, all fetched, all 0.
		{list(5, 3, 2), list(10, 5, 2, 0), 10},
		{list(-5, -3, -2), list(0, 5, 8, 10), 10},
		{list(0, 0, 0), list(0, 0, 0, 0), 0},
		// Both by turns.
		{list(5, -3, 2, -4), list(7, 2, 5, 3, 7), 7},
		{list(-3, 5, -4, 2), list(7, 10, 5, 9, 7), 10},
		{list(1, -1, 1, -1, 1, -1), list(3, 2, 3, 2, 3, 2, 3), 3},
		{list(-1, 1, -1, 1, -1, 1), list(3, 4, 3, 4, 3, 4, 3), 4},
		// 0s first, amid the others and last.
		{list(0, 5, 0, -3, 0), list(5, 5, 0, 0, 3, 3), 5},
		{list(0, -3), list(0, 0, 3), 3},
		{list(4, 0), list(4, 0, 0), 4},
		// The greatest leg is the first one, the last one, one amid them.
		{list(9, -3, -4), list(9, 0, 3, 7), 9},
		{list(2, -3, -4), list(2, 0, 3, 7), 7},
		{list(-6, 9, -2), list(9, 15, 6, 8), 15},
		{list(-1, -1, 4, 1, -1), list(5, 6, 7, 3, 2, 3), 7},
		{list(4, -9, 6, -1), list(10, 6, 15, 9, 10), 15},
		// Several legs are the greatest.
		{list(5, -5), list(5, 0, 5), 5},
		{list(0, 0, 5), list(5, 5, 5, 0), 5},
		{list(-5, 0, 5), list(5, 10, 10, 5), 10},
		{list(2, -2, 2, -2), list(4, 2, 4, 2, 4), 4},
		{list(-7, 3, -3, 7), list(10, 17, 14, 17, 10), 17},
		// Equal ones.
		{list(4, 4, -4, -4), list(8, 4, 0, 4, 8), 8},
		{list(-4, -4, 4, 4), list(8, 12, 16, 12, 8), 16},
	} {
		if legs := plainLegs(c.l); !slices.Equal(legs, c.legs) || greatest(legs) != c.peak {
			t.Errorf("the test itself: by the words the legs of %v are %v", c.l, legs)
		}
		checkLegs(t, c.l, c.legs, c.peak)
	}
}

// TestLimits: loads at the limits, and beyond them, at the first stop, amid all and at the last one.
func TestLimits(t *testing.T) {
	checkLegs(t, list(1000000), list(1000000, 0), 1000000)
	checkLegs(t, list(-1000000), list(0, 1000000), 1000000)
	checkLegs(t, list(999999, -999999), list(999999, 0, 999999), 999999)
	checkLegs(t, list(-1000000, 1000000), list(1000000, 2000000, 1000000), 2000000)
	checkLegs(t, list(1000000, -1000000, 1000000), list(2000000, 1000000, 2000000, 1000000), 2000000)
	for _, l := range [][]int{list(0), list(3, -2), list(5, -3, 2), list(0, 0, 0, 0), list(-1000000, 1000000, 7)} {
		for place := range l {
			for _, n := range list(-1000000, -999999, -1, 0, 1, 999999, 1000000) {
				checkPlain(t, beside(l, place, n))
			}
			for _, n := range beyond() {
				checkErr(t, beside(l, place, n), api.ErrRange)
			}
		}
	}
	for _, n := range beyond() {
		checkErr(t, list(n), api.ErrRange)
		for _, other := range beyond() {
			// Also where both, added, would be loads again.
			checkErr(t, list(n, other), api.ErrRange)
			checkErr(t, list(n, 5, other), api.ErrRange)
		}
	}
}

// TestMany: as many loads as there may be, and one more; that there are too many is told ahead of what is wrong with one.
func TestMany(t *testing.T) {
	down, up := list(), list()
	for i := range 2001 {
		down, up = append(down, (2000-i)*1000000), append(up, i*1000000)
	}
	checkLegs(t, repeat(2000, 1000000), down, 2000000000)
	checkLegs(t, repeat(2000, -1000000), up, 2000000000)
	checkLegs(t, repeat(2000, 0), make([]int, 2001), 0)
	checkLegs(t, repeat(1000, -1000000, 1000000), append(repeat(1000, 1000000000, 1001000000), 1000000000), 1001000000)
	checkPlain(t, append(repeat(1000, -1000000), repeat(1000, 1000000)...))
	checkPlain(t, append(repeat(1000, 1000000), repeat(1000, -1000000)...))
	checkPlain(t, repeat(1999, 7))
	checkErr(t, repeat(2001, 0), api.ErrMany)
	checkErr(t, repeat(2001, 1), api.ErrMany)
	for _, count := range []int{2001, 2002, 5000, 1 << 20} {
		for _, n := range list(1000000, -1000000, 0) {
			checkErr(t, repeat(count, n), api.ErrMany)
		}
	}
	for _, place := range list(0, 1, 1000, 1999) {
		for _, n := range beyond() {
			checkErr(t, beside(repeat(2000, 1), place, n), api.ErrRange)
			checkErr(t, beside(repeat(2001, 1), place, n), api.ErrMany)
			checkErr(t, append(beside(repeat(2000, 1), place, n), n), api.ErrMany)
		}
	}
	for _, n := range beyond() {
		checkErr(t, append(repeat(2000, 1), n), api.ErrMany)
		checkErr(t, repeat(2000, n), api.ErrRange)
		checkErr(t, repeat(2001, n), api.ErrMany)
	}
}

// TestFits: room at the peak, below it and above; 0, below 0, and at both ends of 64 bits; with no loads, and with such as may not be.
func TestFits(t *testing.T) {
	for _, c := range []struct {
		room int
		l    []int
		want bool
	}{
		{7, list(5, -3, 2), true},
		{8, list(5, -3, 2), true},
		{6, list(5, -3, 2), false},
		{0, list(5, -3, 2), false},
		{-7, list(5, -3, 2), false},
		{math.MaxInt, list(5, -3, 2), true},
		{math.MinInt, list(5, -3, 2), false},
		{9, list(-3, 5, -4, 2), false},
		{10, list(-3, 5, -4, 2), true},
		{4, list(-2, -3), false},
		{5, list(-2, -3), true},
		{0, nil, true},
		{1, nil, true},
		{-1, nil, false},
		{math.MaxInt, nil, true},
		{math.MinInt, nil, false},
		{0, list(0, 0), true},
		{-1, list(0, 0), false},
		{2000000000, repeat(2000, 1000000), true},
		{1999999999, repeat(2000, 1000000), false},
		{1999999999, repeat(2000, -1000000), false},
		{math.MaxInt, repeat(2001, 1), false},
		{0, repeat(2001, 0), false},
		{math.MaxInt, list(1000001), false},
		{math.MaxInt, list(-1000001), false},
		{math.MaxInt, list(5, math.MinInt), false},
		{0, list(math.MaxInt), false},
		{0, list(math.MaxInt, math.MinInt), false},
	} {
		if got := load.Fits(c.room, c.l); got != c.want {
			t.Errorf("Fits(%d, %v) = %v, want %v", c.room, sample.Short(c.l), got, c.want)
		}
	}
}

// TestEase: each kind keeps its order, whatever the numbers are, and however many.
func TestEase(t *testing.T) {
	for _, c := range []struct{ l, want []int }{
		{nil, nil},
		{list(), nil},
		{list(5), list(5)},
		{list(-5), list(-5)},
		{list(0), list(0)},
		{list(1), list(1)},
		{list(-1), list(-1)},
		// Of one kind alone.
		{list(5, 9, 2), list(5, 9, 2)},
		{list(-5, -9, -2), list(-5, -9, -2)},
		{list(-5, 0, -2), list(-5, 0, -2)},
		{list(0, -2, 0, -1), list(0, -2, 0, -1)},
		{list(0, 0, 0), list(0, 0, 0)},
		// Of both, and 0s among them, which are of the others.
		{list(0, 5), list(5, 0)},
		{list(5, 0), list(5, 0)},
		{list(-3, 5), list(5, -3)},
		{list(5, -3, 2), list(5, 2, -3)},
		{list(-3, 5, -4, 2), list(5, 2, -3, -4)},
		{list(-4, 2, -3, 5), list(2, 5, -4, -3)},
		{list(0, -1, 4, 0, 3, -2, 0, 9), list(4, 3, 9, 0, -1, 0, -2, 0)},
		{list(9, 8, -7, 0, -9, 1), list(9, 8, 1, -7, 0, -9)},
		// Equal ones.
		{list(4, -4, 4, -4), list(4, 4, -4, -4)},
		{list(1, 1, 0, 0, 1, -1, -1), list(1, 1, 1, 0, 0, -1, -1)},
		// Such as may not be.
		{list(math.MinInt, math.MaxInt), list(math.MaxInt, math.MinInt)},
		{list(-1000001, 1000001, 0, math.MinInt, math.MaxInt), list(1000001, math.MaxInt, -1000001, 0, math.MinInt)},
		{list(math.MaxInt, 1, math.MinInt), list(math.MaxInt, 1, math.MinInt)},
		{repeat(2000, -1, 1), append(repeat(2000, 1), repeat(2000, -1)...)},
		{append(repeat(2000, 0), 1), append(list(1), repeat(2000, 0)...)},
		{append(repeat(1<<20, -7), math.MaxInt), append(list(math.MaxInt), repeat(1<<20, -7)...)},
	} {
		checkEase(t, c.l, c.want)
	}
}

// TestSmallWorlds: all lists of up to five small loads, and of up to four at the limits and beyond them.
func TestSmallWorlds(t *testing.T) {
	for count := range 6 {
		lists(count, list(-3, -1, 0, 1, 2), func(l []int) { checkPlain(t, l) })
	}
	for count := range 5 {
		lists(count, list(-1000001, -1000000, 0, 1000000, 1000001, math.MinInt, math.MaxInt), func(l []int) { checkPlain(t, l) })
	}
}

// TestDrawn: many loads, up to as many as there may be, stop by stop.
func TestDrawn(t *testing.T) {
	draw := chance(21).Intn
	for i := range 1200 {
		count := draw([]int{4, 12, 60, 300}[i%4])
		if i%200 == 0 {
			count = 1999 + draw(3)
		}
		l := anyLoads(draw, count, []int{2, 9, 1000, 1000000}[i/4%4])
		checkPlain(t, l)
		if i%3 == 0 && count > 0 {
			checkPlain(t, beside(l, draw(count), beyond()[draw(len(beyond()))]))
		}
	}
}

// checkEased: the peak of the eased loads is not above that of each of the lists, in which the same loads stand.
func checkEased(t *testing.T, l []int, others ...[]int) {
	t.Helper()
	eased, err := load.Peak(load.Ease(l))
	if err != api.OK {
		t.Errorf("the loads %v, eased, tell %d", sample.Short(l), err)
	}
	for _, other := range append(others, l) {
		if peak, err := load.Peak(other); peak < eased || err != api.OK {
			t.Errorf("the peak of %v is %d, %d, and eased it is %d", sample.Short(other), peak, err, eased)
		}
	}
}

// TestEased: all orders of few loads; of many ones, some orders.
func TestEased(t *testing.T) {
	for count := range 5 {
		lists(count, list(-3, -1, 0, 1, 2), func(l []int) {
			sample.Orders(l, func(other []int) { checkEased(t, l, other) })
		})
	}
	for _, l := range [][]int{list(5, -3, 2, -4, 0, 7), list(-9, 9, -9, 9, -9, 9), list(-1000000, 1000000, 1, -1, 999999, -999999), list(4, -9, 6, -1, 0, 3)} {
		sample.Orders(l, func(other []int) { checkEased(t, l, other) })
	}
	chance := chance(214)
	for i := range 400 {
		count := chance.Intn([]int{12, 60, 400, 2001}[i%4])
		l := anyLoads(chance.Intn, count, []int{2, 9, 1000, 1000000}[i/4%4])
		other := slices.Clone(l)
		chance.Shuffle(count, func(a, b int) { other[a], other[b] = other[b], other[a] })
		rising, falling := slices.Sorted(slices.Values(l)), slices.Sorted(slices.Values(l))
		slices.Reverse(falling)
		checkEased(t, l, other, rising, falling)
	}
}

// argumentLoads are loads of all sorts, such as may be and others.
func argumentLoads() [][]int {
	return [][]int{
		nil, list(5), list(-5), list(0), list(5, -3, 2), list(-3, 5, -4, 2), list(0, -1, 4, 0, 3, -2, 0, 9), list(5, 9, 2), list(-5, -9, -2),
		list(1000001, 3), list(3, math.MinInt), repeat(2000, -1000000, 1000000)[:2000], repeat(1001, -1, 1),
	}
}

// told is all that is told of the loads.
type told struct {
	legs, eased []int
	peak        int
	fits        [2]bool
	errs        [2]api.Errno
}

// ask asks all of the loads.
func ask(l []int) told {
	legs, legsErr := load.Legs(l)
	peak, peakErr := load.Peak(l)
	return told{legs, load.Ease(l), peak, [2]bool{load.Fits(7, l), load.Fits(6, l)}, [2]api.Errno{legsErr, peakErr}}
}

// same tells whether both tell the same.
func same(a, b told) bool {
	return slices.Equal(a.legs, b.legs) && slices.Equal(a.eased, b.eased) && a.peak == b.peak && a.fits == b.fits && a.errs == b.errs
}

// TestArguments: what is handed in reads as before, and what lies beside it in memory is neither read nor written.
func TestArguments(t *testing.T) {
	for _, l := range argumentLoads() {
		want := ask(slices.Clone(l))
		kept := sample.Among(l, list(0, 3, -3, 1000001, math.MinInt), func(mine []int) {
			if got := ask(mine); !same(got, want) {
				t.Errorf("of %v amid other memory all that is told is %v, want %v", sample.Short(l), got, want)
			}
		})
		if !kept {
			t.Errorf("memory beside %v, or it itself, is written", sample.Short(l))
		}
	}
}

// TestNewMemory: what is written to an answer, or to its memory behind it, is seen neither in an argument nor in another answer.
func TestNewMemory(t *testing.T) {
	for _, l := range argumentLoads() {
		before := slices.Clone(l)
		first, second, want := ask(l), ask(l), ask(slices.Clone(l))
		for _, answer := range [][]int{first.legs, first.eased} {
			// All of its memory, behind its length, too.
			answer = answer[:cap(answer)]
			for i := range answer {
				answer[i] = 88
			}
		}
		if !slices.Equal(l, before) {
			t.Errorf("an answer shares memory with %v", sample.Short(before))
		}
		if third := ask(l); !same(second, want) || !same(third, want) {
			t.Errorf("two answers of %v share memory: %v, %v, want %v", sample.Short(before), second, third, want)
		}
	}
}
