package load_test

import (
	"math"
	"math/rand"
	"slices"
	"testing"

	"haulier/api"
	"haulier/load"
	"haulier/sample"
)

// What stands here is the chapter's words, as plainly as can be, leg by leg, so that the tests lean on nothing that they test.

// list is a list of loads.
func list(l ...int) []int { return l }

// repeat is the loads that many times, one behind the other.
func repeat(count int, l ...int) []int { return slices.Repeat(l, count) }

// beside is the loads with another one at the place.
func beside(l []int, place, n int) []int {
	return slices.Concat(l[:place], []int{n}, l[place+1:])
}

// plainErr: what is wrong with the loads.
func plainErr(l []int) api.Errno {
	if len(l) > 2000 {
		return api.ErrMany
	}
	for _, n := range l {
		if !(-1000000 <= n && n <= 1000000) {
			return api.ErrRange
		}
	}
	return api.OK
}

// plainLegs: on the leg ahead of each stop, and on the one behind the last, all that is yet to be brought, and all that is fetched already.
func plainLegs(l []int) []int {
	var legs []int
	for leg := 0; leg <= len(l); leg++ {
		aboard := 0
		for stop, n := range l {
			switch {
			case n > 0 && stop >= leg:
				aboard += n
			case n < 0 && stop < leg:
				aboard += -n
			}
		}
		legs = append(legs, aboard)
	}
	return legs
}

// plainEase: the loads above 0, and then the others.
func plainEase(l []int) []int {
	var eased []int
	for _, n := range l {
		if n > 0 {
			eased = append(eased, n)
		}
	}
	for _, n := range l {
		if !(n > 0) {
			eased = append(eased, n)
		}
	}
	return eased
}

// greatest: the one of the numbers that none is above.
func greatest(l []int) int {
	for _, n := range l {
		above := false
		for _, other := range l {
			above = above || other > n
		}
		if !above {
			return n
		}
	}
	return 0
}

// checkFits: the loads fit just the rooms that are not below the peak.
func checkFits(t *testing.T, l []int, peak int) {
	t.Helper()
	for _, room := range append(rooms(), peak-1, peak, peak+1) {
		if got := load.Fits(room, l); got != (room >= peak) {
			t.Errorf("Fits(%d, %v) = %v, and the peak is %d", room, sample.Short(l), got, peak)
		}
	}
}

// checkLegs: of the loads just these legs are told, and their peak; the loads fit just where there is room for that.
func checkLegs(t *testing.T, l []int, legs []int, peak int) {
	t.Helper()
	if got, err := load.Legs(l); !slices.Equal(got, legs) || err != api.OK {
		t.Errorf("Legs(%v) = %v, %d, want %v", sample.Short(l), sample.Short(got), err, sample.Short(legs))
	}
	if got, err := load.Peak(l); got != peak || err != api.OK {
		t.Errorf("Peak(%v) = %d, %d, want %d", sample.Short(l), got, err, peak)
	}
	checkFits(t, l, peak)
}

// checkErr: of the loads just that error is told, and they fit no room.
func checkErr(t *testing.T, l []int, want api.Errno) {
	t.Helper()
	if got, err := load.Legs(l); len(got) != 0 || err != want {
		t.Errorf("Legs(%v), of %d, = %v, %d, want %d alone", sample.Short(l), len(l), sample.Short(got), err, want)
	}
	if got, err := load.Peak(l); got != 0 || err != want {
		t.Errorf("Peak(%v), of %d, = %d, %d, want %d alone", sample.Short(l), len(l), got, err, want)
	}
	for _, room := range rooms() {
		if load.Fits(room, l) {
			t.Errorf("Fits(%d, %v), of %d, where the error is %d", room, sample.Short(l), len(l), want)
		}
	}
}

// checkPlain: of the loads what is told is what the chapter's words say, whatever that is.
func checkPlain(t *testing.T, l []int) {
	t.Helper()
	checkEase(t, l, plainEase(l))
	if err := plainErr(l); err != api.OK {
		checkErr(t, l, err)
		return
	}
	legs := plainLegs(l)
	checkLegs(t, l, legs, greatest(legs))
}

// checkEase: the loads are eased to these.
func checkEase(t *testing.T, l, want []int) {
	t.Helper()
	if got := load.Ease(l); !slices.Equal(got, want) {
		t.Errorf("Ease(%v) = %v, want %v", sample.Short(l), sample.Short(got), sample.Short(want))
	}
}

// rooms are such as trucks have, 0, below it, and at both ends of 64 bits.
func rooms() []int {
	return []int{math.MinInt, math.MinInt + 1, -1 << 32, -1000000, -2, -1, 0, 1, 2, 7, 1000000, 1000000000, 2000000000, 1 << 32, math.MaxInt - 1, math.MaxInt}
}

// beyond are numbers that are no loads.
func beyond() []int {
	return []int{math.MinInt, math.MinInt + 1, -1 << 32, -1<<32 + 1, -2000000, -1000002, -1000001, 1000001, 1000002, 2000000, 1 << 32, 1<<32 + 1, math.MaxInt - 1, math.MaxInt}
}

// lists hands on all lists of that many of the numbers.
func lists(count int, numbers []int, do func(l []int)) {
	if count == 0 {
		do(nil)
		return
	}
	lists(count-1, numbers, func(l []int) {
		for _, n := range numbers {
			do(append(slices.Clone(l), n))
		}
	})
}

// chance draws the same numbers each time.
func chance(seed int64) *rand.Rand { return rand.New(rand.NewSource(seed)) }

// anyLoads is that many loads, as draws below n tell, up to a greatest one: some of one kind alone, some of 0s for the most part.
func anyLoads(draw func(n int) int, count, most int) []int {
	var l []int
	kind := draw(5)
	for range count {
		n := draw(2*most+1) - most
		switch kind {
		case 0:
			n = max(n, -n)
		case 1:
			n = min(n, -n)
		case 2:
			n *= draw(5) / 4
		}
		l = append(l, n)
	}
	return l
}
