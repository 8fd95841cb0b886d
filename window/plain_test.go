package window_test

import (
	"math/rand"

	"haulier/api"
)

// What stands here is the chapter's words, as plainly as can be, so that the tests lean on nothing that they test.

// plainCheck tells what is wrong with windows.
func plainCheck(l []api.Span) api.Errno {
	if len(l) < 1 {
		return api.ErrNone
	}
	if len(l) > 8 {
		return api.ErrMany
	}
	for _, w := range l {
		if w.To <= w.From {
			return api.ErrSpan
		}
	}
	for _, w := range l {
		if w.From < 0 || w.To > 40320 {
			return api.ErrRange
		}
	}
	for i := 1; i < len(l); i++ {
		// All are right, so that of a set each one begins behind the end of the one ahead, with a minute between.
		if l[i].From <= l[i-1].To {
			return api.ErrOverlap
		}
	}
	return api.OK
}

// plainNext tells the least minute that is not below m: if there is one, it is m, or a span's first one.
func plainNext(l []api.Span, m int) (int, bool) {
	if has(l, m) {
		return m, true
	}
	next, found := 0, false
	for _, w := range l {
		if w.From >= m && has(l, w.From) && (!found || w.From < next) {
			next, found = w.From, true
		}
	}
	return next, found
}

// plainLast tells the greatest minute: if there is one, it is a span's last one.
func plainLast(l []api.Span) (int, bool) {
	last, found := 0, false
	for _, w := range l {
		if w.From < w.To && (!found || last < w.To-1) {
			last, found = w.To-1, true
		}
	}
	return last, found
}

// plainShut tells the set of the minutes of s that no span has. At all other minutes than these, which rise, nothing changes.
func plainShut(l []api.Span, s api.Span, at []int) []api.Span {
	var set []api.Span
	for i, to := range at[1:] {
		from := at[i]
		if !has([]api.Span{s}, from) || has(l, from) {
			continue
		}
		if n := len(set); n > 0 && set[n-1].To == from {
			set[n-1].To = to
		} else {
			set = append(set, api.Span{From: from, To: to})
		}
	}
	return set
}

// each are the numbers from lo on, below hi.
func each(lo, hi int) []int {
	var l []int
	for m := lo; m < hi; m++ {
		l = append(l, m)
	}
	return l
}

// chance draws the same numbers each time.
func chance(seed int64) *rand.Rand { return rand.New(rand.NewSource(seed)) }
