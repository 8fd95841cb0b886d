package ival_test

import (
	"math"
	"math/big"
	"slices"
	"testing"

	"haulier/api"
	"haulier/ival"
)

// ends: small numbers, and those at the limits of 64 bits, in order.
func ends() []int {
	return []int{
		math.MinInt, math.MinInt + 1, math.MinInt + 2, -1 << 62, -3, -2, -1,
		0, 1, 2, 3, api.MaxTime, 1 << 62, math.MaxInt - 2, math.MaxInt - 1, math.MaxInt,
	}
}

// spans: one from each end to each, so that some have no minute, touch, are one in the other, or have nothing in common.
func spans() []api.Span {
	var l []api.Span
	for _, from := range ends() {
		for _, to := range ends() {
			l = append(l, api.Span{From: from, To: to})
		}
	}
	return l
}

func span(from, to int) api.Span { return api.Span{From: from, To: to} }

// has: the chapter's words, so that the tests lean on nothing that they test.
func has(s api.Span, m int) bool { return m >= s.From && m < s.To }

func right(s api.Span) bool { return has(s, s.From) }

// exactLength: To less From, whatever they are.
func exactLength(s api.Span) *big.Int {
	return new(big.Int).Sub(big.NewInt(int64(s.To)), big.NewInt(int64(s.From)))
}

func TestRight(t *testing.T) {
	for _, c := range []struct {
		s    api.Span
		want bool
	}{
		{span(0, 1), true},
		{span(2, 5), true},
		{span(-5, -2), true},
		{span(-1, 0), true},
		{span(math.MinInt, math.MinInt+1), true},
		{span(math.MaxInt-1, math.MaxInt), true},
		{span(math.MinInt, math.MaxInt), true},
		{span(0, 0), false},
		{span(5, 5), false},
		{span(5, 4), false},
		{span(0, -1), false},
		{span(math.MinInt, math.MinInt), false},
		{span(math.MaxInt, math.MaxInt), false},
		{span(math.MaxInt, math.MinInt), false},
	} {
		if got := ival.Right(c.s); got != c.want {
			t.Errorf("Right(%v) = %v, want %v", c.s, got, c.want)
		}
	}
}

func TestHas(t *testing.T) {
	for _, c := range []struct {
		s    api.Span
		m    int
		want bool
	}{
		{span(2, 5), 1, false},
		{span(2, 5), 2, true},
		{span(2, 5), 3, true},
		{span(2, 5), 4, true},
		{span(2, 5), 5, false},
		{span(-2, 1), -3, false},
		{span(-2, 1), -2, true},
		{span(-2, 1), 0, true},
		{span(-2, 1), 1, false},
		{span(4, 4), 4, false},
		{span(5, 2), 2, false},
		{span(5, 2), 3, false},
		{span(5, 2), 5, false},
		{span(math.MinInt, math.MaxInt), math.MinInt, true},
		{span(math.MinInt, math.MaxInt), math.MaxInt - 1, true},
		{span(math.MinInt, math.MaxInt), math.MaxInt, false},
		{span(math.MaxInt, math.MinInt), 0, false},
	} {
		if got := ival.Has(c.s, c.m); got != c.want {
			t.Errorf("Has(%v, %d) = %v, want %v", c.s, c.m, got, c.want)
		}
	}
}

// TestRightHas: a span is right just if it has a minute; that is its first one, if any.
func TestRightHas(t *testing.T) {
	for _, s := range spans() {
		if got := ival.Right(s); got != right(s) {
			t.Errorf("Right(%v) = %v", s, got)
		}
		for _, m := range ends() {
			if got := ival.Has(s, m); got != has(s, m) {
				t.Errorf("Has(%v, %d) = %v", s, m, got)
			}
		}
	}
}

func TestMeetsBothHull(t *testing.T) {
	none := api.Span{}
	for _, c := range []struct {
		a, b   api.Span
		both   api.Span
		meets  bool
		hull   api.Span
		hullOK bool
	}{
		{span(2, 5), span(4, 9), span(4, 5), true, span(2, 9), true},
		// They are one in the other, or the same.
		{span(2, 9), span(4, 5), span(4, 5), true, span(2, 9), true},
		{span(2, 9), span(2, 5), span(2, 5), true, span(2, 9), true},
		{span(2, 9), span(5, 9), span(5, 9), true, span(2, 9), true},
		{span(2, 9), span(2, 9), span(2, 9), true, span(2, 9), true},
		// They touch.
		{span(2, 4), span(4, 6), none, false, span(2, 6), true},
		{span(-2, 0), span(0, 3), none, false, span(-2, 3), true},
		// They have nothing in common.
		{span(2, 4), span(7, 9), none, false, span(2, 9), true},
		{span(-9, -7), span(7, 9), none, false, span(-9, 9), true},
		// One has no minute, or both have none.
		{span(4, 4), span(2, 9), none, false, none, false},
		{span(5, 4), span(2, 9), none, false, none, false},
		{span(9, 2), span(4, 5), none, false, none, false},
		{span(4, 4), span(4, 4), none, false, none, false},
		{span(9, 2), span(9, 2), none, false, none, false},
		{span(0, 0), span(1, 1), none, false, none, false},
		// At the limits of 64 bits.
		{span(math.MinInt, math.MaxInt), span(3, 7), span(3, 7), true, span(math.MinInt, math.MaxInt), true},
		{span(math.MinInt, 1), span(0, math.MaxInt), span(0, 1), true, span(math.MinInt, math.MaxInt), true},
		{span(math.MinInt, 0), span(0, math.MaxInt), none, false, span(math.MinInt, math.MaxInt), true},
		{span(math.MaxInt, math.MinInt), span(3, 7), none, false, none, false},
	} {
		checkMeetsBothHull(t, c.a, c.b, c.both, c.meets, c.hull, c.hullOK)
		checkMeetsBothHull(t, c.b, c.a, c.both, c.meets, c.hull, c.hullOK)
	}
}

func checkMeetsBothHull(t *testing.T, a, b, both api.Span, meets bool, hull api.Span, hullOK bool) {
	t.Helper()
	if got := ival.Meets(a, b); got != meets {
		t.Errorf("Meets(%v, %v) = %v, want %v", a, b, got, meets)
	}
	if got, ok := ival.Both(a, b); got != both || ok != meets {
		t.Errorf("Both(%v, %v) = %v, %v, want %v, %v", a, b, got, ok, both, meets)
	}
	if got, ok := ival.Hull(a, b); got != hull || ok != hullOK {
		t.Errorf("Hull(%v, %v) = %v, %v, want %v, %v", a, b, got, ok, hull, hullOK)
	}
}

// TestMinutes: P2.4, and that Both and Hull have no minute beyond those, for all pairs.
func TestMinutes(t *testing.T) {
	for _, a := range spans() {
		for _, b := range spans() {
			checkBothMinutes(t, a, b)
			checkHullMinutes(t, a, b)
		}
	}
}

func checkBothMinutes(t *testing.T, a, b api.Span) {
	both, ok := ival.Both(a, b)
	// The first minute that both have, if any, is the first one of one of them.
	common := has(a, a.From) && has(b, a.From) || has(a, b.From) && has(b, b.From)
	if ok != common || ival.Meets(a, b) != common {
		t.Errorf("Both(%v, %v) = %v, %v, and Meets is %v", a, b, both, ok, ival.Meets(a, b))
	}
	if !ok {
		if both != (api.Span{}) {
			t.Errorf("Both(%v, %v) = %v, false", a, b, both)
		}
		return
	}
	for _, m := range append(ends(), both.From, both.To-1) {
		if has(both, m) != (has(a, m) && has(b, m)) {
			t.Errorf("Both(%v, %v) = %v: of minute %d that is wrong", a, b, both, m)
		}
	}
}

func checkHullMinutes(t *testing.T, a, b api.Span) {
	hull, ok := ival.Hull(a, b)
	if ok != (right(a) && right(b)) {
		t.Errorf("Hull(%v, %v) = %v, %v", a, b, hull, ok)
	}
	if !ok {
		if hull != (api.Span{}) {
			t.Errorf("Hull(%v, %v) = %v, false", a, b, hull)
		}
		return
	}
	for _, m := range append(ends(), a.To-1, b.To-1) {
		if (has(a, m) || has(b, m)) && !has(hull, m) {
			t.Errorf("Hull(%v, %v) = %v, without minute %d", a, b, hull, m)
		}
	}
	// It is the least one, if one of both has its first minute, and one its last.
	for _, m := range []int{hull.From, hull.To - 1} {
		if !has(a, m) && !has(b, m) {
			t.Errorf("Hull(%v, %v) = %v, which ends with minute %d of none", a, b, hull, m)
		}
	}
}

func TestLong(t *testing.T) {
	for _, c := range []struct {
		s    api.Span
		want int
		err  api.Errno
	}{
		{span(2, 5), 3, api.OK},
		{span(0, 1), 1, api.OK},
		{span(-5, -2), 3, api.OK},
		{span(-5, 5), 10, api.OK},
		{span(0, api.MaxTime), api.MaxTime, api.OK},
		{span(0, math.MaxInt), math.MaxInt, api.OK},
		{span(-1, math.MaxInt-1), math.MaxInt, api.OK},
		{span(math.MinInt, -1), math.MaxInt, api.OK},
		{span(math.MinInt, math.MinInt+1), 1, api.OK},
		{span(-1, math.MaxInt), 0, api.ErrOver},
		{span(math.MinInt, 0), 0, api.ErrOver},
		{span(math.MinInt, math.MaxInt), 0, api.ErrOver},
		{span(0, 0), 0, api.ErrSpan},
		{span(5, 4), 0, api.ErrSpan},
		{span(math.MaxInt, math.MaxInt), 0, api.ErrSpan},
		// To less From is beyond 64 bits as well, but the span is not right.
		{span(math.MaxInt, math.MinInt), 0, api.ErrSpan},
		{span(1, math.MinInt), 0, api.ErrSpan},
	} {
		if got, err := ival.Long(c.s); got != c.want || err != c.err {
			t.Errorf("Long(%v) = %d, %d, want %d, %d", c.s, got, err, c.want, c.err)
		}
	}
}

func TestLongExact(t *testing.T) {
	for _, s := range spans() {
		want, wantErr := 0, api.ErrSpan
		if right(s) {
			wantErr = api.ErrOver
			if n := exactLength(s); n.IsInt64() {
				want, wantErr = int(n.Int64()), api.OK
			}
		}
		if got, err := ival.Long(s); got != want || err != wantErr {
			t.Errorf("Long(%v) = %d, %d, want %d, %d", s, got, err, want, wantErr)
		}
	}
}

func TestShift(t *testing.T) {
	none := api.Span{}
	for _, c := range []struct {
		s    api.Span
		n    int
		want api.Span
		err  api.Errno
	}{
		{span(2, 5), 0, span(2, 5), api.OK},
		{span(2, 5), 10, span(12, 15), api.OK},
		{span(2, 5), -10, span(-8, -5), api.OK},
		{span(-1, 1), 1, span(0, 2), api.OK},
		{span(math.MinInt, 0), math.MaxInt, span(-1, math.MaxInt), api.OK},
		{span(0, 1), math.MinInt, span(math.MinInt, math.MinInt+1), api.OK},
		{span(math.MinInt, math.MaxInt), 0, span(math.MinInt, math.MaxInt), api.OK},
		{span(math.MaxInt-2, math.MaxInt-1), 1, span(math.MaxInt-1, math.MaxInt), api.OK},
		// Only To, or only From, would be beyond 64 bits.
		{span(0, math.MaxInt), 1, none, api.ErrOver},
		{span(math.MaxInt-1, math.MaxInt), 1, none, api.ErrOver},
		{span(math.MinInt, 5), -1, none, api.ErrOver},
		{span(-1, 1), math.MinInt, none, api.ErrOver},
		{span(0, 1), math.MaxInt, none, api.ErrOver},
		// Both would be.
		{span(5, 9), math.MaxInt, none, api.ErrOver},
		{span(-9, -5), math.MinInt, none, api.ErrOver},
		// A span that is not right is told of first.
		{span(5, 5), 3, none, api.ErrSpan},
		{span(5, 4), 0, none, api.ErrSpan},
		{span(0, 0), 0, none, api.ErrSpan},
		{span(math.MaxInt, math.MaxInt), 1, none, api.ErrSpan},
		{span(math.MaxInt, math.MinInt), math.MinInt, none, api.ErrSpan},
	} {
		if got, err := ival.Shift(c.s, c.n); got != c.want || err != c.err {
			t.Errorf("Shift(%v, %d) = %v, %d, want %v, %d", c.s, c.n, got, err, c.want, c.err)
		}
	}
}

func TestShiftExact(t *testing.T) {
	for _, s := range spans() {
		for _, n := range ends() {
			want, wantErr := api.Span{}, api.ErrSpan
			if right(s) {
				wantErr = api.ErrOver
				from := new(big.Int).Add(big.NewInt(int64(s.From)), big.NewInt(int64(n)))
				to := new(big.Int).Add(big.NewInt(int64(s.To)), big.NewInt(int64(n)))
				if from.IsInt64() && to.IsInt64() {
					want, wantErr = span(int(from.Int64()), int(to.Int64())), api.OK
				}
			}
			if got, err := ival.Shift(s, n); got != want || err != wantErr {
				t.Errorf("Shift(%v, %d) = %v, %d, want %v, %d", s, n, got, err, want, wantErr)
			}
		}
	}
}

func TestOrder(t *testing.T) {
	for _, c := range []struct {
		a, b api.Span
		want int
	}{
		{span(2, 5), span(2, 5), 0},
		{span(2, 5), span(3, 4), -1},
		{span(2, 5), span(3, 9), -1},
		{span(2, 5), span(2, 6), -1},
		{span(-3, 9), span(-2, 0), -1},
		{span(-3, -2), span(-3, 2), -1},
		{span(math.MinInt, 0), span(math.MaxInt, 0), -1},
		{span(0, math.MinInt), span(0, math.MaxInt), -1},
		// They need not be right.
		{span(0, 0), span(0, 0), 0},
		{span(5, 4), span(5, 4), 0},
		{span(5, 4), span(5, 5), -1},
		{span(4, 4), span(5, 1), -1},
		{span(4, 1), span(4, 9), -1},
	} {
		if got := ival.Order(c.a, c.b); got != c.want {
			t.Errorf("Order(%v, %v) = %d, want %d", c.a, c.b, got, c.want)
		}
		if got := ival.Order(c.b, c.a); got != -c.want {
			t.Errorf("Order(%v, %v) = %d, want %d", c.b, c.a, got, -c.want)
		}
	}
}

// TestOrderAll: the list of all spans rises by From, then by To; so the places tell the order.
func TestOrderAll(t *testing.T) {
	l := spans()
	for i, a := range l {
		for k, b := range l {
			want := 0
			if i < k {
				want = -1
			} else if i > k {
				want = 1
			}
			if got := ival.Order(a, b); got != want {
				t.Errorf("Order(%v, %v) = %d, want %d", a, b, got, want)
			}
		}
	}
	back := slices.Clone(l)
	slices.Reverse(back)
	if slices.SortFunc(back, ival.Order); !slices.Equal(back, l) {
		t.Error("sorted by Order, the spans are in another order")
	}
}
