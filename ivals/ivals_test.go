package ivals_test

import (
	"math"
	"math/rand"
	"slices"
	"testing"

	"haulier/api"
	"haulier/ivals"
	"haulier/sample"
)

// ends: small numbers, some of them neighbours, and those at the limits of 64 bits, in order.
func ends() []int {
	return []int{math.MinInt, math.MinInt + 1, -2, -1, 0, 1, 2, 3, 5, math.MaxInt - 1, math.MaxInt}
}

func span(from, to int) api.Span { return api.Span{From: from, To: to} }

// spans: one from each end to each; so some have no minute, touch, are one in the other, or have nothing in common.
func spans() []api.Span {
	var l []api.Span
	for _, from := range ends() {
		for _, to := range ends() {
			l = append(l, span(from, to))
		}
	}
	return l
}

// short: all lists of one span at most.
func short() [][]api.Span {
	lists := [][]api.Span{nil, {}}
	for _, s := range spans() {
		lists = append(lists, []api.Span{s})
	}
	return lists
}

// lists: all lists of two spans at most, and some longer ones, the same each time.
func lists() [][]api.Span {
	all := short()
	for _, s := range spans() {
		for _, u := range spans() {
			all = append(all, []api.Span{s, u})
		}
	}
	return append(all, longer(3000)...)
}

// longer: that many lists of up to seven spans, the same each time. Half of them have small ends only, so that many sets have several spans.
func longer(count int) [][]api.Span {
	draws := rand.New(rand.NewSource(int64(count)))
	var all [][]api.Span
	for range count {
		from := ends()
		if draws.Intn(2) == 0 {
			from = from[2:9]
		}
		var l []api.Span
		for range draws.Intn(8) {
			s := span(from[draws.Intn(len(from))], from[draws.Intn(len(from))])
			if s.To < s.From && draws.Intn(4) > 0 {
				s = span(s.To, s.From)
			}
			l = append(l, s)
		}
		all = append(all, l)
	}
	return all
}

// has: the chapter's words, so that the tests lean on nothing that they test.
var has = sample.Has

// setOf: the set of the minutes of which is tells, where from one of ends to the next one nothing changes.
func setOf(is func(m int) bool) []api.Span {
	var set []api.Span
	for i, m := range ends()[1:] {
		from := ends()[i]
		if !is(from) {
			continue
		}
		if last := len(set) - 1; last >= 0 && set[last].To == from {
			set[last].To = m
		} else {
			set = append(set, span(from, m))
		}
	}
	return set
}

func plainSet(l []api.Span) []api.Span {
	return setOf(func(m int) bool { return has(l, m) })
}

// minutes: the ends, and those beside them.
func minutes() []int {
	l := []int{-3, 4, 6, 1 << 40, -1 << 40}
	return append(l, ends()...)
}

// makeCases: lists and their sets.
func makeCases() []struct{ l, want []api.Span } {
	return []struct{ l, want []api.Span }{
		{nil, nil},
		{[]api.Span{}, nil},
		{[]api.Span{span(2, 4), span(7, 9), span(4, 5)}, []api.Span{span(2, 5), span(7, 9)}},
		{[]api.Span{span(2, 4)}, []api.Span{span(2, 4)}},
		// They are not right.
		{[]api.Span{span(4, 4)}, nil},
		{[]api.Span{span(5, 4), span(0, 0)}, nil},
		{[]api.Span{span(9, 2), span(3, 4), span(6, 6)}, []api.Span{span(3, 4)}},
		{[]api.Span{span(1, 4), span(4, 4), span(5, 4), span(5, 7)}, []api.Span{span(1, 4), span(5, 7)}},
		// They touch, or a single minute is between them.
		{[]api.Span{span(2, 4), span(4, 6)}, []api.Span{span(2, 6)}},
		{[]api.Span{span(-2, 0), span(0, 3)}, []api.Span{span(-2, 3)}},
		{[]api.Span{span(2, 4), span(5, 6)}, []api.Span{span(2, 4), span(5, 6)}},
		{[]api.Span{span(5, 6), span(2, 4), span(4, 5)}, []api.Span{span(2, 6)}},
		// They are one in the other; the longer one ends behind the next one's begin.
		{[]api.Span{span(2, 9), span(3, 4)}, []api.Span{span(2, 9)}},
		{[]api.Span{span(3, 4), span(2, 9), span(6, 7)}, []api.Span{span(2, 9)}},
		{[]api.Span{span(2, 9), span(3, 4), span(8, 12)}, []api.Span{span(2, 12)}},
		{[]api.Span{span(2, 5), span(2, 9), span(2, 3)}, []api.Span{span(2, 9)}},
		// They overlap.
		{[]api.Span{span(2, 5), span(4, 9)}, []api.Span{span(2, 9)}},
		// In another order, and twice.
		{[]api.Span{span(7, 9), span(0, 1), span(3, 4)}, []api.Span{span(0, 1), span(3, 4), span(7, 9)}},
		{[]api.Span{span(7, 9), span(2, 4), span(7, 9), span(2, 4)}, []api.Span{span(2, 4), span(7, 9)}},
		// At the limits of 64 bits.
		{[]api.Span{span(0, math.MaxInt), span(math.MinInt, 0)}, []api.Span{span(math.MinInt, math.MaxInt)}},
		{[]api.Span{span(1, math.MaxInt), span(math.MinInt, 0)}, []api.Span{span(math.MinInt, 0), span(1, math.MaxInt)}},
		{[]api.Span{span(math.MaxInt, math.MinInt), span(math.MaxInt, math.MaxInt), span(math.MinInt, math.MinInt)}, nil},
		{[]api.Span{span(math.MaxInt-1, math.MaxInt), span(math.MinInt, math.MinInt+1)}, []api.Span{span(math.MinInt, math.MinInt+1), span(math.MaxInt-1, math.MaxInt)}},
	}
}

func TestMake(t *testing.T) {
	for _, c := range makeCases() {
		if got := ivals.Make(c.l...); !slices.Equal(got, c.want) {
			t.Errorf("Make(%v) = %v, want %v", c.l, got, c.want)
		}
	}
}

func TestMakeAll(t *testing.T) {
	for _, l := range lists() {
		want := plainSet(l)
		got := ivals.Make(l...)
		if !slices.Equal(got, want) {
			t.Errorf("Make(%v) = %v, want %v", l, got, want)
		}
		if !ivals.Right(got) {
			t.Errorf("Make(%v) = %v, which is no set", l, got)
		}
	}
}

func TestRight(t *testing.T) {
	for _, c := range []struct {
		l    []api.Span
		want bool
	}{
		{nil, true},
		{[]api.Span{}, true},
		{[]api.Span{span(2, 5)}, true},
		{[]api.Span{span(2, 5), span(7, 9)}, true},
		{[]api.Span{span(-2, 0), span(1, 9), span(10, 11)}, true},
		{[]api.Span{span(math.MinInt, 0), span(1, math.MaxInt)}, true},
		{[]api.Span{span(math.MinInt, math.MaxInt)}, true},
		// One is not right.
		{[]api.Span{span(4, 4)}, false},
		{[]api.Span{span(5, 4)}, false},
		{[]api.Span{span(2, 3), span(5, 5)}, false},
		{[]api.Span{span(2, 3), span(6, 5), span(8, 9)}, false},
		{[]api.Span{span(1, 0), span(2, 3)}, false},
		{[]api.Span{span(math.MaxInt, math.MinInt)}, false},
		// They touch, overlap, are one in the other, or there twice.
		{[]api.Span{span(2, 4), span(4, 6)}, false},
		{[]api.Span{span(2, 5), span(4, 6)}, false},
		{[]api.Span{span(2, 9), span(4, 6)}, false},
		{[]api.Span{span(2, 4), span(2, 4)}, false},
		{[]api.Span{span(0, 1), span(2, 4), span(4, 6)}, false},
		{[]api.Span{span(math.MinInt, 0), span(0, math.MaxInt)}, false},
		// They fall.
		{[]api.Span{span(7, 9), span(2, 4)}, false},
		{[]api.Span{span(0, 1), span(7, 9), span(3, 4)}, false},
	} {
		if got := ivals.Right(c.l); got != c.want {
			t.Errorf("Right(%v) = %v, want %v", c.l, got, c.want)
		}
	}
}

// TestRightAll: there is just one set with a list's minutes; so a list is a set just if it is that one.
func TestRightAll(t *testing.T) {
	for _, l := range lists() {
		if got, want := ivals.Right(l), slices.Equal(l, plainSet(l)); got != want {
			t.Errorf("Right(%v) = %v, want %v", l, got, want)
		}
	}
}

func TestHas(t *testing.T) {
	l := []api.Span{span(7, 9), span(2, 4), span(8, 12), span(6, 5), span(3, 4)}
	for m := -1; m <= 14; m++ {
		want := m == 2 || m == 3 || m >= 7 && m < 12
		if got := ivals.Has(l, m); got != want {
			t.Errorf("Has(%v, %d) = %v, want %v", l, m, got, want)
		}
	}
	for _, c := range []struct {
		l    []api.Span
		m    int
		want bool
	}{
		{nil, 0, false},
		{[]api.Span{}, 0, false},
		{[]api.Span{span(0, 0)}, 0, false},
		{[]api.Span{span(math.MinInt, math.MaxInt)}, math.MinInt, true},
		{[]api.Span{span(math.MinInt, math.MaxInt)}, math.MaxInt - 1, true},
		{[]api.Span{span(math.MinInt, math.MaxInt)}, math.MaxInt, false},
		{[]api.Span{span(math.MaxInt, math.MinInt)}, 0, false},
	} {
		if got := ivals.Has(c.l, c.m); got != c.want {
			t.Errorf("Has(%v, %d) = %v, want %v", c.l, c.m, got, c.want)
		}
	}
}

func TestHasAll(t *testing.T) {
	for _, l := range lists() {
		for _, m := range minutes() {
			if got := ivals.Has(l, m); got != has(l, m) {
				t.Errorf("Has(%v, %d) = %v", l, m, got)
			}
		}
	}
}

func TestUnionBothMinus(t *testing.T) {
	for _, c := range []struct{ a, b, union, both, minus []api.Span }{
		{nil, nil, nil, nil, nil},
		{nil, []api.Span{}, nil, nil, nil},
		{[]api.Span{span(2, 5)}, nil, []api.Span{span(2, 5)}, nil, []api.Span{span(2, 5)}},
		{nil, []api.Span{span(2, 5)}, []api.Span{span(2, 5)}, nil, nil},
		{[]api.Span{span(2, 5)}, []api.Span{span(4, 9)}, []api.Span{span(2, 9)}, []api.Span{span(4, 5)}, []api.Span{span(2, 4)}},
		// They touch.
		{[]api.Span{span(2, 5)}, []api.Span{span(5, 9)}, []api.Span{span(2, 9)}, nil, []api.Span{span(2, 5)}},
		// One in the other.
		{[]api.Span{span(2, 9)}, []api.Span{span(4, 5)}, []api.Span{span(2, 9)}, []api.Span{span(4, 5)}, []api.Span{span(2, 4), span(5, 9)}},
		{[]api.Span{span(4, 5)}, []api.Span{span(2, 9)}, []api.Span{span(2, 9)}, []api.Span{span(4, 5)}, nil},
		// The same minutes, in other spans.
		{[]api.Span{span(4, 9), span(2, 4)}, []api.Span{span(2, 9), span(3, 5)}, []api.Span{span(2, 9)}, []api.Span{span(2, 9)}, nil},
		// One of a list's spans meets several of the other's.
		{
			[]api.Span{span(0, 9), span(11, 20)}, []api.Span{span(14, 16), span(7, 12), span(1, 3)},
			[]api.Span{span(0, 20)},
			[]api.Span{span(1, 3), span(7, 9), span(11, 12), span(14, 16)},
			[]api.Span{span(0, 1), span(3, 7), span(12, 14), span(16, 20)},
		},
		// Some are not right.
		{
			[]api.Span{span(6, 6), span(9, 0), span(2, 5)}, []api.Span{span(5, 3), span(4, 4)},
			[]api.Span{span(2, 5)}, nil, []api.Span{span(2, 5)},
		},
		// What is cut out, or in common, of spans that touch is one span.
		{
			[]api.Span{span(2, 4), span(4, 6), span(6, 8)}, []api.Span{span(3, 5), span(5, 7)},
			[]api.Span{span(2, 8)}, []api.Span{span(3, 7)}, []api.Span{span(2, 3), span(7, 8)},
		},
		// At the limits of 64 bits.
		{
			[]api.Span{span(math.MinInt, math.MaxInt)}, []api.Span{span(0, 1)},
			[]api.Span{span(math.MinInt, math.MaxInt)}, []api.Span{span(0, 1)}, []api.Span{span(math.MinInt, 0), span(1, math.MaxInt)},
		},
		{
			[]api.Span{span(math.MinInt, math.MaxInt)}, []api.Span{span(math.MaxInt-1, math.MaxInt), span(math.MinInt, math.MinInt+1)},
			[]api.Span{span(math.MinInt, math.MaxInt)},
			[]api.Span{span(math.MinInt, math.MinInt+1), span(math.MaxInt-1, math.MaxInt)},
			[]api.Span{span(math.MinInt+1, math.MaxInt-1)},
		},
		{
			[]api.Span{span(math.MinInt, 0)}, []api.Span{span(0, math.MaxInt)},
			[]api.Span{span(math.MinInt, math.MaxInt)}, nil, []api.Span{span(math.MinInt, 0)},
		},
	} {
		checkSets(t, c.a, c.b, c.union, c.both, c.minus)
		// The spans' order is nothing to the set.
		a, b := slices.Clone(c.a), slices.Clone(c.b)
		slices.Reverse(a)
		slices.Reverse(b)
		checkSets(t, a, b, c.union, c.both, c.minus)
	}
}

func checkSets(t *testing.T, a, b, union, both, minus []api.Span) {
	t.Helper()
	if got := ivals.Union(a, b); !slices.Equal(got, union) {
		t.Errorf("Union(%v, %v) = %v, want %v", a, b, got, union)
	}
	if got := ivals.Both(a, b); !slices.Equal(got, both) {
		t.Errorf("Both(%v, %v) = %v, want %v", a, b, got, both)
	}
	if got := ivals.Minus(a, b); !slices.Equal(got, minus) {
		t.Errorf("Minus(%v, %v) = %v, want %v", a, b, got, minus)
	}
}

// pairs: hands on all pairs of lists of one span at most, and some pairs of longer ones.
func pairs(do func(a, b []api.Span)) {
	for _, a := range short() {
		for _, b := range short() {
			do(a, b)
		}
	}
	l := longer(20000)
	for i, a := range l[1:] {
		do(a, l[i])
	}
}

func TestUnionBothMinusAll(t *testing.T) {
	pairs(func(a, b []api.Span) {
		checkSets(t, a, b,
			setOf(func(m int) bool { return has(a, m) || has(b, m) }),
			setOf(func(m int) bool { return has(a, m) && has(b, m) }),
			setOf(func(m int) bool { return has(a, m) && !has(b, m) }))
	})
}

// TestLaws: P3.4, by the calls themselves.
func TestLaws(t *testing.T) {
	pairs(func(a, b []api.Span) {
		union, both, minus := ivals.Union(a, b), ivals.Both(a, b), ivals.Minus(a, b)
		if !ivals.Right(union) || !ivals.Right(both) || !ivals.Right(minus) {
			t.Errorf("of %v, %v there are %v, %v, %v, of which one is no set", a, b, union, both, minus)
		}
		for _, m := range minutes() {
			if ivals.Has(union, m) != (ivals.Has(a, m) || ivals.Has(b, m)) {
				t.Errorf("Union(%v, %v) = %v: of minute %d that is wrong", a, b, union, m)
			}
			if ivals.Has(both, m) != (ivals.Has(a, m) && ivals.Has(b, m)) {
				t.Errorf("Both(%v, %v) = %v: of minute %d that is wrong", a, b, both, m)
			}
			if ivals.Has(minus, m) != (ivals.Has(a, m) && !ivals.Has(b, m)) {
				t.Errorf("Minus(%v, %v) = %v: of minute %d that is wrong", a, b, minus, m)
			}
		}
		if got := ivals.Union(both, minus); !slices.Equal(got, ivals.Make(a...)) {
			t.Errorf("%v and %v together are %v, which is not %v", both, minus, got, a)
		}
		if got := ivals.Both(both, minus); len(got) > 0 {
			t.Errorf("%v and %v have %v in common", both, minus, got)
		}
	})
}

func TestNext(t *testing.T) {
	l := []api.Span{span(7, 9), span(12, 10), span(2, 4), span(4, 5), span(8, 11), span(-6, -5)}
	for _, c := range []struct {
		l    []api.Span
		m    int
		want int
		ok   bool
	}{
		{l, math.MinInt, -6, true},
		{l, -7, -6, true},
		{l, -6, -6, true},
		{l, -5, 2, true},
		{l, 0, 2, true},
		{l, 2, 2, true},
		{l, 3, 3, true},
		{l, 4, 4, true},
		{l, 5, 7, true},
		{l, 6, 7, true},
		{l, 8, 8, true},
		{l, 10, 10, true},
		{l, 11, 0, false},
		{l, 12, 0, false},
		{l, math.MaxInt, 0, false},
		{nil, 0, 0, false},
		{[]api.Span{}, math.MinInt, 0, false},
		{[]api.Span{span(5, 5), span(9, 3)}, 0, 0, false},
		{[]api.Span{span(0, 1)}, -3, 0, true},
		{[]api.Span{span(math.MinInt, math.MaxInt)}, math.MinInt, math.MinInt, true},
		{[]api.Span{span(math.MinInt, math.MaxInt)}, math.MaxInt - 1, math.MaxInt - 1, true},
		{[]api.Span{span(math.MinInt, math.MaxInt)}, math.MaxInt, 0, false},
		{[]api.Span{span(math.MaxInt-1, math.MaxInt)}, math.MinInt, math.MaxInt - 1, true},
		{[]api.Span{span(math.MinInt, math.MinInt+1)}, math.MinInt, math.MinInt, true},
		{[]api.Span{span(math.MinInt, math.MinInt+1)}, math.MinInt + 1, 0, false},
	} {
		if got, ok := ivals.Next(c.l, c.m); got != c.want || ok != c.ok {
			t.Errorf("Next(%v, %d) = %d, %v, want %d, %v", c.l, c.m, got, ok, c.want, c.ok)
		}
	}
}

// TestNextAll: the least minute that is meant is m, or a span's first one.
func TestNextAll(t *testing.T) {
	for _, l := range lists() {
		for _, m := range minutes() {
			want, found := 0, false
			for _, s := range append([]api.Span{{From: m}}, l...) {
				if s.From >= m && has(l, s.From) && (!found || s.From < want) {
					want, found = s.From, true
				}
			}
			if got, ok := ivals.Next(l, m); got != want || ok != found {
				t.Errorf("Next(%v, %d) = %d, %v, want %d, %v", l, m, got, ok, want, found)
			}
		}
	}
}

// handed: the spans that Each hands on, if the one with the number stop (from 1 on) is answered by false; 0: none is.
func handed(l []api.Span, stop int) []api.Span {
	var got []api.Span
	ivals.Each(l, func(s api.Span) bool {
		got = append(got, s)
		return len(got) != stop
	})
	return got
}

func TestEach(t *testing.T) {
	l := []api.Span{span(7, 9), span(2, 4), span(3, 3), span(4, 5), span(12, 15), span(7, 9), span(8, 3)}
	for stop, want := range [][]api.Span{
		{span(2, 5), span(7, 9), span(12, 15)},
		{span(2, 5)},
		{span(2, 5), span(7, 9)},
		{span(2, 5), span(7, 9), span(12, 15)},
	} {
		if got := handed(l, stop); !slices.Equal(got, want) {
			t.Errorf("Each(%v), answered by false at %d, handed on %v, want %v", l, stop, got, want)
		}
	}
	for _, l := range [][]api.Span{nil, {}, {span(4, 4)}, {span(9, 2), span(0, 0)}} {
		if got := handed(l, 0); len(got) > 0 {
			t.Errorf("Each(%v) handed on %v", l, got)
		}
	}
}

func TestEachAll(t *testing.T) {
	for _, l := range lists() {
		want := plainSet(l)
		for stop := 0; stop <= len(want); stop++ {
			cut := want
			if stop > 0 {
				cut = want[:stop]
			}
			if got := handed(l, stop); !slices.Equal(got, cut) {
				t.Errorf("Each(%v), answered by false at %d, handed on %v, want %v", l, stop, got, cut)
			}
		}
	}
}

// TestEachNeverPanics: without a function, and with one that panics, Each just ends.
func TestEachNeverPanics(t *testing.T) {
	ivals.Each(nil, nil)
	ivals.Each([]api.Span{span(2, 4)}, nil)
	count := 0
	ivals.Each([]api.Span{span(2, 4), span(7, 9)}, func(s api.Span) bool {
		count++
		panic("none of Each's own")
	})
	if count != 1 {
		t.Errorf("behind a panic Each handed spans on: %d", count)
	}
}

// TestEachHandsOnWhatItWasGiven: what the function does to the list meanwhile is nothing to Each.
func TestEachHandsOnWhatItWasGiven(t *testing.T) {
	l := []api.Span{span(7, 9), span(2, 4), span(12, 15)}
	var got []api.Span
	ivals.Each(l, func(s api.Span) bool {
		clear(l)
		got = append(got, s)
		return true
	})
	if want := []api.Span{span(2, 4), span(7, 9), span(12, 15)}; !slices.Equal(got, want) {
		t.Errorf("Each handed on %v, want %v", got, want)
	}
}

// TestRange: Each can be ranged over, and left.
func TestRange(t *testing.T) {
	l := []api.Span{span(7, 9), span(2, 4), span(12, 15)}
	var got []api.Span
	for s := range func(yield func(api.Span) bool) { ivals.Each(l, yield) } {
		if got = append(got, s); s.From == 7 {
			break
		}
	}
	if want := []api.Span{span(2, 4), span(7, 9)}; !slices.Equal(got, want) {
		t.Errorf("ranged over, Each handed on %v, want %v", got, want)
	}
}

// calls: all that is to be called with two lists; what answers lists tells them.
func calls(a, b []api.Span) [][]api.Span {
	ivals.Right(a)
	ivals.Has(a, 3)
	ivals.Next(a, 3)
	ivals.Each(a, func(s api.Span) bool { return true })
	ivals.Each(a, func(s api.Span) bool { return false })
	return [][]api.Span{ivals.Make(a...), ivals.Union(a, b), ivals.Both(a, b), ivals.Minus(a, b)}
}

// TestArguments: what is handed in reads as before, what is behind its length too; and that is not read.
func TestArguments(t *testing.T) {
	// Behind each list's length there is room for the whole other one.
	whole := func() ([]api.Span, []api.Span) {
		return []api.Span{span(7, 9), span(2, 4), span(5, 5), span(4, 5), span(2, 4), span(20, 30), span(40, 50), span(60, 70), span(1, 0), span(90, 99)},
			[]api.Span{span(8, 12), span(3, 4), span(3, 4), span(9, 1), span(-60, 60), span(70, 80), span(6, 6), span(-9, 9), span(0, 1)}
	}
	a, b := whole()
	wantA, wantB := whole()
	got := append(calls(a[:5], b[:4]), calls(b[:4], a[:5])...)
	if !slices.Equal(a, wantA) || !slices.Equal(b, wantB) {
		t.Errorf("what was handed in became %v, %v", a, b)
	}
	alone, other := slices.Clip(wantA[:5]), slices.Clip(wantB[:4])
	want := append(calls(alone, other), calls(other, alone)...)
	for i := range got {
		if !slices.Equal(got[i], want[i]) {
			t.Errorf("with more behind the length there is %v, else %v", got[i], want[i])
		}
		if behind := got[i][len(got[i]):cap(got[i])]; slices.ContainsFunc(behind, func(s api.Span) bool { return s != api.Span{} }) {
			t.Errorf("behind the length of %v there is %v", got[i], behind)
		}
	}
}

// TestArgumentsAll: so are all pairs.
func TestArgumentsAll(t *testing.T) {
	pairs(func(a, b []api.Span) {
		wasA, wasB := slices.Clone(a), slices.Clone(b)
		calls(a, b)
		if !slices.Equal(a, wasA) || !slices.Equal(b, wasB) {
			t.Errorf("%v, %v became %v, %v", wasA, wasB, a, b)
		}
	})
}

// TestNewMemory: what is written to an answer is seen in no argument and in no other answer, be the argument a set already or not.
func TestNewMemory(t *testing.T) {
	for _, l := range [][]api.Span{
		{span(2, 4), span(7, 9)},
		{span(2, 4)},
		{span(7, 9), span(2, 4), span(4, 5)},
	} {
		for _, other := range [][]api.Span{nil, {}, {span(0, 100)}, slices.Clone(l), l} {
			was, wasOther := slices.Clone(l), slices.Clone(other)
			got, want := calls(l, other), calls(l, other)
			for i := range got {
				spoil(got[i])
				if !slices.Equal(l, was) || !slices.Equal(other, wasOther) {
					t.Fatalf("what was written to answer %d is in an argument: %v, %v", i, l, other)
				}
			}
			if again := calls(l, other); !slices.EqualFunc(again, want, slices.Equal[[]api.Span]) {
				t.Errorf("what was written to answers is in others: %v, want %v", again, want)
			}
		}
	}
}

// spoil: writes to all of the list's memory.
func spoil(l []api.Span) {
	l = l[:cap(l)]
	for i := range l {
		l[i] = span(-7, -9)
	}
}

// TestMany: long lists, in an order that is the wrong way round, are no trouble.
func TestMany(t *testing.T) {
	const count = 200000
	var a, b []api.Span
	for i := range count {
		a = append(a, span(10*(count-i), 10*(count-i)+6))
		b = append(b, span(10*i+4, 10*i+10))
	}
	if set := ivals.Make(a...); len(set) != count || set[0] != span(10, 16) || !ivals.Right(set) {
		t.Errorf("Make: %d spans", len(set))
	}
	// b ends where a's last span begins.
	if both := ivals.Both(a, b); len(both) != count-1 || both[0] != span(14, 16) || both[count-2] != span(10*count-6, 10*count-4) {
		t.Errorf("Both: %d spans", len(both))
	}
	if minus := ivals.Minus(a, b); len(minus) != count || minus[0] != span(10, 14) || minus[count-1] != span(10*count, 10*count+6) {
		t.Errorf("Minus: %d spans", len(minus))
	}
	if union := ivals.Union(a, b); !slices.Equal(union, []api.Span{span(4, 10*count+6)}) {
		t.Errorf("Union: %d spans", len(union))
	}
	if m, ok := ivals.Next(a, 10*count+6); ok {
		t.Errorf("Next: %d", m)
	}
}
