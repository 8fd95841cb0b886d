package window_test

import (
	"math"
	"slices"
	"testing"

	"haulier/api"
	"haulier/sample"
	"haulier/window"
)

// What is said often here, in short.
var (
	span  = sample.Span
	spans = sample.Spans
	apart = sample.Apart
	has   = sample.Has
)

// day: the chapter's windows.
func day() []api.Span { return spans(480, 720, 840, 960) }

// ends: small numbers, those at the limits and beside them, and those at both ends of 64 bits; they rise.
func ends() []int {
	return []int{math.MinInt, math.MinInt + 1, -2, -1, 0, 1, 2, 3, 5, 40319, 40320, 40321, math.MaxInt - 1, math.MaxInt}
}

// from: one span from each of the numbers to each.
func from(ends []int) []api.Span {
	var l []api.Span
	for _, lo := range ends {
		for _, hi := range ends {
			l = append(l, span(lo, hi))
		}
	}
	return l
}

// lists: hands on all lists of two spans at most, from each end to each, and some of up to ten.
func lists(do func(l []api.Span)) {
	all := from(ends())
	do(nil)
	do([]api.Span{})
	for _, s := range all {
		do([]api.Span{s})
		for _, u := range all {
			do([]api.Span{s, u})
		}
	}
	draws := chance(18)
	for range 20000 {
		l := make([]api.Span, draws.Intn(11))
		for i := range l {
			l[i] = all[draws.Intn(len(all))]
			if l[i].To < l[i].From && draws.Intn(3) > 0 {
				l[i] = span(l[i].To, l[i].From)
			}
		}
		do(l)
	}
}

// small: hands on all lists of up to three spans with ends from -1 to 5, right ones and others.
func small(do func(l []api.Span)) {
	all := from(each(-1, 6))
	for _, a := range all {
		for _, b := range all {
			do([]api.Span{a, b})
			for _, c := range all {
				do([]api.Span{a, b, c})
			}
		}
	}
}

// TestExample: the chapter's one.
func TestExample(t *testing.T) {
	if err := window.Check(day()); err != api.OK {
		t.Errorf("Check: %d", err)
	}
	if m, ok := window.Next(day(), 800); m != 840 || !ok {
		t.Errorf("Next of 800: %d, %v", m, ok)
	}
	if m, ok := window.Last(day()); m != 959 || !ok {
		t.Errorf("Last: %d, %v", m, ok)
	}
}

func checkCheck(t *testing.T, l []api.Span, want api.Errno) {
	t.Helper()
	if got := window.Check(l); got != want {
		t.Errorf("Check(%v) = %d, want %d", sample.Short(l), got, want)
	}
}

// TestCheck: windows that may be; and for each fault, and for several ones, such as may not be.
func TestCheck(t *testing.T) {
	for _, l := range sample.Windows() {
		checkCheck(t, l, api.OK)
	}
	for _, w := range sample.NoWindows() {
		checkCheck(t, w.L, w.Err)
	}
}

// TestCheckPlaces: of each number of windows, each place in which a fault may be.
func TestCheckPlaces(t *testing.T) {
	for count := 1; count <= 10; count++ {
		for at := range count {
			for _, c := range []struct {
				change func(w *api.Span)
				want   api.Errno
			}{
				{func(w *api.Span) { w.To = w.From }, api.ErrSpan},
				{func(w *api.Span) { w.From, w.To = w.To, w.From }, api.ErrSpan},
				{func(w *api.Span) { w.From = -1 }, api.ErrRange},
				{func(w *api.Span) { w.To = 40321 }, api.ErrRange},
				{func(w *api.Span) { *w = span(40000, 40320) }, api.ErrOverlap},
				{func(w *api.Span) { w.To += 10 }, api.ErrOverlap},
				{func(w *api.Span) { w.To++ }, api.ErrOverlap},
				{func(w *api.Span) {}, api.OK},
			} {
				l := apart(count)
				c.change(&l[at])
				want := c.want
				switch {
				case count > api.MaxOpen:
					want = api.ErrMany
				case want == api.ErrOverlap && at == count-1:
					// There is none behind that one.
					want = api.OK
				}
				checkCheck(t, l, want)
			}
		}
	}
}

// TestCheckAll: lists at all edges.
func TestCheckAll(t *testing.T) {
	told := map[api.Errno]int{}
	check := func(l []api.Span) {
		want := plainCheck(l)
		checkCheck(t, l, want)
		told[want]++
	}
	lists(check)
	small(check)
	for _, err := range []api.Errno{api.OK, api.ErrNone, api.ErrMany, api.ErrSpan, api.ErrRange, api.ErrOverlap} {
		if told[err] == 0 {
			t.Errorf("the test itself: %d is never told", err)
		}
	}
}

func checkMay(t *testing.T, l []api.Span, m int, want bool) {
	t.Helper()
	if got := window.May(l, m); got != want {
		t.Errorf("May(%v, %d) = %v, want %v", l, m, got, want)
	}
}

func checkNext(t *testing.T, l []api.Span, m, want int, ok bool) {
	t.Helper()
	if got, is := window.Next(l, m); got != want || is != ok {
		t.Errorf("Next(%v, %d) = %d, %v, want %d, %v", l, m, got, is, want, ok)
	}
}

func checkLast(t *testing.T, l []api.Span, want int, ok bool) {
	t.Helper()
	if got, is := window.Last(l); got != want || is != ok {
		t.Errorf("Last(%v) = %d, %v, want %d, %v", l, got, is, want, ok)
	}
}

// TestMayNext: at the windows' first minutes, last ones, and those beside them; between, ahead of and behind all.
func TestMayNext(t *testing.T) {
	wild := spans(7, 9, 12, 10, 2, 4, 4, 5, 8, 11, 6, 6, -6, -5, 40330, 40335)
	for _, c := range []struct {
		l    []api.Span
		m    int
		may  bool
		next int
		ok   bool
	}{
		{day(), 0, false, 480, true},
		{day(), 479, false, 480, true},
		{day(), 480, true, 480, true},
		{day(), 481, true, 481, true},
		{day(), 600, true, 600, true},
		{day(), 719, true, 719, true},
		{day(), 720, false, 840, true},
		{day(), 800, false, 840, true},
		{day(), 839, false, 840, true},
		{day(), 840, true, 840, true},
		{day(), 959, true, 959, true},
		{day(), 960, false, 0, false},
		{day(), 961, false, 0, false},
		{day(), 40320, false, 0, false},
		{day(), -1, false, 480, true},
		{day(), math.MinInt, false, 480, true},
		{day(), math.MaxInt, false, 0, false},
		{spans(0, 1), -1, false, 0, true},
		{spans(0, 1), 0, true, 0, true},
		{spans(0, 1), 1, false, 0, false},
		{spans(0, 40320), 40319, true, 40319, true},
		{spans(0, 40320), 40320, false, 0, false},
		{spans(1, 2, 3, 4), 2, false, 3, true},
		// Of any other spans: in any order, overlapping, touching, not right, beyond the limits.
		{wild, math.MinInt, false, -6, true},
		{wild, -7, false, -6, true},
		{wild, -6, true, -6, true},
		{wild, -5, false, 2, true},
		{wild, 2, true, 2, true},
		{wild, 3, true, 3, true},
		{wild, 4, true, 4, true},
		{wild, 5, false, 7, true},
		{wild, 6, false, 7, true},
		{wild, 8, true, 8, true},
		{wild, 10, true, 10, true},
		{wild, 11, false, 40330, true},
		{wild, 40329, false, 40330, true},
		{wild, 40334, true, 40334, true},
		{wild, 40335, false, 0, false},
		{nil, 0, false, 0, false},
		{[]api.Span{}, math.MinInt, false, 0, false},
		{spans(5, 5, 9, 3), 5, false, 0, false},
		{spans(5, 5, 9, 3), 0, false, 0, false},
		{spans(math.MaxInt, math.MinInt), 0, false, 0, false},
		// At both ends of 64 bits.
		{spans(math.MinInt, math.MaxInt), math.MinInt, true, math.MinInt, true},
		{spans(math.MinInt, math.MaxInt), math.MaxInt - 1, true, math.MaxInt - 1, true},
		{spans(math.MinInt, math.MaxInt), math.MaxInt, false, 0, false},
		{spans(math.MaxInt-1, math.MaxInt), math.MinInt, false, math.MaxInt - 1, true},
		{spans(math.MinInt, math.MinInt+1), math.MinInt, true, math.MinInt, true},
		{spans(math.MinInt, math.MinInt+1), math.MinInt + 1, false, 0, false},
	} {
		checkMay(t, c.l, c.m, c.may)
		checkNext(t, c.l, c.m, c.next, c.ok)
	}
}

// TestLast: also where the window that ends last is not the last one of the list, and of other spans.
func TestLast(t *testing.T) {
	for _, c := range []struct {
		l    []api.Span
		want int
		ok   bool
	}{
		{day(), 959, true},
		{spans(480, 720), 719, true},
		{spans(0, 1), 0, true},
		{spans(0, 40320), 40319, true},
		{apart(8), 22, true},
		{nil, 0, false},
		{[]api.Span{}, 0, false},
		{spans(5, 5), 0, false},
		{spans(9, 3), 0, false},
		{spans(5, 5, 9, 3, 40320, 40320, 0, 0), 0, false},
		{spans(math.MinInt, math.MinInt), 0, false},
		{spans(math.MaxInt, math.MinInt, math.MaxInt, math.MaxInt), 0, false},
		// The one that ends last stands first, or amid the others.
		{spans(840, 960, 480, 720), 959, true},
		{spans(0, 5, 840, 960, 480, 720), 959, true},
		{spans(0, 1000, 840, 960), 999, true},
		{spans(0, 960, 840, 960), 959, true},
		// What ends later is not right.
		{spans(480, 720, 5000, 900), 719, true},
		{spans(480, 720, 1000, 1000), 719, true},
		{spans(1000, 1000, 480, 720), 719, true},
		{spans(1000, 900, 480, 720, 800, 800), 719, true},
		// Beyond the limits.
		{spans(-9, -5), -6, true},
		{spans(-9, 0), -1, true},
		{spans(-9, -5, -20, -7), -6, true},
		{spans(-20, -7, -9, -5), -6, true},
		{spans(-9, -5, 3, 3), -6, true},
		{spans(-9, 1), 0, true},
		{spans(40320, 50000), 49999, true},
		{spans(math.MinInt, math.MaxInt), math.MaxInt - 1, true},
		{spans(math.MaxInt-1, math.MaxInt, 0, 1), math.MaxInt - 1, true},
		{spans(math.MinInt, math.MinInt+1), math.MinInt, true},
		{spans(math.MinInt, math.MinInt+1, math.MinInt, math.MinInt), math.MinInt, true},
		{spans(math.MinInt, math.MinInt+1, math.MinInt, math.MinInt+2), math.MinInt + 1, true},
	} {
		checkLast(t, c.l, c.want, c.ok)
	}
}

// TestMayNextLastAll: of lists at all edges, each minute that may matter.
func TestMayNextLastAll(t *testing.T) {
	lists(func(l []api.Span) {
		for _, m := range append(ends(), 4, 6, 1<<40, -1<<40) {
			checkMay(t, l, m, has(l, m))
			next, ok := plainNext(l, m)
			checkNext(t, l, m, next, ok)
		}
		last, ok := plainLast(l)
		checkLast(t, l, last, ok)
	})
}

// TestMayNextLastSmall: of all small lists, minute by minute: there is none but from -1 to 4, so that each one behind m can be asked.
func TestMayNextLastSmall(t *testing.T) {
	small(func(l []api.Span) {
		last, next, found := 0, 0, false
		for m := 6; m >= -3; m-- {
			if has(l, m) {
				if !found {
					last = m
				}
				next, found = m, true
			}
			checkMay(t, l, m, has(l, m))
			checkNext(t, l, m, next, found)
		}
		checkLast(t, l, last, found)
	})
}

func checkShut(t *testing.T, l []api.Span, s api.Span, want []api.Span) {
	t.Helper()
	if got := window.Shut(l, s); !slices.Equal(got, want) {
		t.Errorf("Shut(%v, %v) = %v, want %v", l, s, got, want)
	}
}

// TestShut: spans as they may lie to windows, and windows as they may be.
func TestShut(t *testing.T) {
	for _, c := range []struct {
		l    []api.Span
		s    api.Span
		want []api.Span
	}{
		// Ahead of all windows, up to the first one, behind all, from the last one's end on, between two.
		{day(), span(0, 400), spans(0, 400)},
		{day(), span(0, 480), spans(0, 480)},
		{day(), span(1000, 40320), spans(1000, 40320)},
		{day(), span(960, 961), spans(960, 961)},
		{day(), span(720, 840), spans(720, 840)},
		{day(), span(721, 839), spans(721, 839)},
		// In one, and just one.
		{day(), span(500, 600), nil},
		{day(), span(480, 720), nil},
		{day(), span(480, 481), nil},
		{day(), span(719, 720), nil},
		// Over one, over several.
		{day(), span(400, 800), spans(400, 480, 720, 800)},
		{day(), span(479, 721), spans(479, 480, 720, 721)},
		{day(), span(0, 40320), spans(0, 480, 720, 840, 960, 40320)},
		{day(), span(500, 900), spans(720, 840)},
		{day(), span(480, 960), spans(720, 840)},
		{apart(8), span(1, 24), spans(2, 3, 5, 6, 8, 9, 11, 12, 14, 15, 17, 18, 20, 21, 23, 24)},
		// Over a begin alone, an end alone.
		{day(), span(479, 481), spans(479, 480)},
		{day(), span(400, 600), spans(400, 480)},
		{day(), span(719, 721), spans(720, 721)},
		{day(), span(600, 800), spans(720, 800)},
		// They are not right.
		{day(), span(500, 500), nil},
		{day(), span(400, 400), nil},
		{day(), span(800, 400), nil},
		{day(), span(40320, 0), nil},
		{nil, span(5, 5), nil},
		{nil, span(5, 4), nil},
		{day(), span(math.MaxInt, math.MinInt), nil},
		// There are no windows; they touch, overlap, lie one in another, stand in another order; are not right.
		{nil, span(400, 800), spans(400, 800)},
		{[]api.Span{}, span(0, 40320), spans(0, 40320)},
		{spans(480, 720, 720, 960), span(400, 1000), spans(400, 480, 960, 1000)},
		{spans(480, 720, 700, 960), span(400, 1000), spans(400, 480, 960, 1000)},
		{spans(480, 960, 500, 600), span(400, 1000), spans(400, 480, 960, 1000)},
		{spans(500, 600, 480, 960, 480, 960), span(400, 1000), spans(400, 480, 960, 1000)},
		{spans(840, 960, 480, 720), span(400, 1000), spans(400, 480, 720, 840, 960, 1000)},
		{spans(500, 500, 600, 590), span(400, 1000), spans(400, 1000)},
		{spans(500, 500, 480, 720, 980, 970), span(400, 1000), spans(400, 480, 720, 1000)},
		// Beyond the limits, and at both ends of 64 bits.
		{day(), span(-50, 500), spans(-50, 480)},
		{day(), span(900, 50000), spans(960, 50000)},
		{spans(-9, -5), span(-10, 0), spans(-10, -9, -5, 0)},
		{spans(40330, 40340), span(40320, 40350), spans(40320, 40330, 40340, 40350)},
		{day(), span(math.MinInt, math.MaxInt), spans(math.MinInt, 480, 720, 840, 960, math.MaxInt)},
		{nil, span(math.MinInt, math.MaxInt), spans(math.MinInt, math.MaxInt)},
		{nil, span(math.MaxInt-1, math.MaxInt), spans(math.MaxInt-1, math.MaxInt)},
		{nil, span(math.MinInt, math.MinInt+1), spans(math.MinInt, math.MinInt+1)},
		{spans(math.MinInt, math.MaxInt), span(math.MinInt, math.MaxInt), nil},
		{spans(math.MaxInt, math.MinInt), span(math.MinInt, math.MaxInt), spans(math.MinInt, math.MaxInt)},
		{spans(math.MinInt, 0, 1, math.MaxInt), span(math.MinInt, math.MaxInt), spans(0, 1)},
		{spans(math.MaxInt-1, math.MaxInt, math.MinInt, math.MinInt+1), span(math.MinInt, math.MaxInt), spans(math.MinInt+1, math.MaxInt-1)},
	} {
		checkShut(t, c.l, c.s, c.want)
	}
}

// TestShutAll: of lists at all edges, spans from each edge to each.
func TestShutAll(t *testing.T) {
	all, i := from(ends()), 0
	lists(func(l []api.Span) {
		// Not each list with each span, but each span with many lists.
		for range 3 {
			s := all[i%len(all)]
			i++
			checkShut(t, l, s, plainShut(l, s, ends()))
		}
	})
	for _, l := range [][]api.Span{nil, day(), spans(0, 40320), spans(-1, 2, 3, 40321), spans(math.MinInt, 0), spans(5, math.MaxInt)} {
		for _, s := range all {
			at := append(ends(), 480, 720, 840, 960)
			slices.Sort(at)
			checkShut(t, l, s, plainShut(l, s, at))
		}
	}
}

// TestShutSmall: of all lists of up to two small spans, each small span, minute by minute.
func TestShutSmall(t *testing.T) {
	all := from(each(-1, 6))
	for _, a := range all {
		for _, b := range all {
			for _, s := range all {
				for _, l := range [][]api.Span{{a}, {a, b}} {
					checkShut(t, l, s, plainShut(l, s, each(-2, 8)))
				}
			}
		}
	}
}

// many: hands on windows that may be, of all numbers of them, near each other and far.
func many(t *testing.T, do func(l []api.Span, end int)) {
	draws := chance(184)
	for i := range 400 {
		long := []int{3, 10, 100, 2500}[i%4]
		var l []api.Span
		at := draws.Intn(long)
		for range 1 + draws.Intn(api.MaxOpen) {
			w := span(at, at+1+draws.Intn(long))
			l = append(l, w)
			at = w.To + 1 + draws.Intn(long)
		}
		if window.Check(l) != api.OK {
			t.Fatalf("the test itself: %v may not be", l)
		}
		do(l, at)
	}
}

// TestNothingBetween: P18.4. No service may begin between a minute and the next one that is told, in which one may; behind the last one there is none.
func TestNothingBetween(t *testing.T) {
	many(t, func(l []api.Span, end int) {
		last, ok := window.Last(l)
		if !ok || !window.May(l, last) {
			t.Fatalf("Last(%v) = %d, %v, with which none may begin", l, last, ok)
		}
		for m := -3; m < end+3; {
			next, ok := window.Next(l, m)
			if ok != (m <= last) {
				t.Fatalf("Next(%v, %d) = %d, %v, and Last tells %d", l, m, next, ok, last)
			}
			if !ok {
				next = end + 3
			} else if next < m || !window.May(l, next) {
				t.Fatalf("Next(%v, %d) = %d, with which none may begin, or which is below", l, m, next)
			}
			for between := m; between < next; between++ {
				if window.May(l, between) {
					t.Fatalf("Next(%v, %d) = %d, %v, though one may begin with %d", l, m, next, ok, between)
				}
				if again, also := window.Next(l, between); also != ok || ok && again != next {
					t.Fatalf("Next(%v, %d) = %d, %v, and of %d it is %d, %v", l, m, next, ok, between, again, also)
				}
			}
			m = next + 1
		}
	})
}

// TestShutWhereNoneMay: a minute is told as shut just if it is in the span and no service may begin in it; and what is told is a set.
func TestShutWhereNoneMay(t *testing.T) {
	draws := chance(183)
	many(t, func(l []api.Span, end int) {
		edges := []int{-2, 0, end, end + 2, draws.Intn(end), draws.Intn(end)}
		for _, w := range l {
			edges = append(edges, w.From-1, w.From, w.From+1, w.To-1, w.To, w.To+1)
		}
		for range 4 {
			s := span(edges[draws.Intn(len(edges))], edges[draws.Intn(len(edges))])
			shut := window.Shut(l, s)
			for i, u := range shut {
				if u.From >= u.To || i > 0 && u.From <= shut[i-1].To {
					t.Fatalf("Shut(%v, %v) = %v, which is no set", l, s, shut)
				}
			}
			for m := -4; m < end+4; m++ {
				want := s.From <= m && m < s.To && !window.May(l, m)
				if has(shut, m) != want {
					t.Fatalf("Shut(%v, %v) = %v: of minute %d that is wrong", l, s, shut, m)
				}
			}
		}
	})
}

// TestLong: lists of any length, in which what matters stands first, amid the others, or last.
func TestLong(t *testing.T) {
	for _, at := range []int{0, 1, 5000, 9998, 9999} {
		l := slices.Repeat(spans(7, 7), 10000)
		checkCheck(t, l, api.ErrMany)
		checkMay(t, l, 7, false)
		checkNext(t, l, 0, 0, false)
		checkLast(t, l, 0, false)
		checkShut(t, l, span(0, 9), spans(0, 9))
		l[at] = span(3, 5)
		checkMay(t, l, 4, true)
		checkNext(t, l, 0, 3, true)
		checkLast(t, l, 4, true)
		checkShut(t, l, span(0, 9), spans(0, 3, 5, 9))
	}
}

// TestArguments: what is handed in reads as before, and what lies beside it in memory is neither read nor written.
func TestArguments(t *testing.T) {
	besides := []api.Span{span(-9, 40330), span(0, 40320), span(5, 5), span(math.MinInt, math.MaxInt)}
	for _, l := range [][]api.Span{nil, day(), apart(8), apart(9), spans(840, 960, 480, 720), spans(9, 3, 2, 4, 4, 5, 3, 3), spans(math.MaxInt, math.MinInt, -5, 3)} {
		for _, s := range []api.Span{span(0, 40320), span(3, 900), span(500, 500), span(math.MinInt, math.MaxInt)} {
			shut := plainShut(l, s, slices.Compact(slices.Sorted(slices.Values(append(edgesOf(l), s.From, s.To)))))
			kept := sample.Among(l, besides, func(mine []api.Span) {
				checkCheck(t, mine, plainCheck(l))
				for _, m := range []int{-1, 0, 3, 800, 959, 5000} {
					checkMay(t, mine, m, has(l, m))
					next, ok := plainNext(l, m)
					checkNext(t, mine, m, next, ok)
				}
				last, ok := plainLast(l)
				checkLast(t, mine, last, ok)
				checkShut(t, mine, s, shut)
			})
			if !kept {
				t.Errorf("%v does not read as before", l)
			}
		}
	}
}

// edgesOf: all ends of the spans.
func edgesOf(l []api.Span) []int {
	var at []int
	for _, w := range l {
		at = append(at, w.From, w.To)
	}
	return at
}

// TestNewMemory: what is told as shut shares no memory with windows, nor with what is told later, and is not kept.
func TestNewMemory(t *testing.T) {
	l, s := day(), span(0, 2000)
	want := spans(0, 480, 720, 840, 960, 2000)
	one, other := window.Shut(l, s), window.Shut(l, s)
	for i := range one {
		one[i] = span(-7, -7)
	}
	one = append(one[:0:cap(one)], slices.Repeat(spans(-8, -8), cap(one))...)
	if !slices.Equal(other, want) || !slices.Equal(l, day()) {
		t.Errorf("what is done to %v is seen in %v, or in %v", one, other, l)
	}
	checkShut(t, l, s, want)
	clear(l)
	if !slices.Equal(other, want) {
		t.Errorf("what is done to the windows is seen in what was told as shut: %v", other)
	}
	// What was asked before is nothing to what is asked of the same memory now.
	checkCheck(t, l, api.ErrSpan)
	checkMay(t, l, 500, false)
	checkNext(t, l, 0, 0, false)
	checkLast(t, l, 0, false)
	checkShut(t, l, s, spans(0, 2000))
}
