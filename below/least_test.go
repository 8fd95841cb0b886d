package below_test

import (
	"slices"
	"testing"

	"haulier/api"
	"haulier/below"
	"haulier/book"
	"haulier/meter"
	"haulier/sample"
)

// inTurn: the meters among these, in the list's order, each once.
func inTurn(l []api.Meter, these ...api.Meter) []api.Meter {
	var some []api.Meter
	for _, m := range l {
		if slices.Contains(these, m) && !slices.Contains(some, m) {
			some = append(some, m)
		}
	}
	return some
}

// TestLeastFew: of no meters, and of one.
func TestLeastFew(t *testing.T) {
	for _, b := range slices.Concat(sample.May(), sample.NoBooks()) {
		for _, l := range [][]api.Meter{nil, {}, make([]api.Meter, 0, 9)} {
			if got := below.Least(b, l); len(got) != 0 {
				t.Errorf("the least of none are %+v", got)
			}
		}
		for _, m := range append(sample.BadMeters(), api.Meter{}, busy(), resting(), full(40320)) {
			checkLeast(t, b, []api.Meter{m}, m)
		}
	}
}

// TestLeastSame: of meters that are all the same, and of the same ones several times among others, the first ones.
func TestLeastSame(t *testing.T) {
	l := sample.Rivals()
	one, two, three := l[0], l[1], l[2]
	for _, b := range sample.May() {
		for _, m := range []api.Meter{{}, busy(), full(40320), {Now: -1}} {
			checkLeast(t, b, []api.Meter{m, m}, m)
			checkLeast(t, b, slices.Repeat([]api.Meter{m}, 9), m)
		}
		checkLeast(t, b, []api.Meter{one, two, one}, one, two)
		checkLeast(t, b, []api.Meter{one, two, two, three, one, two}, one, two, three)
		checkLeast(t, b, []api.Meter{three, one, three, two, one, three}, three, one, two)
	}
	less := with(one, func(m *api.Meter) { m.Acc = 0 })
	checkLeast(t, book.Europe(), []api.Meter{one, less, one}, less)
	checkLeast(t, book.Europe(), []api.Meter{one, one, less, less, one}, less)
	checkLeast(t, book.Europe(), []api.Meter{one, two, one, less, two, one}, two, less)
}

// TestLeastChain: of meters each of which is under the next one the first, in each order.
func TestLeastChain(t *testing.T) {
	l := sample.Rungs()
	for i, m := range l[1:] {
		checkUnder(t, book.Europe(), l[i], m, true)
		checkUnder(t, book.Europe(), m, l[i], false)
	}
	sample.Orders(l, func(order []api.Meter) {
		checkLeast(t, book.Europe(), order, l[0])
		checkLeast(t, book.Europe(), append(order, order...), l[0])
	})
	for i := range l {
		back := slices.Clone(l[i:])
		slices.Reverse(back)
		checkLeast(t, book.Europe(), l[i:], l[i])
		checkLeast(t, book.Europe(), back, l[i])
	}
}

// TestLeastApart: of meters none of which is under another one all, in each order.
func TestLeastApart(t *testing.T) {
	sample.Orders(sample.Rivals(), func(order []api.Meter) {
		checkLeast(t, book.Europe(), order, order...)
	})
}

// TestLeastMixed: of two chains, and of meters that none is under, in each order.
func TestLeastMixed(t *testing.T) {
	l := sample.Rungs()
	low, mid, high := l[0], l[2], l[4]
	other := with(low, func(m *api.Meter) { m.Now = 6000 })
	above := with(other, func(m *api.Meter) { m.Last = 7 })
	alone := with(high, func(m *api.Meter) { m.Acc, m.Last = 0, 3000 })
	bad := with(low, func(m *api.Meter) { m.Acc = -1 })
	sample.Orders([]api.Meter{low, mid, high, other, above, alone, bad}, func(order []api.Meter) {
		checkLeast(t, book.Europe(), order, inTurn(order, low, other, alone, bad)...)
	})
	checkLeast(t, book.Europe(), []api.Meter{high, alone, mid}, alone, mid)
	checkLeast(t, book.Europe(), []api.Meter{high, other, alone, mid, above, low}, other, alone, low)
}

// TestLeastNoMeters: meters that may not be stay, each once, among others and several times, and leave none out.
func TestLeastNoMeters(t *testing.T) {
	l := sample.Rungs()
	low, high := l[0], l[4]
	one := with(low, func(m *api.Meter) { m.Acc = -5 })
	two := with(low, func(m *api.Meter) { m.Acc = -4 })
	three := with(high, func(m *api.Meter) { m.Labour = 5001 })
	sample.Orders([]api.Meter{one, low, two, high, three, one}, func(order []api.Meter) {
		checkLeast(t, book.Europe(), order, inTurn(order, one, low, two, three)...)
	})
	for _, bad := range sample.NoMeters() {
		good := api.Meter{Now: 5000}
		checkLeast(t, book.Europe(), []api.Meter{bad, good, bad, full(5000), bad}, inTurn([]api.Meter{bad, good, full(5000)}, bad, good, full(5000))...)
		checkLeast(t, sample.Tiny(), []api.Meter{bad, {Now: bad.Now}, full(bad.Now), bad}, plainLeast(sample.Tiny(), []api.Meter{bad, {Now: bad.Now}, full(bad.Now)})...)
	}
}

// TestLeastNoBooks: by books that may not be all stay, each once.
func TestLeastNoBooks(t *testing.T) {
	l := sample.Rungs()
	some := slices.Concat(l, sample.Rivals(), l, sample.BadMeters(), sample.Rivals(), sample.BadMeters())
	for _, b := range sample.NoBooks() {
		checkLeast(t, b, some, inTurn(some, some...)...)
		checkLeast(t, b, []api.Meter{l[2], l[0], l[2], l[1]}, l[2], l[0], l[1])
	}
}

// TestLeastMany: the more meters that are alike, and the longer a list, the least are those that the document tells.
func TestLeastMany(t *testing.T) {
	draws := chance(71)
	kept, all := 0, 0
	for _, b := range sample.May() {
		for turn := range 8 {
			l := []api.Meter{sample.AnyMeter(draws.Intn, b)}
			for len(l) < 5+5*turn {
				m := l[draws.Intn(len(l))]
				switch draws.Intn(6) {
				case 0:
					m = sample.AnyMeter(draws.Intn, b)
				case 1:
					n := numbers()[draws.Intn(len(numbers()))]
					*n.of(&m) = some(draws, m.Now) - draws.Intn(2)
				case 2:
				default:
					m = better(draws, b, m)
				}
				l = append(l, m)
			}
			draws.Shuffle(len(l), func(i, j int) { l[i], l[j] = l[j], l[i] })
			want := plainLeast(b, l)
			checkLeast(t, b, l, want...)
			kept, all = kept+len(want), all+len(l)
		}
	}
	if kept < all/10 || kept > all*9/10 {
		t.Errorf("the test itself: of %d meters %d are the least", all, kept)
	}
}

// TestLeastWide: of all meters of a few small fields, those that none is under.
func TestLeastWide(t *testing.T) {
	var l []api.Meter
	for acc := range 4 {
		for day := range 4 {
			for last := range 4 {
				for bits := range 8 {
					if acc+day+last >= 4 {
						l = append(l, api.Meter{Now: 9, Acc: acc, Day: day, Last: last, Half: bits&1 > 0, Split: bits&2 > 0, Brief: bits&4 > 0})
					}
				}
			}
		}
	}
	var want []api.Meter
	for _, m := range l {
		if m.Acc+m.Day+m.Last == 4 && m.Split && !m.Brief {
			want = append(want, m)
		}
	}
	b := sample.Changed(func(b *api.Book) { b.Day = 9 })
	checkLeast(t, b, l, want...)
	slices.Reverse(l)
	slices.Reverse(want)
	checkLeast(t, b, l, want...)
}

// TestLeastLong: of many meters, each better than those ahead, the last one; the other way about the first one; and of many at different minutes all.
func TestLeastLong(t *testing.T) {
	var fall, rise, wide []api.Meter
	for i := range 3000 {
		fall = append(fall, api.Meter{Now: 5000, Acc: 3000 - i})
		rise = append(rise, api.Meter{Now: 5000, Acc: i})
		wide = append(wide, api.Meter{Now: i})
	}
	b := book.Europe()
	for _, one := range []struct{ l, want []api.Meter }{{fall, fall[2999:]}, {rise, rise[:1]}, {wide, wide}} {
		if got := below.Least(b, one.l); !slices.Equal(got, one.want) {
			t.Errorf("the least of %+v and on are %d, want %d", sample.Short(one.l), len(got), len(one.want))
		}
	}
}

// TestReadsOnly: what is handed in reads as before behind each call, and what lies beside a list is nothing to it.
func TestReadsOnly(t *testing.T) {
	besides := []api.Meter{{}, {Now: 5000, Dawn: 5000, Sabbath: 5000, Split: true}, {Now: -1}, full(5000)}
	l := sample.Rungs()
	for _, b := range []api.Book{book.Europe(), sample.Tiny(), {}} {
		for _, list := range [][]api.Meter{nil, l, sample.Rivals(), sample.BadMeters(), slices.Concat(l[3:], l[:3], sample.Rivals(), l, sample.BadMeters())} {
			before, want := b, plainLeast(b, list)
			if !sample.Among(list, besides, func(mine []api.Meter) { checkLeast(t, b, mine, want...) }) || b != before {
				t.Errorf("behind Least(%+v) what was handed in doesn't read as before", sample.Short(list))
			}
		}
	}
	b, x, y := book.Europe(), l[0], l[1]
	below.Under(b, x, y)
	if b != book.Europe() || x != l[0] || y != l[1] {
		t.Errorf("behind Under what was handed in reads %+v, %+v, %+v", b, x, y)
	}
}

// TestNewMemory: an answer shares no memory with the list, nor with another answer, be all of the list in it or not.
func TestNewMemory(t *testing.T) {
	for _, list := range [][]api.Meter{sample.Rivals(), sample.Rungs(), sample.BadMeters(), slices.Concat(sample.Rungs(), sample.Rivals())} {
		mine := slices.Clone(list)
		one, two := below.Least(book.Europe(), mine), below.Least(book.Europe(), mine)
		want := slices.Clone(two)
		for i := range one {
			one[i] = busy()
		}
		one = append(one, busy())
		if !slices.Equal(mine, list) || !slices.Equal(two, want) {
			t.Errorf("what is written to an answer stands in %+v, or in %+v", sample.Short(mine), sample.Short(two))
		}
		for i := range mine {
			mine[i] = api.Meter{}
		}
		if !slices.Equal(two, want) {
			t.Errorf("what is written to a list stands in the answer %+v", sample.Short(two))
		}
	}
}

// TestKeepsNothing: what is asked in between changes no answer.
func TestKeepsNothing(t *testing.T) {
	b, l := book.Europe(), slices.Concat(sample.Rungs(), sample.Rivals())
	want := below.Least(b, l)
	for _, other := range slices.Concat(sample.May(), sample.NoBooks()) {
		below.Under(other, l[0], l[1])
		below.Least(other, sample.Rivals())
		if got := below.Least(b, l); !slices.Equal(got, want) || !below.Under(b, l[0], l[1]) || below.Under(b, l[1], l[0]) {
			t.Errorf("asked again, Least tells %+v, and told %+v", sample.Short(got), sample.Short(want))
		}
	}
}

// TestLeastKeeps: of real drivers' meters, each of a timeline's parts, that are at the same minute.
func TestLeastKeeps(t *testing.T) {
	draws := chance(9)
	for _, b := range sample.TinyBooks() {
		var l []api.Meter
		for range 60 {
			m, _, err := meter.Of(b, sample.AnyTimeline(draws.Intn, b, 30))
			if err != api.OK {
				t.Fatalf("the test itself: no timeline: %d", err)
			}
			l = append(l, m)
		}
		least := below.Least(b, l)
		checkLeast(t, b, l, plainLeast(b, l)...)
		for _, m := range l {
			if !slices.ContainsFunc(least, func(other api.Meter) bool { return below.Under(b, other, m) }) {
				t.Errorf("by %+v, none of the least is under %+v", b, m)
			}
		}
	}
}
