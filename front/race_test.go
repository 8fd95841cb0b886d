package front_test

import (
	"math/rand"
	"reflect"
	"slices"
	"testing"

	"haulier/api"
	"haulier/below"
	"haulier/book"
	"haulier/front"
	"haulier/meter"
	"haulier/sample"
)

// TestShortRows: all rows of up to four Puts of few meters, of which some are under others, one may not be, and one is noughts, at two spots.
func TestShortRows(t *testing.T) {
	few := append(drives([2]int{1, 1}, [2]int{1, 2}, [2]int{2, 1}, [2]int{2, 2}), api.Meter{Now: 5000, Acc: -1}, api.Meter{})
	spots := []api.Spot{spot(0, 1, 0), spot(0, 0, 1)}
	var each []had
	for _, s := range spots {
		for _, m := range few {
			each = append(each, had{s, m})
		}
	}
	for long, rows := 1, len(each); long <= 4; long, rows = long+1, rows*len(each) {
		for row := range rows {
			p := both(t, book.Europe())
			for range long {
				one := each[row%len(each)]
				p.put(one.spot, one.meter)
				row /= len(each)
			}
			p.same()
			p.holds()
		}
	}
}

// TestShortRowsOfOne: all rows of up to seven Puts of five meters at one spot, each looked at behind each Put.
func TestShortRowsOfOne(t *testing.T) {
	few := drives([2]int{1, 3}, [2]int{2, 2}, [2]int{3, 1}, [2]int{1, 2}, [2]int{2, 1})
	for row := range 5 * 5 * 5 * 5 * 5 * 5 * 5 {
		p := both(t, book.Europe())
		for range 7 {
			p.put(api.Spot{}, few[row%len(few)])
			p.sameAt(api.Spot{})
			row /= len(few)
		}
		p.holds()
	}
}

// TestOrdersOfMany: meters that are under each other in many ways, in each order in which they may be put: the same stay.
func TestOrdersOfMany(t *testing.T) {
	l := drives([2]int{1, 3}, [2]int{2, 2}, [2]int{3, 1}, [2]int{2, 3}, [2]int{3, 3}, [2]int{1, 3}, [2]int{4, 1})
	sample.Orders(l, func(order []api.Meter) {
		p := both(t, book.Europe())
		for _, m := range order {
			p.put(spot(1, 1, 1), m)
		}
		p.same()
		if want := below.Least(book.Europe(), order); !slices.Equal(p.front.All(spot(1, 1, 1)), want) {
			p.fail("All", p.front.All(spot(1, 1, 1)), want)
		}
	})
}

// near is a meter like m in which a few numbers are others, by a little, as draws tell: it is under m, above it, or neither; seldom it may not be.
func near(draws *rand.Rand, m api.Meter) api.Meter {
	way := 1 - 2*draws.Intn(2)
	for _, n := range sample.MeterNumbers(&m) {
		if draws.Intn(5) == 0 && n != &m.Lie {
			*n += way * draws.Intn(3)
		}
		if draws.Intn(40) > 0 {
			*n = max(0, min(*n, m.Now))
		}
		if draws.Intn(20) == 0 {
			way = -way
		}
	}
	if draws.Intn(6) == 0 {
		m.Split = !m.Split
	}
	if draws.Intn(6) == 0 {
		m.Brief = !m.Brief
	}
	return m
}

// TestDrawn: long rows of Puts, of meters that are near each other or of all kinds, at few spots or many.
func TestDrawn(t *testing.T) {
	draws := chance(24)
	taken, not, away, most, none := 0, 0, 0, 0, 0
	books := sample.May()
	for row := range 500 {
		b := books[row%len(books)]
		p := both(t, b)
		spots := oddSpots()[:1+draws.Intn(9)]
		l := []api.Meter{sample.AnyMeter(draws.Intn, b)}
		for range 60 {
			m := near(draws, l[draws.Intn(len(l))])
			if draws.Intn(12) == 0 {
				m = sample.AnyMeter(draws.Intn, b)
			}
			l = append(l, m)
			before := len(p.plain.had)
			if p.put(spots[draws.Intn(len(spots))], m) {
				taken++
				away += before + 1 - len(p.plain.had)
			} else {
				not++
			}
			if meter.Check(m) != api.OK {
				none++
			}
			p.same()
			most = max(most, len(p.plain.had))
		}
		p.holds()
	}
	if taken < 5000 || not < 2000 || away < 2000 || most < 40 || none < 200 {
		t.Errorf("the test itself: %d were taken, %d not, %d went, %d at most were there, %d may not be", taken, not, away, most, none)
	}
}

// TestTimelines: the meters that drawn timelines come to, minute by minute, at spots by minute and labour, so that some are under others.
func TestTimelines(t *testing.T) {
	draws := chance(240)
	for _, b := range sample.TinyBooks() {
		p := both(t, b)
		for range 25 {
			m := api.Meter{}
			for range 20 {
				next, _, err := meter.Step(b, m, draws.Intn(api.Kinds))
				if err != api.OK {
					break
				}
				m = next
				p.put(spot(m.Now, 0, m.Labour), m)
			}
		}
		p.same()
		p.holds()
	}
}

// TestMany: many meters none of which is under another one, at one spot, and one that all go for; and many spots.
func TestMany(t *testing.T) {
	const many = 1500
	f := begun(t, sample.Highest())
	var l []api.Meter
	for i := range many {
		l = append(l, drove(i, many-i))
	}
	for i, m := range l {
		checkPut(t, f, spot(-1, 0, 0), m, true)
		checkPut(t, f, spot(-1, 0, 0), l[i/2], false)
	}
	checkAll(t, f, spot(-1, 0, 0), l...)
	var spots []api.Spot
	for i := range many {
		spots = append(spots, spot(i/100, i/10%10, i%10))
		checkPut(t, f, spot(i/100, i/10%10, i%10), l[i], true)
	}
	checkLen(t, f, 2*many)
	checkSpots(t, f, append([]api.Spot{spot(-1, 0, 0)}, spots...)...)
	checkPut(t, f, spot(-1, 0, 0), drove(0, 0), true)
	checkLen(t, f, many+1)
	checkAll(t, f, spot(-1, 0, 0), drove(0, 0))
	checkAll(t, f, spots[7], l[7])
}

// TestAlike: the same Puts tell the same each time, of fronts that were made apart, and of one that is asked again.
func TestAlike(t *testing.T) {
	draws := chance(42)
	for range 40 {
		var row []had
		m := busy()
		for range 120 {
			m = near(draws, m)
			row = append(row, had{spot(draws.Intn(5)-2, draws.Intn(3)-1, draws.Intn(3)), m})
		}
		var first []any
		for try := range 8 {
			f := begun(t, book.Europe())
			var told []any
			for _, one := range row {
				told = append(told, f.Put(one.spot, one.meter), f.All(one.spot), f.Len())
			}
			for range 3 {
				l := f.Spots()
				told = append(told, l)
				for _, s := range l {
					told = append(told, f.All(s))
				}
			}
			if try == 0 {
				first = told
			}
			if !reflect.DeepEqual(told, first) {
				t.Fatalf("behind the same Puts something else is told: %v", row)
			}
		}
	}
}

// TestAnswersStay: what All and Spots have handed out reads as before behind later Puts, and what is put behind it, or written to it, doesn't get into the front.
func TestAnswersStay(t *testing.T) {
	draws := chance(7)
	for row := range 300 {
		p := both(t, book.Europe())
		var kept []func() bool
		for range 40 {
			s := spot(draws.Intn(3), 0, 0)
			m := drove(draws.Intn(9+row/10), draws.Intn(9+row/10))
			p.put(s, m)
			kept = append(kept, sample.Stays(p.front.All(s)), sample.Stays(p.front.Spots()))
			meters, spots := p.front.All(s), p.front.Spots()
			_, _ = append(meters, busy()), append(spots, spot(9, 9, 9))
			for i := range meters {
				meters[i] = busy()
			}
			for i := range spots {
				spots[i] = spot(-9, -9, -9)
			}
			p.same()
		}
		for _, same := range kept {
			if !same() {
				p.fail("what was handed out", "something else", "what it told")
			}
		}
	}
}

// TestNothingIsShared: two answers share no memory, nor do two fronts.
func TestNothingIsShared(t *testing.T) {
	f, g := begun(t, book.Europe()), begun(t, book.Europe())
	for i, m := range sample.Rivals() {
		for _, one := range []*front.Front{f, g} {
			checkPut(t, one, api.Spot{}, m, true)
			checkPut(t, one, spot(i, 0, 1), m, true)
		}
	}
	meters, spots := f.All(api.Spot{}), f.Spots()
	others, more := f.All(api.Spot{}), f.Spots()
	for i := range meters {
		meters[i] = busy()
	}
	for i := range spots {
		spots[i] = spot(7, 7, 7)
	}
	if !slices.Equal(others, sample.Rivals()) || len(more) != 7 || more[0] != (api.Spot{}) || more[6] != spot(5, 0, 1) {
		t.Errorf("what is written to one answer stands in another one: %+v, %v", others, more)
	}
	checkPut(t, f, api.Spot{}, api.Meter{Now: 5000}, true)
	checkPut(t, f, spot(9, 9, 9), busy(), true)
	checkAll(t, g, api.Spot{}, sample.Rivals()...)
	checkLen(t, g, 12)
	checkAll(t, g, spot(9, 9, 9))
}
