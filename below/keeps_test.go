package below_test

import (
	"math/rand"
	"testing"

	"haulier/api"
	"haulier/below"
	"haulier/book"
	"haulier/meter"
	"haulier/sample"
	"haulier/stretch"
)

// race: two drivers, of whom the first is under the second, who go on by the same minutes.
type race struct {
	t    *testing.T
	b    api.Book
	x, y api.Meter
}

// on: goes on by n minutes of the kind, and tells whether the second driver broke nothing by them; then the first may have broken nothing, and must be under the second.
func (r *race) on(kind, n int) bool {
	x, firstsX, errX := stretch.Over(r.b, r.x, kind, n)
	y, firstsY, errY := stretch.Over(r.b, r.y, kind, n)
	if errX != errY {
		r.t.Errorf("by %+v, %d minutes of %d tell %d behind %+v, and %d behind %+v", r.b, n, kind, errX, r.x, errY, r.y)
	}
	if errX != api.OK || errY != api.OK || stretch.First(firstsY) >= 0 {
		return false
	}
	if first := stretch.First(firstsX); first >= 0 {
		r.t.Errorf("by %+v, %d minutes of %d break nothing behind %+v, and %v behind %+v, that is under it", r.b, n, kind, r.y, firstsX, r.x)
	}
	if !below.Under(r.b, x, y) {
		r.t.Errorf("by %+v, behind %d minutes of %d, %+v is not under %+v, where %+v was under %+v", r.b, n, kind, x, y, r.x, r.y)
	}
	r.x, r.y = x, y
	return !r.t.Failed()
}

// far: goes on by spells at the edges, as far as the second driver breaks nothing, and tells how many minutes it went.
func (r *race) far(draws *rand.Rand, lengths []int) int {
	from := r.y.Now
	for range 40 {
		kind := draws.Intn(api.Kinds)
		if draws.Intn(3) == 0 {
			kind = api.Rest
		}
		most, _ := stretch.Far(r.b, r.y, kind)
		n := min(lengths[draws.Intn(len(lengths))], most)
		if draws.Intn(6) == 0 {
			n = most
		}
		if n > 0 && !r.on(kind, n) {
			break
		}
	}
	return r.y.Now - from
}

// lengths: how long spells are tried by the book.
func lengths(b api.Book) []int {
	l := []int{1, 1, 2, 3}
	for _, n := range book.Numbers(b) {
		l = append(l, max(1, n-1), max(1, n), n+1)
	}
	return l
}

// pair: two meters of which the first is under the second, as draws tell; most pairs differ.
func pair(draws *rand.Rand, b api.Book) (x, y api.Meter) {
	y = sample.AnyMeter(draws.Intn, b)
	if draws.Intn(2) == 0 {
		y = fresh(draws, b)
	}
	for range 20 {
		if x = better(draws, b, y); below.Under(b, x, y) {
			return x, y
		}
	}
	return y, y
}

// fresh: a meter behind which many minutes break nothing: much of what the book limits is left.
func fresh(draws *rand.Rand, b api.Book) api.Meter {
	m := api.Meter{Now: some(draws, 30000), Half: draws.Intn(2) == 0, Split: draws.Intn(2) == 0, Brief: draws.Intn(2) == 0}
	upTo := func(most int) int { return draws.Intn(max(0, min(m.Now, most)) + 1) }
	m.Acc, m.Day, m.Longers, m.Reduces = upTo(b.Drive), upTo(b.Longer), upTo(b.Longers), upTo(b.Reduces)
	m.Week, m.Labour = upTo(min(b.Week, b.Fortnight)), upTo(b.Labour)
	m.Last = upTo(b.Fortnight - m.Week)
	m.Dawn, m.Sabbath = m.Now-upTo(b.Round-b.Reduced), m.Now-upTo(b.Rounds)
	if draws.Intn(2) == 0 {
		m.Lie = upTo(b.Short)
	}
	return m
}

// TestKeeps: P17.3: by many books, from many meters on, as far as minutes break nothing.
func TestKeeps(t *testing.T) {
	draws := chance(173)
	differ, went := 0, 0
	for _, b := range sample.May() {
		l := lengths(b)
		for range 150 {
			x, y := pair(draws, b)
			r := race{t: t, b: b, x: x, y: y}
			n := r.far(draws, l)
			if t.Failed() {
				return
			}
			if x != y {
				differ, went = differ+1, went+n
			}
		}
	}
	if differ < 5000 || went < 5000000 {
		t.Errorf("the test itself: only %d pairs differ, and went only %d minutes", differ, went)
	}
}

// TestKeepsAll: P17.3: by books of small numbers, all minutes up to some, from all meters on that differ about longer days, splits and brief rests.
func TestKeepsAll(t *testing.T) {
	draws := chance(31)
	for _, b := range sample.TinyBooks() {
		for range 12 {
			x, y := pair(draws, b)
			keepsAll(&race{t: t, b: b, x: x, y: y}, 5)
			if t.Failed() {
				return
			}
		}
	}
}

// keepsAll: all minutes up to so many, as far as they break nothing behind the second driver.
func keepsAll(r *race, most int) {
	if most == 0 || r.y.Now == api.MaxTime {
		return
	}
	for kind := range api.Kinds {
		next := *r
		if next.on(kind, 1) {
			keepsAll(&next, most-1)
		}
	}
}

// small: all meters at a minute that differ in a few fields, around the edges of a day and of how many longer ones there may be.
func small(b api.Book, now int) []api.Meter {
	var l []api.Meter
	for day := max(0, b.Day-2); day <= b.Day+1; day++ {
		for longers := range b.Longers + 3 {
			for bits := range 4 {
				l = append(l, api.Meter{Now: now, Dawn: now, Sabbath: now, Day: day, Longers: longers, Split: bits&1 > 0, Brief: bits&2 > 0})
			}
		}
	}
	return l
}

// TestKeepsLongers: P17.3: about longer days, from each two of many meters on of which one is under the other; and where it is not for them alone, minutes tell why.
func TestKeepsLongers(t *testing.T) {
	b := sample.Changed(func(b *api.Book) { b.Day, b.Longer, b.Longers, b.Drive, b.Week = 540, 1000, 2, 5000, 8000 })
	l := small(b, 3000)
	for _, x := range l {
		for _, y := range l {
			r := race{t: t, b: b, x: x, y: y}
			if !below.Under(b, x, y) {
				continue
			}
			for _, n := range []int{1, 2, 3, 20} {
				again := r
				if again.on(api.Drive, n) {
					again.on(api.Rest, 660)
					again.on(api.Drive, 541)
				}
			}
		}
	}
	tight := days(api.Meter{Now: 3000, Dawn: 3000, Sabbath: 3000}, 540, 2)
	loose := days(tight, 541, 2)
	if _, broken, _ := meter.Step(b, loose, api.Drive); broken != 0 {
		t.Errorf("the test itself: a minute behind %+v breaks %d", loose, broken)
	}
	if _, broken, _ := meter.Step(b, tight, api.Drive); broken != 1<<api.ClLongers {
		t.Errorf("the test itself: a minute behind %+v breaks %d", tight, broken)
	}
	checkUnder(t, b, tight, loose, false)
}

// TestOrder: P17.4: a meter that may be is under itself; what is under what is under a third one is under that; two that are under each other are the same.
func TestOrder(t *testing.T) {
	draws := chance(174)
	chains := 0
	for _, b := range sample.May() {
		for range 400 {
			z := sample.AnyMeter(draws.Intn, b)
			y := better(draws, b, z)
			x := better(draws, b, y)
			checkOrder(t, b, x, y, z)
			if x != y && y != z && below.Under(b, x, y) && below.Under(b, y, z) {
				chains++
			}
		}
	}
	if chains < 5000 {
		t.Errorf("the test itself: there were only %d chains", chains)
	}
}

// checkOrder: P17.4, of these meters that may be, in this order.
func checkOrder(t *testing.T, b api.Book, x, y, z api.Meter) {
	t.Helper()
	for _, m := range []api.Meter{x, y, z} {
		if !below.Under(b, m, m) {
			t.Errorf("by %+v, %+v is not under itself", b, m)
		}
	}
	first, second := below.Under(b, x, y), below.Under(b, y, z)
	if first && second && !below.Under(b, x, z) {
		t.Errorf("by %+v, %+v is under %+v, and that under %+v, but it is not under this", b, x, y, z)
	}
	if first && x != y && below.Under(b, y, x) {
		t.Errorf("by %+v, %+v and %+v are under each other", b, x, y)
	}
}

// TestOrderAll: P17.4: each three of many meters about longer days.
func TestOrderAll(t *testing.T) {
	for _, most := range []int{0, 1, 2} {
		b := sample.Tiny()
		b.Longers = most
		l := small(b, 50)
		for _, x := range l {
			for _, y := range l {
				if !below.Under(b, x, y) {
					continue
				}
				for _, z := range l {
					checkOrder(t, b, x, y, z)
				}
			}
		}
	}
}
