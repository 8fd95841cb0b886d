package front_test

import (
	"math/rand"
	"slices"
	"testing"

	"haulier/api"
	"haulier/below"
	"haulier/front"
	"haulier/sample"
)

// chance is a source of draws that is the same each time.
func chance(seed int64) *rand.Rand { return rand.New(rand.NewSource(seed)) }

// had is a meter, and the spot at which it is.
type had struct {
	spot  api.Spot
	meter api.Meter
}

// list is a front as one list of what it has, in the order in which that was put.
type list struct {
	book api.Book
	had  []had
}

// put: if the list has a meter at the spot that is under m, or is the same: false, and nothing is changed; else it has m at the spot, and no more those there that m is under: true.
func (p *list) put(s api.Spot, m api.Meter) bool {
	var left []had
	for _, one := range p.had {
		if one.spot == s && (below.Under(p.book, one.meter, m) || one.meter == m) {
			return false
		}
		if one.spot != s || !below.Under(p.book, m, one.meter) {
			left = append(left, one)
		}
	}
	p.had = append(left, had{s, m})
	return true
}

// all: the meters at the spot, in order.
func (p *list) all(s api.Spot) []api.Meter {
	var l []api.Meter
	for _, one := range p.had {
		if one.spot == s {
			l = append(l, one.meter)
		}
	}
	return l
}

// numbers are a spot's ones, in the order in which they are compared.
func numbers(s api.Spot) []int { return []int{s.Task, s.Driven, s.Served} }

// spots: those at which the list has some, by Task, then Driven, then Served.
func (p *list) spots() []api.Spot {
	var l []api.Spot
	for _, one := range p.had {
		if !slices.Contains(l, one.spot) {
			l = append(l, one.spot)
		}
	}
	slices.SortFunc(l, func(a, b api.Spot) int { return slices.Compare(numbers(a), numbers(b)) })
	return l
}

// pair is a front, a list that has to have the same, and what was put up to now, be it taken or not.
type pair struct {
	t     *testing.T
	front *front.Front
	plain list
	was   []had
}

// both begins a front and a list of the book.
func both(t *testing.T, b api.Book) *pair {
	t.Helper()
	p := &pair{t: t, front: begun(t, b), plain: list{book: b}}
	p.same()
	return p
}

// fail tells what was put up to now, and ends the test.
func (p *pair) fail(what string, got, want any) {
	p.t.Helper()
	p.t.Fatalf("by %+v, behind %+v: %s tells %+v, want %+v", p.plain.book, p.was, what, got, want)
}

// put puts the meter at the spot, in both, and tells whether they took it.
func (p *pair) put(s api.Spot, m api.Meter) bool {
	p.t.Helper()
	p.was = append(p.was, had{s, m})
	want := p.plain.put(s, m)
	if got := p.front.Put(s, m); got != want {
		p.fail("the last Put", got, want)
	}
	return want
}

// same: the front has the same meters at the same spots.
func (p *pair) same() {
	p.t.Helper()
	if got, want := p.front.Len(), len(p.plain.had); got != want {
		p.fail("Len", got, want)
	}
	if got, want := p.front.Spots(), p.plain.spots(); !slices.Equal(got, want) {
		p.fail("Spots", got, want)
	}
	looked := map[api.Spot]bool{}
	for _, one := range p.was {
		if !looked[one.spot] {
			looked[one.spot] = true
			p.sameAt(one.spot)
		}
	}
}

// sameAt: the front has the same meters at the spot.
func (p *pair) sameAt(s api.Spot) {
	p.t.Helper()
	if got, want := p.front.All(s), p.plain.all(s); !slices.Equal(got, want) {
		p.fail("All", got, want)
	}
}

// holds: of the meters at a spot none is under another one; and whatever was put there, one of them is under it, or is it.
func (p *pair) holds() {
	p.t.Helper()
	for _, s := range p.front.Spots() {
		l := p.front.All(s)
		for i, one := range l {
			for j, other := range l {
				if i != j && (one == other || below.Under(p.plain.book, one, other)) {
					p.fail("All", l, "none that is under another one")
				}
			}
		}
	}
	for _, one := range p.was {
		if !slices.ContainsFunc(p.front.All(one.spot), func(m api.Meter) bool {
			return m == one.meter || below.Under(p.plain.book, m, one.meter)
		}) {
			p.fail("All", p.front.All(one.spot), []any{"one under", one.meter})
		}
	}
}

// begun is a new front of the book.
func begun(t *testing.T, b api.Book) *front.Front {
	t.Helper()
	f, err := front.New(b)
	if f == nil || err != api.OK {
		t.Fatalf("New(%+v) = %v, %d", b, f, err)
	}
	return f
}

// checkPut: whether the front takes the meter.
func checkPut(t *testing.T, f *front.Front, s api.Spot, m api.Meter, want bool) {
	t.Helper()
	if got := f.Put(s, m); got != want {
		t.Errorf("Put(%+v, %+v) = %t, want %t", s, m, got, want)
	}
}

// checkAll: the meters at the spot, told twice.
func checkAll(t *testing.T, f *front.Front, s api.Spot, want ...api.Meter) {
	t.Helper()
	for range 2 {
		if got := f.All(s); !slices.Equal(got, want) {
			t.Errorf("All(%+v) = %+v, want %+v", s, sample.Short(got), sample.Short(want))
		}
	}
}

// checkLen: how many meters the front has.
func checkLen(t *testing.T, f *front.Front, want int) {
	t.Helper()
	if got := f.Len(); got != want {
		t.Errorf("Len() = %d, want %d", got, want)
	}
}

// checkSpots: the spots at which the front has meters, told twice.
func checkSpots(t *testing.T, f *front.Front, want ...api.Spot) {
	t.Helper()
	for range 2 {
		if got := f.Spots(); !slices.Equal(got, want) {
			t.Errorf("Spots() = %v, want %v", sample.Short(got), sample.Short(want))
		}
	}
}

// checkNone: the front has no meters.
func checkNone(t *testing.T, f *front.Front) {
	t.Helper()
	checkLen(t, f, 0)
	checkSpots(t, f)
	for _, s := range oddSpots() {
		checkAll(t, f, s)
	}
}
