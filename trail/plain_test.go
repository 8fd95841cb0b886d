package trail_test

import (
	"math/rand"
	"slices"
	"testing"

	"haulier/api"
	"haulier/errand"
	"haulier/record"
	"haulier/sample"
	"haulier/trail"
)

// What stands here is the chapter's words, as plainly as can be, minute by minute, so that the tests lean on nothing that they test.

// What is said often here, in short.
var (
	rec  = sample.Rec
	did  = sample.Did
	task = sample.Task
	spot = sample.Spot
)

// walk is a timeline that is gone along minute by minute: the spot up to now, the first minutes that broke clauses, when services began, and the visits.
type walk struct {
	l      []api.Task
	spot   api.Spot
	firsts [4]int
	began  map[int]int
	visits []trail.Visit
}

// walkFrom is nothing gone along yet.
func walkFrom(l []api.Task, s api.Spot) walk {
	return walk{l: l, spot: s, firsts: [4]int{-1, -1, -1, -1}, began: map[int]int{}}
}

// minute goes on by a minute of that kind, as layer 19's Step tells.
func (w *walk) minute(t *testing.T, m, kind int) {
	t.Helper()
	to, broken, err := errand.Step(w.l, w.spot, m, kind)
	if err != api.OK {
		t.Fatalf("the test itself: Step(%v, %v, %d, %d) tells %d", sample.Short(w.l), w.spot, m, kind, err)
	}
	for i, first := range w.firsts {
		if first < 0 && broken&(1<<(10+i)) != 0 {
			w.firsts[i] = m
		}
	}
	// Work is counted as a service, unless it breaks ClWork.
	if kind == api.Work && broken&(1<<11) == 0 {
		if w.spot.Served == 0 {
			w.began[w.spot.Task] = m
		}
		if from, here := w.began[w.spot.Task]; here && w.spot.Served+1 == w.l[w.spot.Task].Serve {
			w.visits = append(w.visits, visits(w.spot.Task, from, m+1)...)
		}
	}
	w.spot = to
}

// found are the findings behind that minute.
func (w *walk) found(last int) []api.Finding {
	var l []api.Finding
	for i, first := range w.firsts {
		if first >= 0 {
			l = append(l, find(10+i, first)...)
		}
	}
	if w.spot.Task != len(w.l) {
		l = append(l, find(14, last)...)
	}
	return l
}

// plain goes along the whole timeline, and tells its last minute, too.
func plain(t *testing.T, l []api.Task, s api.Spot, r []api.Record) (walk, int) {
	t.Helper()
	w, last := walkFrom(l, s), 0
	for _, one := range r {
		for m := one.From; m < one.To; m++ {
			w.minute(t, m, one.Kind)
			last = m
		}
	}
	return w, last
}

// stripped: of the minutes of Drive and Work, one by one, how many of one kind there are side by side.
func stripped(r []api.Record) []int {
	var l []int
	for _, one := range r {
		for range one.To - one.From {
			switch one.Kind {
			case api.Drive:
				l = beside(l, 1)
			case api.Work:
				l = beside(l, -1)
			}
		}
	}
	return l
}

// due: the drives and services from a spot on, one behind the other.
func due(l []api.Task, s api.Spot) []int {
	var due []int
	for i, one := range l {
		drive, serve := one.Drive, one.Serve
		if i < s.Task {
			continue
		}
		if i == s.Task {
			drive, serve = drive-s.Driven, serve-s.Served
		}
		for range drive {
			due = beside(due, 1)
		}
		for range serve {
			due = beside(due, -1)
		}
	}
	return due
}

// beside lays one minute more behind: 1 of Drive, or -1 of Work.
func beside(l []int, one int) []int {
	if end := len(l) - 1; end >= 0 && l[end]*one > 0 {
		l[end] += one
		return l
	}
	return append(l, one)
}

// find is, of each two numbers, a finding: a clause, and the minute that breaks it.
func find(l ...int) []api.Finding {
	var found []api.Finding
	for i := 0; i < len(l); i += 2 {
		found = append(found, api.Finding{Clause: l[i], From: l[i+1], To: l[i+1] + 1})
	}
	return found
}

// visits is, of each three numbers, a visit.
func visits(l ...int) []trail.Visit {
	var visits []trail.Visit
	for i := 0; i < len(l); i += 3 {
		visits = append(visits, trail.Visit{Task: l[i], From: l[i+1], To: l[i+2]})
	}
	return visits
}

// chance draws the same numbers each time.
func chance(seed int64) *rand.Rand { return rand.New(rand.NewSource(seed)) }

// checkTold: of the timeline just this is told, and what follows tasks is, stripped, just what is due.
func checkTold(t *testing.T, l []api.Task, s api.Spot, r []api.Record, want api.Spot, found []api.Finding, visits []trail.Visit) {
	t.Helper()
	to, got, err := trail.Audit(l, s, r)
	if to != want || !slices.Equal(got, found) || err != api.OK {
		t.Errorf("Audit(%v, %v, %v) = %v, %v, %d, want %v, %v", sample.Short(l), s, sample.Short(r), to, got, err, want, found)
	}
	if follows := trail.Follows(l, s, r); follows != (len(found) == 0) {
		t.Errorf("Follows(%v, %v, %v) = %v, and to be found is %v", sample.Short(l), s, sample.Short(r), follows, found)
	}
	if got, err := trail.Visits(l, s, r); !slices.Equal(got, visits) || err != api.OK {
		t.Errorf("Visits(%v, %v, %v) = %v, %d, want %v", sample.Short(l), s, sample.Short(r), sample.Short(got), err, sample.Short(visits))
	}
	if got, err := trail.Strip(r); len(found) == 0 && (!slices.Equal(got, due(l, s)) || err != api.OK) {
		t.Errorf("%v follows %v from %v on, and Strip tells %v, %d of it, want %v", sample.Short(r), sample.Short(l), s, got, err, due(l, s))
	}
}

// checkTrail: of the timeline just this is told, as of the same minutes in other records; and so say the chapter's words, minute by minute.
func checkTrail(t *testing.T, l []api.Task, s api.Spot, r []api.Record, want api.Spot, found []api.Finding, visits []trail.Visit) {
	t.Helper()
	w, last := plain(t, l, s, r)
	if w.spot != want || !slices.Equal(w.found(last), found) || !slices.Equal(w.visits, visits) {
		t.Errorf("the test itself: by the words %v at %v of %v comes to %v, %v, %v, not to %v, %v, %v", r, s, l, w.spot, w.found(last), w.visits, want, found, visits)
	}
	checkTold(t, l, s, r, want, found, visits)
	for _, same := range sample.Alike(r) {
		checkTold(t, l, s, same, want, found, visits)
	}
}

// checkErr: all that asks for tasks, a spot and records tells that error alone.
func checkErr(t *testing.T, l []api.Task, s api.Spot, r []api.Record, want api.Errno) {
	t.Helper()
	if to, found, err := trail.Audit(l, s, r); to != (api.Spot{}) || len(found) != 0 || err != want {
		t.Errorf("Audit(%v, %v, %v) = %v, %v, %d, want %d alone", sample.Short(l), s, sample.Short(r), to, found, err, want)
	}
	if trail.Follows(l, s, r) {
		t.Errorf("Follows(%v, %v, %v), where the error is %d", sample.Short(l), s, sample.Short(r), want)
	}
	if got, err := trail.Visits(l, s, r); len(got) != 0 || err != want {
		t.Errorf("Visits(%v, %v, %v) = %v, %d, want %d alone", sample.Short(l), s, sample.Short(r), sample.Short(got), err, want)
	}
}

// checkStrip: the timeline is stripped to this, as are the same minutes in other records; and so say the chapter's words.
func checkStrip(t *testing.T, r []api.Record, want ...int) {
	t.Helper()
	if got := stripped(r); !slices.Equal(got, want) {
		t.Errorf("the test itself: by the words %v is stripped %v, not %v", sample.Short(r), got, want)
	}
	for _, same := range append(sample.Alike(r), r) {
		if got, err := trail.Strip(same); !slices.Equal(got, want) || err != api.OK {
			t.Errorf("Strip(%v) = %v, %d, want %v", sample.Short(same), sample.Short(got), err, sample.Short(want))
		}
	}
}

// plainErr: what is wrong, as layers 19 and 8 tell it, in the chapter's order.
func plainErr(l []api.Task, s api.Spot, r []api.Record) api.Errno {
	if err := errand.Check(l); err != api.OK {
		return err
	}
	if !errand.Right(l, s) {
		return api.ErrArg
	}
	_, err := record.Check(r)
	return err
}
