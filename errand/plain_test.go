package errand_test

import (
	"math/rand"
	"testing"

	"haulier/api"
	"haulier/errand"
	"haulier/sample"
	"haulier/window"
)

// What stands here is the chapter's words, as plainly as can be, minute by minute, so that the tests lean on nothing that they test.

// plainCheck tells what is wrong with tasks.
func plainCheck(l []api.Task) api.Errno {
	if len(l) > 2001 {
		return api.ErrMany
	}
	for _, t := range l {
		if t.Drive < 0 || t.Drive > 10080 {
			return api.ErrRange
		}
		if t.Serve < 0 || t.Serve > 1440 {
			return api.ErrRange
		}
		if t.Serve > 0 && window.Check(t.Open) != api.OK {
			return window.Check(t.Open)
		}
		if t.Serve == 0 && len(t.Open) != 0 {
			return api.ErrArg
		}
	}
	return api.OK
}

// plainRight tells whether a spot is right, of tasks that may be.
func plainRight(l []api.Task, s api.Spot) bool {
	if s.Task < 0 || s.Task > len(l) {
		return false
	}
	if s.Task == len(l) {
		return s.Driven == 0 && s.Served == 0
	}
	t := l[s.Task]
	if s.Driven < 0 || s.Driven > t.Drive || s.Served < 0 || s.Served > t.Serve {
		return false
	}
	if s.Driven != t.Drive && s.Served != 0 {
		return false
	}
	return s.Driven != t.Drive || s.Served != t.Serve
}

// plainLeft tells how much driving is left, and how much service, at a spot that is right.
func plainLeft(l []api.Task, s api.Spot) (int, int) {
	drive, serve := 0, 0
	for i, t := range l {
		if i > s.Task {
			drive, serve = drive+t.Drive, serve+t.Serve
		} else if i == s.Task {
			drive, serve = drive+t.Drive-s.Driven, serve+t.Serve-s.Served
		}
	}
	return drive, serve
}

// plainMinute tells the spot behind a minute of a kind, and the clauses that it breaks.
func plainMinute(l []api.Task, s api.Spot, m, kind int) (api.Spot, map[int]bool) {
	broken := map[int]bool{}
	left := s.Task < len(l)
	if kind == api.Drive {
		if left && s.Driven < l[s.Task].Drive {
			s.Driven++
		} else {
			broken[10] = true
		}
	}
	if kind != api.Work && s.Served > 0 {
		broken[13] = true
	}
	if kind == api.Work {
		if left && s.Driven == l[s.Task].Drive && s.Served < l[s.Task].Serve {
			if s.Served == 0 && !has(l[s.Task].Open, m) {
				broken[12] = true
			}
			s.Served++
		} else {
			broken[11] = true
		}
	}
	for s.Task < len(l) && s.Driven == l[s.Task].Drive && s.Served == l[s.Task].Serve {
		s = spot(s.Task+1, 0, 0)
	}
	return s, broken
}

// plainRecord tells what is wrong with a record alone.
func plainRecord(r api.Record) api.Errno {
	if r.Kind != 0 && r.Kind != 1 && r.Kind != 2 && r.Kind != 3 {
		return api.ErrKind
	}
	if r.From < 0 || r.From > 40320 || r.To < 0 || r.To > 40320 {
		return api.ErrRange
	}
	if r.To <= r.From {
		return api.ErrSpan
	}
	return api.OK
}

// What is said often here, in short.
var (
	has     = sample.Has
	rec     = sample.Rec
	task    = sample.Task
	spot    = sample.Spot
	journey = sample.Journey
	right   = sample.Tasks
	wrong   = sample.NoTasks
	short   = sample.Short[api.Task]
)

// firsts are the first minutes of these clauses, each with its minute; no others are broken.
func firsts(l ...[2]int) errand.Firsts {
	f := errand.Firsts{-1, -1, -1, -1}
	for _, one := range l {
		f[one[0]-10] = one[1]
	}
	return f
}

// chance draws the same numbers each time.
func chance(seed int64) *rand.Rand { return rand.New(rand.NewSource(seed)) }

// checkSpot: whether the spot is right, and whether all is done with it; if it is, what is left.
func checkSpot(t *testing.T, l []api.Task, s api.Spot) {
	t.Helper()
	right := plainCheck(l) == api.OK && plainRight(l, s)
	if got := errand.Right(l, s); got != right {
		t.Errorf("Right(%v, %v) = %v", short(l), s, got)
	}
	if got := errand.Done(l, s); got != (right && s.Task == len(l)) {
		t.Errorf("Done(%v, %v) = %v", short(l), s, got)
	}
	if !right {
		return
	}
	wantDrive, wantServe := plainLeft(l, s)
	if drive, serve, err := errand.Left(l, s); drive != wantDrive || serve != wantServe || err != api.OK {
		t.Errorf("Left(%v, %v) = %d, %d, %d, want %d, %d", short(l), s, drive, serve, err, wantDrive, wantServe)
	}
}

// checkStep: the minute comes to that spot, and breaks these clauses; so does the record of it alone, and so say the chapter's words.
func checkStep(t *testing.T, l []api.Task, s api.Spot, m, kind int, want api.Spot, clauses ...int) {
	t.Helper()
	set, f := 0, firsts()
	for _, c := range clauses {
		set += 1 << c
		f[c-10] = m
	}
	if got, broken, err := errand.Step(l, s, m, kind); got != want || broken != set || err != api.OK {
		t.Errorf("Step(%v, %v, %d, %d) = %v, %d, %d, want %v, %d", short(l), s, m, kind, got, broken, err, want, set)
	}
	if got, broken, err := errand.Over(l, s, rec(kind, m, m+1)); got != want || broken != f || err != api.OK {
		t.Errorf("Over(%v, %v, %v) = %v, %v, %d, want %v, %v", short(l), s, rec(kind, m, m+1), got, broken, err, want, f)
	}
	plain, broken := plainMinute(l, s, m, kind)
	for _, c := range clauses {
		if !broken[c] {
			t.Errorf("the test itself: by the words minute %d of %d at %v of %v doesn't break %d", m, kind, s, short(l), c)
		}
	}
	if plain != want || len(broken) != len(clauses) {
		t.Errorf("the test itself: by the words minute %d of %d at %v of %v comes to %v, %v, not to %v, %v", m, kind, s, short(l), plain, broken, want, clauses)
	}
}

// checkOver: the record comes to that spot, and breaks these clauses first in these minutes; so say the chapter's words, minute by minute.
func checkOver(t *testing.T, l []api.Task, s api.Spot, r api.Record, want api.Spot, clauses ...[2]int) {
	t.Helper()
	w := walk{t: t, l: l, from: s, begin: r.From, kind: r.Kind, spot: s, firsts: firsts()}
	w.to(r.To)
	if w.spot != want || w.firsts != firsts(clauses...) {
		t.Errorf("the test itself: by the words %v at %v of %v comes to %v, %v, not to %v, %v", r, s, short(l), w.spot, w.firsts, want, firsts(clauses...))
	}
	w.check()
}

// walk is minutes of one kind from a spot on, one by one by the chapter's words: how far they came, and what broke first.
type walk struct {
	t           *testing.T
	l           []api.Task
	from        api.Spot
	begin, kind int
	gone        int
	spot        api.Spot
	firsts      errand.Firsts
}

// to goes on up to a minute.
func (w *walk) to(end int) {
	for m := w.begin + w.gone; m < end; m++ {
		after, broken := plainMinute(w.l, w.spot, m, w.kind)
		for c := range broken {
			if w.firsts[c-10] == -1 {
				w.firsts[c-10] = m
			}
		}
		w.spot = after
		w.gone++
	}
}

// check: the record of all these minutes comes to what they came to.
func (w *walk) check() {
	w.t.Helper()
	r := rec(w.kind, w.begin, w.begin+w.gone)
	if got, broken, err := errand.Over(w.l, w.from, r); got != w.spot || broken != w.firsts || err != api.OK {
		w.t.Errorf("Over(%v, %v, %v) = %v, %v, %d, want %v, %v", short(w.l), w.from, r, got, broken, err, w.spot, w.firsts)
	}
}

// checkMinute: Step of the minute is what the chapter's words say; if it breaks nothing, one minute less is left, of its kind alone, and none else; and the spot behind it is right.
func checkMinute(t *testing.T, l []api.Task, s api.Spot, m, kind int) (api.Spot, int) {
	t.Helper()
	want, clauses := plainMinute(l, s, m, kind)
	set := 0
	for c := range clauses {
		set |= 1 << c
	}
	got, broken, err := errand.Step(l, s, m, kind)
	if got != want || broken != set || err != api.OK {
		t.Fatalf("Step(%v, %v, %d, %d) = %v, %d, %d, want %v, %d", short(l), s, m, kind, got, broken, err, want, set)
	}
	if !errand.Right(l, got) {
		t.Errorf("Step(%v, %v, %d, %d) = %v, which is not right", short(l), s, m, kind, got)
	}
	if broken != 0 {
		return got, broken
	}
	wantDrive, wantServe, _ := errand.Left(l, s)
	switch kind {
	case api.Drive:
		wantDrive--
	case api.Work:
		wantServe--
	}
	if drive, serve, err := errand.Left(l, got); drive != wantDrive || serve != wantServe || err != api.OK {
		t.Errorf("behind Step(%v, %v, %d, %d) = %v there is left %d, %d, %d, want %d, %d", short(l), s, m, kind, got, drive, serve, err, wantDrive, wantServe)
	}
	return got, broken
}

// checkTold: all that asks for a spot tells that error alone, whatever is asked.
func checkTold(t *testing.T, l []api.Task, s api.Spot, want api.Errno) {
	t.Helper()
	if errand.Right(l, s) || errand.Done(l, s) {
		t.Errorf("Right(%v, %v) or Done of them", short(l), s)
	}
	if drive, serve, err := errand.Left(l, s); drive != 0 || serve != 0 || err != want {
		t.Errorf("Left(%v, %v) = %d, %d, %d, want %d alone", short(l), s, drive, serve, err, want)
	}
	for _, kind := range []int{0, 1, 2, 3, -1, 4} {
		for _, m := range []int{5, 40319, 40320, -1} {
			checkStepErr(t, l, s, m, kind, want)
			checkOverErr(t, l, s, rec(kind, m, 7), want)
		}
	}
}

// checkStepErr: Step tells that error alone.
func checkStepErr(t *testing.T, l []api.Task, s api.Spot, m, kind int, want api.Errno) {
	t.Helper()
	if got, broken, err := errand.Step(l, s, m, kind); got != (api.Spot{}) || broken != 0 || err != want {
		t.Errorf("Step(%v, %v, %d, %d) = %v, %d, %d, want %d alone", short(l), s, m, kind, got, broken, err, want)
	}
}

// checkOverErr: Over tells that error alone.
func checkOverErr(t *testing.T, l []api.Task, s api.Spot, r api.Record, want api.Errno) {
	t.Helper()
	if got, broken, err := errand.Over(l, s, r); got != (api.Spot{}) || broken != (errand.Firsts{}) || err != want {
		t.Errorf("Over(%v, %v, %v) = %v, %v, %d, want %d alone", short(l), s, r, got, broken, err, want)
	}
}
