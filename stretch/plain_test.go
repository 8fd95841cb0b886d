package stretch_test

import (
	"math/rand"
	"testing"

	"haulier/api"
	"haulier/meter"
	"haulier/stretch"
)

// chance: draws that are the same each time.
func chance(seed int64) *rand.Rand { return rand.New(rand.NewSource(seed)) }

// of: the first minutes of these clauses, each with its minute; no others are broken.
func of(l ...[2]int) stretch.Firsts {
	f := stretch.Firsts{-1, -1, -1, -1, -1, -1, -1, -1, -1, -1}
	for _, one := range l {
		f[one[0]] = one[1]
	}
	return f
}

// walk: minutes of one kind, one by one by layer 13: how far they came, to which meter, and what broke first.
type walk struct {
	t      *testing.T
	b      api.Book
	kind   int
	n      int
	meter  api.Meter
	firsts stretch.Firsts
}

// begin: a walk that is to go on from the meter.
func begin(t *testing.T, b api.Book, m api.Meter, kind int) *walk {
	return &walk{t: t, b: b, kind: kind, meter: m, firsts: of()}
}

// minute: goes on by a minute.
func (w *walk) minute() {
	at := w.meter.Now
	after, broken, err := meter.Run(w.b, w.meter, w.kind)
	if err != api.OK {
		w.t.Fatalf("the test itself: by %+v, %+v doesn't go on with %d: %d", w.b, w.meter, w.kind, err)
	}
	for clause := range 10 {
		if broken&(1<<clause) != 0 && w.firsts[clause] == -1 {
			w.firsts[clause] = at
		}
	}
	w.meter, w.n = after, w.n+1
}

// to: goes on until it is n minutes long.
func (w *walk) to(n int) {
	w.t.Helper()
	for w.n < n {
		w.minute()
	}
}

// whole: how many minutes have been gone without a clause that is broken, of those that were gone.
func (w *walk) whole(from int) int {
	least := w.n
	for _, at := range w.firsts {
		if at != -1 {
			least = min(least, at-from)
		}
	}
	return least
}

// checkBlocks: from the meter on blocks of the kind, of each of the lengths, which rise: each against as many minutes one by one; and Far, if they reach MaxTime.
func checkBlocks(t *testing.T, b api.Book, m api.Meter, kind int, lengths ...int) {
	t.Helper()
	w := begin(t, b, m, kind)
	for _, n := range lengths {
		w.to(n)
		got, firsts, err := stretch.Over(b, m, kind, n)
		if got != w.meter || firsts != w.firsts || err != api.OK {
			t.Errorf("Over(%+v, %+v, %d, %d) = %+v, %v, %d, want %+v, %v", b, m, kind, n, got, firsts, err, w.meter, w.firsts)
		}
	}
	if w.meter.Now == 40320 {
		checkFar(t, b, m, kind, w.whole(m.Now))
	}
}

// checkOver: n minutes of the kind turn the meter into want, and break clauses first in these minutes; so it is minute by minute, too.
func checkOver(t *testing.T, b api.Book, m api.Meter, kind, n int, want api.Meter, l ...[2]int) {
	t.Helper()
	w := begin(t, b, m, kind)
	w.to(n)
	if w.meter != want || w.firsts != of(l...) {
		t.Errorf("the test itself: minute by minute %+v goes on with %d minutes of %d to %+v, %v, and should to %+v, %v", m, n, kind, w.meter, w.firsts, want, of(l...))
	}
	got, firsts, err := stretch.Over(b, m, kind, n)
	if got != want || firsts != of(l...) || err != api.OK {
		t.Errorf("Over(%+v, %+v, %d, %d) = %+v, %v, %d, want %+v, %v", b, m, kind, n, got, firsts, err, want, of(l...))
	}
}

// checkFar: Far tells so many minutes; they break nothing, and one more does, if there is room for it.
func checkFar(t *testing.T, b api.Book, m api.Meter, kind, want int) {
	t.Helper()
	if n, err := stretch.Far(b, m, kind); n != want || err != api.OK {
		t.Errorf("Far(%+v, %+v, %d) = %d, %d, want %d", b, m, kind, n, err, want)
	}
	for _, n := range []int{want - 1, want, want + 1} {
		_, firsts, err := stretch.Over(b, m, kind, n)
		wantErr, broken := api.OK, n > want
		if n < 0 || n > 40320-m.Now {
			wantErr, broken = api.ErrRange, false
		}
		if err != wantErr || err == api.OK && (firsts != of()) != broken {
			t.Errorf("Far(%+v, %+v, %d) should be %d, and Over(%d) tells %v, %d", b, m, kind, want, n, firsts, err)
		}
		if broken && stretch.First(firsts) != m.Now+want {
			t.Errorf("First(%v) = %d, want %d", firsts, stretch.First(firsts), m.Now+want)
		}
	}
}

// checkErr: Over tells that error alone; so does Far, if it is none of n.
func checkErr(t *testing.T, b api.Book, m api.Meter, kind, n int, want api.Errno) {
	t.Helper()
	if got, firsts, err := stretch.Over(b, m, kind, n); got != (api.Meter{}) || firsts != (stretch.Firsts{}) || err != want {
		t.Errorf("Over(%+v, %+v, %d, %d) = %+v, %v, %d, want %d alone", b, m, kind, n, got, firsts, err, want)
	}
	if want == api.ErrRange {
		return
	}
	if got, err := stretch.Far(b, m, kind); got != 0 || err != want {
		t.Errorf("Far(%+v, %+v, %d) = %d, %d, want %d alone", b, m, kind, got, err, want)
	}
}
