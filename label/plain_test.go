package label_test

import (
	"math/rand"
	"slices"
	"testing"

	"haulier/api"
	"haulier/book"
	"haulier/errand"
	"haulier/label"
	"haulier/meter"
	"haulier/sample"
)

// What stands here is the chapter's words, as plainly as can be, by the calls of the layers below that they name.

// plainCheck: ErrBook: the book may not be; layer 19's Check's error; ErrArg: the meter may not be, or the spot is not right.
func plainCheck(b api.Book, l []api.Task, x label.Label) api.Errno {
	if book.Check(b) != api.OK {
		return api.ErrBook
	}
	if err := errand.Check(l); err != api.OK {
		return err
	}
	if meter.Check(x.M) != api.OK || !errand.Right(l, x.S) {
		return api.ErrArg
	}
	return api.OK
}

// plainMinute: the label behind a minute of the kind, and whether neither layer 13's Step nor layer 19's tells a clause, or an error.
func plainMinute(b api.Book, l []api.Task, x label.Label, kind int) (label.Label, bool) {
	m, broken, noMeter := meter.Step(b, x.M, kind)
	s, more, noSpot := errand.Step(l, x.S, x.M.Now, kind)
	if noMeter != api.OK || noSpot != api.OK || broken != 0 || more != 0 {
		return label.Label{}, false
	}
	return at(m, s), true
}

// plainWays: of Drive, Work, Rest, Avail, in this order, those of which a minute may follow.
func plainWays(b api.Book, l []api.Task, x label.Label) []label.Next {
	var ways []label.Next
	for _, kind := range []int{3, 2, 0, 1} {
		if to, may := plainMinute(b, l, x, kind); may {
			ways = append(ways, label.Next{Kind: kind, To: to})
		}
	}
	return ways
}

// plainPlay: the label behind the kinds' minutes, one behind the other, if each may follow.
func plainPlay(b api.Book, l []api.Task, x label.Label, kinds ...int) (label.Label, bool) {
	may := true
	for _, kind := range kinds {
		if may {
			x, may = plainMinute(b, l, x, kind)
		}
	}
	return x, may
}

// plainBound: Now, and how many minutes of driving and of services are left, of tasks and a label that may be.
func plainBound(l []api.Task, x label.Label) int {
	drive, serve, _ := errand.Left(l, x.S)
	return x.M.Now + drive + serve
}

// What is said often here, in short.
var (
	task    = sample.Task
	spot    = sample.Spot
	with    = sample.With
	busy    = sample.Busy
	journey = sample.Journey
	short   = sample.Short[api.Task]
)

// chance draws the same numbers each time.
func chance(seed int64) func(n int) int { return rand.New(rand.NewSource(seed)).Intn }

// at is a label.
func at(m api.Meter, s api.Spot) label.Label { return label.Label{M: m, S: s} }

// way is one of the ways.
func way(kind int, m api.Meter, s api.Spot) label.Next {
	return label.Next{Kind: kind, To: at(m, s)}
}

// checkLabel: all that is told of a label is what the chapter's words say, and so is its bound; the ways are handed back.
func checkLabel(t *testing.T, b api.Book, l []api.Task, x label.Label) []label.Next {
	t.Helper()
	if want := plainCheck(b, l, x); want != api.OK {
		checkErr(t, b, l, x, want)
		return nil
	}
	want := plainWays(b, l, x)
	checkWays(t, b, l, x, want...)
	checkBound(t, l, x, plainBound(l, x))
	for _, w := range want {
		bound := plainBound(l, x)
		if w.Kind == api.Rest || w.Kind == api.Avail {
			bound++
		}
		checkBound(t, l, w.To, bound)
	}
	return want
}

// checkWays: the label may be, these are its ways, and what is played of one kind is one of them.
func checkWays(t *testing.T, b api.Book, l []api.Task, x label.Label, want ...label.Next) {
	t.Helper()
	if err := label.Check(b, l, x); err != api.OK {
		t.Errorf("Check(%+v, %v, %+v) = %d", b, short(l), x, err)
	}
	if got, err := label.Ways(b, l, x); !slices.Equal(got, want) || err != api.OK {
		t.Errorf("Ways(%+v, %v, %+v) = %+v, %d, want %+v", b, short(l), x, got, err, want)
	}
	checkPlay(t, b, l, x, x)
	for kind := range api.Kinds {
		i := slices.IndexFunc(want, func(w label.Next) bool { return w.Kind == kind })
		if i < 0 {
			checkNoPlay(t, b, l, x, kind)
		} else {
			checkPlay(t, b, l, x, want[i].To, kind)
		}
	}
}

// checkBound: the bound of the label.
func checkBound(t *testing.T, l []api.Task, x label.Label, want int) {
	t.Helper()
	if got, err := label.Bound(l, x); got != want || err != api.OK {
		t.Errorf("Bound(%v, %+v) = %d, %d, want %d", short(l), x, got, err, want)
	}
}

// checkPlay: the kinds' minutes may follow, and lead to that label.
func checkPlay(t *testing.T, b api.Book, l []api.Task, x, want label.Label, kinds ...int) {
	t.Helper()
	if got, may, err := label.Play(b, l, x, kinds...); got != want || !may || err != api.OK {
		t.Errorf("Play(%+v, %v, %+v, %v) = %+v, %t, %d, want %+v", b, short(l), x, sample.Short(kinds), got, may, err, want)
	}
}

// checkNoPlay: one of the kinds' minutes may not follow.
func checkNoPlay(t *testing.T, b api.Book, l []api.Task, x label.Label, kinds ...int) {
	t.Helper()
	if got, may, err := label.Play(b, l, x, kinds...); got != (label.Label{}) || may || err != api.OK {
		t.Errorf("Play(%+v, %v, %+v, %v) = %+v, %t, %d, want none", b, short(l), x, sample.Short(kinds), got, may, err)
	}
}

// checkErr: all calls tell that error alone, but for Bound where the book alone is wrong.
func checkErr(t *testing.T, b api.Book, l []api.Task, x label.Label, want api.Errno) {
	t.Helper()
	if got := label.Check(b, l, x); got != want {
		t.Errorf("Check(%+v, %v, %+v) = %d, want %d", b, short(l), x, got, want)
	}
	if got, err := label.Ways(b, l, x); len(got) != 0 || err != want {
		t.Errorf("Ways(%+v, %v, %+v) = %+v, %d, want %d alone", b, short(l), x, got, err, want)
	}
	for _, kinds := range [][]int{nil, {0}, {3, 1}, {-1}, {4, 0}} {
		if got, may, err := label.Play(b, l, x, kinds...); got != (label.Label{}) || may || err != want {
			t.Errorf("Play(%+v, %v, %+v, %v) = %+v, %t, %d, want %d alone", b, short(l), x, kinds, got, may, err, want)
		}
	}
	if want == api.ErrBook {
		if want = plainCheck(book.Europe(), l, x); want == api.OK {
			checkBound(t, l, x, plainBound(l, x))
			return
		}
	}
	if got, err := label.Bound(l, x); got != 0 || err != want {
		t.Errorf("Bound(%v, %+v) = %d, %d, want %d alone", short(l), x, got, err, want)
	}
}
