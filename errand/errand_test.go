package errand_test

import (
	"math"
	"slices"
	"testing"

	"haulier/api"
	"haulier/errand"
)

// First minutes are an array of four.
var _ = [4]int(errand.Firsts{})

// TestExample: the chapter's one.
func TestExample(t *testing.T) {
	l := []api.Task{task(2, 1, 5, 7)}
	s, err := errand.Start(l)
	if s != spot(0, 0, 0) || err != api.OK {
		t.Fatalf("Start: %v, %d", s, err)
	}
	checkStep(t, l, s, 0, api.Drive, spot(0, 1, 0))
	checkStep(t, l, spot(0, 1, 0), 1, api.Drive, spot(0, 2, 0))
	checkStep(t, l, spot(0, 2, 0), 4, api.Work, spot(1, 0, 0), api.ClOpen)
	checkStep(t, l, spot(0, 2, 0), 5, api.Work, spot(1, 0, 0))
	checkOver(t, l, s, rec(api.Drive, 0, 2), spot(0, 2, 0))
	checkOver(t, l, spot(0, 2, 0), rec(api.Rest, 2, 5), spot(0, 2, 0))
	checkOver(t, l, spot(0, 2, 0), rec(api.Work, 5, 6), spot(1, 0, 0))
	if !errand.Done(l, spot(1, 0, 0)) {
		t.Error("all is not done")
	}
}

func checkCheck(t *testing.T, l []api.Task, want api.Errno) {
	t.Helper()
	if got := errand.Check(l); got != want {
		t.Errorf("Check(%v) = %d, want %d", short(l), got, want)
	}
	s, err := errand.Start(l)
	if err != want || err != api.OK && s != (api.Spot{}) {
		t.Errorf("Start(%v) = %v, %d, want the error %d", short(l), s, err, want)
	}
}

// TestCheck: tasks that may be, alone and together, and as many as there may be.
func TestCheck(t *testing.T) {
	for _, l := range [][]api.Task{nil, {}, right(), journey(), make([]api.Task, 2000), make([]api.Task, 2001), slices.Repeat(right(), 100)[:2001]} {
		checkCheck(t, l, api.OK)
	}
	for _, a := range right() {
		checkCheck(t, []api.Task{a}, api.OK)
		for _, b := range right() {
			checkCheck(t, []api.Task{a, b}, api.OK)
		}
	}
	for _, n := range []int{2002, 2003, 5000, 1 << 20} {
		checkCheck(t, make([]api.Task, n), api.ErrMany)
	}
	checkCheck(t, slices.Repeat(right(), 100)[:2002], api.ErrMany)
}

// TestCheckWrong: each task that may not be, alone, as the first one, amid others and as the last one; of several such the first one is told; but that there are too many is told ahead of all.
func TestCheckWrong(t *testing.T) {
	for _, w := range wrong() {
		one := []api.Task{w.Task}
		checkCheck(t, one, w.Err)
		checkCheck(t, slices.Concat(one, right()), w.Err)
		checkCheck(t, slices.Concat(right(), one), w.Err)
		checkCheck(t, slices.Concat(right()[:2], one, right()), w.Err)
		checkCheck(t, slices.Concat(make([]api.Task, 2000), one), w.Err)
		checkCheck(t, slices.Concat(one, make([]api.Task, 2000)), w.Err)
		checkCheck(t, slices.Concat(make([]api.Task, 2001), one), api.ErrMany)
		checkCheck(t, slices.Concat(one, make([]api.Task, 2001)), api.ErrMany)
		checkCheck(t, slices.Repeat(one, 2002), api.ErrMany)
		for _, other := range wrong() {
			checkCheck(t, []api.Task{w.Task, other.Task}, w.Err)
		}
	}
}

// TestNumbers: each Drive with each Serve at their edges, with windows and without.
func TestNumbers(t *testing.T) {
	for _, drive := range []int{math.MinInt, -1, 0, 1, 10079, 10080, 10081, math.MaxInt} {
		for _, serve := range []int{math.MinInt, -1, 0, 1, 1439, 1440, 1441, math.MaxInt} {
			for _, open := range [][]int{{}, {480, 720}, {7, 7}, {-1, 5}, {5, 40321}, {5, 9, 9, 12}, {5, 9, 1, 3}} {
				l := []api.Task{task(drive, serve, open...)}
				checkCheck(t, l, plainCheck(l))
			}
		}
	}
}

// TestTasksThatMayNotBe: of these all calls tell what is wrong with them, whatever else is wrong.
func TestTasksThatMayNotBe(t *testing.T) {
	for _, w := range wrong() {
		for _, l := range [][]api.Task{{w.Task}, {w.Task, task(5, 0)}, {task(5, 0), w.Task}} {
			for _, s := range []api.Spot{{}, spot(0, 3, 0), spot(1, 0, 0), spot(len(l), 0, 0), spot(-1, 0, 0), spot(0, 5, 5), spot(math.MaxInt, math.MinInt, math.MaxInt)} {
				checkTold(t, l, s, w.Err)
			}
		}
	}
	for _, s := range []api.Spot{{}, spot(0, 3, 0), spot(2002, 0, 0), spot(-1, 0, 0)} {
		checkTold(t, make([]api.Task, 2002), s, api.ErrMany)
		checkTold(t, slices.Repeat([]api.Task{task(5, 0)}, 2002), s, api.ErrMany)
		checkTold(t, slices.Repeat([]api.Task{task(-5, 0)}, 2002), s, api.ErrMany)
	}
}

// TestStart: tasks in which there is nothing to do ahead of all others are done, and no others.
func TestStart(t *testing.T) {
	none, drive, serve := task(0, 0), task(1, 0), task(0, 1, 5, 7)
	for _, c := range []struct {
		l    []api.Task
		want int
	}{
		{nil, 0},
		{[]api.Task{}, 0},
		{[]api.Task{none}, 1},
		{[]api.Task{none, none}, 2},
		{[]api.Task{none, none, none}, 3},
		{make([]api.Task, 2001), 2001},
		{[]api.Task{drive}, 0},
		{[]api.Task{serve}, 0},
		{[]api.Task{task(2, 3, 5, 7)}, 0},
		{[]api.Task{none, drive}, 1},
		{[]api.Task{none, serve}, 1},
		{[]api.Task{none, none, none, drive, none}, 3},
		{[]api.Task{none, none, serve, none, none}, 2},
		{[]api.Task{drive, none}, 0},
		{[]api.Task{serve, none, none}, 0},
		{[]api.Task{drive, serve, none}, 0},
		{append(make([]api.Task, 2000), serve), 2000},
		{append(make([]api.Task, 2000), drive), 2000},
		{journey(), 0},
		{journey()[1:], 1},
		{journey()[5:], 2},
	} {
		got, err := errand.Start(c.l)
		if got != spot(c.want, 0, 0) || err != api.OK {
			t.Errorf("Start(%v) = %v, %d, want %d tasks done", short(c.l), got, err, c.want)
		}
		checkSpot(t, c.l, got)
		if !errand.Right(c.l, got) {
			t.Errorf("Start(%v) = %v, which is not right", short(c.l), got)
		}
		if done := c.want == len(c.l); errand.Done(c.l, got) != done {
			t.Errorf("Done(%v, %v) = %v", short(c.l), got, !done)
		}
	}
}

// rightSpots are all spots of the journey that are right, and what is left there.
func rightSpots() map[api.Spot][2]int {
	return map[api.Spot][2]int{
		spot(0, 0, 0): {9, 6}, spot(0, 1, 0): {8, 6}, spot(0, 2, 0): {7, 6}, spot(0, 2, 1): {7, 5}, spot(0, 2, 2): {7, 4},
		spot(2, 0, 0): {7, 3}, spot(2, 1, 0): {6, 3}, spot(2, 2, 0): {5, 3}, spot(2, 3, 0): {4, 3},
		spot(3, 0, 0): {3, 3}, spot(3, 0, 1): {3, 2},
		spot(4, 0, 0): {3, 1}, spot(4, 1, 0): {2, 1}, spot(4, 2, 0): {1, 1}, spot(4, 3, 0): {0, 1},
		spot(7, 0, 0): {0, 0},
	}
}

// TestSpots: spots ahead of the first task, at each one, behind the last one and beyond, with each drive and service, at both ends of 64 bits too: which are right, which are not, and what is left.
func TestSpots(t *testing.T) {
	l, want := journey(), rightSpots()
	numbers := []int{math.MinInt, math.MinInt + 1, -2, -1, 0, 1, 2, 3, 4, 5, 6, 7, 8, 9, 10080, 40320, 1 << 32, math.MaxInt - 1, math.MaxInt}
	for _, done := range numbers {
		for _, driven := range numbers {
			for _, served := range numbers {
				s := spot(done, driven, served)
				left, right := want[s]
				if !right {
					checkTold(t, l, s, api.ErrArg)
					continue
				}
				if !errand.Right(l, s) {
					t.Errorf("Right(%v) is false", s)
				}
				if errand.Done(l, s) != (s == spot(7, 0, 0)) {
					t.Errorf("Done(%v) = %v", s, errand.Done(l, s))
				}
				if drive, serve, err := errand.Left(l, s); [2]int{drive, serve} != left || err != api.OK {
					t.Errorf("Left(%v) = %d, %d, %d, want %v", s, drive, serve, err, left)
				}
				checkSpot(t, l, s)
			}
		}
	}
}

// TestSpotsOfOthers: of no tasks, of single ones of each sort, and of as many as there may be.
func TestSpotsOfOthers(t *testing.T) {
	for _, l := range [][]api.Task{nil, {}, {task(0, 0)}, {task(3, 0)}, {task(0, 2, 5, 7)}, {task(2, 2, 5, 7)}, {task(0, 0), task(0, 0)}, {task(10080, 1440, 5, 7)}, make([]api.Task, 2001), slices.Repeat([]api.Task{task(1, 1, 5, 7)}, 2001)} {
		n := len(l)
		for _, done := range []int{math.MinInt, -1, 0, 1, 2, n - 1, n, n + 1, n + 2, math.MaxInt} {
			for _, driven := range []int{math.MinInt, -1, 0, 1, 2, 3, 4, 10079, 10080, 10081, math.MaxInt} {
				for _, served := range []int{math.MinInt, -1, 0, 1, 2, 3, 1439, 1440, 1441, math.MaxInt} {
					checkSpot(t, l, spot(done, driven, served))
				}
			}
		}
	}
	// As much as can be left, and one minute of it less.
	l := slices.Repeat([]api.Task{task(10080, 1440, 5, 7)}, 2001)
	for _, c := range []struct {
		s            api.Spot
		drive, serve int
	}{
		{spot(0, 0, 0), 20170080, 2881440},
		{spot(0, 1, 0), 20170079, 2881440},
		{spot(0, 10080, 1), 20160000, 2881439},
		{spot(2000, 0, 0), 10080, 1440},
		{spot(2000, 10080, 1439), 0, 1},
		{spot(2001, 0, 0), 0, 0},
	} {
		if drive, serve, err := errand.Left(l, c.s); drive != c.drive || serve != c.serve || err != api.OK {
			t.Errorf("Left(%v) = %d, %d, %d, want %d, %d", c.s, drive, serve, err, c.drive, c.serve)
		}
	}
	for _, s := range []api.Spot{{}, spot(0, 0, 0)} {
		if !errand.Right(nil, s) || !errand.Done(nil, s) || !errand.Done([]api.Task{}, s) {
			t.Errorf("of no tasks all is not done at %v", s)
		}
	}
}
