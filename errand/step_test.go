package errand_test

import (
	"math"
	"slices"
	"testing"

	"haulier/api"
	"haulier/sample"
)

// TestStepDrive: minutes of driving, with driving left, up to the drive's last one, ahead of a service and amid it, at a task without a drive, and behind all.
func TestStepDrive(t *testing.T) {
	l := journey()
	for _, m := range []int{0, 5, 6, 12, 40319} {
		checkStep(t, l, spot(0, 0, 0), m, api.Drive, spot(0, 1, 0))
		checkStep(t, l, spot(0, 1, 0), m, api.Drive, spot(0, 2, 0))
		checkStep(t, l, spot(2, 0, 0), m, api.Drive, spot(2, 1, 0))
		checkStep(t, l, spot(2, 2, 0), m, api.Drive, spot(2, 3, 0))
		checkStep(t, l, spot(2, 3, 0), m, api.Drive, spot(3, 0, 0))
		checkStep(t, l, spot(4, 0, 0), m, api.Drive, spot(4, 1, 0))
		checkStep(t, l, spot(4, 2, 0), m, api.Drive, spot(4, 3, 0))
		// None is asked for.
		checkStep(t, l, spot(0, 2, 0), m, api.Drive, spot(0, 2, 0), api.ClDrive)
		checkStep(t, l, spot(3, 0, 0), m, api.Drive, spot(3, 0, 0), api.ClDrive)
		checkStep(t, l, spot(4, 3, 0), m, api.Drive, spot(4, 3, 0), api.ClDrive)
		checkStep(t, l, spot(7, 0, 0), m, api.Drive, spot(7, 0, 0), api.ClDrive)
		// And a service is under way.
		checkStep(t, l, spot(0, 2, 1), m, api.Drive, spot(0, 2, 1), api.ClDrive, api.ClServe)
		checkStep(t, l, spot(0, 2, 2), m, api.Drive, spot(0, 2, 2), api.ClDrive, api.ClServe)
		checkStep(t, l, spot(3, 0, 1), m, api.Drive, spot(3, 0, 1), api.ClDrive, api.ClServe)
	}
}

// TestStepWork: minutes of work, with driving left, as a service's first minute, a later one and the last one, and behind all.
func TestStepWork(t *testing.T) {
	l := journey()
	for _, m := range []int{0, 5, 6, 7, 10, 25, 40319} {
		// None is asked for, whether a service could begin there or not.
		for _, s := range []api.Spot{spot(0, 0, 0), spot(0, 1, 0), spot(2, 0, 0), spot(2, 3, 0), spot(4, 0, 0), spot(4, 2, 0), spot(7, 0, 0)} {
			checkStep(t, l, s, m, api.Work, s, api.ClWork)
		}
		// A service that has begun goes on, whether one may begin or not.
		checkStep(t, l, spot(0, 2, 1), m, api.Work, spot(0, 2, 2))
		checkStep(t, l, spot(0, 2, 2), m, api.Work, spot(2, 0, 0))
		checkStep(t, l, spot(3, 0, 1), m, api.Work, spot(4, 0, 0))
		// One of just a minute, of the last task in which there is something to do.
		checkStep(t, l, spot(4, 3, 0), m, api.Work, spot(7, 0, 0))
	}
	for _, m := range []int{5, 6, 20, 21, 29} {
		checkStep(t, l, spot(0, 2, 0), m, api.Work, spot(0, 2, 1))
	}
	for _, m := range []int{0, 4, 7, 8, 10, 19, 30, 40319} {
		checkStep(t, l, spot(0, 2, 0), m, api.Work, spot(0, 2, 1), api.ClOpen)
	}
	for _, m := range []int{10, 11} {
		checkStep(t, l, spot(3, 0, 0), m, api.Work, spot(3, 0, 1))
	}
	for _, m := range []int{0, 5, 9, 12, 13, 20} {
		checkStep(t, l, spot(3, 0, 0), m, api.Work, spot(3, 0, 1), api.ClOpen)
	}
}

// TestStepStill: minutes of rest and of waiting leave each spot as it is, and break a service that has begun alone.
func TestStepStill(t *testing.T) {
	l := journey()
	for s := range rightSpots() {
		for _, kind := range []int{api.Rest, api.Avail} {
			for _, m := range []int{0, 4, 5, 6, 7, 20, 40319} {
				if s.Served > 0 {
					checkStep(t, l, s, m, kind, s, api.ClServe)
				} else {
					checkStep(t, l, s, m, kind, s)
				}
			}
		}
	}
}

// TestStepPast: behind a task's last minute, tasks in which there is nothing to do are done too: none, one, several; up to the next one in which there is something, or up to the end.
func TestStepPast(t *testing.T) {
	for nothing := range 4 {
		for _, next := range [][]api.Task{nil, {task(1, 0)}, {task(0, 1, 5, 7)}, {task(3, 3, 5, 7), task(0, 0)}} {
			behind := slices.Concat(make([]api.Task, nothing), next)
			want := spot(1+nothing, 0, 0)
			checkStep(t, slices.Concat([]api.Task{task(1, 0)}, behind), spot(0, 0, 0), 6, api.Drive, want)
			checkStep(t, slices.Concat([]api.Task{task(5, 0)}, behind), spot(0, 4, 0), 6, api.Drive, want)
			checkStep(t, slices.Concat([]api.Task{task(0, 1, 5, 7)}, behind), spot(0, 0, 0), 6, api.Work, want)
			checkStep(t, slices.Concat([]api.Task{task(0, 1, 5, 7)}, behind), spot(0, 0, 0), 8, api.Work, want, api.ClOpen)
			checkStep(t, slices.Concat([]api.Task{task(4, 3, 5, 7)}, behind), spot(0, 4, 2), 8, api.Work, want)
			// What is not all of a task leaves it, and all behind it, as it is.
			checkStep(t, slices.Concat([]api.Task{task(1, 1, 5, 7)}, behind), spot(0, 0, 0), 6, api.Drive, spot(0, 1, 0))
			checkStep(t, slices.Concat([]api.Task{task(5, 0)}, behind), spot(0, 3, 0), 6, api.Drive, spot(0, 4, 0))
			checkStep(t, slices.Concat([]api.Task{task(4, 3, 5, 7)}, behind), spot(0, 4, 1), 8, api.Work, spot(0, 4, 2))
		}
	}
	l := make([]api.Task, 2001)
	l[0] = task(1, 0)
	checkStep(t, l, spot(0, 0, 0), 0, api.Drive, spot(2001, 0, 0))
	l[2000] = task(0, 1, 5, 7)
	checkStep(t, l, spot(0, 0, 0), 0, api.Drive, spot(2000, 0, 0))
	checkStep(t, l, spot(2000, 0, 0), 5, api.Work, spot(2001, 0, 0))
}

// TestStepGreat: a task whose drive and service are as great as may be.
func TestStepGreat(t *testing.T) {
	l := []api.Task{task(10080, 1440, 40319, 40320), task(10080, 0)}
	checkStep(t, l, spot(0, 0, 0), 0, api.Drive, spot(0, 1, 0))
	checkStep(t, l, spot(0, 10079, 0), 0, api.Drive, spot(0, 10080, 0))
	checkStep(t, l, spot(0, 10080, 0), 40319, api.Work, spot(0, 10080, 1))
	checkStep(t, l, spot(0, 10080, 0), 40318, api.Work, spot(0, 10080, 1), api.ClOpen)
	checkStep(t, l, spot(0, 10080, 1438), 0, api.Work, spot(0, 10080, 1439))
	checkStep(t, l, spot(0, 10080, 1439), 0, api.Work, spot(1, 0, 0))
	checkStep(t, l, spot(1, 10079, 0), 0, api.Drive, spot(2, 0, 0))
}

// TestStepErrors: kinds and minutes that are none; and which error comes first.
func TestStepErrors(t *testing.T) {
	l := journey()
	outside := []int{math.MinInt, math.MinInt + 1, -40320, -2, -1, 40320, 40321, 1 << 32, 1<<32 + 5, math.MaxInt - 1, math.MaxInt}
	for s := range rightSpots() {
		for _, kind := range sample.NoKinds() {
			for _, m := range append(outside, 0, 5, 6, 40319) {
				checkStepErr(t, l, s, m, kind, api.ErrKind)
			}
		}
		for kind := range api.Kinds {
			for _, m := range outside {
				checkStepErr(t, l, s, m, kind, api.ErrRange)
			}
			for _, m := range []int{0, 40319} {
				checkMinute(t, l, s, m, kind)
			}
		}
	}
	for _, s := range []api.Spot{spot(-1, 0, 0), spot(0, 3, 0), spot(1, 0, 0), spot(0, 1, 1), spot(7, 1, 0), spot(8, 0, 0)} {
		for _, kind := range append(sample.NoKinds(), 0, 1, 2, 3) {
			for _, m := range append(outside, 0, 5, 40319) {
				checkStepErr(t, l, s, m, kind, api.ErrArg)
			}
		}
	}
}
