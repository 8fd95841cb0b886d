package errand_test

import (
	"math"
	"testing"

	"haulier/api"
	"haulier/sample"
)

// TestOverDrive: driving that ends within a drive, at its end and behind it, over one task and several, from an open minute on and a shut one.
func TestOverDrive(t *testing.T) {
	l := journey()
	for _, from := range []int{0, 4, 5, 6, 30} {
		checkOver(t, l, spot(0, 0, 0), rec(api.Drive, from, from+1), spot(0, 1, 0))
		checkOver(t, l, spot(0, 0, 0), rec(api.Drive, from, from+2), spot(0, 2, 0))
		checkOver(t, l, spot(0, 0, 0), rec(api.Drive, from, from+3), spot(0, 2, 0), [2]int{api.ClDrive, from + 2})
		checkOver(t, l, spot(0, 0, 0), rec(api.Drive, from, 40320), spot(0, 2, 0), [2]int{api.ClDrive, from + 2})
		checkOver(t, l, spot(2, 0, 0), rec(api.Drive, from, from+3), spot(2, 3, 0))
		checkOver(t, l, spot(2, 0, 0), rec(api.Drive, from, from+4), spot(3, 0, 0))
		checkOver(t, l, spot(2, 0, 0), rec(api.Drive, from, from+5), spot(3, 0, 0), [2]int{api.ClDrive, from + 4})
		checkOver(t, l, spot(2, 3, 0), rec(api.Drive, from, from+1), spot(3, 0, 0))
		checkOver(t, l, spot(2, 3, 0), rec(api.Drive, from, from+9), spot(3, 0, 0), [2]int{api.ClDrive, from + 1})
		// From the first minute on.
		checkOver(t, l, spot(0, 2, 0), rec(api.Drive, from, from+7), spot(0, 2, 0), [2]int{api.ClDrive, from})
		checkOver(t, l, spot(3, 0, 0), rec(api.Drive, from, from+1), spot(3, 0, 0), [2]int{api.ClDrive, from})
		checkOver(t, l, spot(7, 0, 0), rec(api.Drive, from, from+2), spot(7, 0, 0), [2]int{api.ClDrive, from})
		// Amid a service.
		checkOver(t, l, spot(0, 2, 1), rec(api.Drive, from, from+1), spot(0, 2, 1), [2]int{api.ClDrive, from}, [2]int{api.ClServe, from})
		checkOver(t, l, spot(3, 0, 1), rec(api.Drive, from, from+8), spot(3, 0, 1), [2]int{api.ClDrive, from}, [2]int{api.ClServe, from})
	}
	// Drives without services are driven one behind the other.
	l = []api.Task{task(3, 0), task(0, 0), task(4, 0), task(2, 1, 5, 7), task(9, 0)}
	for n, want := range []api.Spot{{}, spot(0, 1, 0), spot(0, 2, 0), spot(2, 0, 0), spot(2, 1, 0), spot(2, 2, 0), spot(2, 3, 0), spot(3, 0, 0), spot(3, 1, 0), spot(3, 2, 0)} {
		if n > 0 {
			checkOver(t, l, spot(0, 0, 0), rec(api.Drive, 100, 100+n), want)
		}
	}
	checkOver(t, l, spot(0, 0, 0), rec(api.Drive, 100, 110), spot(3, 2, 0), [2]int{api.ClDrive, 109})
	checkOver(t, l, spot(0, 2, 0), rec(api.Drive, 100, 120), spot(3, 2, 0), [2]int{api.ClDrive, 107})
	l = []api.Task{task(3, 0), task(0, 0), task(4, 0), task(0, 0)}
	checkOver(t, l, spot(0, 0, 0), rec(api.Drive, 40313, 40320), spot(4, 0, 0))
	checkOver(t, l, spot(0, 0, 0), rec(api.Drive, 40312, 40320), spot(4, 0, 0), [2]int{api.ClDrive, 40319})
}

// TestOverWork: work that ends within a service, at its end and behind it; that begins ahead of a window, in it, with its last minute, and behind it.
func TestOverWork(t *testing.T) {
	l := journey()
	for _, from := range []int{5, 6, 20, 29} {
		checkOver(t, l, spot(0, 2, 0), rec(api.Work, from, from+1), spot(0, 2, 1))
		checkOver(t, l, spot(0, 2, 0), rec(api.Work, from, from+2), spot(0, 2, 2))
		checkOver(t, l, spot(0, 2, 0), rec(api.Work, from, from+3), spot(2, 0, 0))
		checkOver(t, l, spot(0, 2, 0), rec(api.Work, from, from+4), spot(2, 0, 0), [2]int{api.ClWork, from + 3})
		checkOver(t, l, spot(0, 2, 0), rec(api.Work, from, 40320), spot(2, 0, 0), [2]int{api.ClWork, from + 3})
	}
	// Shut at the first minute; open, or shut, at later ones, which no service begins with.
	for _, from := range []int{0, 2, 3, 4, 7, 8, 18, 19, 30, 31} {
		checkOver(t, l, spot(0, 2, 0), rec(api.Work, from, from+1), spot(0, 2, 1), [2]int{api.ClOpen, from})
		checkOver(t, l, spot(0, 2, 0), rec(api.Work, from, from+3), spot(2, 0, 0), [2]int{api.ClOpen, from})
		checkOver(t, l, spot(0, 2, 0), rec(api.Work, from, from+5), spot(2, 0, 0), [2]int{api.ClOpen, from}, [2]int{api.ClWork, from + 3})
	}
	for _, from := range []int{0, 5, 7, 30} {
		// A service that has begun goes on.
		checkOver(t, l, spot(0, 2, 1), rec(api.Work, from, from+1), spot(0, 2, 2))
		checkOver(t, l, spot(0, 2, 1), rec(api.Work, from, from+2), spot(2, 0, 0))
		checkOver(t, l, spot(0, 2, 1), rec(api.Work, from, from+9), spot(2, 0, 0), [2]int{api.ClWork, from + 2})
		checkOver(t, l, spot(3, 0, 1), rec(api.Work, from, from+1), spot(4, 0, 0))
		// With driving left, or nothing.
		checkOver(t, l, spot(0, 0, 0), rec(api.Work, from, from+1), spot(0, 0, 0), [2]int{api.ClWork, from})
		checkOver(t, l, spot(0, 1, 0), rec(api.Work, from, from+9), spot(0, 1, 0), [2]int{api.ClWork, from})
		checkOver(t, l, spot(7, 0, 0), rec(api.Work, from, from+2), spot(7, 0, 0), [2]int{api.ClWork, from})
	}
	checkOver(t, l, spot(4, 3, 0), rec(api.Work, 40319, 40320), spot(7, 0, 0))
	checkOver(t, l, spot(4, 3, 0), rec(api.Work, 40318, 40320), spot(7, 0, 0), [2]int{api.ClWork, 40319})
}

// TestOverServices: services without drives between, one behind the other: each begins within its own windows, and the first one that does not is told.
func TestOverServices(t *testing.T) {
	l := []api.Task{task(0, 2, 5, 6), task(0, 0), task(0, 3, 0, 10), task(0, 1, 20, 21), task(0, 1, 0, 40320), task(5, 1, 0, 40320)}
	open := [2]int{api.ClOpen, 10}
	for n, want := range []api.Spot{{}, spot(0, 0, 1), spot(2, 0, 0), spot(2, 0, 1), spot(2, 0, 2), spot(3, 0, 0)} {
		if n > 0 {
			checkOver(t, l, spot(0, 0, 0), rec(api.Work, 5, 5+n), want)
		}
	}
	checkOver(t, l, spot(0, 0, 0), rec(api.Work, 5, 11), spot(4, 0, 0), open)
	checkOver(t, l, spot(0, 0, 0), rec(api.Work, 5, 12), spot(5, 0, 0), open)
	checkOver(t, l, spot(0, 0, 0), rec(api.Work, 5, 13), spot(5, 0, 0), open, [2]int{api.ClWork, 12})
	checkOver(t, l, spot(0, 0, 0), rec(api.Work, 5, 40320), spot(5, 0, 0), open, [2]int{api.ClWork, 12})
	// The first one of all begins where none may, and so do others.
	checkOver(t, l, spot(0, 0, 0), rec(api.Work, 4, 40), spot(5, 0, 0), [2]int{api.ClOpen, 4}, [2]int{api.ClWork, 11})
	checkOver(t, l, spot(0, 0, 0), rec(api.Work, 14, 21), spot(5, 0, 0), [2]int{api.ClOpen, 14})
	checkOver(t, l, spot(0, 0, 1), rec(api.Work, 14, 20), spot(5, 0, 0), [2]int{api.ClOpen, 15})
	checkOver(t, l, spot(2, 0, 1), rec(api.Work, 18, 22), spot(5, 0, 0))
	checkOver(t, l, spot(2, 0, 1), rec(api.Work, 19, 22), spot(4, 0, 0), [2]int{api.ClOpen, 21})
	checkOver(t, l, spot(5, 0, 0), rec(api.Work, 19, 22), spot(5, 0, 0), [2]int{api.ClWork, 19})
}

// TestOverStill: rest and waiting leave each spot as it is, and break a service that has begun, from the first minute on.
func TestOverStill(t *testing.T) {
	l := journey()
	for s := range rightSpots() {
		for _, kind := range []int{api.Rest, api.Avail} {
			for _, r := range []api.Record{rec(kind, 0, 1), rec(kind, 0, 40320), rec(kind, 4, 6), rec(kind, 5, 6), rec(kind, 7, 100), rec(kind, 40319, 40320)} {
				if s.Served > 0 {
					checkOver(t, l, s, r, s, [2]int{api.ClServe, r.From})
				} else {
					checkOver(t, l, s, r, s)
				}
			}
		}
	}
}

// TestOverErrors: records that are wrong alone, at all edges; and which error comes first.
func TestOverErrors(t *testing.T) {
	l := journey()
	told := map[api.Errno]int{}
	for _, kind := range append(sample.NoKinds(), 0, 1, 2, 3) {
		for _, from := range sample.Minutes() {
			for _, to := range sample.Minutes() {
				r := rec(kind, from, to)
				err := plainRecord(r)
				told[err]++
				for _, s := range []api.Spot{spot(0, 0, 0), spot(0, 2, 1), spot(7, 0, 0)} {
					if err != api.OK {
						checkOverErr(t, l, s, r, err)
						continue
					}
					w := walk{t: t, l: l, from: s, begin: from, kind: kind, spot: s, firsts: firsts()}
					w.to(to)
					w.check()
				}
				for _, s := range []api.Spot{spot(-1, 0, 0), spot(0, 3, 0), spot(1, 0, 0), spot(7, 0, 1), spot(math.MaxInt, 0, 0)} {
					checkOverErr(t, l, s, r, api.ErrArg)
				}
				checkOverErr(t, []api.Task{task(-1, 0)}, spot(0, 0, 0), r, api.ErrRange)
				checkOverErr(t, []api.Task{task(1, 1)}, spot(0, 0, 0), r, api.ErrNone)
				checkOverErr(t, []api.Task{task(1, 0, 5, 7)}, spot(0, 9, 0), r, api.ErrArg)
			}
		}
	}
	for _, err := range []api.Errno{api.OK, api.ErrKind, api.ErrRange, api.ErrSpan} {
		if told[err] == 0 {
			t.Errorf("the test itself: %d is never told", err)
		}
	}
	for _, c := range []struct {
		r    api.Record
		want api.Errno
	}{
		{rec(4, 0, 5), api.ErrKind},
		{rec(-1, 5, 5), api.ErrKind},
		{rec(4, -1, 40321), api.ErrKind},
		{rec(api.Rest, -1, 5), api.ErrRange},
		{rec(api.Rest, 5, 40321), api.ErrRange},
		{rec(api.Drive, -1, -1), api.ErrRange},
		{rec(api.Work, 40321, 40320), api.ErrRange},
		{rec(api.Work, 5, -1), api.ErrRange},
		{rec(api.Avail, math.MinInt, math.MaxInt), api.ErrRange},
		{rec(api.Rest, 5, 5), api.ErrSpan},
		{rec(api.Drive, 5, 4), api.ErrSpan},
		{rec(api.Work, 40320, 40320), api.ErrSpan},
		{rec(api.Work, 0, 0), api.ErrSpan},
		{rec(api.Avail, 40320, 0), api.ErrSpan},
	} {
		checkOverErr(t, l, spot(0, 0, 0), c.r, c.want)
		checkOverErr(t, nil, spot(0, 0, 0), c.r, c.want)
	}
}
