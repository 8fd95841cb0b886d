package trail_test

import (
	"math"
	"slices"
	"testing"

	"haulier/api"
	"haulier/sample"
	"haulier/trail"
)

// tour is tasks of all sorts, that a timeline can follow: with both, with nothing to do, with a drive alone, with services alone, one behind the other, and with drives one behind the other.
func tour() []api.Task {
	return []api.Task{
		task(2, 3, 5, 7, 20, 30), task(0, 0), task(4, 0), task(0, 2, 10, 12, 34, 36), task(0, 1, 0, 40320), task(3, 0), task(1, 2, 40, 50), task(0, 0),
	}
}

// row is a timeline from a spot of the tour on, and what is to be told of it.
type row struct {
	spot   api.Spot
	did    []api.Record
	to     api.Spot
	found  []api.Finding
	visits []trail.Visit
}

// checkRows: each row.
func checkRows(t *testing.T, rows ...row) {
	t.Helper()
	for _, one := range rows {
		checkTrail(t, tour(), one.spot, one.did, one.to, one.found, one.visits)
	}
}

// begin is the tour's begin, and end is behind all of it.
var begin, end = spot(0, 0, 0), spot(8, 0, 0)

// TestExample: the chapter's one.
func TestExample(t *testing.T) {
	l := []api.Task{{Drive: 2, Serve: 1, Open: []api.Span{{From: 5, To: 40320}}}}
	r := []api.Record{rec(api.Drive, 0, 2), rec(api.Rest, 2, 5), rec(api.Work, 5, 6)}
	visits, err := trail.Visits(l, api.Spot{}, r)
	if len(visits) != 1 || visits[0] != (trail.Visit{Task: 0, From: 5, To: 6}) || err != api.OK {
		t.Errorf("Visits = %v, %d, want one from 5 to 6", visits, err)
	}
	s, found, err := trail.Audit(l, api.Spot{}, r)
	if s != spot(1, 0, 0) || len(found) != 0 || err != api.OK {
		t.Errorf("Audit = %v, %v, %d", s, found, err)
	}
	if !trail.Follows(l, api.Spot{}, r) {
		t.Error("it doesn't follow")
	}
	if l, err := trail.Strip(r); !slices.Equal(l, []int{2, -1}) || err != api.OK {
		t.Errorf("Strip = %v, %d, want 2 -1", l, err)
	}
}

// TestFollows: timelines that break nothing, from all sorts of spots, from 0 on and later, with rest and without.
func TestFollows(t *testing.T) {
	checkRows(t,
		row{begin, did(0, "D2 R3 W3 D4 R22 W3 D4 W2"), end, nil, visits(0, 5, 8, 3, 34, 36, 4, 36, 37, 6, 41, 43)},
		row{begin, did(0, "D1 A1 R1 D1 A1 W1 W2 D1 R1 D3 A21 W2 R4 W1 R2 D3 A1 D1 R1 W1 W1"), end, nil, visits(0, 5, 8, 3, 34, 36, 4, 40, 41, 6, 49, 51)},
		row{begin, did(0, "D2 R3 W3 D4 R22 W3 D4 W2 R1 A1 R100"), end, nil, visits(0, 5, 8, 3, 34, 36, 4, 36, 37, 6, 41, 43)},
		row{begin, did(3, "D2 W3 D4 R22 W3 D4 W2"), end, nil, visits(0, 5, 8, 3, 34, 36, 4, 36, 37, 6, 41, 43)},
		row{begin, did(18, "R1 D1 R5 D1 W3 D4 A1 W3 D3 R2 D1 R1 W2"), end, nil, visits(0, 26, 29, 3, 34, 36, 4, 36, 37, 6, 44, 46)},
		// From spots amid a drive, behind it, amid a service, behind it, and behind all.
		row{spot(0, 1, 0), did(4, "D1 W3 D4 R22 W3 D4 W2"), end, nil, visits(0, 5, 8, 3, 34, 36, 4, 36, 37, 6, 41, 43)},
		row{spot(0, 2, 0), did(28, "W3 D4 W3 D4 W2"), end, nil, visits(0, 28, 31, 3, 35, 37, 4, 37, 38, 6, 42, 44)},
		row{spot(0, 2, 0), did(6, "W3 D4 R21 W3 D4 W2"), end, nil, visits(0, 6, 9, 3, 34, 36, 4, 36, 37, 6, 41, 43)},
		row{spot(0, 2, 1), did(0, "W2 D4 R4 W3 R30 D4 W2"), end, nil, visits(3, 10, 12, 4, 12, 13, 6, 47, 49)},
		row{spot(2, 0, 0), did(7, "D4 W3 R30 D4 W2"), end, nil, visits(3, 11, 13, 4, 13, 14, 6, 48, 50)},
		row{spot(2, 3, 0), did(9, "D1 W2 W1 R30 D4 W2"), end, nil, visits(3, 10, 12, 4, 12, 13, 6, 47, 49)},
		row{spot(3, 0, 1), did(9, "W2 D4 R30 W2"), end, nil, visits(4, 10, 11, 6, 45, 47)},
		row{spot(4, 0, 0), did(40, "W1 D4 W2"), end, nil, visits(4, 40, 41, 6, 45, 47)},
		row{spot(6, 0, 0), did(40, "D1 W2"), end, nil, visits(6, 41, 43)},
		row{spot(6, 1, 0), did(49, "W2"), end, nil, visits(6, 49, 51)},
		row{spot(6, 1, 1), did(49, "W1"), end, nil, nil},
		row{end, nil, end, nil, nil},
		row{end, []api.Record{}, end, nil, nil},
		row{end, did(0, "R40320"), end, nil, nil},
		row{end, did(7, "R1 A1 A5 R3 R1"), end, nil, nil},
	)
}

// TestLeft: timelines behind which something is left: amid a drive, behind it, amid a service, ahead of a task; and no records.
func TestLeft(t *testing.T) {
	for _, s := range sample.Spots(tour()) {
		var found []api.Finding
		if s != end {
			found = find(api.ClLeft, 0)
		}
		checkRows(t, row{s, nil, s, found, nil}, row{s, []api.Record{}, s, found, nil})
	}
	left := func(m int) []api.Finding { return find(api.ClLeft, m) }
	checkRows(t,
		row{begin, did(0, "D1"), spot(0, 1, 0), left(0), nil},
		row{begin, did(0, "R1"), begin, left(0), nil},
		row{begin, did(5, "D1 R3"), spot(0, 1, 0), left(8), nil},
		row{begin, did(0, "D2"), spot(0, 2, 0), left(1), nil},
		row{begin, did(0, "D2 R3 W1"), spot(0, 2, 1), left(5), nil},
		row{begin, did(0, "D2 R3 W2"), spot(0, 2, 2), left(6), nil},
		row{begin, did(0, "D2 R3 W3"), spot(2, 0, 0), left(7), visits(0, 5, 8)},
		row{begin, did(0, "D2 R3 W3 D1"), spot(2, 1, 0), left(8), visits(0, 5, 8)},
		row{begin, did(0, "D2 R3 W3 D4"), spot(3, 0, 0), left(11), visits(0, 5, 8)},
		row{begin, did(0, "D2 R3 W3 D4 R5"), spot(3, 0, 0), left(16), visits(0, 5, 8)},
		row{begin, did(0, "D2 R3 W3 D4 R22 W2"), spot(4, 0, 0), left(35), visits(0, 5, 8, 3, 34, 36)},
		row{begin, did(0, "D2 R3 W3 D4 R22 W3 D3"), spot(6, 0, 0), left(39), visits(0, 5, 8, 3, 34, 36, 4, 36, 37)},
		row{begin, did(0, "D2 R3 W3 D4 R22 W3 D4 W1"), spot(6, 1, 1), left(41), visits(0, 5, 8, 3, 34, 36, 4, 36, 37)},
		row{begin, did(0, "R40320"), begin, left(40319), nil},
		row{begin, did(40319, "A1"), begin, left(40319), nil},
	)
}

// TestEachAlone: each clause alone, with all done behind it but for ClLeft; a record's first minute that breaks it, a later one, the timeline's last one; in several records.
func TestEachAlone(t *testing.T) {
	usual := visits(0, 5, 8, 3, 34, 36, 4, 36, 37, 6, 41, 43)
	checkRows(t,
		row{begin, did(0, "D3 R2 W3 D4 R22 W3 D4 W2"), end, find(api.ClDrive, 2), usual},
		row{begin, did(0, "D2 D1 R2 W3 D4 R22 W3 D4 W2"), end, find(api.ClDrive, 2), usual},
		row{begin, did(0, "D2 R1 D1 R1 W3 D4 R22 W3 D4 W2"), end, find(api.ClDrive, 3), usual},
		row{begin, did(0, "D2 R3 W3 D5 R21 W3 D4 W2"), end, find(api.ClDrive, 12), usual},
		row{begin, did(0, "D2 R3 W3 D26 W3 D4 W2"), end, find(api.ClDrive, 12), usual},
		row{begin, did(0, "D2 R3 W3 D4 R22 W3 D5 W2"), end, find(api.ClDrive, 41), visits(0, 5, 8, 3, 34, 36, 4, 36, 37, 6, 42, 44)},
		row{begin, did(0, "D2 R3 W3 D4 R22 W3 D4 W2 D1"), end, find(api.ClDrive, 43), usual},
		row{begin, did(0, "D2 R3 W3 D4 R22 W3 D4 W2 R7 D9"), end, find(api.ClDrive, 50), usual},
		row{begin, did(0, "D3 R1 D1 W3 D5 D1 R1 D1 R18 W3 D4 W2 D7 R1 D7"), end, find(api.ClDrive, 2), usual},
		row{spot(0, 2, 0), did(3, "D2 W3 D4 R22 W3 D4 W2"), end, find(api.ClDrive, 3), usual},
		row{spot(3, 0, 0), did(9, "D1 W3 R30 D4 W2"), end, find(api.ClDrive, 9), visits(3, 10, 12, 4, 12, 13, 6, 47, 49)},
		row{end, did(7, "R2 D1"), end, find(api.ClDrive, 9), nil},
		row{end, did(0, "D40320"), end, find(api.ClDrive, 0), nil},

		row{begin, did(0, "W1 D2 R2 W3 D4 R22 W3 D4 W2"), end, find(api.ClWork, 0), usual},
		row{begin, did(0, "D1 W1 D1 R2 W3 D4 R22 W3 D4 W2"), end, find(api.ClWork, 1), usual},
		row{begin, did(0, "D2 R3 W4 D4 R21 W3 D4 W2"), end, find(api.ClWork, 8), usual},
		row{begin, did(0, "D2 R3 W3 R1 W1 D4 R20 W3 D4 W2"), end, find(api.ClWork, 9), usual},
		row{begin, did(0, "D2 R3 W3 D2 W20 D2 R2 W3 D4 W2"), end, find(api.ClWork, 10), usual},
		row{begin, did(0, "D2 R3 W3 D4 R22 W4 D4 W2"), end, find(api.ClWork, 37), visits(0, 5, 8, 3, 34, 36, 4, 36, 37, 6, 42, 44)},
		row{begin, did(0, "D2 R3 W3 D4 R22 W3 D3 W1 D1 W2"), end, find(api.ClWork, 40), visits(0, 5, 8, 3, 34, 36, 4, 36, 37, 6, 42, 44)},
		row{begin, did(0, "D2 R3 W3 D4 R22 W3 D4 W3"), end, find(api.ClWork, 43), usual},
		row{begin, did(0, "W1 D1 W1 D1 R1 W3 W1 R1 W2 D4 R18 W3 D4 W2 W1 W1"), end, find(api.ClWork, 0), usual},
		row{end, did(7, "W2 A3 W2"), end, find(api.ClWork, 7), nil},
		row{end, did(7, "A3 W2"), end, find(api.ClWork, 10), nil},
		row{end, did(40318, "A1 W1"), end, find(api.ClWork, 40319), nil},

		row{begin, did(0, "D2 W3 D4 R25 W3 D4 W2"), end, find(api.ClOpen, 2), visits(0, 2, 5, 3, 34, 36, 4, 36, 37, 6, 41, 43)},
		row{begin, did(2, "D2 W3 D4 R23 W3 D4 W2"), end, find(api.ClOpen, 4), visits(0, 4, 7, 3, 34, 36, 4, 36, 37, 6, 41, 43)},
		row{begin, did(5, "D2 W3 D4 R20 W3 D4 W2"), end, find(api.ClOpen, 7), visits(0, 7, 10, 3, 34, 36, 4, 36, 37, 6, 41, 43)},
		row{begin, did(3, "D2 W3 D4 W3 D4 R21 W2"), end, find(api.ClOpen, 12), visits(0, 5, 8, 3, 12, 14, 4, 14, 15, 6, 40, 42)},
		row{begin, did(3, "D2 W3 D4 R22 W3 D4 R8 W2"), end, nil, visits(0, 5, 8, 3, 34, 36, 4, 36, 37, 6, 49, 51)},
		row{begin, did(3, "D2 W3 D4 R22 W3 D4 R9 W2"), end, find(api.ClOpen, 50), visits(0, 5, 8, 3, 34, 36, 4, 36, 37, 6, 50, 52)},
		row{begin, did(0, "D2 W3 D4 R4 W3 D4 W2"), end, find(api.ClOpen, 2), visits(0, 2, 5, 3, 13, 15, 4, 15, 16, 6, 20, 22)},
		row{spot(6, 1, 0), did(39, "W2"), end, find(api.ClOpen, 39), visits(6, 39, 41)},
		row{spot(6, 1, 0), did(40318, "W2"), end, find(api.ClOpen, 40318), visits(6, 40318, 40320)},

		row{begin, did(0, "D2 R3 W1 R1 W2 D4 R21 W3 D4 W2"), end, find(api.ClServe, 6), visits(0, 5, 9, 3, 34, 36, 4, 36, 37, 6, 41, 43)},
		row{begin, did(0, "D2 R3 W1 A1 W2 D4 R21 W3 D4 W2"), end, find(api.ClServe, 6), visits(0, 5, 9, 3, 34, 36, 4, 36, 37, 6, 41, 43)},
		row{begin, did(0, "D2 R3 W2 A9 W1 D4 R13 W3 D4 W2"), end, find(api.ClServe, 7), visits(0, 5, 17, 3, 34, 36, 4, 36, 37, 6, 41, 43)},
		row{begin, did(0, "D2 R3 W1 R1 A1 W1 R1 W1 D4 R19 W1 R5 W2 D4 W1 R1 W1"), end, find(api.ClServe, 6), visits(0, 5, 11, 3, 34, 41, 4, 41, 42, 6, 46, 49)},
		row{begin, did(0, "D2 R3 W3 D4 R22 W3 D4 W1 R1 W1"), end, find(api.ClServe, 42), visits(0, 5, 8, 3, 34, 36, 4, 36, 37, 6, 41, 44)},
		row{spot(0, 2, 1), did(0, "R1 W2 D4 R3 W3 R30 D4 W2"), end, find(api.ClServe, 0), visits(3, 10, 12, 4, 12, 13, 6, 47, 49)},
		row{spot(6, 1, 1), did(0, "A40319 W1"), end, find(api.ClServe, 0), nil},
	)
}

// TestSeveral: several clauses in one timeline, and all of them, in the order of clauses, whichever minute comes first, and several with the same minute.
func TestSeveral(t *testing.T) {
	all := func(drive, work, open, serve, left int) []api.Finding {
		return find(api.ClDrive, drive, api.ClWork, work, api.ClOpen, open, api.ClServe, serve, api.ClLeft, left)
	}
	checkRows(t,
		row{begin, did(0, "W1 D3 W2 R1"), spot(0, 2, 2), all(3, 0, 4, 6, 6), nil},
		row{begin, did(0, "D3 W1 R1 W3"), spot(2, 0, 0), all(2, 7, 3, 4, 7), visits(0, 3, 7)},
		row{begin, did(0, "D2 W1 R1 W3 D5"), spot(3, 0, 0), all(11, 6, 2, 3, 11), visits(0, 2, 6)},
		row{begin, did(0, "D2 W1 D1 W4 R1"), spot(2, 0, 0), all(3, 6, 2, 3, 8), visits(0, 2, 6)},
		row{begin, did(0, "R1 D9 W9"), spot(2, 0, 0), find(api.ClDrive, 3, api.ClWork, 13, api.ClOpen, 10, api.ClLeft, 18), visits(0, 10, 13)},
		row{begin, did(0, "D2 R3 W1 D1"), spot(0, 2, 1), find(api.ClDrive, 6, api.ClServe, 6, api.ClLeft, 6), nil},
		row{begin, did(0, "D2 R3 W1 D1 W2 D4 R21 W3 D4 W2"), end, find(api.ClDrive, 6, api.ClServe, 6), visits(0, 5, 9, 3, 34, 36, 4, 36, 37, 6, 41, 43)},
		row{begin, did(0, "D2 R3 W1 R1 D1 W2 D4 R20 W3 D4 W2"), end, find(api.ClDrive, 7, api.ClServe, 6), visits(0, 5, 10, 3, 34, 36, 4, 36, 37, 6, 41, 43)},
		row{begin, did(0, "W5"), begin, find(api.ClWork, 0, api.ClLeft, 4), nil},
		row{begin, did(3, "W5"), begin, find(api.ClWork, 3, api.ClLeft, 7), nil},
		row{begin, did(0, "W5 D1"), spot(0, 1, 0), find(api.ClWork, 0, api.ClLeft, 5), nil},
		row{begin, did(0, "D5"), spot(0, 2, 0), find(api.ClDrive, 2, api.ClLeft, 4), nil},
		row{begin, did(0, "D3"), spot(0, 2, 0), find(api.ClDrive, 2, api.ClLeft, 2), nil},
		row{begin, did(0, "D2 W1"), spot(0, 2, 1), find(api.ClOpen, 2, api.ClLeft, 2), nil},
		row{begin, did(0, "D2 R3 W1 R1"), spot(0, 2, 1), find(api.ClServe, 6, api.ClLeft, 6), nil},
		row{begin, did(0, "W1 D3 R2 W3 D4 R21 W3 D4 W2"), end, find(api.ClDrive, 3, api.ClWork, 0), visits(0, 6, 9, 3, 34, 36, 4, 36, 37, 6, 41, 43)},
		row{end, did(0, "W1 D1"), end, find(api.ClDrive, 1, api.ClWork, 0), nil},
		row{end, did(0, "R1 D1 A1 D1 W1"), end, find(api.ClDrive, 1, api.ClWork, 4), nil},
		row{spot(6, 1, 0), did(0, "W1 R1 W1 W1 D1"), end, find(api.ClDrive, 4, api.ClWork, 3, api.ClOpen, 0, api.ClServe, 1), visits(6, 0, 3)},
	)
}

// TestNoTasks: of no tasks, and of such with nothing to do, no driving and no work is asked for, and all is done.
func TestNoTasks(t *testing.T) {
	for _, l := range [][]api.Task{nil, {}, {task(0, 0)}, make([]api.Task, 2001)} {
		s, r := spot(len(l), 0, 0), did(3, "A2 D2 R1 W2 D1 W1")
		checkTrail(t, l, s, nil, s, nil, nil)
		checkTrail(t, l, s, did(0, "R5 A5 R1"), s, nil, nil)
		checkTrail(t, l, s, did(0, "D1"), s, find(api.ClDrive, 0), nil)
		checkTrail(t, l, s, did(0, "W1"), s, find(api.ClWork, 0), nil)
		checkTrail(t, l, s, r, s, find(api.ClDrive, 5, api.ClWork, 8), nil)
	}
}

// TestAtMaxTime: timelines that end at MaxTime, or fill all time.
func TestAtMaxTime(t *testing.T) {
	l := []api.Task{task(10, 2, 40318, 40320), task(0, 0)}
	checkTrail(t, l, begin, did(40308, "D10 W2"), spot(2, 0, 0), nil, visits(0, 40318, 40320))
	checkTrail(t, l, begin, did(0, "D10 R40308 W2"), spot(2, 0, 0), nil, visits(0, 40318, 40320))
	checkTrail(t, l, begin, did(40308, "D10 R1 W1"), spot(0, 10, 1), find(api.ClLeft, 40319), nil)
	checkTrail(t, l, begin, did(40308, "D11 W1"), spot(0, 10, 1), find(api.ClDrive, 40318, api.ClLeft, 40319), nil)
	checkTrail(t, l, begin, did(40307, "D10 W3"), spot(2, 0, 0), find(api.ClWork, 40319, api.ClOpen, 40317), visits(0, 40317, 40319))
	checkTrail(t, l, begin, did(40307, "D10 R1 W1 A1"), spot(0, 10, 1), find(api.ClServe, 40319, api.ClLeft, 40319), nil)
	great := []api.Task{task(10080, 1440, 10080, 10081), task(10080, 0), task(10080, 1440, 31680, 31681), task(7200, 0)}
	checkTold(t, great, begin, did(0, "D10080 W1440 D10080 D10080 W1440 D7200"), spot(4, 0, 0), nil, visits(0, 10080, 11520, 2, 31680, 33120))
	checkTold(t, great, begin, did(1, "D10080 W1440 D10080 D10080 W1440 D7199"), spot(3, 7199, 0), find(api.ClOpen, 10081, api.ClLeft, 40319), visits(0, 10081, 11521, 2, 31681, 33121))
}

// TestVisits: services of all sorts.
func TestVisits(t *testing.T) {
	open := func(drive, serve int) api.Task { return task(drive, serve, 0, 40320) }
	// Of one minute, one behind the other in one record, with tasks that have nothing to do between them.
	l := []api.Task{open(0, 1), task(0, 0), open(0, 1), open(0, 3), task(0, 0), task(0, 0), open(0, 1), task(1, 0), open(0, 2), task(0, 0)}
	all := visits(0, 7, 8, 2, 8, 9, 3, 9, 12, 6, 12, 13, 8, 14, 16)
	checkTrail(t, l, begin, did(7, "W6 D1 W2"), spot(10, 0, 0), nil, all)
	checkTrail(t, l, begin, did(7, "W9"), spot(7, 0, 0), find(api.ClWork, 13, api.ClLeft, 15), all[:4])
	checkTrail(t, l, begin, did(7, "W4"), spot(3, 0, 2), find(api.ClLeft, 10), all[:2])
	checkTrail(t, l, begin, did(7, "W5"), spot(6, 0, 0), find(api.ClLeft, 11), all[:3])
	checkTrail(t, l, begin, did(7, "W3 W2 W1 D1 W1 W1"), spot(10, 0, 0), nil, all)
	checkTrail(t, l, begin, did(7, "W1 W1 W1 W1 W1 W1 D1 W1"), spot(8, 0, 1), find(api.ClLeft, 14), all[:4])
	// Drives without services are no visits.
	checkTrail(t, []api.Task{task(2, 0), task(0, 0), task(3, 0)}, begin, did(0, "D5"), spot(3, 0, 0), nil, nil)
	checkTrail(t, []api.Task{task(2, 0), open(0, 1), task(3, 0)}, begin, did(0, "D2 W1 D3"), spot(3, 0, 0), nil, visits(1, 2, 3))
	// One that was begun ahead of the timeline is none, whether it is broken off or not, and the next one is.
	l = []api.Task{open(1, 4), open(0, 4)}
	checkTrail(t, l, spot(0, 1, 1), did(100, "W8"), spot(2, 0, 0), find(api.ClWork, 107), visits(1, 103, 107))
	checkTrail(t, l, spot(0, 1, 3), did(100, "W8"), spot(2, 0, 0), find(api.ClWork, 105), visits(1, 101, 105))
	checkTrail(t, l, spot(0, 1, 3), did(100, "R2 W1 W4"), spot(2, 0, 0), find(api.ClServe, 100), visits(1, 103, 107))
	checkTrail(t, l, spot(0, 1, 2), did(100, "W1 D1 W1 A1 W4"), spot(2, 0, 0), find(api.ClDrive, 101, api.ClServe, 101), visits(1, 104, 108))
	checkTrail(t, l, spot(0, 1, 2), did(100, "W1"), spot(0, 1, 3), find(api.ClLeft, 100), nil)
	checkTrail(t, l, spot(0, 1, 1), did(100, "W3"), spot(1, 0, 0), find(api.ClLeft, 102), nil)
	checkTrail(t, l, spot(0, 1, 0), did(100, "W8"), spot(2, 0, 0), nil, visits(0, 100, 104, 1, 104, 108))
	// One that is broken off by driving, too, is one; one that is not ended is none.
	checkTrail(t, l, begin, did(100, "D1 W2 D3 W2 W4"), spot(2, 0, 0), find(api.ClDrive, 103, api.ClServe, 103), visits(0, 101, 108, 1, 108, 112))
	checkTrail(t, l, begin, did(100, "D1 W2 R3 W1 A1 W1 W3 R1"), spot(1, 0, 3), find(api.ClServe, 103, api.ClLeft, 112), visits(0, 101, 109))
	checkTrail(t, l, begin, did(100, "D1 W3 R5"), spot(0, 1, 3), find(api.ClServe, 104, api.ClLeft, 108), nil)
	// Work that is none of a service, ahead of it, behind it, and behind all.
	checkTrail(t, l, begin, did(100, "W7 D1 W8 W7"), spot(2, 0, 0), find(api.ClWork, 100), visits(0, 108, 112, 1, 112, 116))
	checkTrail(t, []api.Task{open(1, 1), open(1, 1)}, begin, did(100, "W2 D1 W5 R1 D1 W1 W1"), spot(2, 0, 0), find(api.ClWork, 100), visits(0, 103, 104, 1, 110, 111))
	// One that begins when none may.
	checkTrail(t, []api.Task{task(0, 2, 5, 6), task(0, 2, 5, 6)}, begin, did(4, "W4"), spot(2, 0, 0), find(api.ClOpen, 4), visits(0, 4, 6, 1, 6, 8))
	checkTrail(t, []api.Task{task(0, 2, 5, 6), task(0, 2, 5, 6)}, begin, did(5, "W4"), spot(2, 0, 0), find(api.ClOpen, 7), visits(0, 5, 7, 1, 7, 9))
}

// TestErrors: tasks that may not be, spots that are not right, and lists that are no timeline; and which error comes first.
func TestErrors(t *testing.T) {
	right, wrongSpots := did(0, "D2 R3 W3"), []api.Spot{spot(-1, 0, 0), spot(0, 3, 0), spot(0, 1, 1), spot(1, 0, 0), spot(8, 1, 0), spot(9, 0, 0), spot(math.MinInt, 0, 0), spot(math.MaxInt, 0, 0), spot(0, math.MinInt, math.MaxInt)}
	for _, w := range sample.NoTasks() {
		for _, l := range [][]api.Task{{w.Task}, slices.Concat(tour(), []api.Task{w.Task}), slices.Concat([]api.Task{w.Task}, tour())} {
			for _, s := range append(wrongSpots, begin, end) {
				for _, r := range [][]api.Record{nil, right, {rec(4, 0, 5)}, {rec(3, 5, 5)}} {
					checkErr(t, l, s, r, w.Err)
				}
			}
		}
	}
	many := make([]api.Task, 2002)
	for _, s := range append(wrongSpots, spot(2002, 0, 0)) {
		checkErr(t, many, s, right, api.ErrMany)
		checkErr(t, many, s, []api.Record{rec(4, 0, 5)}, api.ErrMany)
	}
	for _, s := range wrongSpots {
		checkErr(t, tour(), s, nil, api.ErrArg)
		checkErr(t, tour(), s, right, api.ErrArg)
		for _, w := range sample.Wrong() {
			checkErr(t, tour(), s, w.L, api.ErrArg)
		}
	}
	for _, w := range sample.Wrong() {
		for _, s := range []api.Spot{begin, spot(0, 1, 0), spot(0, 2, 1), spot(3, 0, 0), end} {
			checkErr(t, tour(), s, w.L, w.Err)
		}
		checkErr(t, nil, spot(0, 0, 0), w.L, w.Err)
		if l, err := trail.Strip(w.L); len(l) != 0 || err != w.Err {
			t.Errorf("Strip(%v) = %v, %d, want %d alone", sample.Short(w.L), sample.Short(l), err, w.Err)
		}
	}
}

// TestStrip: timelines of each kind, by turns, side by side, and with rest between.
func TestStrip(t *testing.T) {
	for _, c := range []struct {
		did  string
		want []int
	}{
		{"", nil},
		{"R5", nil}, {"A5", nil}, {"R5 A5 A1 R1", nil}, {"R40320", nil},
		{"D1", []int{1}}, {"W1", []int{-1}}, {"D5", []int{5}}, {"W5", []int{-5}}, {"D40320", []int{40320}}, {"W40320", []int{-40320}},
		{"D2 W3", []int{2, -3}}, {"W3 D2", []int{-3, 2}}, {"D2 W3 D4 W1", []int{2, -3, 4, -1}}, {"W1 D1 W1 D1", []int{-1, 1, -1, 1}},
		{"D2 D3", []int{5}}, {"W2 W3 W1", []int{-6}}, {"D2 D3 W1 W1 D7", []int{5, -2, 7}},
		{"R1 D2 R3", []int{2}}, {"A1 W2 A3", []int{-2}},
		{"D2 R5 D3", []int{5}}, {"D2 A5 D3", []int{5}}, {"W2 R5 W3", []int{-5}}, {"W2 A5 R1 W3", []int{-5}}, {"D2 R5 A1 R1 D3 R3", []int{5}},
		{"D2 R5 W3", []int{2, -3}}, {"W2 A5 D3", []int{-2, 3}}, {"D2 R5 W3 A1 W4 R1 D1 R1", []int{2, -7, 1}},
		{"R9 D2 D1 R5 D4 W1 A1 R1 W1 W2 D1 R1 D1 A40290", []int{7, -4, 2}},
	} {
		checkStrip(t, did(0, c.did), c.want...)
	}
	checkStrip(t, []api.Record{})
	checkStrip(t, did(40316, "D1 R1 D1 W1"), 2, -1)
	checkStrip(t, did(5, "W40315"), -40315)
	for _, r := range sample.Right() {
		checkStrip(t, r, stripped(r)...)
	}
}
