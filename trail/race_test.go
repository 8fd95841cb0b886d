package trail_test

import (
	"math"
	"reflect"
	"slices"
	"testing"

	"haulier/api"
	"haulier/sample"
	"haulier/trail"
)

// checkAlong: of all timelines of up to so many more minutes, from at on, behind those of the walk what is told is what the chapter's words say.
func checkAlong(t *testing.T, l []api.Task, s api.Spot, r []api.Record, w walk, at, more int) {
	last := 0
	if len(r) > 0 {
		last = at - 1
	}
	checkTold(t, l, s, r, w.spot, w.found(last), w.visits)
	if more == 0 {
		return
	}
	for kind := range api.Kinds {
		behind := w
		behind.began = map[int]int{}
		for i, from := range w.began {
			behind.began[i] = from
		}
		behind.visits = slices.Clone(w.visits)
		behind.minute(t, at, kind)
		checkAlong(t, l, s, append(slices.Clone(r), rec(kind, at, at+1)), behind, at+1, more-1)
	}
}

// TestSmallWorlds: of all small tasks all spots and all short timelines.
func TestSmallWorlds(t *testing.T) {
	sample.SmallTasks(func(l []api.Task) {
		for _, s := range sample.Spots(l) {
			for from := range 3 {
				checkAlong(t, l, s, nil, walkFrom(l, s), from, 5-len(l))
			}
		}
	})
}

// TestMany: of many tasks, spots and timelines what is told is what layer 19's Step says, minute by minute.
func TestMany(t *testing.T) {
	draw := chance(20).Intn
	count := map[int]int{}
	for i := range 6000 {
		long := []int{2, 5, 20, 60}[i%4]
		l := sample.AnyTasks(draw, draw(10), long)
		s := sample.AnySpot(draw, l)
		r := sample.AnyTrail(draw, l, s, draw(200), draw(14), long)
		w, last := plain(t, l, s, r)
		checkTold(t, l, s, r, w.spot, w.found(last), w.visits)
		for _, same := range sample.Alike(r) {
			checkTold(t, l, s, same, w.spot, w.found(last), w.visits)
		}
		checkStrip(t, r, stripped(r)...)
		for _, f := range w.found(last) {
			count[f.Clause]++
		}
		count[100+min(3, len(w.visits))]++
	}
	for _, c := range []int{10, 11, 12, 13, 14, 100, 101, 102, 103} {
		if count[c] < 300 {
			t.Errorf("the test itself: of %d there are but %d", c, count[c])
		}
	}
}

// TestStripped: what follows tasks is, stripped, just their drives and services, one behind the other; each service is a visit; with a minute less, or of another kind, it doesn't follow or it is stripped of the same.
func TestStripped(t *testing.T) {
	draw := chance(205).Intn
	for i := range 800 {
		l := sample.AnyTasks(draw, 1+draw(12), []int{2, 5, 20, 60}[i%4])
		sample.OpenLate(l)
		s := sample.AnySpot(draw, l)
		r := sample.Following(draw, l, s, draw(500))
		w, last := plain(t, l, s, r)
		checkTold(t, l, s, r, spot(len(l), 0, 0), nil, w.visits)
		services := 0
		for _, one := range l[s.Task:] {
			services += min(1, one.Serve)
		}
		if s.Served > 0 {
			services--
		}
		if len(w.visits) != services {
			t.Errorf("of %v, from %v on, there are %d services, and %v visits", l, s, services, w.visits)
		}
		if len(r) == 0 {
			continue
		}
		each := sample.Alike(r)[2]
		each[draw(len(each))].Kind = draw(api.Kinds)
		w, last = plain(t, l, s, each)
		checkTold(t, l, s, each, w.spot, w.found(last), w.visits)
		less := each[:draw(len(each))]
		w, last = plain(t, l, s, less)
		checkTold(t, l, s, less, w.spot, w.found(last), w.visits)
	}
}

// TestGreat: as many tasks as there may be, with as many windows, and as many minutes, one a record.
func TestGreat(t *testing.T) {
	l := slices.Repeat([]api.Task{{Drive: 10, Serve: 10, Open: append(sample.Apart(7), sample.Span(30, 40320))}}, 2001)
	var r []api.Record
	var all []trail.Visit
	for m := 30; m < 40050; m++ {
		kind := api.Drive
		if m/10%2 == 0 {
			kind = api.Work
		}
		r = append(r, rec(kind, m, m+1))
		if m%20 == 0 {
			all = append(all, trail.Visit{Task: len(all), From: m, To: m + 10})
		}
	}
	checkTold(t, l, begin, r, spot(2001, 0, 0), nil, all)
	checkTold(t, l, begin, r[:len(r)-1], spot(2000, 10, 9), find(api.ClLeft, 40048), all[:2000])
	l[1000] = task(10, 10, 0, 20040)
	checkTold(t, l, begin, r, spot(2001, 0, 0), find(api.ClOpen, 20040), all)
	// Each kind a minute in turn: ten of driving, ten of work, which is broken off each time, and so on.
	turn := sample.Many(true)
	all = nil
	for at := 42; at+37 <= 40320; at += 76 {
		all = append(all, trail.Visit{Task: len(all), From: at, To: at + 37})
	}
	checkTold(t, l, begin, turn, spot(530, 10, 0), find(api.ClDrive, 43, api.ClWork, 2, api.ClServe, 43, api.ClLeft, 40319), all)
}

// argumentTasks are tasks of all sorts, such as may be and others; argumentRecords are such records.
func argumentTasks() [][]api.Task {
	l := [][]api.Task{nil, tour(), sample.Journey(), sample.Tasks(), {task(0, 0), task(0, 0)}}
	for _, w := range sample.NoTasks()[:60] {
		l = append(l, []api.Task{task(2, 3, 5, 7), w.Task})
	}
	return l
}

func argumentRecords() [][]api.Record {
	return [][]api.Record{
		nil, did(0, "D2 R3 W3 D4 R22 W3 D4 W2"), did(0, "W1 D3 W2 R1"), did(7, "D1 W1 A1 D1"), did(0, "D2 W3"), did(40000, "R20 D300"),
		{rec(3, 0, 5), rec(3, 6, 7)}, {rec(4, 0, 5)},
	}
}

// callAll: all calls of the tasks, at some spots, of the records.
func callAll(l []api.Task, r []api.Record) []any {
	var told []any
	for _, s := range []api.Spot{begin, spot(0, 2, 1), spot(2, 1, 0), spot(len(l), 0, 0), spot(-1, math.MinInt, math.MaxInt)} {
		to, found, err := trail.Audit(l, s, r)
		visits, visitsErr := trail.Visits(l, s, r)
		told = append(told, to, slices.Clone(found), err, trail.Follows(l, s, r), slices.Clone(visits), visitsErr)
	}
	stripped, err := trail.Strip(r)
	return append(told, slices.Clone(stripped), err)
}

// TestArguments: what is handed in reads as before, and what lies beside it in memory is neither read nor written.
func TestArguments(t *testing.T) {
	for _, l := range argumentTasks() {
		for _, r := range argumentRecords() {
			want := callAll(l, r)
			memory, windows := sample.AmidTasks(l)
			before, beforeWindows := sample.AmidTasks(l)
			mine := memory[2 : 2+len(l)]
			same := sample.Amid(r, func(records []api.Record) {
				if got := callAll(mine, records); !reflect.DeepEqual(got, want) {
					t.Errorf("of %v and %v amid other memory all that is told is %v, want %v", sample.Short(l), r, got, want)
				}
			})
			if !same || !reflect.DeepEqual(memory, before) || !slices.Equal(windows, beforeWindows) {
				t.Errorf("%v or %v does not read as before", sample.Short(l), r)
			}
		}
	}
}

// TestAnswersAreNewMemory: who writes to an answer, also behind its length, changes no other one.
func TestAnswersAreNewMemory(t *testing.T) {
	l, r := tour(), did(0, "W1 D3 W2 R1 W1 D9 W9")
	want := callAll(l, r)
	for range 2 {
		_, found, _ := trail.Audit(l, begin, r)
		visits, _ := trail.Visits(l, begin, r)
		stripped, _ := trail.Strip(r)
		if len(found) == 0 || len(visits) == 0 || len(stripped) == 0 {
			t.Fatalf("the test itself: there is told %v, %v, %v", found, visits, stripped)
		}
		for i := range found[:cap(found)] {
			found[:cap(found)][i] = api.Finding{Clause: -9, From: -9, To: -9}
		}
		for i := range visits[:cap(visits)] {
			visits[:cap(visits)][i] = trail.Visit{Task: -9, From: -9, To: -9}
		}
		for i := range stripped[:cap(stripped)] {
			stripped[:cap(stripped)][i] = -9
		}
		if !reflect.DeepEqual(callAll(l, r), want) || !reflect.DeepEqual(l, tour()) || !slices.Equal(r, did(0, "W1 D3 W2 R1 W1 D9 W9")) {
			t.Error("what was written to an answer is seen in another one, or in what was handed in")
		}
	}
}

// TestNothingIsKept: what was told before is nothing to what is told of the same memory with other things in it.
func TestNothingIsKept(t *testing.T) {
	l, r := tour(), did(0, "D2 R3 W3 D4 R22 W3 D4 W2")
	before := callAll(l, r)
	l[0].Open[0] = sample.Span(6, 7)
	checkTrail(t, l, begin, r, end, find(api.ClOpen, 5), visits(0, 5, 8, 3, 34, 36, 4, 36, 37, 6, 41, 43))
	r[1].To, r[2].From = 6, 6
	checkTrail(t, l, begin, r, spot(4, 0, 0), find(api.ClDrive, 8, api.ClWork, 35, api.ClOpen, 41, api.ClServe, 8, api.ClLeft, 42), visits(0, 6, 35, 3, 41, 43))
	l[0].Drive = -1
	checkErr(t, l, begin, r, api.ErrRange)
	if !reflect.DeepEqual(callAll(tour(), did(0, "D2 R3 W3 D4 R22 W3 D4 W2")), before) {
		t.Error("what is told of the same things is another thing now")
	}
}

// TestAnyNumbers: each call ends, and tells what the chapter's words say, whatever the numbers are.
func TestAnyNumbers(t *testing.T) {
	numbers := append(sample.Minutes(), 4, 5, 6, 1440, 10080)
	draw := chance(2000).Intn
	one := func() int { return numbers[draw(len(numbers))] }
	for range 60000 {
		l := tour()
		if draw(3) == 0 {
			l[draw(len(l))] = task(one(), one(), one(), one())
		}
		s := spot(one(), one(), one())
		if draw(4) > 0 {
			s = sample.AnySpot(draw, tour())
		}
		r := did(draw(9), "D2 R3 W3")
		if draw(2) == 0 {
			r[draw(3)] = rec(one(), one(), one())
		}
		if err := plainErr(l, s, r); err != api.OK {
			checkErr(t, l, s, r, err)
		} else {
			w, last := plain(t, l, s, r)
			checkTold(t, l, s, r, w.spot, w.found(last), w.visits)
		}
	}
}
