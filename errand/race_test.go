package errand_test

import (
	"math"
	"reflect"
	"slices"
	"testing"

	"haulier/api"
	"haulier/errand"
	"haulier/sample"
)

// spotsAround are all spots of the tasks, right ones and such as lie beside these.
func spotsAround(l []api.Task) []api.Spot {
	var spots []api.Spot
	for done := -1; done <= len(l)+1; done++ {
		for driven := -1; driven <= 3; driven++ {
			for served := -1; served <= 3; served++ {
				spots = append(spots, spot(done, driven, served))
			}
		}
	}
	return spots
}

// TestSmallWorlds: of all small tasks all spots, minutes and records, against the chapter's words.
func TestSmallWorlds(t *testing.T) {
	sample.SmallTasks(func(l []api.Task) {
		for _, s := range spotsAround(l) {
			checkSpot(t, l, s)
			if !plainRight(l, s) {
				continue
			}
			for kind := range api.Kinds {
				for begin := range 6 {
					checkMinute(t, l, s, begin, kind)
					w := walk{t: t, l: l, from: s, begin: begin, kind: kind, spot: s, firsts: firsts()}
					for end := begin + 1; end < 9; end++ {
						w.to(end)
						w.check()
					}
				}
			}
		}
	})
}

// TestSteps: of many tasks and spots, Over of a record is as Step minute by minute; a minute that breaks nothing takes one off what is left.
func TestSteps(t *testing.T) {
	draw := chance(19).Intn
	spoilt, whole := 0, 0
	for i := range 1500 {
		l := sample.AnyTasks(draw, draw(10), []int{2, 5, 20, 100}[i%4])
		from, kind, begin := sample.AnySpot(draw, l), draw(api.Kinds), draw(200)
		s, f := from, firsts()
		for m := begin; m < begin+1+draw(300); m++ {
			after, broken := checkMinute(t, l, s, m, kind)
			for i := range f {
				if broken&(1<<(10+i)) != 0 && f[i] == -1 {
					f[i] = m
				}
			}
			s = after
			r := rec(kind, begin, m+1)
			if got, firsts, err := errand.Over(l, from, r); got != s || firsts != f || err != api.OK {
				t.Fatalf("Over(%v, %v, %v) = %v, %v, %d, and minute by minute it is %v, %v", l, from, r, got, firsts, err, s, f)
			}
		}
		if f == firsts() {
			whole++
		} else {
			spoilt++
		}
	}
	if min(spoilt, whole) < 100 {
		t.Errorf("the test itself: %d records break something, and %d nothing", spoilt, whole)
	}
}

// TestDone: minutes that are asked for, and wait for windows, come from the start to the end of all tasks, break nothing, and are as many of each kind as were left.
func TestDone(t *testing.T) {
	draw := chance(194).Intn
	for i := range 300 {
		l := sample.AnyTasks(draw, 1+draw(12), []int{2, 5, 20, 60}[i%4])
		sample.OpenLate(l)
		s, _ := errand.Start(l)
		drive, serve, _ := errand.Left(l, s)
		count := [4]int{}
		for m := 0; !errand.Done(l, s); m++ {
			kind := api.Drive
			if s.Driven == l[s.Task].Drive {
				kind = api.Work
				if s.Served == 0 && !has(l[s.Task].Open, m) {
					kind = m % 2
				}
			}
			after, broken := checkMinute(t, l, s, m, kind)
			if broken != 0 {
				t.Fatalf("minute %d of %d at %v of %v breaks %d", m, kind, s, l, broken)
			}
			count[kind]++
			s = after
		}
		if count[api.Drive] != drive || count[api.Work] != serve || s != spot(len(l), 0, 0) {
			t.Errorf("%v come to %v by %d minutes of driving and %d of work, and %d and %d were left", l, s, count[3], count[2], drive, serve)
		}
	}
}

// TestMany: as many tasks as there may be, and as many minutes.
func TestMany(t *testing.T) {
	l := slices.Repeat([]api.Task{task(20, 0)}, 2001)
	checkOver(t, l, spot(0, 0, 0), rec(api.Drive, 0, 40020), spot(2001, 0, 0))
	checkOver(t, l, spot(0, 0, 0), rec(api.Drive, 0, 40019), spot(2000, 19, 0))
	checkOver(t, l, spot(0, 0, 0), rec(api.Drive, 0, 40320), spot(2001, 0, 0), [2]int{api.ClDrive, 40020})
	checkOver(t, l, spot(1000, 7, 0), rec(api.Drive, 7, 20020), spot(2001, 0, 0))
	l = slices.Repeat([]api.Task{task(0, 20, 0, 40320)}, 2001)
	checkOver(t, l, spot(0, 0, 0), rec(api.Work, 0, 40020), spot(2001, 0, 0))
	checkOver(t, l, spot(0, 0, 0), rec(api.Work, 0, 40320), spot(2001, 0, 0), [2]int{api.ClWork, 40020})
	l[2000] = task(0, 20, 0, 40000)
	checkOver(t, l, spot(0, 0, 0), rec(api.Work, 0, 40320), spot(2001, 0, 0), [2]int{api.ClOpen, 40000}, [2]int{api.ClWork, 40020})
	checkOver(t, []api.Task{task(10080, 1440, 0, 1)}, spot(0, 0, 0), rec(api.Drive, 0, 40320), spot(0, 10080, 0), [2]int{api.ClDrive, 10080})
	checkOver(t, []api.Task{task(10080, 1440, 0, 1)}, spot(0, 10080, 0), rec(api.Work, 0, 40320), spot(1, 0, 0), [2]int{api.ClWork, 1440})
	for kind := range api.Kinds {
		checkMinute(t, l, spot(2000, 0, 19), 5, kind)
		checkMinute(t, l, spot(2001, 0, 0), 5, kind)
	}
}

// callAll: all calls of the tasks, at some spots, minutes and records, right ones and others.
func callAll(l []api.Task) []any {
	var told []any
	tell := func(l ...any) { told = append(told, l...) }
	tell(errand.Check(l))
	s, err := errand.Start(l)
	tell(s, err)
	for _, s := range []api.Spot{spot(0, 0, 0), spot(0, 2, 0), spot(0, 2, 1), spot(1, 0, 0), spot(4, 3, 0), spot(len(l), 0, 0), spot(-1, math.MinInt, math.MaxInt)} {
		drive, serve, err := errand.Left(l, s)
		tell(errand.Right(l, s), errand.Done(l, s), drive, serve, err)
		for kind := -1; kind <= api.Kinds; kind++ {
			to, broken, err := errand.Step(l, s, 6, kind)
			tell(to, broken, err)
			to, firsts, err := errand.Over(l, s, rec(kind, 6, 600))
			tell(to, firsts, err)
		}
	}
	return told
}

// TestArguments: what is handed in reads as before, and what lies beside it in memory is neither read nor written.
func TestArguments(t *testing.T) {
	for _, l := range sample.TaskLists() {
		want := callAll(l)
		memory, windows := sample.AmidTasks(l)
		before, beforeWindows := sample.AmidTasks(l)
		mine := memory[2 : 2+len(l)]
		if got := callAll(mine); !reflect.DeepEqual(got, want) {
			t.Errorf("of %v amid other memory all that is told is %v, want %v", short(l), got, want)
		}
		if !reflect.DeepEqual(memory, before) || !slices.Equal(windows, beforeWindows) {
			t.Errorf("%v does not read as before", short(l))
		}
	}
}

// TestNothingIsKept: what was told before is nothing to what is told of the same memory with other tasks in it.
func TestNothingIsKept(t *testing.T) {
	l := journey()
	before := callAll(l)
	l[0], l[3].Open[0] = task(2, 1, 6, 7), sample.Span(6, 9)
	if !reflect.DeepEqual(callAll(l), callAll(slices.Clone(l))) {
		t.Error("other tasks in the same memory are told otherwise than in new one")
	}
	checkStep(t, l, spot(0, 2, 0), 6, api.Work, spot(2, 0, 0))
	checkStep(t, l, spot(0, 2, 0), 5, api.Work, spot(2, 0, 0), api.ClOpen)
	checkStep(t, l, spot(3, 0, 0), 6, api.Work, spot(3, 0, 1))
	checkTold(t, l, spot(0, 2, 1), api.ErrArg)
	l[0].Drive = -1
	checkTold(t, l, spot(0, 0, 0), api.ErrRange)
	if !reflect.DeepEqual(callAll(journey()), before) {
		t.Error("what is told of the same tasks is another thing now")
	}
}

// TestAnyNumbers: each call ends, and tells what the chapter's words say, whatever the numbers are.
func TestAnyNumbers(t *testing.T) {
	numbers := append(sample.Minutes(), 1440, 10080)
	draw := chance(1900).Intn
	one := func() int { return numbers[draw(len(numbers))] }
	for range 100000 {
		l := journey()
		if draw(3) == 0 {
			l[draw(len(l))] = task(one(), one(), one(), one())
		}
		s := spot(one(), one(), one())
		if draw(2) == 0 {
			s = sample.AnySpot(draw, journey())
		}
		m, kind := one(), one()
		want := plainCheck(l)
		if want == api.OK && !plainRight(l, s) {
			want = api.ErrArg
		}
		if want != api.OK {
			checkTold(t, l, s, want)
			checkStepErr(t, l, s, m, kind, want)
			checkOverErr(t, l, s, rec(kind, m, one()), want)
			continue
		}
		if err := plainRecord(rec(kind, 0, 1)); err != api.OK {
			checkStepErr(t, l, s, m, kind, err)
		} else if m < 0 || m > 40319 {
			checkStepErr(t, l, s, m, kind, api.ErrRange)
		} else {
			checkMinute(t, l, s, m, kind)
		}
	}
}
