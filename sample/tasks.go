package sample

import (
	"math"
	"slices"

	"haulier/api"
	"haulier/errand"
)

// Task is a drive, and a service that begins within the spans of these ends.
func Task(drive, serve int, ends ...int) api.Task {
	return api.Task{Drive: drive, Serve: serve, Open: Spans(ends...)}
}

// Spot is how many tasks are done, and how much of the next one is.
func Spot(done, driven, served int) api.Spot {
	return api.Spot{Task: done, Driven: driven, Served: served}
}

// Journey is tasks of all sorts: with both, with a drive or a service alone, with nothing to do amid the others and at the end.
func Journey() []api.Task {
	return []api.Task{Task(2, 3, 5, 7, 20, 30), Task(0, 0), Task(4, 0), Task(0, 2, 10, 12), Task(3, 1, 0, 40320), Task(0, 0), Task(0, 0)}
}

// Tasks are tasks each of which may be.
func Tasks() []api.Task {
	l := []api.Task{{}, {Open: []api.Span{}}, Task(1, 0), Task(10079, 0), Task(10080, 0), Task(0, 1, 0, 1), Task(0, 1440, 480, 720), Task(10080, 1440, 480, 720, 840, 960)}
	for _, open := range Windows() {
		l = append(l, api.Task{Serve: 1, Open: open}, api.Task{Drive: 10080, Serve: 1440, Open: open})
	}
	return l
}

// WrongTask is a task that may not be, and what is wrong with it first.
type WrongTask struct {
	Task api.Task
	Err  api.Errno
}

// NoTasks are tasks none of which may be, for each error, and such as have several.
func NoTasks() []WrongTask {
	var l []WrongTask
	for _, n := range []int{math.MinInt, -10080, -2, -1, 10081, 10082, 40320, 1 << 32, math.MaxInt} {
		l = append(l,
			WrongTask{Task(n, 0), api.ErrRange},
			WrongTask{Task(n, 15, 480, 720), api.ErrRange},
			// What is wrong with the windows too, or that there are any, is told later.
			WrongTask{Task(n, 15), api.ErrRange},
			WrongTask{Task(n, 15, 7, 7), api.ErrRange},
			WrongTask{Task(n, 0, 480, 720), api.ErrRange},
			WrongTask{Task(n, n, 480, 720), api.ErrRange})
	}
	for _, n := range []int{math.MinInt, -1440, -2, -1, 1441, 1442, 10080, 1 << 32, math.MaxInt} {
		l = append(l,
			WrongTask{Task(0, n, 480, 720), api.ErrRange},
			WrongTask{Task(60, n, 480, 720), api.ErrRange},
			WrongTask{Task(60, n), api.ErrRange},
			WrongTask{Task(60, n, 7, 7), api.ErrRange})
	}
	for _, w := range NoWindows() {
		l = append(l,
			WrongTask{api.Task{Drive: 60, Serve: 15, Open: w.L}, w.Err},
			WrongTask{api.Task{Serve: 1, Open: w.L}, w.Err},
			WrongTask{api.Task{Drive: 10080, Serve: 1440, Open: w.L}, w.Err})
		if len(w.L) > 0 {
			l = append(l, WrongTask{api.Task{Drive: 60, Open: w.L}, api.ErrArg})
		}
	}
	for _, open := range Windows() {
		l = append(l, WrongTask{api.Task{Open: open}, api.ErrArg}, WrongTask{api.Task{Drive: 10080, Open: open}, api.ErrArg})
	}
	return l
}

// TaskLists are lists of tasks of all sorts, such as may be and others.
func TaskLists() [][]api.Task {
	l := [][]api.Task{nil, Journey(), Tasks(), {Task(0, 0), Task(0, 0)}, slices.Repeat(Journey(), 250), slices.Repeat(Journey(), 300)}
	for _, w := range NoTasks() {
		l = append(l, []api.Task{Task(2, 3, 5, 7), w.Task})
	}
	return l
}

// SmallTasks hands on all lists of up to two small tasks, and of three that are smaller yet.
func SmallTasks(do func(l []api.Task)) {
	var small, smaller []api.Task
	for drive := range 3 {
		small = append(small, Task(drive, 0))
		for serve := 1; serve < 3; serve++ {
			small = append(small, Task(drive, serve, 0, 1), Task(drive, serve, 1, 2, 3, 4), Task(drive, serve, 2, 5))
		}
	}
	for drive := range 2 {
		smaller = append(smaller, Task(drive, 0), Task(drive, 1, 1, 2), Task(drive, 1, 0, 1, 2, 4), Task(drive, 2, 0, 1, 3, 5))
	}
	do(nil)
	for _, a := range small {
		do([]api.Task{a})
		for _, b := range small {
			do([]api.Task{a, b})
		}
	}
	for _, a := range smaller {
		for _, b := range smaller {
			for _, c := range smaller {
				do([]api.Task{a, b, c})
			}
		}
	}
}

// AnyTasks is that many tasks, as draws below n tell: of drives and services up to a length, some of which are none, and windows that may be.
func AnyTasks(draw func(n int) int, count, long int) []api.Task {
	var l []api.Task
	for range count {
		var one api.Task
		if draw(4) > 0 {
			one.Drive = draw(long)
		}
		if draw(2) > 0 {
			one.Serve = 1 + draw(long)
			at := draw(long)
			for range 1 + draw(api.MaxOpen) {
				one.Open = append(one.Open, Span(at, at+1+draw(4*long)))
				at = one.Open[len(one.Open)-1].To + 1 + draw(4*long)
			}
		}
		l = append(l, one)
	}
	return l
}

// OpenLate has the last windows of all tasks go on up to the end, so that there is time for whatever comes late.
func OpenLate(l []api.Task) {
	for _, one := range l {
		if n := len(one.Open); n > 0 {
			one.Open[n-1].To = api.MaxTime
		}
	}
}

// Spots are all spots of the tasks that are right.
func Spots(l []api.Task) []api.Spot {
	spots := []api.Spot{Spot(len(l), 0, 0)}
	for i, one := range l {
		for driven := range one.Drive + 1 {
			for served := range one.Serve + 1 {
				if s := Spot(i, driven, served); errand.Right(l, s) {
					spots = append(spots, s)
				}
			}
		}
	}
	return spots
}

// AnySpot is a spot of the tasks that is right, as draws below n tell.
func AnySpot(draw func(n int) int, l []api.Task) api.Spot {
	s := Spot(draw(len(l)+1), 0, 0)
	// Where there is nothing to do in a task no spot lies there.
	for s.Task < len(l) && l[s.Task].Drive == 0 && l[s.Task].Serve == 0 {
		s.Task++
	}
	if s.Task == len(l) {
		return s
	}
	one := l[s.Task]
	if one.Drive == 0 || one.Serve > 0 && draw(2) == 0 {
		return Spot(s.Task, one.Drive, draw(one.Serve))
	}
	return Spot(s.Task, draw(one.Drive), 0)
}

// AnyTrail is a timeline from that minute on of that many records, as draws below n tell; many of them are of what is due.
func AnyTrail(draw func(n int) int, l []api.Task, s api.Spot, from, count, long int) []api.Record {
	var r []api.Record
	for range count {
		kind, n := draw(api.Kinds), 1+draw(long)
		if s.Task < len(l) && draw(4) > 0 {
			kind = api.Work
			if s.Driven < l[s.Task].Drive {
				kind = api.Drive
			}
			if draw(2) == 0 {
				n = l[s.Task].Drive - s.Driven
				if n == 0 {
					n = l[s.Task].Serve - s.Served
				}
			}
		}
		one := Rec(kind, from, from+n)
		s, _, _ = errand.Over(l, s, one)
		r = append(r, one)
		from += n
	}
	return r
}

// Following is a timeline that follows the tasks from the spot on, as draws below n tell: what is due, cut at will, with rest at will where no service is under way, and where one has to wait.
func Following(draw func(n int) int, l []api.Task, s api.Spot, from int) []api.Record {
	var r []api.Record
	for at := from; !errand.Done(l, s); {
		kind, n := api.Drive, 0
		if one := l[s.Task]; s.Driven < one.Drive {
			n = 1 + draw(one.Drive-s.Driven)
		} else {
			kind, n = api.Work, 1+draw(one.Serve-s.Served)
			if s.Served == 0 && !Has(one.Open, at) {
				kind, n = draw(2), 1
			}
		}
		if s.Served == 0 && draw(5) == 0 {
			kind, n = draw(2), 1+draw(9)
		}
		one := Rec(kind, at, at+n)
		s, _, _ = errand.Over(l, s, one)
		r = append(r, one)
		at += n
	}
	return r
}

// AmidTasks are the same tasks, from the third on as a piece of longer memory, and so are their spans; what lies beside them, ahead and behind, would be told if it were read.
func AmidTasks(l []api.Task) (memory []api.Task, windows []api.Span) {
	beside := []api.Span{Span(-9, 40330), Span(0, 40320), Span(5, 5)}
	windows = slices.Clone(beside)
	for _, one := range l {
		windows = slices.Concat(windows, one.Open, beside)
	}
	memory = []api.Task{Task(-5, 0), Task(2, 1, 0, 40320)}
	at := len(beside)
	for _, one := range l {
		end := at + len(one.Open)
		memory = append(memory, api.Task{Drive: one.Drive, Serve: one.Serve, Open: windows[at:end]})
		at = end + len(beside)
	}
	return append(memory, Task(1, 0), Task(-5, 0), Task(0, 1, 0, 40320)), windows
}
