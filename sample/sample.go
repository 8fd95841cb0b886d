// Package sample has what tests of several layers are made of: records, spans, timelines, books, meters, windows, tasks, and numbers at the edges. No layer calls it.
package sample

import (
	"math"
	"slices"

	"haulier/api"
)

// Rec is a record.
func Rec(kind, from, to int) api.Record { return api.Record{Kind: kind, From: from, To: to} }

// Span is a span.
func Span(from, to int) api.Span { return api.Span{From: from, To: to} }

// List is a list of records.
func List(l ...api.Record) []api.Record { return l }

// NoKinds are numbers that are none of a kind of activity.
func NoKinds() []int {
	return []int{-1, 4, -2, 5, 'R', 'D', 256, 256 + 3, 1 << 32, 1<<32 + 3, math.MinInt, math.MinInt + 3, math.MaxInt - 1, math.MaxInt}
}

// Minutes are small ones, those at the limits and just outside, and those at both ends of 64 bits.
func Minutes() []int {
	return []int{math.MinInt, math.MinInt + 1, -40320, -2, -1, 0, 1, 2, 3, 40319, 40320, 40321, 1 << 32, 1<<32 + 1, math.MaxInt - 1, math.MaxInt}
}

// Small are all timelines of up to three records of one or two minutes each, that begin at 0, 1 or 3, and of none.
func Small() [][]api.Record {
	l := [][]api.Record{nil}
	for _, from := range []int{0, 1, 3} {
		few := [][]api.Record{{}}
		for range 3 {
			few = behind(few, from)
			l = append(l, few...)
		}
	}
	return l
}

// behind has each timeline with each record of one or two minutes behind; the first record of one without any begins at from.
func behind(few [][]api.Record, from int) [][]api.Record {
	var more [][]api.Record
	for _, t := range few {
		begin := from
		if len(t) > 0 {
			begin = t[len(t)-1].To
		}
		for kind := range api.Kinds {
			more = append(more, append(slices.Clone(t), Rec(kind, begin, begin+1)), append(slices.Clone(t), Rec(kind, begin, begin+2)))
		}
	}
	return more
}

// Many is one record a minute, as many as there are minutes: kind by kind in turn, or all of one.
func Many(turn bool) []api.Record {
	var l []api.Record
	for m := range api.MaxTime {
		kind := api.Work
		if turn {
			kind = m % api.Kinds
		}
		l = append(l, Rec(kind, m, m+1))
	}
	return l
}

// Chain is records from a minute on, each behind the one ahead; of each, the kind and the length.
func Chain(from int, l ...[2]int) []api.Record {
	var records []api.Record
	for _, r := range l {
		records = append(records, Rec(r[0], from, from+r[1]))
		from += r[1]
	}
	return records
}

// Long are timelines that are longer than small ones, or reach the limits, and an empty one.
func Long() [][]api.Record {
	return [][]api.Record{
		{},
		List(Rec(0, 0, 40320)),
		List(Rec(3, 0, 1)),
		List(Rec(1, 40319, 40320)),
		List(Rec(2, 0, 40319), Rec(2, 40319, 40320)),
		List(Rec(2, 0, 1), Rec(1, 1, 40320)),
		List(Rec(3, 5, 10), Rec(3, 10, 15), Rec(3, 15, 20), Rec(3, 20, 25)),
		Chain(100, [2]int{0, 540}, [2]int{3, 270}, [2]int{0, 15}, [2]int{0, 30}, [2]int{2, 60}, [2]int{2, 1}, [2]int{2, 2}, [2]int{1, 9}, [2]int{0, 660}),
		Chain(40000, [2]int{3, 100}, [2]int{2, 100}, [2]int{3, 100}, [2]int{3, 20}),
		Chain(0, [2]int{0, 1}, [2]int{1, 1}, [2]int{2, 1}, [2]int{3, 1}, [2]int{3, 1}, [2]int{2, 1}, [2]int{1, 1}, [2]int{0, 1}),
		Chain(7, [2]int{1, 3}, [2]int{1, 3}, [2]int{0, 3}, [2]int{1, 3}, [2]int{1, 3}),
	}
}

// Right are lists that are timelines, small ones and long ones.
func Right() [][]api.Record { return slices.Concat(Small(), Long()) }

// WrongList is a list that is no timeline, where it is wrong, and how.
type WrongList struct {
	L   []api.Record
	At  int
	Err api.Errno
}

// Wrong are lists that are no timelines, for each error, in the first record and behind others; of some there are several errors.
func Wrong() []WrongList {
	return []WrongList{
		{List(Rec(4, 0, 5)), 0, api.ErrKind},
		{List(Rec(-1, 0, 5)), 0, api.ErrKind},
		{List(Rec(0, -1, 5)), 0, api.ErrRange},
		{List(Rec(0, 0, 40321)), 0, api.ErrRange},
		{List(Rec(0, math.MinInt, math.MaxInt)), 0, api.ErrRange},
		{List(Rec(0, 5, 5)), 0, api.ErrSpan},
		{List(Rec(0, 5, 4)), 0, api.ErrSpan},
		{List(Rec(0, 0, 5), Rec(0, 6, 7)), 1, api.ErrGap},
		{List(Rec(0, 0, 5), Rec(0, 4, 7)), 1, api.ErrOverlap},
		{List(Rec(0, 0, 5), Rec(0, 5, 7), Rec(9, 7, 8)), 2, api.ErrKind},
		{List(Rec(0, 0, 5), Rec(1, 5, 7), Rec(2, 7, 8), Rec(3, 8, 8)), 3, api.ErrSpan},
		{List(Rec(0, 0, 5), Rec(1, 5, 7), Rec(2, 7, 8), Rec(3, 7, 9)), 3, api.ErrOverlap},
		{List(Rec(0, 0, 5), Rec(1, 5, 40320), Rec(2, 40320, 40321)), 2, api.ErrRange},
		{List(Rec(0, 0, 5), Rec(1, 50, 70), Rec(2, 70, 71)), 1, api.ErrGap},
		{List(Rec(3, 0, 5), Rec(3, 5, 7), Rec(0, 0, 5)), 2, api.ErrOverlap},
		{append(Many(true), Rec(0, 40320, 40321)), 40320, api.ErrRange},
		{List(Rec(4, -1, -1)), 0, api.ErrKind},
		{List(Rec(0, 41000, 41000)), 0, api.ErrRange},
		{List(Rec(0, 0, 5), Rec(1, 3, 3), Rec(7, 0, 0)), 1, api.ErrSpan},
	}
}

// All are lists that are timelines, and others that are none.
func All() [][]api.Record {
	l := Right()
	for _, w := range Wrong() {
		l = append(l, w.L)
	}
	return l
}

// Amid hands the list to the call as a piece of a longer one, once among records that are wrong and once among ones that are right, and tells whether all of that reads as before behind it.
func Amid(l []api.Record, call func(mine []api.Record)) bool {
	return Among(l, List(Rec(9, -9, -9), Rec(3, 0, 40320)), call)
}

// Among hands the list to the call as a piece of a longer one, with each of those beside it in turn, and tells whether all of that reads as before behind it.
func Among[T comparable](l, besides []T, call func(mine []T)) bool {
	for _, beside := range besides {
		before := slices.Concat([]T{beside}, l, []T{beside, beside})
		memory := slices.Clone(before)
		call(memory[1 : 1+len(l)])
		if !slices.Equal(memory, before) {
			return false
		}
	}
	return true
}

// Stays tells, when it is asked later, whether the list reads as it does now.
func Stays[T comparable](l []T) func() bool {
	before := slices.Clone(l)
	return func() bool { return slices.Equal(l, before) }
}

// Short is the begin of a list, as much of it as a failure tells.
func Short[T any](l []T) []T { return l[:min(len(l), 8)] }

// Orders hands on all orders of the list, each in memory of its own; of things that are the same the same order several times.
func Orders[T any](l []T, do func(l []T)) {
	var behind func(ahead, left []T)
	behind = func(ahead, left []T) {
		if len(left) == 0 {
			do(ahead)
		}
		for i, one := range left {
			behind(append(slices.Clone(ahead), one), slices.Concat(left[:i], left[i+1:]))
		}
	}
	behind(nil, l)
}
