package sample

import (
	"math"
	"slices"

	"haulier/api"
)

// Spans is, of each two ends, a span.
func Spans(ends ...int) []api.Span {
	var l []api.Span
	for i := 0; i+1 < len(ends); i += 2 {
		l = append(l, Span(ends[i], ends[i+1]))
	}
	return l
}

// Has tells whether one of the spans has the minute.
func Has(l []api.Span, m int) bool {
	for _, s := range l {
		if s.From <= m && m < s.To {
			return true
		}
	}
	return false
}

// Apart is that many windows, a minute apart, from 0 on.
func Apart(count int) []api.Span {
	var l []api.Span
	for i := range count {
		l = append(l, Span(3*i, 3*i+2))
	}
	return l
}

// Windows are spans that may be windows: one and several, at the limits, and near each other.
func Windows() [][]api.Span {
	return [][]api.Span{
		Spans(0, 1),
		Spans(0, 40320),
		Spans(40319, 40320),
		Apart(7),
		Apart(8),
		Spans(0, 720, 840, 40320),
		Spans(480, 720, 721, 960),
		Spans(480, 720, 840, 960),
	}
}

// WrongWindows is spans that are no windows, and what is wrong with them first.
type WrongWindows struct {
	L   []api.Span
	Err api.Errno
}

// NoWindows are spans that are no windows, for each error, and such as have several ones, whichever window has which fault.
func NoWindows() []WrongWindows {
	return []WrongWindows{
		{nil, api.ErrNone},
		{[]api.Span{}, api.ErrNone},
		{Apart(9), api.ErrMany},
		{Apart(10), api.ErrMany},
		{Apart(5000), api.ErrMany},
		// One is empty, or ends ahead of its begin.
		{Spans(480, 480), api.ErrSpan},
		{Spans(480, 479), api.ErrSpan},
		{Spans(480, 720, 840, 840), api.ErrSpan},
		{Spans(480, 720, 960, 840), api.ErrSpan},
		{Spans(0, 0), api.ErrSpan},
		{Spans(40320, 40320), api.ErrSpan},
		{Spans(0, 1, 2, 3, 4, 5, 6, 7, 8, 9, 10, 11, 12, 13, 14, 14), api.ErrSpan},
		{Spans(math.MaxInt, math.MinInt), api.ErrSpan},
		// One begins below 0, or ends behind MaxTime.
		{Spans(-1, 720), api.ErrRange},
		{Spans(-1, 0), api.ErrRange},
		{Spans(-5, -2, 0, 720), api.ErrRange},
		{Spans(480, 40321), api.ErrRange},
		{Spans(480, 720, 840, 40321), api.ErrRange},
		{Spans(480, 720, 40320, 40321), api.ErrRange},
		{Spans(480, 720, 50000, 50001), api.ErrRange},
		{Spans(-1, 720, 840, 960), api.ErrRange},
		{Spans(math.MinInt, math.MaxInt), api.ErrRange},
		{Spans(math.MinInt, math.MinInt+1), api.ErrRange},
		{Spans(math.MaxInt-1, math.MaxInt), api.ErrRange},
		// They touch, overlap, lie one in another, are the same, or stand in another order.
		{Spans(480, 720, 720, 960), api.ErrOverlap},
		{Spans(480, 720, 719, 960), api.ErrOverlap},
		{Spans(480, 720, 500, 600), api.ErrOverlap},
		{Spans(500, 600, 480, 720), api.ErrOverlap},
		{Spans(480, 720, 480, 600), api.ErrOverlap},
		{Spans(480, 720, 600, 720), api.ErrOverlap},
		{Spans(480, 720, 480, 720), api.ErrOverlap},
		{Spans(840, 960, 480, 720), api.ErrOverlap},
		{Spans(721, 960, 480, 720), api.ErrOverlap},
		{Spans(720, 960, 480, 720), api.ErrOverlap},
		{Spans(0, 1, 480, 720, 840, 960, 960, 961), api.ErrOverlap},
		{Spans(0, 1, 840, 960, 480, 720, 1000, 1001), api.ErrOverlap},
		{Spans(0, 1, 480, 720, 0, 1), api.ErrOverlap},
		// Too many, and all else.
		{append(Apart(8), Span(5, 5)), api.ErrMany},
		{append(Apart(8), Span(-5, 40321)), api.ErrMany},
		{append(Apart(8), Span(0, 1)), api.ErrMany},
		{make([]api.Span, 9), api.ErrMany},
		{slices.Repeat(Spans(-1, -1), 9), api.ErrMany},
		{slices.Repeat(Spans(0, 40321), 9), api.ErrMany},
		// Not right, and beyond the limits: the same one, and others ahead and behind.
		{Spans(-1, -1), api.ErrSpan},
		{Spans(40321, 40321), api.ErrSpan},
		{Spans(50000, -50000), api.ErrSpan},
		{Spans(-1, 5, 7, 7), api.ErrSpan},
		{Spans(7, 7, 9, 40321), api.ErrSpan},
		{Spans(0, 40321, 7, 6), api.ErrSpan},
		// Not right, and no set.
		{Spans(480, 720, 500, 500), api.ErrSpan},
		{Spans(480, 720, 480, 720, 5, 5), api.ErrSpan},
		{Spans(5, 5, 480, 720, 480, 720), api.ErrSpan},
		{Spans(5, 5, 5, 5), api.ErrSpan},
		// Beyond the limits, and no set.
		{Spans(-1, 5, -1, 5), api.ErrRange},
		{Spans(480, 720, 720, 960, 1000, 40321), api.ErrRange},
		{Spans(480, 720, 480, 720, -1, 5), api.ErrRange},
		{Spans(480, 720, -7, -5), api.ErrRange},
		{Spans(40320, 40321, 480, 720), api.ErrRange},
		{Spans(math.MinInt, math.MaxInt, math.MinInt, math.MaxInt), api.ErrRange},
		// All three.
		{Spans(-1, 5, 4, 40321, 7, 7), api.ErrSpan},
		{Spans(7, 7, -1, 5, 4, 40321), api.ErrSpan},
	}
}
