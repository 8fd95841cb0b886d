package duty_test

import (
	"slices"
	"sort"

	"haulier/api"
	"haulier/sample"
)

// looked: a timeline that is looked back over from each of its minutes, by the chapter's words.
type looked struct {
	book           api.Book
	kinds          []int      // of its minutes
	rests          []api.Span // its spells of rest behind which there is a minute, in order
	driven, worked []int      // how many minutes of Drive, and of Drive or Work, lie ahead of each minute
}

// lookAt: the timeline's minutes.
func lookAt(b api.Book, l []api.Record) looked {
	p := looked{book: b, driven: []int{0}, worked: []int{0}}
	for _, r := range l {
		p.kinds = append(p.kinds, slices.Repeat([]int{r.Kind}, r.To-r.From)...)
	}
	lie := 0
	for m, kind := range p.kinds {
		driven, worked := p.driven[m], p.worked[m]
		switch kind {
		case api.Rest:
			lie++
		case api.Drive:
			driven, worked = driven+1, worked+1
		case api.Work:
			worked++
		}
		if kind != api.Rest && lie > 0 {
			p.rests, lie = append(p.rests, sample.Span(m-lie, m)), 0
		}
		p.driven, p.worked = append(p.driven, driven), append(p.worked, worked)
	}
	return p
}

func long(s api.Span) int { return s.To - s.From }

// ended: the rests that ended, looking back from the minute.
func (p looked) ended(m int) []api.Span {
	return p.rests[:sort.Search(len(p.rests), func(i int) bool { return p.rests[i].To > m })]
}

// last: the last one of these rests that is as long as that, if there is one.
func last(l []api.Span, least int) (api.Span, bool) {
	for _, s := range slices.Backward(l) {
		if long(s) >= least {
			return s, true
		}
	}
	return api.Span{}, false
}

func (p looked) dawn(m int) int {
	s, _ := last(p.ended(m), p.book.Reduced)
	return s.To
}

func (p looked) sabbath(m int) int {
	s, _ := last(p.ended(m), p.book.Short)
	return s.To
}

// pause: the last break's end.
func (p looked) pause(m int) int {
	at := 0
	for i, s := range p.ended(m) {
		first := func() bool {
			return slices.ContainsFunc(p.rests[:i], func(ahead api.Span) bool { return ahead.To > at && long(ahead) >= p.book.First })
		}
		if long(s) >= p.book.Break || long(s) >= p.book.Second && first() {
			at = s.To
		}
	}
	return at
}

// isReduced: is the rest a reduced one?
func (p looked) isReduced(s api.Span) bool {
	if long(s) < p.book.Reduced || long(s) >= p.book.Short {
		return false
	}
	ahead := p.ended(s.From)
	dawn := p.dawn(s.From)
	inTwo := slices.ContainsFunc(ahead, func(part api.Span) bool {
		return part.From >= dawn && long(part) >= p.book.Part && long(part) < p.book.Reduced
	})
	return !inTwo && min(s.To, dawn+p.book.Round)-s.From < p.book.Regular
}

// longerDays: how many days since the sabbath have more than Day of driving.
func (p looked) longerDays(m int) int {
	n, from := 0, p.sabbath(m)
	for _, s := range append(slices.Clone(p.ended(m)), sample.Span(0, m+1)) {
		if s.To <= from || s.To <= m && long(s) < p.book.Reduced {
			continue
		}
		if p.driven[s.To]-p.driven[from] > p.book.Day {
			n++
		}
		from = s.To
	}
	return n
}

// week: the begin of the minute's week, as many weeks further as that, but no less than 0.
func (p looked) week(m, weeks int) int { return max(0, (m/p.book.Length+weeks)*p.book.Length) }

// breaks: does the minute break the clause?
func (p looked) breaks(c, m int) bool {
	b, kind := p.book, p.kinds[m]
	driven := func(from int) int { return p.driven[m+1] - p.driven[from] }
	if kind == api.Rest || kind != api.Drive && c <= api.ClFortnight || kind == api.Avail && c == api.ClLabour {
		return false
	}
	switch c {
	case api.ClBreak:
		return driven(p.pause(m)) > b.Drive
	case api.ClLonger:
		return driven(p.dawn(m)) > b.Longer
	case api.ClLongers:
		return driven(p.dawn(m)) == b.Day+1 && p.longerDays(m) > b.Longers
	case api.ClWeek:
		return driven(p.week(m, 0)) > b.Week
	case api.ClFortnight:
		return driven(p.week(m, -1)) > b.Fortnight
	case api.ClDaily:
		return m-p.dawn(m) >= b.Round-b.Reduced
	case api.ClReduces:
		return p.reduces(m)
	case api.ClWeekly:
		return m-p.sabbath(m) >= b.Rounds
	case api.ClBrief:
		return p.brief(m)
	}
	return p.worked[m+1]-p.worked[p.week(m, 0)] > b.Labour
}

// reduces: does a reduced rest end with the minute, and are there too many behind the sabbath?
func (p looked) reduces(m int) bool {
	l := p.ended(m)
	if len(l) == 0 || l[len(l)-1].To != m || !p.isReduced(l[len(l)-1]) {
		return false
	}
	n, sabbath := 0, p.sabbath(m)
	for _, s := range l {
		if s.To > sabbath && p.isReduced(s) {
			n++
		}
	}
	return n > p.book.Reduces
}

// brief: does a weekly rest that is too short for a regular one end with the minute, and was the one ahead so?
func (p looked) brief(m int) bool {
	l := p.ended(m)
	if len(l) == 0 || l[len(l)-1].To != m {
		return false
	}
	is := func(s api.Span) bool { return long(s) >= p.book.Short && long(s) < p.book.Weekly }
	ahead, ok := last(l[:len(l)-1], p.book.Short)
	return is(l[len(l)-1]) && ok && is(ahead)
}

// from: where a finding of the clause begins, as it was ahead of the minute.
func (p looked) from(c, m int) int {
	switch c {
	case api.ClBreak:
		return p.pause(m - 1)
	case api.ClLonger, api.ClDaily:
		return p.dawn(m - 1)
	case api.ClWeek, api.ClLabour:
		return p.week(m, 0)
	case api.ClFortnight:
		return p.week(m, -1)
	}
	return p.sabbath(m - 1)
}

// plain: what is to be found of the timeline, clause by clause, minute by minute.
func plain(b api.Book, l []api.Record) []api.Finding {
	p := lookAt(b, l)
	var found []api.Finding
	for c := range 10 {
		for m := range p.kinds {
			if p.breaks(c, m) {
				found = append(found, find(c, p.from(c, m), m+1))
				break
			}
		}
	}
	return found
}
