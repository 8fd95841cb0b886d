package meter_test

import (
	"slices"

	"haulier/api"
	"haulier/book"
	"haulier/sample"
)

// past: what a driver did from the minute 0 on, as a normal timeline. All that a meter tells is looked for in it anew.
type past []api.Record

// with: the past with a minute of the kind behind it.
func (p past) with(kind int) past {
	now := p.now()
	if last := len(p) - 1; last >= 0 && p[last].Kind == kind {
		longer := slices.Clone(p)
		longer[last].To++
		return longer
	}
	return append(slices.Clone(p), sample.Rec(kind, now, now+1))
}

// now: how many minutes went by.
func (p past) now() int {
	if len(p) == 0 {
		return 0
	}
	return p[len(p)-1].To
}

// of: how many minutes of the kinds lie from from on, below to.
func (p past) of(from, to int, kinds ...int) int {
	n := 0
	for _, r := range p {
		if slices.Contains(kinds, r.Kind) {
			n += max(0, min(r.To, to)-max(r.From, from))
		}
	}
	return n
}

// rests: the spells of rest that ended, as long at least as that.
func (p past) rests(least int) []api.Span {
	var l []api.Span
	for i, r := range p {
		if r.Kind == api.Rest && i < len(p)-1 && r.To-r.From >= least {
			l = append(l, span(r.From, r.To))
		}
	}
	return l
}

// end: the end of the last one of the spells, 0 if there is none.
func end(l []api.Span) int {
	if len(l) == 0 {
		return 0
	}
	return l[len(l)-1].To
}

// pause: the last break's end, and whether a break's first part ended since.
func (p past) pause(b api.Book) (int, bool) {
	at, half := 0, false
	for _, s := range p.rests(1) {
		long := s.To - s.From
		switch {
		case long >= b.Break, half && long >= b.Second:
			at, half = s.To, false
		case long >= b.First:
			half = true
		}
	}
	return at, half
}

// split: did a daily rest's first part end from that minute on, and not behind the other one?
func (p past) split(b api.Book, from, to int) bool {
	return slices.ContainsFunc(p.rests(b.Part), func(s api.Span) bool {
		return s.From >= from && s.To <= to && s.To-s.From < b.Reduced
	})
}

// reduced: the reduced daily rests that ended behind that minute.
func (p past) reduced(b api.Book, behind int) []api.Span {
	var l []api.Span
	dawn := 0
	for _, s := range p.rests(b.Reduced) {
		inRound := min(s.To, dawn+b.Round) - s.From
		if s.To > behind && s.To-s.From < b.Short && inRound < b.Regular && !p.split(b, dawn, s.From) {
			l = append(l, s)
		}
		dawn = s.To
	}
	return l
}

// longer: how many days since that minute have more driving than Day.
func (p past) longer(b api.Book, sabbath int) int {
	n, from := 0, sabbath
	for _, s := range append(p.rests(b.Reduced), span(0, p.now())) {
		if s.To <= sabbath {
			continue
		}
		if p.of(from, s.To, api.Drive) > b.Day {
			n++
		}
		from = s.To
	}
	return n
}

// weeks: the begin of the last minute's week, and that of the week ahead, in which there may be no minutes.
func (p past) weeks(b api.Book) (int, int) {
	if len(p) == 0 {
		return 0, -b.Length
	}
	begin := 0
	for begin+b.Length < p.now() {
		begin += b.Length
	}
	return begin, begin - b.Length
}

// meter: what the past has come to.
func (p past) meter(b api.Book) api.Meter {
	m := api.Meter{Now: p.now(), Dawn: end(p.rests(b.Reduced)), Sabbath: end(p.rests(b.Short))}
	if len(p) > 0 && p[len(p)-1].Kind == api.Rest {
		last := p[len(p)-1]
		m.Lie = last.To - last.From
	}
	pause, half := p.pause(b)
	m.Acc, m.Half = p.of(pause, m.Now, api.Drive), half
	m.Day, m.Split = p.of(m.Dawn, m.Now, api.Drive), p.split(b, m.Dawn, m.Now)
	m.Longers, m.Reduces = p.longer(b, m.Sabbath), len(p.reduced(b, m.Sabbath))
	if l := p.rests(b.Short); len(l) > 0 {
		m.Brief = l[len(l)-1].To-l[len(l)-1].From < b.Weekly
	}
	week, ahead := p.weeks(b)
	m.Week, m.Last = p.of(week, m.Now, api.Drive), p.of(ahead, week, api.Drive)
	m.Labour = p.of(week, m.Now, api.Drive, api.Work)
	return m
}

// broken: the clauses that the past's last minute breaks, looking back from it.
func (p past) broken(b api.Book) []int {
	var l []int
	says := func(clause int, is bool) {
		if is {
			l = append(l, clause)
		}
	}
	kind, minute := p[len(p)-1].Kind, p.now()-1
	if kind == api.Rest {
		return nil
	}
	dawn, sabbath := end(p.rests(b.Reduced)), end(p.rests(b.Short))
	week, ahead := p.weeks(b)
	if kind == api.Drive {
		pause, _ := p.pause(b)
		day := p.of(dawn, minute+1, api.Drive)
		says(api.ClBreak, p.of(pause, minute+1, api.Drive) > b.Drive)
		says(api.ClLonger, day > b.Longer)
		says(api.ClLongers, day == b.Day+1 && p.longer(b, sabbath) > b.Longers)
		says(api.ClWeek, p.of(week, minute+1, api.Drive) > b.Week)
		says(api.ClFortnight, p.of(ahead, minute+1, api.Drive) > b.Fortnight)
	}
	says(api.ClDaily, minute-dawn >= b.Round-b.Reduced)
	reduced := p.reduced(b, sabbath)
	says(api.ClReduces, end(reduced) == minute && minute > 0 && len(reduced) > b.Reduces)
	says(api.ClWeekly, minute-sabbath >= b.Rounds)
	if l := p.rests(b.Short); len(l) > 1 && end(l) == minute {
		last, other := l[len(l)-1], l[len(l)-2]
		says(api.ClBrief, last.To-last.From < b.Weekly && other.To-other.From < b.Weekly)
	}
	if kind == api.Drive || kind == api.Work {
		says(api.ClLabour, p.of(week, minute+1, api.Drive, api.Work) > b.Labour)
	}
	return l
}

// plain: a minute more as the document has it, word by word, of any meter that may be.
func plain(b api.Book, m api.Meter, kind int) (api.Meter, int) {
	var l []int
	says := func(clause int, is bool) {
		if is {
			l = append(l, clause)
		}
	}
	if m.Now > 0 && m.Now%b.Length == 0 {
		m.Last = m.Week
		m.Week = 0
		m.Labour = 0
	}
	if kind == api.Rest {
		m.Lie, m.Now = m.Lie+1, m.Now+1
		return m, 0
	}
	if m.Lie > 0 {
		m, l = plainEnd(b, m)
	}
	says(api.ClDaily, m.Now-m.Dawn >= b.Round-b.Reduced)
	says(api.ClWeekly, m.Now-m.Sabbath >= b.Rounds)
	if kind == api.Drive {
		m.Acc, m.Day, m.Week = m.Acc+1, m.Day+1, m.Week+1
		says(api.ClBreak, m.Acc > b.Drive)
		if m.Day-b.Day == 1 {
			m.Longers++
			says(api.ClLongers, m.Longers > b.Longers)
		}
		says(api.ClLonger, m.Day > b.Longer)
		says(api.ClWeek, m.Week > b.Week)
		says(api.ClFortnight, m.Week > b.Fortnight-m.Last)
	}
	if kind != api.Avail {
		m.Labour++
		says(api.ClLabour, m.Labour > b.Labour)
	}
	m.Now++
	return m, set(l...)
}

// plainEnd: the meter behind a spell of rest that ends, and the clauses that are broken by that.
func plainEnd(b api.Book, m api.Meter) (api.Meter, []int) {
	var l []int
	from, long := m.Now-m.Lie, m.Lie
	dawn := min(m.Dawn, from)
	inRound := min(m.Now, dawn+b.Round) - from
	m.Lie = 0
	if long >= b.Short {
		brief := long < b.Weekly
		if brief && m.Brief {
			l = append(l, api.ClBrief)
		}
		m.Brief, m.Sabbath, m.Longers, m.Reduces = brief, m.Now, 0, 0
	}
	if long >= b.Reduced {
		if long < b.Short && !m.Split && inRound < b.Regular {
			m.Reduces++
			if m.Reduces > b.Reduces {
				l = append(l, api.ClReduces)
			}
		}
		m.Dawn, m.Day, m.Acc, m.Half, m.Split = m.Now, 0, 0, false, false
		return m, l
	}
	if long >= b.Part {
		m.Split = true
	}
	if long >= b.Break || m.Half && long >= b.Second {
		m.Acc, m.Half = 0, false
	} else if long >= b.First {
		m.Half = true
	}
	return m, l
}

// plainCheck: may the meter be?
func plainCheck(m api.Meter) bool {
	now := m.Now
	return 0 <= now && now <= 40320 &&
		0 <= m.Acc && m.Acc <= now && 0 <= m.Lie && m.Lie <= now && 0 <= m.Dawn && m.Dawn <= now &&
		0 <= m.Day && m.Day <= now && 0 <= m.Longers && m.Longers <= now && 0 <= m.Reduces && m.Reduces <= now &&
		0 <= m.Sabbath && m.Sabbath <= now && 0 <= m.Week && m.Week <= now && 0 <= m.Last && m.Last <= now &&
		0 <= m.Labour && m.Labour <= now
}

// plainRun: minutes one behind the other as the document has them, with the error that comes first.
func plainRun(b api.Book, m api.Meter, kinds ...int) (api.Meter, int, api.Errno) {
	if book.Check(b) != api.OK {
		return api.Meter{}, 0, api.ErrBook
	}
	if !plainCheck(m) {
		return api.Meter{}, 0, api.ErrArg
	}
	all := 0
	for _, kind := range kinds {
		if kind != api.Rest && kind != api.Avail && kind != api.Work && kind != api.Drive {
			return api.Meter{}, 0, api.ErrKind
		}
		if m.Now >= 40320 {
			return api.Meter{}, 0, api.ErrRange
		}
		var broken int
		m, broken = plain(b, m, kind)
		all |= broken
	}
	return m, all, api.OK
}
