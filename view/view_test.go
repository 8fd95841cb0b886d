package view_test

import (
	"math"
	"slices"
	"strings"
	"testing"

	"haulier/api"
	"haulier/record"
	"haulier/sample"
	"haulier/view"
)

var rec, span, list = sample.Rec, sample.Span, sample.List

// letterOf: the letters as the document names them, kind by kind.
func letterOf(kind int) byte {
	switch kind {
	case api.Rest:
		return 'R'
	case api.Avail:
		return 'A'
	case api.Work:
		return 'W'
	case api.Drive:
		return 'D'
	}
	return 0
}

// minute: a minute and its kind.
type minute struct{ m, kind int }

// minutesOf: the minutes of records, one by one.
func minutesOf(l []api.Record) []minute {
	var minutes []minute
	for _, r := range l {
		for m := r.From; m < r.To; m++ {
			minutes = append(minutes, minute{m, r.Kind})
		}
	}
	return minutes
}

// viewOf: the view of a timeline, letter by letter.
func viewOf(l []api.Record) (int, string) {
	at, s := 0, []byte{}
	for i, m := range minutesOf(l) {
		if i == 0 {
			at = m.m
		}
		s = append(s, letterOf(m.kind))
	}
	return at, string(s)
}

// normalOf: a record for as many letters of one kind as there are side by side, and whether all are letters of kinds.
func normalOf(at int, s string) ([]api.Record, bool) {
	var l []api.Record
	for i := range len(s) {
		kind := strings.IndexByte("RAWD", s[i])
		if kind < 0 {
			return nil, false
		}
		if i == 0 || s[i] != s[i-1] {
			l = append(l, rec(kind, at+i, at+i))
		}
		l[len(l)-1].To = at + i + 1
	}
	return l, true
}

// spellsOf: each span of letters whose ends are of the kind, and so is all between, but not what stands on either side.
func spellsOf(s string, kind int) []api.Span {
	is := func(i int) bool {
		return i >= 0 && i < len(s) && kind >= 0 && kind < 4 && s[i] == letterOf(kind)
	}
	var spells []api.Span
	for from := range len(s) {
		if !is(from) || is(from-1) {
			continue
		}
		to := from
		for is(to) {
			to++
		}
		spells = append(spells, span(from, to))
	}
	return spells
}

// texts: all texts of at most so many of the bytes.
func texts(bytes string, most int) []string {
	all, last := []string{""}, []string{""}
	for range most {
		var longer []string
		for _, s := range last {
			for i := range len(bytes) {
				longer = append(longer, s+bytes[i:i+1])
			}
		}
		all, last = append(all, longer...), longer
	}
	return all
}

// head: a text as a failure tells it.
func head(s string) string { return s[:min(len(s), 20)] }

func checkOf(t *testing.T, l []api.Record, at int, s string, err api.Errno) {
	t.Helper()
	if gotAt, got, gotErr := view.Of(l); gotAt != at || got != s || gotErr != err {
		t.Errorf("Of(%v) = %d, %q (%d letters), %d, want %d, %q (%d letters), %d", sample.Short(l), gotAt, head(got), len(got), gotErr, at, head(s), len(s), err)
	}
}

func checkFrom(t *testing.T, at int, s string, want []api.Record, err api.Errno) {
	t.Helper()
	got, gotErr := view.From(at, s)
	if !slices.Equal(got, want) || gotErr != err {
		t.Errorf("From(%d, %q: %d letters) = %v, %d, want %v, %d", at, head(s), len(s), sample.Short(got), gotErr, sample.Short(want), err)
	}
	if !record.IsNormal(got) {
		t.Errorf("From(%d, %q: %d letters) = %v, which isn't normal", at, head(s), len(s), sample.Short(got))
	}
}

func checkSpells(t *testing.T, s string, kind int, want ...api.Span) {
	t.Helper()
	if got := view.Spells(s, kind); !slices.Equal(got, want) {
		t.Errorf("Spells(%q: %d letters, %d) = %v, want %v", head(s), len(s), kind, sample.Short(got), sample.Short(want))
	}
}

// first: at most so many of the minutes that Each hands on, as one who then stops gets them.
func first(l []api.Record, most int) []minute {
	var got []minute
	for m, kind := range view.Each(l) {
		if len(got) == most {
			break
		}
		got = append(got, minute{m, kind})
	}
	return got
}

func checkEach(t *testing.T, l []api.Record, want []minute) {
	t.Helper()
	if got := first(l, math.MaxInt); !slices.Equal(got, want) {
		t.Errorf("Each(%v) hands on %v (%d minutes), want %v (%d minutes)", sample.Short(l), sample.Short(got), len(got), sample.Short(want), len(want))
	}
}

// TestLetter: the letter of each kind, and of what is none.
func TestLetter(t *testing.T) {
	for kind, want := range []byte{'R', 'A', 'W', 'D'} {
		if got, ok := view.Letter(kind); got != want || !ok {
			t.Errorf("Letter(%d) = %q, %t, want %q, true", kind, got, ok, want)
		}
	}
	for _, kind := range sample.NoKinds() {
		if got, ok := view.Letter(kind); got != 0 || ok {
			t.Errorf("Letter(%d) = %q, %t, want 0, false", kind, got, ok)
		}
	}
	for _, c := range []struct {
		kind int
		want byte
	}{{api.Rest, 'R'}, {api.Avail, 'A'}, {api.Work, 'W'}, {api.Drive, 'D'}} {
		if got, ok := view.Letter(c.kind); got != c.want || !ok {
			t.Errorf("Letter(%d) = %q, %t, want %q, true", c.kind, got, ok, c.want)
		}
	}
}

// TestKind: each of the 256 bytes, and the four letters there and back.
func TestKind(t *testing.T) {
	for i := range 256 {
		c := byte(i)
		want, wantOK := 0, true
		switch c {
		case 'R':
			want = api.Rest
		case 'A':
			want = api.Avail
		case 'W':
			want = api.Work
		case 'D':
			want = api.Drive
		default:
			wantOK = false
		}
		got, ok := view.Kind(c)
		if got != want || ok != wantOK {
			t.Errorf("Kind(%q) = %d, %t, want %d, %t", c, got, ok, want, wantOK)
		}
		if back, _ := view.Letter(got); ok && back != c {
			t.Errorf("Letter(Kind(%q)) = %q", c, back)
		}
	}
}

// TestOf: views of tables of the edges.
func TestOf(t *testing.T) {
	for _, c := range []struct {
		l  []api.Record
		at int
		s  string
	}{
		{nil, 0, ""},
		{[]api.Record{}, 0, ""},
		{make([]api.Record, 0, 3), 0, ""},
		{list(rec(3, 5, 7), rec(0, 7, 8)), 5, "DDR"},
		{list(rec(0, 0, 1)), 0, "R"},
		{list(rec(1, 0, 1)), 0, "A"},
		{list(rec(2, 0, 1)), 0, "W"},
		{list(rec(3, 0, 1)), 0, "D"},
		{list(rec(3, 7, 8), rec(2, 8, 9), rec(1, 9, 10), rec(0, 10, 11)), 7, "DWAR"},
		{list(rec(3, 7, 8), rec(3, 8, 9), rec(0, 9, 11), rec(0, 11, 12), rec(3, 12, 13)), 7, "DDRRRD"},
		{list(rec(2, 40319, 40320)), 40319, "W"},
		{list(rec(2, 40317, 40318), rec(1, 40318, 40320)), 40317, "WAA"},
		{list(rec(1, 0, 40320)), 0, strings.Repeat("A", 40320)},
		{list(rec(1, 0, 1), rec(2, 1, 40320)), 0, "A" + strings.Repeat("W", 40319)},
		{sample.Many(true), 0, strings.Repeat("RAWD", 10080)},
	} {
		checkOf(t, c.l, c.at, c.s, api.OK)
	}
	for _, l := range sample.Right() {
		at, s := viewOf(l)
		checkOf(t, l, at, s, api.OK)
	}
}

// TestOfErrors: of what is no timeline, Check's error, and nothing beside it.
func TestOfErrors(t *testing.T) {
	for _, c := range sample.Wrong() {
		if _, err := record.Check(c.L); err != c.Err {
			t.Errorf("the test itself: %v is wrong by %d, and should be by %d", sample.Short(c.L), err, c.Err)
		}
		checkOf(t, c.L, 0, "", c.Err)
	}
}

// TestFrom: timelines of tables of the edges.
func TestFrom(t *testing.T) {
	for _, c := range []struct {
		at int
		s  string
		l  []api.Record
	}{
		{5, "DDR", list(rec(3, 5, 7), rec(0, 7, 8))},
		{0, "R", list(rec(0, 0, 1))},
		{0, "A", list(rec(1, 0, 1))},
		{0, "W", list(rec(2, 0, 1))},
		{0, "D", list(rec(3, 0, 1))},
		{7, "DWAR", list(rec(3, 7, 8), rec(2, 8, 9), rec(1, 9, 10), rec(0, 10, 11))},
		{7, "DDRRRD", list(rec(3, 7, 9), rec(0, 9, 12), rec(3, 12, 13))},
		{0, strings.Repeat("RAWD", 10080), sample.Many(true)},
		{1, "A" + strings.Repeat("D", 40318), list(rec(1, 1, 2), rec(3, 2, 40320))},
	} {
		checkFrom(t, c.at, c.s, c.l, api.OK)
	}
}

// TestFromRange: first minutes at the limits, outside and at both ends of 64 bits, with no letters, with as many as end at MaxTime, and with one more.
func TestFromRange(t *testing.T) {
	for _, at := range []int{0, 1, 2, 1440, 20000, 40318, 40319, 40320} {
		checkFrom(t, at, "", nil, api.OK)
		for _, n := range []int{40320 - at - 1, 40320 - at} {
			if n > 0 {
				checkFrom(t, at, strings.Repeat("W", n), list(rec(2, at, at+n)), api.OK)
			}
		}
		for _, n := range []int{1, 2, 3, 100000} {
			checkFrom(t, at, strings.Repeat("W", 40320-at+n), nil, api.ErrRange)
		}
	}
	for _, at := range []int{-1, -2, -5, -40320, -40321, -1 << 32, math.MinInt + 1, math.MinInt, 40321, 40322, 1 << 32, math.MaxInt - 3, math.MaxInt - 1, math.MaxInt} {
		for _, s := range []string{"", "D", "DR", "DRWA", "RRRRRRRRRR", strings.Repeat("A", 40319), strings.Repeat("A", 40320), strings.Repeat("A", 40321)} {
			checkFrom(t, at, s, nil, api.ErrRange)
		}
	}
}

// TestFromKind: each byte that is no letter of a kind, at the first place, in between and at the last one.
func TestFromKind(t *testing.T) {
	for i := range 256 {
		c := string([]byte{byte(i)})
		if strings.Contains("RAWD", c) {
			continue
		}
		for _, s := range []string{c, c + "DDR", "D" + c + "DR", "DDR" + c, c + c, "RAWD" + c + "RAWD"} {
			checkFrom(t, 5, s, nil, api.ErrKind)
		}
	}
	long := strings.Repeat("D", 40319)
	for _, s := range []string{"x" + long, long + "x", long[:20000] + "x" + long[20000:], "d" + long, long + "\n"} {
		checkFrom(t, 0, s, nil, api.ErrKind)
		// Where both apply, the range's error comes first.
		checkFrom(t, 1, s, nil, api.ErrRange)
		checkFrom(t, -1, s, nil, api.ErrRange)
	}
	for _, s := range []string{"x", "Dx", "xD", "DRx", " "} {
		for _, at := range []int{math.MinInt, -1, 40320, 40321, math.MaxInt} {
			checkFrom(t, at, s, nil, api.ErrRange)
		}
		checkFrom(t, 40320-len(s), s, nil, api.ErrKind)
		checkFrom(t, 40321-len(s), s, nil, api.ErrRange)
	}
}

// TestFromEach: all short texts of the letters and of others, at several minutes.
func TestFromEach(t *testing.T) {
	for _, s := range texts("RAWDr\x00", 5) {
		l, ok := normalOf(7, s)
		want := api.OK
		if !ok {
			want = api.ErrKind
		}
		checkFrom(t, 7, s, l, want)
		for _, at := range []int{40315, 40316, 40317, 40318, 40319, 40320, 40321} {
			if at+len(s) > 40320 {
				checkFrom(t, at, s, nil, api.ErrRange)
			} else if l, ok := normalOf(at, s); ok {
				checkFrom(t, at, s, l, api.OK)
			} else {
				checkFrom(t, at, s, nil, api.ErrKind)
			}
		}
	}
}

// TestSpells: spells of tables of the edges.
func TestSpells(t *testing.T) {
	for kind := range 4 {
		c := string([]byte{letterOf(kind)})
		other := string([]byte{letterOf((kind + 1) % 4)})
		checkSpells(t, "", kind)
		checkSpells(t, c, kind, span(0, 1))
		checkSpells(t, other, kind)
		checkSpells(t, c+c+c, kind, span(0, 3))
		checkSpells(t, c+other+c, kind, span(0, 1), span(2, 3))
		checkSpells(t, other+c+c+other, kind, span(1, 3))
		checkSpells(t, other+other+c, kind, span(2, 3))
		checkSpells(t, c+other+other, kind, span(0, 1))
		checkSpells(t, c+c+other+c+c+c+other+other+c, kind, span(0, 2), span(3, 6), span(8, 9))
		// What is no letter ends a spell, and is in none.
		checkSpells(t, c+"x"+c, kind, span(0, 1), span(2, 3))
		checkSpells(t, "x"+c+c, kind, span(1, 3))
		checkSpells(t, c+c+"\x00", kind, span(0, 2))
		checkSpells(t, "xyz", kind)
		checkSpells(t, c+strings.ToLower(c)+c, kind, span(0, 1), span(2, 3))
	}
	checkSpells(t, "RAWD", api.Rest, span(0, 1))
	checkSpells(t, "RAWD", api.Avail, span(1, 2))
	checkSpells(t, "RAWD", api.Work, span(2, 3))
	checkSpells(t, "RAWD", api.Drive, span(3, 4))
	checkSpells(t, "DDRRRDWD", api.Drive, span(0, 2), span(5, 6), span(7, 8))
	// No limit is told of letters here.
	checkSpells(t, strings.Repeat("D", 100000), api.Drive, span(0, 100000))
	checkSpells(t, strings.Repeat("R", 40320)+"DD", api.Drive, span(40320, 40322))
	checkSpells(t, strings.Repeat("R", 40321)+"DDR", api.Rest, span(0, 40321), span(40323, 40324))
}

// TestSpellsEach: each of the 256 bytes, and all short texts, by each kind and by what is none.
func TestSpellsEach(t *testing.T) {
	kinds := append(sample.NoKinds(), 0, 1, 2, 3)
	for i := range 256 {
		for _, kind := range kinds {
			s := string([]byte{byte(i)})
			checkSpells(t, s, kind, spellsOf(s, kind)...)
			checkSpells(t, "D"+s+"D", kind, spellsOf("D"+s+"D", kind)...)
		}
	}
	for _, s := range texts("RAWDx", 5) {
		for _, kind := range kinds {
			checkSpells(t, s, kind, spellsOf(s, kind)...)
		}
	}
	for _, s := range texts("DR\x00", 8) {
		checkSpells(t, s, api.Drive, spellsOf(s, api.Drive)...)
		checkSpells(t, s, api.Rest, spellsOf(s, api.Rest)...)
	}
}

// TestEach: the minutes of tables of the edges, and of all timelines, to one who never stops.
func TestEach(t *testing.T) {
	checkEach(t, nil, nil)
	checkEach(t, []api.Record{}, nil)
	checkEach(t, list(rec(3, 5, 7), rec(0, 7, 8)), []minute{{5, 3}, {6, 3}, {7, 0}})
	checkEach(t, list(rec(3, 5, 6), rec(3, 6, 7), rec(3, 7, 8)), []minute{{5, 3}, {6, 3}, {7, 3}})
	checkEach(t, list(rec(2, 40318, 40319), rec(1, 40319, 40320)), []minute{{40318, 2}, {40319, 1}})
	checkEach(t, list(rec(0, 0, 1)), []minute{{0, 0}})
	for _, l := range sample.Right() {
		checkEach(t, l, minutesOf(l))
	}
	for _, c := range sample.Wrong() {
		checkEach(t, c.L, nil)
	}
}

// TestEachStops: who asks gets no more than he asks for, wherever he stops.
func TestEachStops(t *testing.T) {
	for _, l := range sample.Right() {
		want := minutesOf(l)
		for _, n := range []int{0, 1, 2, 3, len(want) / 2, len(want) - 1, len(want), len(want) + 1} {
			if n < 0 {
				continue
			}
			if got := first(l, n); !slices.Equal(got, want[:min(n, len(want))]) {
				t.Errorf("the first %d minutes of %v are %d others", n, sample.Short(l), len(got))
			}
			// A function that answers false is asked no more, whatever it would answer then.
			calls := 0
			view.Each(l)(func(m, kind int) bool {
				calls++
				return calls != n
			})
			wantCalls := len(want)
			if n > 0 {
				wantCalls = min(n, len(want))
			}
			if calls != wantCalls {
				t.Errorf("Each(%v), stopped at the call %d, made %d calls, want %d", sample.Short(l), n, calls, wantCalls)
			}
		}
	}
}

// TestEachAgain: the same is handed on each time anew, also where the time before was stopped, or isn't over.
func TestEachAgain(t *testing.T) {
	for _, l := range sample.Right() {
		want := minutesOf(l)
		each := view.Each(l)
		for range each {
			break
		}
		for range 2 {
			var got []minute
			for m, kind := range each {
				got = append(got, minute{m, kind})
			}
			if !slices.Equal(got, want) {
				t.Errorf("Each(%v), asked again, hands on %v, want %v", sample.Short(l), got, want)
			}
		}
	}
	l := list(rec(3, 5, 7), rec(0, 7, 8), rec(2, 8, 11))
	each := view.Each(l)
	var pairs [][2]minute
	for m, kind := range each {
		for other, otherKind := range each {
			if other > m {
				break
			}
			pairs = append(pairs, [2]minute{{m, kind}, {other, otherKind}})
		}
	}
	var want [][2]minute
	for i, m := range minutesOf(l) {
		for _, other := range minutesOf(l)[:i+1] {
			want = append(want, [2]minute{m, other})
		}
	}
	if !slices.Equal(pairs, want) {
		t.Errorf("one inside the other hands on %v, want %v", pairs, want)
	}
}

// TestEachLeaves: what is handed on is that of the records as they were handed in; no function gets nothing, and ends.
func TestEachLeaves(t *testing.T) {
	for _, l := range [][]api.Record{list(rec(3, 5, 7)), list(rec(3, 5, 7), rec(0, 7, 8)), list(rec(3, 5, 7), rec(3, 7, 8))} {
		want := minutesOf(l)
		mine := slices.Clone(l)
		each := view.Each(mine)
		mine[0] = rec(1, 0, 3)
		var got []minute
		for m, kind := range each {
			got = append(got, minute{m, kind})
			mine[len(mine)-1] = rec(2, 100, 200)
		}
		if !slices.Equal(got, want) {
			t.Errorf("Each(%v) hands on %v behind a change, want %v", l, got, want)
		}
	}
	for _, l := range sample.Right() {
		view.Each(l)(nil)
	}
	for _, c := range sample.Wrong() {
		view.Each(c.L)(nil)
	}
}

// TestBack: P9.4: the timeline of a view has that view, and the view of a timeline is that of its normal one.
func TestBack(t *testing.T) {
	for _, s := range texts("RAWD", 6) {
		if s == "" {
			continue
		}
		for _, at := range []int{0, 1, 1440, 40320 - len(s)} {
			l, err := view.From(at, s)
			if err != api.OK {
				t.Errorf("From(%d, %q): %d", at, s, err)
			}
			checkOf(t, l, at, s, api.OK)
		}
	}
	for _, l := range sample.Right() {
		normal, err := record.Normal(l)
		if err != api.OK {
			t.Errorf("Normal(%v): %d", sample.Short(l), err)
		}
		at, s, err := view.Of(l)
		if err != api.OK {
			t.Errorf("Of(%v): %d", sample.Short(l), err)
		}
		checkOf(t, normal, at, s, api.OK)
		checkFrom(t, at, s, normal, api.OK)
		checkEach(t, normal, minutesOf(l))
	}
}

// TestSpellsBack: P9.4: the spells of a kind have just the letters of it, as long as can be; those of all kinds have each letter once.
func TestSpellsBack(t *testing.T) {
	for _, l := range append(sample.Right(), nil) {
		at, s, _ := view.Of(l)
		laid := []byte(strings.Repeat("?", len(s)))
		for kind := range 4 {
			before := api.Span{To: -1}
			for _, spell := range view.Spells(s, kind) {
				if spell.From <= before.To || spell.To <= spell.From || spell.To > len(s) {
					t.Fatalf("Spells(%q, %d) has %v behind %v", head(s), kind, spell, before)
				}
				for i := spell.From; i < spell.To; i++ {
					if laid[i] != '?' {
						t.Errorf("Spells(%q, %d) has the place %d of another one", head(s), kind, i)
					}
					laid[i] = letterOf(kind)
				}
				before = spell
			}
		}
		if string(laid) != s {
			t.Errorf("the spells of %q, at %d, have the letters %q", head(s), at, head(string(laid)))
		}
	}
}

// callAll: every call on a list.
func callAll(l []api.Record) {
	view.Of(l)
	for range view.Each(l) {
	}
	for range view.Each(l) {
		break
	}
}

// TestReadsOnly: a list reads as before behind each call, and so does what lies ahead of it and behind its length; that is nothing to what is told.
func TestReadsOnly(t *testing.T) {
	for _, l := range sample.All() {
		if !sample.Amid(l, func(mine []api.Record) {
			callAll(mine)
			if _, err := record.Check(l); err == api.OK {
				at, s := viewOf(l)
				checkOf(t, mine, at, s, api.OK)
				checkEach(t, mine, minutesOf(l))
			} else {
				checkOf(t, mine, 0, "", err)
				checkEach(t, mine, nil)
			}
		}) {
			t.Errorf("%v, or what lies beside it, was written to", sample.Short(l))
		}
	}
}

// TestNewMemory: what is written into an answer, or behind it, is in no other answer.
func TestNewMemory(t *testing.T) {
	for _, s := range []string{"D", "DR", "DDRRWA", "RDRDRDR"} {
		records, _ := view.From(5, s)
		want := slices.Clone(records)
		other, _ := view.From(5, s)
		clear(other[:cap(other)])
		if !slices.Equal(records, want) {
			t.Errorf("From(5, %q) became %v, want %v", s, records, want)
		}
		spells := view.Spells(s, api.Drive)
		wantSpells := slices.Clone(spells)
		otherSpells := view.Spells(s, api.Drive)
		clear(otherSpells[:cap(otherSpells)])
		if !slices.Equal(spells, wantSpells) {
			t.Errorf("Spells(%q, 3) became %v, want %v", s, spells, wantSpells)
		}
		checkFrom(t, 5, s, want, api.OK)
		checkSpells(t, s, api.Drive, wantSpells...)
	}
}

// TestLongText: texts far beyond the limits end, too.
func TestLongText(t *testing.T) {
	s := strings.Repeat("RD", 1<<20)
	checkFrom(t, 0, s, nil, api.ErrRange)
	checkFrom(t, math.MaxInt, s, nil, api.ErrRange)
	checkFrom(t, math.MinInt, s, nil, api.ErrRange)
	if got := view.Spells(s, api.Drive); len(got) != 1<<20 || got[0] != span(1, 2) || got[len(got)-1] != span(1<<21-1, 1<<21) {
		t.Errorf("Spells of %d letters has %d spells", len(s), len(got))
	}
}
