package meter_test

import (
	"math"
	"math/rand"
	"slices"
	"strings"
	"testing"

	"haulier/api"
	"haulier/book"
	"haulier/meter"
	"haulier/record"
	"haulier/sample"
	"haulier/view"
)

// What is said often here, in short.
var (
	span    = sample.Span
	with    = sample.With
	may     = sample.May
	tiny    = sample.Tiny
	small   = sample.TinyBooks
	busy    = sample.Busy
	full    = sample.Full
	numbers = sample.MeterNumbers
	lawful  = sample.Lawful
)

// set: the set of the clauses, each of which is told once.
func set(clauses ...int) int {
	sum := 0
	for _, clause := range clauses {
		power := 1
		for range clause {
			power *= 2
		}
		sum += power
	}
	return sum
}

// told: the clauses of a set, in words.
func told(set int) string {
	var l []string
	for clause, name := range []string{"break", "longer", "longers", "week", "fortnight", "daily", "reduces", "weekly", "brief", "labour"} {
		if set>>clause&1 == 1 {
			l = append(l, name)
		}
	}
	if set < 0 || set>>10 != 0 {
		l = append(l, "and what is no clause of these")
	}
	return strings.Join(l, " ")
}

// TestBooks: the small books.
func TestBooks(t *testing.T) {
	for _, b := range small() {
		if err := book.Check(b); err != api.OK {
			t.Errorf("the test itself: the book %+v may not be", b)
		}
	}
	if n := len(small()); n < 50 {
		t.Errorf("the test itself: there are but %d small books", n)
	}
}

// TestCheck: the limits of Now, and of each other number.
func TestCheck(t *testing.T) {
	for _, now := range []int{0, 1, 2, 5000, 40319, 40320} {
		for _, m := range []api.Meter{{Now: now}, full(now), {Now: now, Half: true}, {Now: now, Split: true}, {Now: now, Brief: true}} {
			checkMay(t, m, api.OK)
		}
		for i := range numbers(&api.Meter{}) {
			for _, n := range []int{0, 1, now - 1, now} {
				m := api.Meter{Now: now}
				*numbers(&m)[i] = n
				if n >= 0 && n <= now {
					checkMay(t, m, api.OK)
				}
			}
		}
	}
	checkMay(t, api.Meter{}, api.OK)
	checkMay(t, busy(), api.OK)
	for _, m := range sample.NoMeters() {
		checkMay(t, m, api.ErrArg)
	}
	for _, now := range sample.Minutes() {
		for i := range numbers(&api.Meter{}) {
			for _, n := range sample.Minutes() {
				m := api.Meter{Now: now}
				*numbers(&m)[i] = n
				want := api.ErrArg
				if now >= 0 && now <= 40320 && n >= 0 && n <= now {
					want = api.OK
				}
				checkMay(t, m, want)
			}
		}
	}
}

// checkMay: what Check tells of the meter.
func checkMay(t *testing.T, m api.Meter, want api.Errno) {
	t.Helper()
	if plainCheck(m) != (want == api.OK) {
		t.Errorf("the test itself: what is told of %+v is not %d", m, want)
	}
	if err := meter.Check(m); err != want {
		t.Errorf("Check(%+v) = %d, want %d", m, err, want)
	}
}

// checkStep: a minute of the kind turns the meter into want, and breaks just these clauses; so tells Run of it, too.
func checkStep(t *testing.T, b api.Book, m api.Meter, kind int, want api.Meter, clauses ...int) {
	t.Helper()
	if after, broken := plain(b, m, kind); after != want || broken != set(clauses...) {
		t.Errorf("the test itself: by the document %+v goes on with %d to %+v, %q, and should to %+v, %q", m, kind, after, told(broken), want, told(set(clauses...)))
	}
	if after, broken, err := meter.Step(b, m, kind); after != want || broken != set(clauses...) || err != api.OK {
		t.Errorf("Step(%+v, %+v, %d) = %+v, %q, %d, want %+v, %q", b, m, kind, after, told(broken), err, want, told(set(clauses...)))
	}
	if after, broken, err := meter.Run(b, m, kind); after != want || broken != set(clauses...) || err != api.OK {
		t.Errorf("Run(%+v, %+v, %d) = %+v, %q, %d, want %+v, %q", b, m, kind, after, told(broken), err, want, told(set(clauses...)))
	}
}

// checkRun: the kinds' minutes turn the meter into what the document has it turn into, and break what they break by it, or end with its error alone.
func checkRun(t *testing.T, b api.Book, m api.Meter, kinds ...int) {
	t.Helper()
	want, wantSet, wantErr := plainRun(b, m, kinds...)
	got, broken, err := meter.Run(b, m, kinds...)
	if got != want || broken != wantSet || err != wantErr {
		t.Errorf("Run(%+v, %+v, %v and on, %d in all) = %+v, %q, %d, want %+v, %q, %d", b, m, sample.Short(kinds), len(kinds), got, told(broken), err, want, told(wantSet), wantErr)
	}
	if len(kinds) == 1 {
		if got, broken, err := meter.Step(b, m, kinds[0]); got != want || broken != wantSet || err != wantErr {
			t.Errorf("Step(%+v, %+v, %d) = %+v, %q, %d, want %+v, %q, %d", b, m, kinds[0], got, told(broken), err, want, told(wantSet), wantErr)
		}
	}
}

// checkErr: behind these minutes Run tells that error, and nothing else; so does Step, if it is one minute.
func checkErr(t *testing.T, b api.Book, m api.Meter, want api.Errno, kinds ...int) {
	t.Helper()
	if _, _, err := plainRun(b, m, kinds...); err != want {
		t.Errorf("the test itself: by the document the error of %+v, %+v, %v is %d, and should be %d", b, m, sample.Short(kinds), err, want)
	}
	checkRun(t, b, m, kinds...)
}

// turn: how a meter is turned.
type turn func(m *api.Meter)

// TestKinds: what a minute of each kind turns, and nothing else.
func TestKinds(t *testing.T) {
	m := busy()
	if m.Now%10080 == 0 || m.Lie != 0 {
		t.Errorf("the test itself: %+v is no meter amid a week, and up", m)
	}
	checkStep(t, book.Europe(), m, api.Rest, with(m, func(m *api.Meter) { m.Lie, m.Now = 1, 5001 }))
	checkStep(t, book.Europe(), m, api.Avail, with(m, func(m *api.Meter) { m.Now = 5001 }))
	checkStep(t, book.Europe(), m, api.Work, with(m, func(m *api.Meter) { m.Labour, m.Now = 1301, 5001 }))
	checkStep(t, book.Europe(), m, api.Drive, with(m, func(m *api.Meter) {
		m.Acc, m.Day, m.Week, m.Labour, m.Now = 101, 201, 901, 1301, 5001
	}))
	first := api.Meter{}
	checkStep(t, book.Europe(), first, api.Rest, api.Meter{Now: 1, Lie: 1})
	checkStep(t, book.Europe(), first, api.Avail, api.Meter{Now: 1})
	checkStep(t, book.Europe(), first, api.Work, api.Meter{Now: 1, Labour: 1})
	checkStep(t, book.Europe(), first, api.Drive, api.Meter{Now: 1, Acc: 1, Day: 1, Week: 1, Labour: 1})
}

// TestWeek: (1): a new week begins with a Now above 0 that is a multiple of Length, whatever the minute's kind is, and ahead of all else.
func TestWeek(t *testing.T) {
	rolls := func(m *api.Meter) { m.Last, m.Week, m.Labour = m.Week, 0, 0 }
	stays := func(*api.Meter) {}
	for _, one := range []struct {
		length, now int
		week        turn
	}{
		{10080, 10079, stays}, {10080, 10080, rolls}, {10080, 10081, stays},
		{10080, 20159, stays}, {10080, 20160, rolls}, {10080, 20161, stays}, {10080, 30240, rolls}, {10080, 35280, stays},
		{40320, 40319, stays}, {20159, 40318, rolls}, {20159, 40319, stays}, {40319, 40319, rolls}, {40319, 40318, stays},
		{7, 5999, rolls}, {7, 6000, stays}, {7, 6005, stays}, {7, 6006, rolls}, {7, 6007, stays},
		{1, 5000, rolls}, {1, 5001, rolls}, {1, 40319, rolls}, {2, 5000, rolls}, {2, 5001, stays}, {5000, 5000, rolls}, {5001, 5000, stays}, {4999, 5000, stays},
	} {
		b := sample.Changed(func(b *api.Book) { b.Length = one.length })
		m := with(busy(), func(m *api.Meter) { m.Now, m.Dawn, m.Sabbath = one.now, one.now-500, one.now-2900 })
		rolled := with(m, one.week)
		rolled.Now++
		checkStep(t, b, m, api.Rest, with(rolled, func(m *api.Meter) { m.Lie++ }))
		checkStep(t, b, m, api.Avail, rolled)
		checkStep(t, b, m, api.Work, with(rolled, func(m *api.Meter) { m.Labour++ }))
		checkStep(t, b, m, api.Drive, with(rolled, func(m *api.Meter) { m.Acc++; m.Day++; m.Week++; m.Labour++ }))
		lying := with(m, func(m *api.Meter) { m.Lie = 14 })
		checkStep(t, b, lying, api.Rest, with(rolled, func(m *api.Meter) { m.Lie = 15 }))
		checkStep(t, b, lying, api.Avail, rolled)
	}
}

// TestFirstWeek: at 0 no week begins, by no Length.
func TestFirstWeek(t *testing.T) {
	for _, length := range []int{1, 2, 7, 10080, 40320} {
		b := sample.Changed(func(b *api.Book) { b.Length = length })
		for kind := range api.Kinds {
			checkRun(t, b, api.Meter{}, kind)
		}
		checkStep(t, b, api.Meter{}, api.Drive, api.Meter{Now: 1, Acc: 1, Day: 1, Week: 1, Labour: 1})
	}
	// By a week of a minute each minute but the first one begins a week.
	b := sample.Changed(func(b *api.Book) { b.Length = 1 })
	m := api.Meter{Now: 1, Acc: 1, Day: 1, Week: 1, Labour: 1}
	checkStep(t, b, m, api.Drive, api.Meter{Now: 2, Acc: 2, Day: 2, Week: 1, Last: 1, Labour: 1})
	checkStep(t, b, m, api.Rest, api.Meter{Now: 2, Lie: 1, Acc: 1, Day: 1, Last: 1})
}

// TestWeekAhead: what is broken in a week's first minute is counted behind the week's begin.
func TestWeekAhead(t *testing.T) {
	b := book.Europe()
	over := api.Meter{Now: 10080, Dawn: 10000, Sabbath: 10000, Week: 4000, Last: 4000, Labour: 5000}
	checkStep(t, b, over, api.Drive, api.Meter{Now: 10081, Dawn: 10000, Sabbath: 10000, Acc: 1, Day: 1, Week: 1, Last: 4000, Labour: 1})
	checkStep(t, b, over, api.Work, api.Meter{Now: 10081, Dawn: 10000, Sabbath: 10000, Last: 4000, Labour: 1})
	last := with(over, func(m *api.Meter) { m.Week, m.Last = 5400, 0 })
	checkStep(t, b, last, api.Drive, api.Meter{Now: 10081, Dawn: 10000, Sabbath: 10000, Acc: 1, Day: 1, Week: 1, Last: 5400, Labour: 1}, api.ClFortnight)
	last.Week = 5399
	checkStep(t, b, last, api.Drive, api.Meter{Now: 10081, Dawn: 10000, Sabbath: 10000, Acc: 1, Day: 1, Week: 1, Last: 5399, Labour: 1})
}

// TestRest: (2): a minute of rest goes on with the spell, and breaks nothing, however much is due.
func TestRest(t *testing.T) {
	for _, b := range may() {
		for _, now := range []int{1, 2, 539, 540, 5000, 40318, 40319} {
			for _, lie := range []int{0, 1, now / 2, now} {
				m := with(full(now), func(m *api.Meter) { m.Lie = lie })
				for _, dawn := range []int{0, now} {
					m.Dawn, m.Sabbath = dawn, dawn
					want := with(m, func(m *api.Meter) { m.Lie++; m.Now++ })
					if now%b.Length == 0 {
						want.Week, want.Labour = 0, 0
					}
					checkStep(t, b, m, api.Rest, want)
				}
			}
		}
	}
}

// checkEnd: by the book, behind a spell of rest a minute of Avail turns the meter so, and breaks these clauses; Work and Drive turn what they turn beside that.
func checkEnd(t *testing.T, b api.Book, m api.Meter, how turn, clauses ...int) {
	t.Helper()
	want := with(m, how)
	want.Lie, want.Now = 0, m.Now+1
	checkStep(t, b, m, api.Avail, want, clauses...)
	want.Labour++
	checkStep(t, b, m, api.Work, want, clauses...)
	want.Acc, want.Day, want.Week = want.Acc+1, want.Day+1, want.Week+1
	checkStep(t, b, m, api.Drive, want, clauses...)
}

// TestEnd: (3): by the European book, each spell of rest that is worth something else, and a minute below and above it.
func TestEnd(t *testing.T) {
	nothing := func(*api.Meter) {}
	half := func(m *api.Meter) { m.Half = true }
	pause := func(m *api.Meter) { m.Acc, m.Half = 0, false }
	part := func(m *api.Meter) { m.Acc, m.Half, m.Split = 0, false, true }
	daily := func(m *api.Meter) { m.Dawn, m.Day, m.Acc, m.Half, m.Split = m.Now, 0, 0, false, false }
	reduced := func(m *api.Meter) { daily(m); m.Reduces++ }
	brief := func(m *api.Meter) { daily(m); m.Brief, m.Sabbath, m.Longers, m.Reduces = true, m.Now, 0, 0 }
	weekly := func(m *api.Meter) { brief(m); m.Brief = false }
	for _, one := range []struct {
		least, most                int
		neither, half, split, both turn
	}{
		{1, 14, nothing, nothing, nothing, nothing},
		{15, 29, half, nothing, half, nothing},
		{30, 44, half, pause, half, pause},
		{45, 179, pause, pause, pause, pause},
		{180, 539, part, part, part, part},
		{540, 659, reduced, reduced, daily, daily},
		{660, 1439, daily, daily, daily, daily},
		{1440, 2699, brief, brief, brief, brief},
		{2700, 5000, weekly, weekly, weekly, weekly},
	} {
		for _, long := range []int{one.least, one.least + 1, (one.least + one.most) / 2, one.most - 1, one.most} {
			for i, how := range []turn{one.neither, one.half, one.split, one.both} {
				from := 12000
				m := api.Meter{Now: from + long, Lie: long, Acc: 100, Half: i%2 == 1, Split: i > 1, Day: 200, Longers: 1, Reduces: 2, Sabbath: 9000, Week: 900, Last: 3000, Labour: 1300}
				for _, dawn := range []int{from - 100, from - 1, from, from + 1, m.Now - 1, m.Now} {
					m.Dawn = dawn
					checkEnd(t, book.Europe(), m, how)
				}
			}
		}
	}
}

// TestEndDawn: a spell that began ahead of Dawn is held against no later minute than that with which it began.
func TestEndDawn(t *testing.T) {
	reduced := func(m *api.Meter) {
		m.Dawn, m.Day, m.Acc, m.Half, m.Split, m.Reduces = m.Now, 0, 0, false, false, m.Reduces+1
	}
	daily := func(m *api.Meter) { m.Dawn, m.Day, m.Acc, m.Half, m.Split = m.Now, 0, 0, false, false }
	m := api.Meter{Now: 3000, Lie: 1200, Acc: 100, Day: 200, Sabbath: 1000, Week: 300, Labour: 300}
	// A round is 1440, so that of the 1200 minutes from 1800 on less than 660 lie in it by dawns up to 1019.
	for _, one := range []struct {
		dawn int
		how  turn
	}{
		{0, reduced}, {360, reduced}, {361, reduced}, {1018, reduced}, {1019, reduced}, {1020, daily}, {1021, daily},
		{1560, daily}, {1799, daily}, {1800, daily}, {1801, daily}, {2000, daily}, {2999, daily}, {3000, daily},
	} {
		m.Dawn = one.dawn
		checkEnd(t, book.Europe(), m, one.how)
	}
	// By a round that is shorter than a regular rest, all daily rests are reduced ones, from wherever.
	m.Lie = 1500
	for _, dawn := range []int{0, 1499, 1500, 1501, 2000, 3000} {
		m.Dawn = dawn
		checkEnd(t, sample.Late(), m, reduced)
	}
	// All that there was has been rest.
	whole := api.Meter{Now: 660, Lie: 660, Dawn: 660}
	checkEnd(t, book.Europe(), whole, daily)
	whole = api.Meter{Now: 659, Lie: 659, Dawn: 659}
	checkEnd(t, book.Europe(), whole, reduced)
}

// TestEndBrief: (3): weekly rests that are reduced ones or not, behind ones that are or not.
func TestEndBrief(t *testing.T) {
	m := api.Meter{Now: 9000, Acc: 100, Dawn: 3000, Day: 200, Longers: 2, Reduces: 3, Sabbath: 2000, Week: 900, Labour: 900}
	weekly := func(brief bool) turn {
		return func(m *api.Meter) {
			m.Dawn, m.Sabbath, m.Brief = m.Now, m.Now, brief
			m.Day, m.Acc, m.Longers, m.Reduces, m.Half, m.Split = 0, 0, 0, 0, false, false
		}
	}
	for _, first := range [][2]bool{{false, false}, {true, false}, {false, true}, {true, true}} {
		m.Half, m.Split = first[0], first[1]
		for _, long := range []int{1440, 1441, 2698, 2699} {
			m.Lie = long
			m.Brief = true
			checkEnd(t, book.Europe(), m, weekly(true), api.ClBrief)
			m.Brief = false
			checkEnd(t, book.Europe(), m, weekly(true))
		}
		for _, long := range []int{2700, 2701, 6000, 9000} {
			m.Lie = long
			m.Brief = true
			checkEnd(t, book.Europe(), m, weekly(false))
			m.Brief = false
			checkEnd(t, book.Europe(), m, weekly(false))
		}
	}
	// What is no weekly rest leaves Brief as it is.
	m.Lie, m.Brief, m.Split, m.Half, m.Dawn = 1439, true, false, false, 7000
	checkEnd(t, book.Europe(), m, func(m *api.Meter) { m.Dawn, m.Day, m.Acc = m.Now, 0, 0 })
}

// TestEndReduces: (3): reduced daily rests, the last one that there may be, and one more.
func TestEndReduces(t *testing.T) {
	reduced := func(m *api.Meter) {
		m.Reduces, m.Dawn, m.Day, m.Acc, m.Half, m.Split = m.Reduces+1, m.Now, 0, 0, false, false
	}
	for _, most := range []int{0, 1, 3, 1000} {
		b := sample.Changed(func(b *api.Book) { b.Reduces = most })
		for _, reduces := range []int{0, 1, most - 2, most - 1, most, most + 1} {
			if reduces < 0 {
				continue
			}
			m := api.Meter{Now: 5000, Lie: 600, Acc: 100, Half: true, Dawn: 4000, Day: 200, Reduces: reduces, Sabbath: 3000, Brief: true, Week: 900, Labour: 900}
			if reduces >= most {
				checkEnd(t, b, m, reduced, api.ClReduces)
			} else {
				checkEnd(t, b, m, reduced)
			}
			// Behind a weekly rest there are none, and none is reduced that is in two parts.
			m.Split = true
			checkEnd(t, b, m, func(m *api.Meter) { reduced(m); m.Reduces-- })
			m.Lie, m.Brief, m.Split = 1440, false, false
			checkEnd(t, b, m, func(m *api.Meter) { reduced(m); m.Reduces, m.Longers, m.Sabbath, m.Brief = 0, 0, m.Now, true })
		}
	}
}

// TestEndOrder: (3) ahead of (4), (5) and (6): what a rest ends is not counted against the minute behind it.
func TestEndOrder(t *testing.T) {
	b := book.Europe()
	due := api.Meter{Now: 9000, Acc: 270, Dawn: 6000, Day: 540, Longers: 2, Sabbath: 360, Week: 900, Labour: 900}
	up := with(due, func(m *api.Meter) { m.Now, m.Acc, m.Day, m.Longers, m.Week, m.Labour = 9001, 271, 541, 3, 901, 901 })
	checkStep(t, b, due, api.Drive, up, api.ClBreak, api.ClLongers, api.ClDaily, api.ClWeekly)
	due.Lie = 44
	checkStep(t, b, due, api.Drive, with(up, func(m *api.Meter) { m.Half = true }), api.ClBreak, api.ClLongers, api.ClDaily, api.ClWeekly)
	due.Lie = 45
	checkStep(t, b, due, api.Drive, with(up, func(m *api.Meter) { m.Acc = 1 }), api.ClLongers, api.ClDaily, api.ClWeekly)
	due.Lie = 700
	checkStep(t, b, due, api.Drive, with(up, func(m *api.Meter) { m.Dawn, m.Acc, m.Day, m.Longers, m.Reduces = 9000, 1, 1, 2, 1 }), api.ClWeekly)
	due.Lie = 1440
	checkStep(t, b, due, api.Drive, with(up, func(m *api.Meter) {
		m.Dawn, m.Sabbath, m.Brief, m.Acc, m.Day, m.Longers = 9000, 9000, true, 1, 1, 0
	}))
}

// clauseEdges: for each clause, the book's first meter by which a minute breaks it alone, or as many counts off it; and of which kinds that minute is.
func clauseEdges() []struct {
	clause int
	at     func(off int) api.Meter
	kinds  []int
} {
	b := book.Europe()
	fresh := api.Meter{Now: 9000, Dawn: 9000, Sabbath: 9000}
	up := []int{api.Avail, api.Work, api.Drive}
	return []struct {
		clause int
		at     func(off int) api.Meter
		kinds  []int
	}{
		{api.ClBreak, func(off int) api.Meter { return with(fresh, func(m *api.Meter) { m.Acc = b.Drive + off }) }, []int{api.Drive}},
		{api.ClLonger, func(off int) api.Meter { return with(fresh, func(m *api.Meter) { m.Day = b.Longer + off }) }, []int{api.Drive}},
		{api.ClLongers, func(off int) api.Meter {
			return with(fresh, func(m *api.Meter) { m.Day, m.Longers = b.Day, b.Longers+off })
		}, []int{api.Drive}},
		{api.ClWeek, func(off int) api.Meter { return with(fresh, func(m *api.Meter) { m.Week = b.Week + off }) }, []int{api.Drive}},
		{api.ClFortnight, func(off int) api.Meter {
			return with(fresh, func(m *api.Meter) { m.Week, m.Last = 2000+off, b.Fortnight-2000 })
		}, []int{api.Drive}},
		{api.ClFortnight, func(off int) api.Meter {
			return with(fresh, func(m *api.Meter) { m.Last = b.Fortnight + off })
		}, []int{api.Drive}},
		{api.ClDaily, func(off int) api.Meter {
			return with(fresh, func(m *api.Meter) { m.Dawn = m.Now - (b.Round - b.Reduced) - off })
		}, up},
		{api.ClWeekly, func(off int) api.Meter {
			return with(fresh, func(m *api.Meter) { m.Sabbath = m.Now - b.Rounds - off })
		}, up},
		{api.ClLabour, func(off int) api.Meter {
			return with(fresh, func(m *api.Meter) { m.Labour = b.Labour + off })
		}, []int{api.Work, api.Drive}},
		{api.ClReduces, func(off int) api.Meter {
			return with(fresh, func(m *api.Meter) { m.Lie, m.Reduces, m.Dawn = b.Reduced, b.Reduces+off, m.Now-b.Reduced })
		}, up},
	}
}

// TestEdges: each clause a minute (or a count) ahead of where it is broken, at that minute and behind it, by minutes of each kind.
func TestEdges(t *testing.T) {
	for _, one := range clauseEdges() {
		for off := -3; off <= 3; off++ {
			m := one.at(off)
			if m.Reduces < 0 || m.Longers < 0 {
				continue
			}
			for kind := range api.Kinds {
				want := 0
				if off >= 0 && slices.Contains(one.kinds, kind) {
					want = set(one.clause)
				}
				_, broken, err := meter.Step(book.Europe(), m, kind)
				if broken != want || err != api.OK {
					t.Errorf("%d off %q, a minute of %d breaks %q, %d, want %q", off, told(set(one.clause)), kind, told(broken), err, told(want))
				}
				checkRun(t, book.Europe(), m, kind)
			}
		}
	}
}

// TestLongers: (5): a longer day counts with the one minute that makes it longer, and no more.
func TestLongers(t *testing.T) {
	b := book.Europe()
	for _, one := range []struct{ day, longers, after, broken int }{
		{538, 2, 2, 0}, {539, 1, 1, 0}, {539, 2, 2, 0}, {540, 0, 1, 0}, {540, 1, 2, 0}, {540, 2, 3, set(api.ClLongers)}, {540, 3, 4, set(api.ClLongers)},
		{541, 2, 2, 0}, {541, 3, 3, 0}, {541, 9, 9, 0}, {599, 3, 3, 0}, {600, 3, 3, set(api.ClLonger)}, {601, 2, 2, set(api.ClLonger)},
	} {
		m := api.Meter{Now: 2000, Dawn: 1500, Sabbath: 1500, Day: one.day, Longers: one.longers}
		after, broken, err := meter.Step(b, m, api.Drive)
		if after.Longers != one.after || broken != one.broken || err != api.OK {
			t.Errorf("behind %d minutes of driving and %d longer days: %d, %q, %d, want %d, %q", one.day, one.longers, after.Longers, told(broken), err, one.after, told(one.broken))
		}
		checkRun(t, b, m, api.Drive)
	}
	same := sample.Changed(func(b *api.Book) { b.Day, b.Longer, b.Longers = 600, 600, 0 })
	m := api.Meter{Now: 2000, Dawn: 1500, Sabbath: 1500, Day: 600}
	checkStep(t, same, m, api.Drive, with(m, func(m *api.Meter) { m.Now, m.Acc, m.Day, m.Longers, m.Week, m.Labour = 2001, 1, 601, 1, 1, 1 }), api.ClLonger, api.ClLongers)
}

// TestSeveral: several clauses that are broken in one minute, up to all that can be.
func TestSeveral(t *testing.T) {
	b := sample.Changed(func(b *api.Book) { b.Longer = 540 })
	over := api.Meter{Now: 9500, Acc: 540, Day: 540, Longers: 2, Reduces: 3, Week: 4000, Last: 4000, Labour: 4000}
	up := with(over, func(m *api.Meter) { m.Now, m.Acc, m.Day, m.Longers, m.Week, m.Labour = 9501, 541, 541, 3, 4001, 4001 })
	checkStep(t, b, over, api.Drive, up, api.ClBreak, api.ClLonger, api.ClLongers, api.ClWeek, api.ClFortnight, api.ClDaily, api.ClWeekly, api.ClLabour)
	checkStep(t, b, over, api.Work, with(over, func(m *api.Meter) { m.Now, m.Labour = 9501, 4001 }), api.ClDaily, api.ClWeekly, api.ClLabour)
	checkStep(t, b, over, api.Avail, with(over, func(m *api.Meter) { m.Now = 9501 }), api.ClDaily, api.ClWeekly)
	checkStep(t, b, over, api.Rest, with(over, func(m *api.Meter) { m.Now, m.Lie = 9501, 1 }))
	lying := with(over, func(m *api.Meter) { m.Lie = 600 })
	rested := with(up, func(m *api.Meter) { m.Dawn, m.Acc, m.Day, m.Longers, m.Reduces = 9500, 1, 1, 2, 4 })
	checkStep(t, b, lying, api.Drive, rested, api.ClWeek, api.ClFortnight, api.ClReduces, api.ClWeekly, api.ClLabour)
	lying.Lie, lying.Brief = 2699, true
	rested = with(rested, func(m *api.Meter) { m.Sabbath, m.Longers, m.Reduces, m.Brief = 9500, 0, 0, true })
	checkStep(t, b, lying, api.Drive, rested, api.ClWeek, api.ClFortnight, api.ClBrief, api.ClLabour)
}

// TestSets: a set is a sum of powers of 2, by api's numbers of clauses.
func TestSets(t *testing.T) {
	for _, one := range []struct{ clause, want int }{
		{api.ClBreak, 1}, {api.ClLonger, 2}, {api.ClLongers, 4}, {api.ClWeek, 8}, {api.ClFortnight, 16},
		{api.ClDaily, 32}, {api.ClReduces, 64}, {api.ClWeekly, 128}, {api.ClBrief, 256}, {api.ClLabour, 512},
	} {
		if set(one.clause) != one.want {
			t.Errorf("the test itself: the set of %d is %d, and should be %d", one.clause, set(one.clause), one.want)
		}
	}
}

// TestStepErrors: each error, and which one comes first.
func TestStepErrors(t *testing.T) {
	for _, b := range sample.NoBooks() {
		for _, m := range append(sample.BadMeters(), api.Meter{}, busy(), api.Meter{Now: 40320}) {
			for _, kind := range append(sample.NoKinds(), 0, 1, 2, 3) {
				checkErr(t, b, m, api.ErrBook, kind)
			}
			checkErr(t, b, m, api.ErrBook)
			checkErr(t, b, m, api.ErrBook, 0, 1, 9)
		}
	}
	for _, b := range may() {
		for _, m := range sample.BadMeters() {
			for _, kind := range append(sample.NoKinds(), 0, 1, 2, 3) {
				checkErr(t, b, m, api.ErrArg, kind)
			}
			checkErr(t, b, m, api.ErrArg)
			checkErr(t, b, m, api.ErrArg, 0, 1, 9)
		}
		for _, m := range []api.Meter{{}, busy(), {Now: 40319}, {Now: 40320}, full(40320)} {
			for _, kind := range sample.NoKinds() {
				checkErr(t, b, m, api.ErrKind, kind)
			}
		}
		for kind := range api.Kinds {
			for _, m := range []api.Meter{{Now: 40320}, full(40320), {Now: 40320, Lie: 500}} {
				checkErr(t, b, m, api.ErrRange, kind)
			}
			for _, m := range []api.Meter{{Now: 40319}, full(40319), {Now: 40319, Lie: 500}, {Now: 40318}} {
				checkErr(t, b, m, api.OK, kind)
			}
		}
	}
	for _, m := range sample.NoMeters() {
		for kind := -1; kind <= api.Kinds; kind++ {
			checkErr(t, book.Europe(), m, api.ErrArg, kind)
		}
		checkErr(t, book.Europe(), m, api.ErrArg)
	}
}

// TestRunErrors: the first error of a step, wherever in the minutes it is.
func TestRunErrors(t *testing.T) {
	b := book.Europe()
	for _, one := range []struct {
		now   int
		want  api.Errno
		kinds []int
	}{
		{0, api.OK, nil}, {0, api.OK, []int{}}, {40320, api.OK, nil}, {40319, api.OK, nil},
		{0, api.ErrKind, []int{4}}, {0, api.ErrKind, []int{-1, 0}}, {0, api.ErrKind, []int{0, 1, 2, 3, 4}}, {0, api.ErrKind, []int{3, 3, -1, 3, 3}},
		{0, api.OK, []int{0, 1, 2, 3}}, {0, api.ErrKind, []int{0, 1, math.MaxInt, 3}}, {0, api.ErrKind, []int{0, math.MinInt, 4, 3}},
		{40318, api.OK, []int{0}}, {40318, api.OK, []int{0, 3}}, {40318, api.ErrRange, []int{0, 3, 0}}, {40318, api.ErrRange, []int{3, 3, 3, 3}},
		{40318, api.ErrKind, []int{0, 3, 4}}, {40318, api.ErrRange, []int{0, 3, 1, 4}}, {40318, api.ErrKind, []int{0, 4, 1, 2}}, {40318, api.ErrKind, []int{4, 1, 1, 2}},
		{40320, api.ErrRange, []int{2, 4}}, {40320, api.ErrKind, []int{4, 2}}, {40319, api.ErrKind, []int{2, -1}}, {40319, api.ErrRange, []int{2, 2, -1}},
	} {
		for _, m := range []api.Meter{{Now: one.now}, full(one.now)} {
			checkErr(t, b, m, one.want, one.kinds...)
		}
	}
	for kind := range api.Kinds {
		all := slices.Repeat([]int{kind}, 40320)
		checkErr(t, b, api.Meter{}, api.OK, all...)
		checkErr(t, b, api.Meter{}, api.ErrRange, append(all, kind)...)
		checkErr(t, b, api.Meter{}, api.ErrKind, append(all, 4)...)
		checkErr(t, b, api.Meter{Now: 1}, api.ErrRange, all...)
		checkErr(t, b, api.Meter{}, api.ErrRange, slices.Repeat([]int{kind}, 1000000)...)
	}
}

// TestRunNone: no minutes leave the meter as it is.
func TestRunNone(t *testing.T) {
	for _, b := range may() {
		for _, m := range []api.Meter{{}, busy(), full(1), full(10080), full(40320), {Now: 40320}} {
			for _, kinds := range [][]int{nil, {}, make([]int, 5)[:0]} {
				if after, broken, err := meter.Run(b, m, kinds...); after != m || broken != 0 || err != api.OK {
					t.Errorf("Run(%+v, %+v) of no minutes = %+v, %q, %d", b, m, after, told(broken), err)
				}
			}
		}
	}
}

// TestOnce: a clause that is broken in several minutes is in the set once.
func TestOnce(t *testing.T) {
	b := book.Europe()
	for _, one := range []struct{ kind, n, want int }{
		{api.Drive, 270, 0}, {api.Drive, 271, 1}, {api.Drive, 272, 1}, {api.Drive, 273, 1}, {api.Drive, 540, 1}, {api.Drive, 600, 1}, {api.Drive, 601, 1 + 2}, {api.Drive, 602, 1 + 2},
		{api.Drive, 900, 1 + 2}, {api.Drive, 901, 1 + 2 + 32}, {api.Drive, 3360, 1 + 2 + 32}, {api.Drive, 3361, 1 + 2 + 8 + 32}, {api.Drive, 3600, 1 + 2 + 8 + 32}, {api.Drive, 3601, 1 + 2 + 8 + 32 + 512},
		{api.Drive, 5400, 1 + 2 + 8 + 32 + 512}, {api.Drive, 5401, 1 + 2 + 8 + 16 + 32 + 512}, {api.Drive, 8641, 1 + 2 + 8 + 16 + 32 + 128 + 512}, {api.Drive, 40320, 1 + 2 + 8 + 16 + 32 + 128 + 512},
		{api.Work, 900, 0}, {api.Work, 901, 32}, {api.Work, 902, 32}, {api.Work, 3600, 32}, {api.Work, 3601, 32 + 512}, {api.Work, 3602, 32 + 512}, {api.Work, 8640, 32 + 512}, {api.Work, 8641, 32 + 128 + 512},
		{api.Avail, 900, 0}, {api.Avail, 901, 32}, {api.Avail, 8640, 32}, {api.Avail, 8641, 32 + 128}, {api.Avail, 40320, 32 + 128},
		{api.Rest, 1, 0}, {api.Rest, 8641, 0}, {api.Rest, 40320, 0},
	} {
		kinds := slices.Repeat([]int{one.kind}, one.n)
		if _, broken, err := meter.Run(b, api.Meter{}, kinds...); broken != one.want || err != api.OK {
			t.Errorf("%d minutes of %d break %q, %d, want %q", one.n, one.kind, told(broken), err, told(one.want))
		}
		checkRun(t, b, api.Meter{}, kinds...)
	}
}

// TestExample: the chapter's one: the 271st minute breaks ClBreak alone.
func TestExample(t *testing.T) {
	b := book.Europe()
	m, broken, err := meter.Of(b, sample.List(sample.Rec(api.Drive, 0, 270)))
	if m != (api.Meter{Now: 270, Acc: 270, Day: 270, Week: 270, Labour: 270}) || broken != 0 || err != api.OK {
		t.Errorf("270 minutes of driving come to %+v, %q, %d", m, told(broken), err)
	}
	checkStep(t, b, m, api.Drive, api.Meter{Now: 271, Acc: 271, Day: 271, Week: 271, Labour: 271}, api.ClBreak)
	if _, broken, err := meter.Of(b, sample.List(sample.Rec(api.Drive, 0, 271))); broken != 1 || err != api.OK {
		t.Errorf("271 minutes of driving break %d, %d", broken, err)
	}
	// The whole document's: behind 15 minutes of rest, and more driving, 30 minutes are a break.
	for _, one := range []struct{ first, second, want int }{{15, 30, 0}, {14, 30, 1}, {15, 29, 1}, {30, 15, 1}, {45, 1, 0}, {1, 45, 0}, {30, 30, 0}} {
		l := sample.Chain(0, [2]int{3, 100}, [2]int{0, one.first}, [2]int{3, 100}, [2]int{0, one.second}, [2]int{3, 71})
		if _, broken, err := meter.Of(b, l); broken != one.want || err != api.OK {
			t.Errorf("rests of %d and %d amid 271 minutes of driving: %q, %d, want %q", one.first, one.second, told(broken), err, told(one.want))
		}
	}
}

// checkOf: what Of tells of the list by the book is what the document has it tell.
func checkOf(t *testing.T, b api.Book, l []api.Record) {
	t.Helper()
	want, wantSet, wantErr := plainOf(b, l)
	if got, broken, err := meter.Of(b, l); got != want || broken != wantSet || err != wantErr {
		t.Errorf("Of(%+v, %v and on, %d in all) = %+v, %q, %d, want %+v, %q, %d", b, sample.Short(l), len(l), got, told(broken), err, want, told(wantSet), wantErr)
	}
}

// plainOf: what a timeline comes to, by its view, minute by minute.
func plainOf(b api.Book, l []api.Record) (api.Meter, int, api.Errno) {
	if book.Check(b) != api.OK {
		return api.Meter{}, 0, api.ErrBook
	}
	from, letters, err := view.Of(l)
	if err != api.OK {
		return api.Meter{}, 0, err
	}
	if from > 0 {
		return api.Meter{}, 0, api.ErrGap
	}
	var kinds []int
	for i := range letters {
		kinds = append(kinds, strings.IndexByte("RAWD", letters[i]))
	}
	return plainRun(b, api.Meter{}, kinds...)
}

// TestOf: timelines, such as begin with 0 and such as don't, normal and not, and none.
func TestOf(t *testing.T) {
	few := []api.Book{book.Europe(), sample.Lowest(), sample.Wide(), tiny(), sample.Changed(func(b *api.Book) { b.Length = 1 })}
	for _, b := range few {
		for _, l := range sample.Small() {
			checkOf(t, b, l)
		}
	}
	for _, b := range may() {
		for _, l := range [][]api.Record{nil, {}, make([]api.Record, 3)[:0]} {
			if got, broken, err := meter.Of(b, l); got != (api.Meter{}) || broken != 0 || err != api.OK {
				t.Errorf("Of(%+v) of no records = %+v, %q, %d", b, got, told(broken), err)
			}
		}
		for _, l := range sample.Long() {
			checkOf(t, b, l)
		}
	}
	checkOf(t, book.Europe(), sample.Many(true))
	checkOf(t, book.Europe(), sample.Many(false))
	if got, broken, err := meter.Of(book.Europe(), sample.List(sample.Rec(0, 0, 40320))); got != (api.Meter{Now: 40320, Lie: 40320}) || broken != 0 || err != api.OK {
		t.Errorf("all the rest that there is comes to %+v, %q, %d", got, told(broken), err)
	}
}

// TestOfErrors: each error, and which one comes first.
func TestOfErrors(t *testing.T) {
	late := [][]api.Record{
		sample.List(sample.Rec(0, 1, 2)), sample.List(sample.Rec(3, 1, 40320)), sample.List(sample.Rec(2, 40319, 40320)),
		sample.List(sample.Rec(0, 5, 7), sample.Rec(0, 7, 8)), sample.List(sample.Rec(0, 1440, 2880), sample.Rec(3, 2880, 3000)),
	}
	for _, b := range sample.NoBooks() {
		for _, l := range slices.Concat(late, sample.All()[:40], [][]api.Record{nil}) {
			checkOfErr(t, b, l, api.ErrBook)
		}
		for _, w := range sample.Wrong() {
			checkOfErr(t, b, w.L, api.ErrBook)
		}
	}
	for _, b := range sample.Books() {
		for _, w := range sample.Wrong() {
			checkOfErr(t, b, w.L, w.Err)
		}
		for _, l := range late {
			checkOfErr(t, b, l, api.ErrGap)
			// What is wrong with a record comes first, wherever it is.
			end := l[len(l)-1].To
			checkOfErr(t, b, append(slices.Clone(l), sample.Rec(4, end, end+1)), api.ErrKind)
			checkOfErr(t, b, append(slices.Clone(l), sample.Rec(0, end-1, end)), api.ErrOverlap)
			checkOfErr(t, b, append(slices.Clone(l), sample.Rec(0, end, 40321)), api.ErrRange)
		}
		checkOfErr(t, b, sample.List(sample.Rec(0, 1, 2), sample.Rec(0, 3, 4)), api.ErrGap)
		checkOfErr(t, b, sample.List(sample.Rec(0, 1, 1)), api.ErrSpan)
		checkOfErr(t, b, sample.List(sample.Rec(0, -1, 1)), api.ErrRange)
		checkOfErr(t, b, sample.List(sample.Rec(-1, 1, 2)), api.ErrKind)
	}
	for _, kind := range sample.NoKinds() {
		checkOfErr(t, book.Europe(), sample.List(sample.Rec(kind, 0, 2)), api.ErrKind)
	}
	for _, from := range sample.Minutes() {
		for _, to := range sample.Minutes() {
			l := sample.List(sample.Rec(3, from, to))
			want := api.ErrGap
			if _, err := record.Check(l); err != api.OK {
				want = err
			} else if from == 0 {
				want = api.OK
			}
			if want != api.OK {
				checkOfErr(t, book.Europe(), l, want)
			} else {
				checkOf(t, book.Europe(), l)
			}
		}
	}
}

// checkOfErr: Of tells that error, and nothing else.
func checkOfErr(t *testing.T, b api.Book, l []api.Record, want api.Errno) {
	t.Helper()
	if got, broken, err := meter.Of(b, l); got != (api.Meter{}) || broken != 0 || err != want {
		t.Errorf("Of(%+v, %v) = %+v, %d, %d, want %d alone", b, sample.Short(l), got, broken, err, want)
	}
}

// walk: goes all ways on behind the past, so many minutes at the most, and holds each minute against what looking back tells.
type walk struct {
	t     *testing.T
	b     api.Book
	steps int
	seen  [10]int
}

// on: goes on behind the past, which came to the meter.
func (w *walk) on(p past, m api.Meter, left int) {
	if left == 0 {
		return
	}
	for kind := range api.Kinds {
		q := p.with(kind)
		w.on(q, w.check(q, m, kind), left-1)
	}
}

// check: the past's last minute, behind the meter, by the step and by looking back; it tells the meter behind it.
func (w *walk) check(p past, m api.Meter, kind int) api.Meter {
	w.t.Helper()
	w.steps++
	after, broken, err := meter.Step(w.b, m, kind)
	want, wantSet := p.meter(w.b), set(p.broken(w.b)...)
	if after != want || broken != wantSet || err != api.OK || meter.Check(after) != api.OK {
		w.t.Errorf("by %+v the last minute of %v comes to %+v, %q, %d, want %+v, %q", w.b, p, after, told(broken), err, want, told(wantSet))
	}
	for clause := range w.seen {
		w.seen[clause] += broken >> clause & 1
	}
	return after
}

// TestBack: by books of small numbers, all short timelines: each meter, and each clause, against what looking back tells.
func TestBack(t *testing.T) {
	var seen [10]int
	for _, b := range append(small(), sample.Lowest()) {
		w := walk{t: t, b: b}
		w.on(nil, api.Meter{}, 7)
		w.count(&seen)
		if w.steps != 4+16+64+256+1024+4096+16384 {
			t.Errorf("the test itself: %d steps by %+v", w.steps, b)
		}
	}
	checkSeen(t, seen)
}

// count: adds how often each clause was broken.
func (w *walk) count(seen *[10]int) {
	for clause, n := range w.seen {
		seen[clause] += n
	}
}

// checkSeen: was each clause broken, many times?
func checkSeen(t *testing.T, seen [10]int) {
	t.Helper()
	for clause, n := range seen {
		if n < 20 {
			t.Errorf("the test itself: %q was broken only %d times", told(set(clause)), n)
		}
	}
}

// chance: draws that are the same each time.
func chance(seed int64) *rand.Rand { return rand.New(rand.NewSource(seed)) }

// TestBackLong: timelines of spells at the edges, each minute of each against what looking back tells.
func TestBackLong(t *testing.T) {
	draws := chance(13)
	var seen [10]int
	for i, b := range append(small(), sample.Wide(), book.Europe()) {
		most, turns := 150, 6
		if i >= len(small()) {
			most, turns = 9000, 2
		}
		for range turns {
			w := walk{t: t, b: b}
			w.long(draws, most)
			w.count(&seen)
		}
	}
	checkSeen(t, seen)
}

// long: goes on by a timeline of spells at the edges, up to that minute.
func (w *walk) long(draws *rand.Rand, most int) {
	var p past
	m := api.Meter{}
	for _, kind := range view.Each(sample.AnyTimeline(draws.Intn, w.b, most)) {
		p = p.with(kind)
		m = w.check(p, m, kind)
		if w.t.Failed() {
			return
		}
	}
}

// TestLawful: by the European book weeks break nothing that are as full as they may be, and something, if the book is tighter by a minute.
func TestLawful(t *testing.T) {
	l := lawful()
	if to := l[len(l)-1].To; to != 40320 {
		t.Errorf("the test itself: the lawful weeks end with %d", to)
	}
	none := func(*api.Book) {}
	for _, one := range []struct {
		name   string
		change func(b *api.Book)
		want   int
	}{
		{"nothing", none, 0},
		{"Drive", func(b *api.Book) { b.Drive-- }, set(api.ClBreak)},
		{"First", func(b *api.Book) { b.First++ }, set(api.ClBreak)},
		{"Second", func(b *api.Book) { b.Second++ }, set(api.ClBreak)},
		{"Day, and Longers 5", func(b *api.Book) { b.Day--; b.Longers = 5 }, 0},
		{"Day, and Longers 4", func(b *api.Book) { b.Day--; b.Longers = 4 }, set(api.ClLongers)},
		{"Longer, and Longers 0", func(b *api.Book) { b.Longer, b.Longers = 540, 0 }, 0},
		{"Longer", func(b *api.Book) { b.Day, b.Longer, b.Longers = 539, 539, 5 }, set(api.ClLonger)},
		{"Regular", func(b *api.Book) { b.Regular++ }, set(api.ClReduces)},
		{"Reduces", func(b *api.Book) { b.Reduces-- }, set(api.ClReduces)},
		{"Round", func(b *api.Book) { b.Round-- }, set(api.ClReduces)},
		{"Round, and Reduces 4", func(b *api.Book) { b.Round--; b.Reduces = 4 }, 0},
		{"Round 1320, and Reduces 5", func(b *api.Book) { b.Round = 1320; b.Reduces = 5 }, 0},
		{"Round 1319, and Reduces 5", func(b *api.Book) { b.Round = 1319; b.Reduces = 5 }, set(api.ClDaily)},
		{"Weekly", func(b *api.Book) { b.Weekly++ }, set(api.ClBrief)},
		{"Short 2700", func(b *api.Book) { b.Short = 2700 }, 0},
		{"Rounds 7380", func(b *api.Book) { b.Rounds = 7380 }, 0},
		{"Rounds 7379", func(b *api.Book) { b.Rounds = 7379 }, set(api.ClWeekly)},
		{"Week 2700", func(b *api.Book) { b.Week = 2700 }, 0},
		{"Week 2699", func(b *api.Book) { b.Week = 2699 }, set(api.ClWeek)},
		{"Fortnight", func(b *api.Book) { b.Fortnight-- }, set(api.ClFortnight)},
		{"Labour", func(b *api.Book) { b.Labour-- }, set(api.ClLabour)},
	} {
		b := sample.Changed(one.change)
		got, broken, err := meter.Of(b, l)
		if want := past(l).meter(b); got != want || broken != one.want || err != api.OK {
			t.Errorf("with another %s lawful weeks come to %+v, %q, %d, want %+v, %q", one.name, got, told(broken), err, want, told(one.want))
		}
		checkOf(t, b, l)
	}
}

// TestAny: meters of all kinds, by all books, against the document word by word.
func TestAny(t *testing.T) {
	draws := chance(5)
	for _, b := range may() {
		for range 1500 {
			m := sample.AnyMeter(draws.Intn, b)
			if meter.Check(m) != api.OK || !plainCheck(m) {
				t.Fatalf("the test itself: %+v may not be", m)
			}
			for kind := range api.Kinds {
				checkRun(t, b, m, kind)
				after, _, err := meter.Step(b, m, kind)
				if err == api.OK && (meter.Check(after) != api.OK || after.Now != m.Now+1) {
					t.Errorf("by %+v, %+v goes on with %d to %+v, that may not be", b, m, kind, after)
				}
			}
		}
	}
}

// TestParts: P13.3: what is run in two parts is run as one, wherever it is parted; behind each minute a meter may be.
func TestParts(t *testing.T) {
	draws := chance(7)
	for _, b := range may() {
		for range 6 {
			m := sample.AnyMeter(draws.Intn, b)
			var kinds []int
			for len(kinds) < 40 {
				kinds = append(kinds, slices.Repeat([]int{draws.Intn(4)}, 1+draws.Intn(6))...)
			}
			m.Now = min(m.Now, api.MaxTime-len(kinds))
			for _, n := range numbers(&m) {
				*n = min(*n, m.Now)
			}
			checkParts(t, b, m, kinds)
		}
	}
	_, letters, _ := view.Of(lawful())
	var kinds []int
	for i := range letters {
		kind, _ := view.Kind(letters[i])
		kinds = append(kinds, kind)
	}
	whole, all, err := meter.Run(book.Europe(), api.Meter{}, kinds...)
	for at := 0; at <= len(kinds); at += 97 {
		first, one, _ := meter.Run(book.Europe(), api.Meter{}, kinds[:at]...)
		second, other, errSecond := meter.Run(book.Europe(), first, kinds[at:]...)
		if second != whole || one|other != all || errSecond != err {
			t.Errorf("lawful weeks that are parted at %d come to %+v, %q, want %+v, %q", at, second, told(one|other), whole, told(all))
		}
	}
}

// checkParts: the minutes, parted in each place, and each of them alone.
func checkParts(t *testing.T, b api.Book, m api.Meter, kinds []int) {
	t.Helper()
	whole, all, err := meter.Run(b, m, kinds...)
	checkRun(t, b, m, kinds...)
	step, steps := m, 0
	for at := range len(kinds) + 1 {
		first, one, errFirst := meter.Run(b, m, kinds[:at]...)
		second, other, errSecond := meter.Run(b, first, kinds[at:]...)
		if second != whole || one|other != all || err != api.OK || errFirst != api.OK || errSecond != api.OK {
			t.Errorf("by %+v, %v behind %+v, parted at %d, come to %+v, %q, want %+v, %q", b, kinds, m, at, second, told(one|other), whole, told(all))
		}
		if first != step || one != steps || meter.Check(step) != api.OK {
			t.Errorf("by %+v, %v behind %+v come to %+v, %q, and step by step to %+v, %q", b, kinds[:at], m, first, told(one), step, told(steps))
		}
		if at < len(kinds) {
			var broken int
			step, broken, _ = meter.Step(b, step, kinds[at])
			steps |= broken
		}
	}
}

// TestOfParts: P13.3: a timeline is its first part, run on by the minutes of its second one.
func TestOfParts(t *testing.T) {
	l := lawful()
	for i := range l {
		first, one, errFirst := meter.Of(book.Europe(), l[:i])
		var kinds []int
		for _, r := range l[i:] {
			kinds = append(kinds, slices.Repeat([]int{r.Kind}, r.To-r.From)...)
		}
		second, other, errSecond := meter.Run(book.Europe(), first, kinds...)
		whole, all, err := meter.Of(book.Europe(), l)
		if second != whole || one|other != all || errFirst != api.OK || errSecond != api.OK || err != api.OK {
			t.Errorf("behind %d records the whole comes to %+v, %q, want %+v, %q", i, second, told(one|other), whole, told(all))
		}
	}
}

// TestReadsOnly: books, meters, kinds and records read as before behind each call, and what lies beside a list is nothing to it.
func TestReadsOnly(t *testing.T) {
	for _, beside := range []int{9, api.Drive, -1} {
		for _, kinds := range [][]int{nil, {0}, {3, 3, 0, 2}, {1, 4, 0}, {0, 0, 0, 3}} {
			before := slices.Concat([]int{beside}, kinds, []int{beside, beside})
			memory := slices.Clone(before)
			b, m := tiny(), full(6)
			checkRun(t, b, m, memory[1:1+len(kinds)]...)
			if !slices.Equal(memory, before) || b != tiny() || m != full(6) {
				t.Errorf("behind Run what was handed in reads %v, %+v, %+v", memory, b, m)
			}
		}
	}
	for _, l := range sample.All()[:300] {
		for _, b := range []api.Book{tiny(), {}} {
			same := b
			if !sample.Amid(l, func(mine []api.Record) { checkOf(t, b, mine) }) || b != same {
				t.Errorf("behind Of(%v) what was handed in doesn't read as before", sample.Short(l))
			}
		}
	}
	for _, w := range sample.Wrong() {
		if !sample.Amid(w.L, func(mine []api.Record) { checkOfErr(t, tiny(), mine, w.Err) }) {
			t.Errorf("behind Of(%v) what was handed in doesn't read as before", sample.Short(w.L))
		}
	}
}

// TestKeepsNothing: what is asked in between changes no answer.
func TestKeepsNothing(t *testing.T) {
	b, m := tiny(), full(6)
	want, wantSet, wantErr := meter.Run(b, m, 3, 0, 0, 3)
	for _, other := range may() {
		meter.Run(other, busy(), 0, 3, 4)
		meter.Step(other, full(10080), api.Drive)
		meter.Of(other, lawful())
		if got, broken, err := meter.Run(b, m, 3, 0, 0, 3); got != want || broken != wantSet || err != wantErr {
			t.Errorf("asked again, Run tells %+v, %q, %d, and told %+v, %q, %d", got, told(broken), err, want, told(wantSet), wantErr)
		}
	}
}
