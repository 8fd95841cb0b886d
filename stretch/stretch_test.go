package stretch_test

import (
	"math"
	"slices"
	"testing"

	"haulier/api"
	"haulier/book"
	"haulier/meter"
	"haulier/sample"
	"haulier/stretch"
)

// What is said often here, in short.
var (
	with = sample.With
	busy = sample.Busy
	full = sample.Full
)

// First minutes are an array of ten.
var _ = [10]int(stretch.Firsts{})

// up: the kinds that are none of rest.
var up = []int{api.Avail, api.Work, api.Drive}

// upTo: all numbers up to n.
func upTo(n int) []int {
	l := make([]int, n+1)
	for i := range l {
		l[i] = i
	}
	return l
}

// rising: the numbers from 0 to most among these, each once, in order.
func rising(most int, l ...int) []int {
	l = slices.DeleteFunc(slices.Clone(l), func(n int) bool { return n < 0 || n > most })
	slices.Sort(l)
	return slices.Compact(l)
}

// TestErrors: each error, and which one comes first.
func TestErrors(t *testing.T) {
	lengths := []int{math.MinInt, -1, 0, 1, 40320, 40321, math.MaxInt}
	kinds := append(sample.NoKinds(), 0, 1, 2, 3)
	for _, b := range sample.NoBooks() {
		for _, m := range append(sample.BadMeters(), api.Meter{}, busy(), api.Meter{Now: 40320}) {
			for _, kind := range kinds {
				for _, n := range lengths {
					checkErr(t, b, m, kind, n, api.ErrBook)
				}
			}
		}
	}
	for _, b := range sample.May() {
		for _, n := range lengths {
			for _, m := range sample.BadMeters() {
				for _, kind := range kinds {
					checkErr(t, b, m, kind, n, api.ErrArg)
				}
			}
			for _, m := range []api.Meter{{}, busy(), {Now: 40319}, {Now: 40320}, full(40320)} {
				for _, kind := range sample.NoKinds() {
					checkErr(t, b, m, kind, n, api.ErrKind)
				}
			}
		}
	}
	for _, m := range sample.NoMeters() {
		for kind := -1; kind <= api.Kinds; kind++ {
			for _, n := range lengths {
				checkErr(t, book.Europe(), m, kind, n, api.ErrArg)
			}
		}
	}
}

// TestRange: of blocks that reach below 0, and beyond MaxTime, the last ones that may be, and the first ones that may not.
func TestRange(t *testing.T) {
	for _, b := range sample.May() {
		for _, now := range []int{0, 1, 5000, 40318, 40319, 40320} {
			room := 40320 - now
			for _, m := range []api.Meter{{Now: now}, full(now)} {
				for kind := range api.Kinds {
					for _, n := range []int{math.MinInt, math.MinInt + now, math.MinInt + 1, -40320, -2, -1, room + 1, room + 2, 40321, 1 << 32, math.MaxInt - now, math.MaxInt - 1, math.MaxInt} {
						checkErr(t, b, m, kind, n, api.ErrRange)
					}
					for _, n := range []int{0, min(1, room), max(0, room-1), room} {
						if got, _, err := stretch.Over(b, m, kind, n); got.Now != now+n || err != api.OK {
							t.Errorf("Over(%+v, %+v, %d, %d) = %+v, %d", b, m, kind, n, got, err)
						}
					}
				}
			}
		}
	}
}

// TestNone: no minutes leave the meter as it is, and break nothing, whatever is due.
func TestNone(t *testing.T) {
	for _, b := range sample.May() {
		for _, m := range []api.Meter{{}, busy(), {Now: 10080, Week: 5}, full(1), full(10080), full(40319), full(40320), {Now: 40320}} {
			for kind := range api.Kinds {
				checkOver(t, b, m, kind, 0, m)
			}
		}
	}
}

// TestFresh: by the European book, blocks of a driver who is fresh.
func TestFresh(t *testing.T) {
	b := book.Europe()
	first := api.Meter{}
	checkOver(t, b, first, api.Drive, 1, api.Meter{Now: 1, Acc: 1, Day: 1, Week: 1, Labour: 1})
	checkOver(t, b, first, api.Work, 1, api.Meter{Now: 1, Labour: 1})
	checkOver(t, b, first, api.Avail, 1, api.Meter{Now: 1})
	checkOver(t, b, first, api.Rest, 1, api.Meter{Now: 1, Lie: 1})
	for _, one := range []struct {
		n, longers int
		broken     [][2]int
	}{
		{270, 0, nil},
		{271, 0, [][2]int{{api.ClBreak, 270}}},
		{272, 0, [][2]int{{api.ClBreak, 270}}},
		{540, 0, [][2]int{{api.ClBreak, 270}}},
		{541, 1, [][2]int{{api.ClBreak, 270}}},
		{600, 1, [][2]int{{api.ClBreak, 270}}},
		{601, 1, [][2]int{{api.ClBreak, 270}, {api.ClLonger, 600}}},
		{900, 1, [][2]int{{api.ClBreak, 270}, {api.ClLonger, 600}}},
		{901, 1, [][2]int{{api.ClBreak, 270}, {api.ClLonger, 600}, {api.ClDaily, 900}}},
		{3361, 1, [][2]int{{api.ClBreak, 270}, {api.ClLonger, 600}, {api.ClDaily, 900}, {api.ClWeek, 3360}}},
		{3601, 1, [][2]int{{api.ClBreak, 270}, {api.ClLonger, 600}, {api.ClDaily, 900}, {api.ClWeek, 3360}, {api.ClLabour, 3600}}},
	} {
		checkOver(t, b, first, api.Drive, one.n, api.Meter{Now: one.n, Acc: one.n, Day: one.n, Longers: one.longers, Week: one.n, Labour: one.n}, one.broken...)
	}
	checkOver(t, b, first, api.Drive, 40320, api.Meter{Now: 40320, Acc: 40320, Day: 40320, Longers: 1, Week: 10080, Last: 10080, Labour: 10080},
		[2]int{api.ClBreak, 270}, [2]int{api.ClLonger, 600}, [2]int{api.ClDaily, 900}, [2]int{api.ClWeek, 3360}, [2]int{api.ClLabour, 3600}, [2]int{api.ClFortnight, 5400}, [2]int{api.ClWeekly, 8640})
	checkOver(t, b, first, api.Work, 40320, api.Meter{Now: 40320, Labour: 10080}, [2]int{api.ClDaily, 900}, [2]int{api.ClLabour, 3600}, [2]int{api.ClWeekly, 8640})
	checkOver(t, b, first, api.Avail, 40320, api.Meter{Now: 40320}, [2]int{api.ClDaily, 900}, [2]int{api.ClWeekly, 8640})
	checkOver(t, b, first, api.Rest, 40320, api.Meter{Now: 40320, Lie: 40320})
}

// TestBusy: by the European book, blocks of a driver all of whose numbers are different.
func TestBusy(t *testing.T) {
	b, m := book.Europe(), busy()
	checkOver(t, b, m, api.Drive, 170, with(m, func(m *api.Meter) { m.Now, m.Acc, m.Day, m.Week, m.Labour = 5170, 270, 370, 1070, 1470 }))
	checkOver(t, b, m, api.Drive, 171, with(m, func(m *api.Meter) { m.Now, m.Acc, m.Day, m.Week, m.Labour = 5171, 271, 371, 1071, 1471 }), [2]int{api.ClBreak, 5170})
	checkOver(t, b, m, api.Drive, 341, with(m, func(m *api.Meter) {
		m.Now, m.Acc, m.Day, m.Longers, m.Week, m.Labour = 5341, 441, 541, 2, 1241, 1641
	}), [2]int{api.ClBreak, 5170})
	checkOver(t, b, m, api.Drive, 10000, with(m, func(m *api.Meter) {
		m.Now, m.Acc, m.Day, m.Longers, m.Week, m.Last, m.Labour = 15000, 10100, 10200, 2, 4920, 5980, 4920
	}), [2]int{api.ClBreak, 5170}, [2]int{api.ClLonger, 5400}, [2]int{api.ClDaily, 5400}, [2]int{api.ClFortnight, 6500}, [2]int{api.ClLabour, 7300}, [2]int{api.ClWeek, 7460}, [2]int{api.ClWeekly, 10740})
	checkOver(t, b, m, api.Work, 10000, with(m, func(m *api.Meter) { m.Now, m.Week, m.Last, m.Labour = 15000, 0, 900, 4920 }),
		[2]int{api.ClDaily, 5400}, [2]int{api.ClLabour, 7300}, [2]int{api.ClWeekly, 10740})
	checkOver(t, b, m, api.Avail, 10000, with(m, func(m *api.Meter) { m.Now, m.Week, m.Last, m.Labour = 15000, 0, 900, 0 }), [2]int{api.ClDaily, 5400}, [2]int{api.ClWeekly, 10740})
	checkOver(t, b, m, api.Rest, 10000, with(m, func(m *api.Meter) { m.Now, m.Lie, m.Week, m.Last, m.Labour = 15000, 10000, 0, 900, 0 }))
	checkOver(t, b, m, api.Avail, 400, with(m, func(m *api.Meter) { m.Now = 5400 }))
	checkOver(t, b, m, api.Avail, 401, with(m, func(m *api.Meter) { m.Now = 5401 }), [2]int{api.ClDaily, 5400})
}

// TestWeeks: what is counted by weeks, by blocks that cross no week's begin, one and several, and that begin with one, a minute ahead of it and behind it.
func TestWeeks(t *testing.T) {
	b := book.Europe()
	for _, one := range []struct{ kind, now, n, week, last, labour int }{
		{api.Drive, 10078, 1, 901, 3000, 1301}, {api.Drive, 10078, 2, 902, 3000, 1302}, {api.Drive, 10078, 3, 1, 902, 1},
		{api.Drive, 10079, 1, 901, 3000, 1301}, {api.Drive, 10079, 2, 1, 901, 1}, {api.Drive, 10079, 10081, 10080, 901, 10080}, {api.Drive, 10079, 10082, 1, 10080, 1},
		{api.Drive, 10080, 1, 1, 900, 1}, {api.Drive, 10080, 2, 2, 900, 2}, {api.Drive, 10080, 10079, 10079, 900, 10079}, {api.Drive, 10080, 10080, 10080, 900, 10080},
		{api.Drive, 10080, 10081, 1, 10080, 1}, {api.Drive, 10080, 20160, 10080, 10080, 10080}, {api.Drive, 10080, 20161, 1, 10080, 1}, {api.Drive, 10080, 30240, 10080, 10080, 10080},
		{api.Drive, 10081, 1, 901, 3000, 1301}, {api.Drive, 10081, 10079, 10979, 3000, 11379}, {api.Drive, 10081, 10080, 1, 10979, 1},
		{api.Drive, 10081, 20159, 10080, 10979, 10080}, {api.Drive, 10081, 20160, 1, 10080, 1}, {api.Drive, 10081, 30239, 10080, 10080, 10080},
		{api.Work, 10079, 1, 900, 3000, 1301}, {api.Work, 10079, 2, 0, 900, 1}, {api.Work, 10080, 1, 0, 900, 1}, {api.Work, 10080, 10080, 0, 900, 10080},
		{api.Work, 10080, 10081, 0, 0, 1}, {api.Work, 10081, 10079, 900, 3000, 11379}, {api.Work, 10081, 10080, 0, 900, 1}, {api.Work, 10081, 20160, 0, 0, 1}, {api.Work, 10081, 30239, 0, 0, 10080},
		{api.Avail, 10079, 1, 900, 3000, 1300}, {api.Avail, 10079, 2, 0, 900, 0}, {api.Avail, 10080, 1, 0, 900, 0}, {api.Avail, 10080, 10080, 0, 900, 0},
		{api.Avail, 10080, 10081, 0, 0, 0}, {api.Avail, 10081, 10079, 900, 3000, 1300}, {api.Avail, 10081, 10080, 0, 900, 0}, {api.Avail, 10081, 30239, 0, 0, 0},
	} {
		m := api.Meter{Now: one.now, Dawn: one.now, Sabbath: one.now, Week: 900, Last: 3000, Labour: 1300}
		got, _, err := stretch.Over(b, m, one.kind, one.n)
		if got.Now != one.now+one.n || got.Week != one.week || got.Last != one.last || got.Labour != one.labour || err != api.OK {
			t.Errorf("%d minutes of %d from %d on come to %+v, %d, want the weeks %d, %d, %d", one.n, one.kind, one.now, got, err, one.week, one.last, one.labour)
		}
		checkBlocks(t, b, m, one.kind, one.n)
		if one.kind == api.Avail {
			want := api.Meter{Now: one.now + one.n, Lie: one.n, Dawn: one.now, Sabbath: one.now, Week: one.week, Last: one.last, Labour: one.labour}
			checkOver(t, b, m, api.Rest, one.n, want)
		}
	}
}

// TestWeekBegins: blocks from around weeks' begins on, to around weeks' begins, in weeks of many lengths; the first minute of all begins none.
func TestWeekBegins(t *testing.T) {
	for _, length := range []int{1, 2, 3, 7, 100, 5000, 10080, 13440, 20159, 20160, 40319, 40320} {
		b := sample.Changed(func(b *api.Book) { b.Length = length })
		for _, begin := range []int{0, 1, 2, 3, 4, 5, 8} {
			for now := begin*length - 1; now <= begin*length+1; now++ {
				if now < 0 || now > 40320 {
					continue
				}
				m := api.Meter{Now: now, Week: now / 2, Last: now / 3, Labour: now}
				var l []int
				for to := range 9 {
					end := (begin+to)*length - now
					l = append(l, end-1, end, end+1)
				}
				for kind := range api.Kinds {
					checkBlocks(t, b, m, kind, rising(40320-now, l...)...)
				}
			}
		}
	}
}

// TestManyWeeks: blocks of many weeks, of each length up to some weeks, and some of those up to MaxTime.
func TestManyWeeks(t *testing.T) {
	for length := 1; length <= 12; length++ {
		b := counted(length, length, 2*length, length)
		for off := range 3 {
			for now := range 2*length + 2 {
				m := api.Meter{Now: now, Week: now / 2, Labour: now}
				b.Week, b.Fortnight, b.Labour = max(1, length-off), max(1, 2*length-off), max(1, length-off)
				for kind := range api.Kinds {
					checkBlocks(t, b, m, kind, append(upTo(7*length), 100*length, 100*length+1, 200*length-now)...)
				}
			}
		}
	}
	for _, length := range []int{1, 2, 7, 11} {
		for kind := range api.Kinds {
			checkBlocks(t, counted(length, 40320, 40320, 40320), api.Meter{}, kind, upTo(40320)...)
		}
	}
}

// counted: the European book with weeks of that length, and with these for what is counted by weeks.
func counted(length, week, fortnight, labour int) api.Book {
	return sample.Changed(func(b *api.Book) { b.Length, b.Week, b.Fortnight, b.Labour = length, week, fortnight, labour })
}

// TestNextWeeks: clauses that are broken in no minute of the week in which a block begins, but in one behind it.
func TestNextWeeks(t *testing.T) {
	for _, one := range []struct {
		name                            string
		length, week, fortnight, labour int
		m                               api.Meter
		clause, at                      int
	}{
		{"the second week's driving", 10080, 50, 5400, 3600, api.Meter{Now: 10060, Week: 10}, api.ClWeek, 10130},
		{"the second week's work", 10080, 3360, 5400, 50, api.Meter{Now: 10060, Labour: 29}, api.ClLabour, 10130},
		{"two weeks' driving, in the second one", 10080, 6000, 5400, 3600, api.Meter{Now: 10000, Week: 5300, Last: 20}, api.ClFortnight, 10100},
		{"two weeks' driving, in the second one's first minute", 10080, 6000, 5400, 3600, api.Meter{Now: 10000, Week: 5320, Last: 0}, api.ClFortnight, 10080},
		{"two weeks' driving, in the third one", 100, 100, 150, 3600, api.Meter{Now: 80}, api.ClFortnight, 250},
		{"two weeks' driving, in the third one's last minute", 100, 100, 199, 3600, api.Meter{Now: 99}, api.ClFortnight, 299},
		{"two weeks' driving, in the third one, from its begin on", 100, 100, 199, 3600, api.Meter{Now: 100, Week: 90}, api.ClFortnight, 299},
	} {
		b := counted(one.length, one.week, one.fortnight, one.labour)
		one.m.Dawn, one.m.Sabbath = one.m.Now, one.m.Now
		left := one.at - one.m.Now
		for _, n := range []int{left - 1, left, left + 1, left + 2, left + 9} {
			want := of()
			if n > left {
				want = of([2]int{one.clause, one.at})
			}
			if _, firsts, err := stretch.Over(b, one.m, api.Drive, n); firsts != want || err != api.OK {
				t.Errorf("%s: %d minutes of driving from %d on break %v, %d, want %v", one.name, n, one.m.Now, firsts, err, want)
			}
		}
		checkBlocks(t, b, one.m, api.Drive, rising(40320-one.m.Now, append(upTo(left+300), 5000, 20000)...)...)
	}
}

// TestSpells: by the European book, blocks behind a spell of rest that ends with them, for what it is worth.
func TestSpells(t *testing.T) {
	b := book.Europe()
	m := api.Meter{Acc: 100, Dawn: 11900, Day: 200, Longers: 1, Reduces: 2, Sabbath: 9000, Week: 900, Last: 3000, Labour: 1300}
	for _, one := range []struct {
		long   int
		before func(m *api.Meter)
		behind func(m *api.Meter)
		clause int
	}{
		{14, func(m *api.Meter) {}, func(m *api.Meter) { m.Acc, m.Day = 150, 250 }, -1},
		{15, func(m *api.Meter) {}, func(m *api.Meter) { m.Acc, m.Day, m.Half = 150, 250, true }, -1},
		{29, func(m *api.Meter) { m.Half = true }, func(m *api.Meter) { m.Acc, m.Day = 150, 250 }, -1},
		{30, func(m *api.Meter) { m.Half = true }, func(m *api.Meter) { m.Acc, m.Day, m.Half = 50, 250, false }, -1},
		{45, func(m *api.Meter) {}, func(m *api.Meter) { m.Acc, m.Day = 50, 250 }, -1},
		{180, func(m *api.Meter) {}, func(m *api.Meter) { m.Acc, m.Day, m.Split = 50, 250, true }, -1},
		{540, func(m *api.Meter) { m.Split = true }, func(m *api.Meter) { m.Acc, m.Day, m.Split, m.Dawn = 50, 50, false, 12540 }, -1},
		{540, func(m *api.Meter) {}, func(m *api.Meter) { m.Acc, m.Day, m.Reduces, m.Dawn = 50, 50, 3, 12540 }, -1},
		{540, func(m *api.Meter) { m.Reduces = 3 }, func(m *api.Meter) { m.Acc, m.Day, m.Reduces, m.Dawn = 50, 50, 4, 12540 }, api.ClReduces},
		{660, func(m *api.Meter) { m.Reduces = 3 }, func(m *api.Meter) { m.Acc, m.Day, m.Dawn = 50, 50, 12660 }, -1},
		{1440, func(m *api.Meter) {}, func(m *api.Meter) {
			m.Acc, m.Day, m.Reduces, m.Longers, m.Dawn, m.Sabbath, m.Brief = 50, 50, 0, 0, 13440, 13440, true
		}, -1},
		{2699, func(m *api.Meter) { m.Brief = true }, func(m *api.Meter) {
			m.Acc, m.Day, m.Reduces, m.Longers, m.Dawn, m.Sabbath, m.Brief = 50, 50, 0, 0, 14699, 14699, true
		}, api.ClBrief},
		{2700, func(m *api.Meter) { m.Brief = true }, func(m *api.Meter) {
			m.Acc, m.Day, m.Reduces, m.Longers, m.Dawn, m.Sabbath, m.Brief = 50, 50, 0, 0, 14700, 14700, false
		}, -1},
	} {
		m := with(m, func(m *api.Meter) { m.Now, m.Lie = 12000+one.long, one.long })
		one.before(&m)
		want := with(m, func(m *api.Meter) { m.Now, m.Lie, m.Week, m.Labour = m.Now+50, 0, 950, 1350 })
		one.behind(&want)
		var l [][2]int
		if one.clause >= 0 {
			l = append(l, [2]int{one.clause, m.Now})
		}
		checkOver(t, b, m, api.Drive, 50, want, l...)
		checkOver(t, b, m, api.Rest, 50, with(m, func(m *api.Meter) { m.Now, m.Lie = m.Now+50, m.Lie+50 }))
	}
}

// TestSpellEdges: blocks behind spells of each length that is worth something else, and a minute below and above it, with whatever was ahead of them.
func TestSpellEdges(t *testing.T) {
	for _, b := range []api.Book{book.Europe(), sample.Late(), sample.Wide()} {
		for _, long := range []int{b.First, b.Second, b.Break, b.Part, b.Reduced, b.Regular, b.Short, b.Weekly} {
			for _, lie := range []int{max(1, long-1), long, long + 1} {
				for bits := range 16 {
					m := api.Meter{Now: 9950 + lie, Lie: lie, Acc: 3, Day: b.Day - 4, Sabbath: 9000, Half: bits&1 > 0, Split: bits&2 > 0, Brief: bits&4 > 0, Week: 60}
					m.Dawn, m.Reduces = 9950, b.Reduces
					if bits&8 > 0 {
						m.Dawn, m.Reduces = 9000, 0
					}
					for kind := range api.Kinds {
						checkBlocks(t, b, m, kind, 0, 1, 2, 3, 4, 5, 6, 50, 130, 131, 1000)
					}
				}
			}
		}
	}
}

// due: for each clause, a meter of which so many minutes may go on until one breaks it alone, of these kinds.
func due() []struct {
	clause int
	at     func(left int) api.Meter
	kinds  []int
} {
	b := book.Europe()
	fresh := api.Meter{Now: 9000, Dawn: 9000, Sabbath: 9000}
	drive := []int{api.Drive}
	return []struct {
		clause int
		at     func(left int) api.Meter
		kinds  []int
	}{
		{api.ClBreak, func(left int) api.Meter { return with(fresh, func(m *api.Meter) { m.Acc = b.Drive - left }) }, drive},
		{api.ClLonger, func(left int) api.Meter { return with(fresh, func(m *api.Meter) { m.Day = b.Longer - left }) }, drive},
		{api.ClLongers, func(left int) api.Meter {
			return with(fresh, func(m *api.Meter) { m.Day, m.Longers = b.Day-left, b.Longers })
		}, drive},
		{api.ClWeek, func(left int) api.Meter { return with(fresh, func(m *api.Meter) { m.Week = b.Week - left }) }, drive},
		{api.ClFortnight, func(left int) api.Meter {
			return with(fresh, func(m *api.Meter) { m.Week, m.Last = 2000, b.Fortnight-2000-left })
		}, drive},
		{api.ClFortnight, func(left int) api.Meter { return with(fresh, func(m *api.Meter) { m.Last = b.Fortnight - left }) }, drive},
		{api.ClDaily, func(left int) api.Meter {
			return with(fresh, func(m *api.Meter) { m.Dawn = m.Now - (b.Round - b.Reduced) + left })
		}, up},
		{api.ClWeekly, func(left int) api.Meter {
			return with(fresh, func(m *api.Meter) { m.Sabbath = m.Now - b.Rounds + left })
		}, up},
		{api.ClLabour, func(left int) api.Meter { return with(fresh, func(m *api.Meter) { m.Labour = b.Labour - left }) }, []int{api.Work, api.Drive}},
	}
}

// TestDue: each clause that is broken from the first minute on, amid the block, in its last minute, and in the minute behind it; and one that was broken ahead of it.
func TestDue(t *testing.T) {
	b := book.Europe()
	for _, one := range due() {
		for _, left := range []int{-3, -1, 0, 1, 2, 3, 30} {
			m := one.at(left)
			for kind := range api.Kinds {
				breaks := slices.Contains(one.kinds, kind)
				if left < 0 && one.clause == api.ClLongers {
					breaks = false
				}
				far := 40320 - m.Now
				for n := range 55 {
					want := of()
					if breaks && n > max(0, left) {
						want = of([2]int{one.clause, m.Now + max(0, left)})
						far = max(0, left)
					}
					if _, firsts, err := stretch.Over(b, m, kind, n); firsts != want || err != api.OK {
						t.Errorf("%d minutes ahead of clause %d, Over(%d, %d) tells %v, %d, want %v", left, one.clause, kind, n, firsts, err, want)
					}
				}
				if breaks {
					checkFar(t, b, m, kind, far)
				}
				checkBlocks(t, b, m, kind, append(upTo(60), 300, 1000, 2000, 2160, 40320-m.Now)...)
			}
		}
	}
}

// TestLongers: a day that gets longer counts once, with the one minute that makes it longer, wherever it is in the block, and never where it was longer already.
func TestLongers(t *testing.T) {
	b := book.Europe()
	for _, one := range []struct{ day, longers, n, after, at int }{
		{540, 1, 0, 1, -1}, {540, 1, 1, 2, -1}, {540, 2, 1, 3, 2000}, {540, 2, 50, 3, 2000}, {540, 3, 50, 4, 2000},
		{539, 2, 1, 2, -1}, {539, 2, 2, 3, 2001}, {539, 2, 3, 3, 2001}, {539, 1, 3, 2, -1}, {539, 0, 50, 1, -1},
		{500, 2, 40, 2, -1}, {500, 2, 41, 3, 2040}, {500, 2, 42, 3, 2040}, {500, 1, 100, 2, -1},
		{541, 2, 1, 2, -1}, {541, 2, 50, 2, -1}, {541, 3, 50, 3, -1}, {542, 9, 50, 9, -1}, {590, 2, 10, 2, -1},
		{541, 2, 2, 2, -1}, {599, 7, 1, 7, -1},
	} {
		m := api.Meter{Now: 2000, Dawn: 1500, Sabbath: 1500, Day: one.day, Longers: one.longers}
		got, firsts, err := stretch.Over(b, m, api.Drive, one.n)
		if got.Longers != one.after || got.Day != one.day+one.n || firsts[api.ClLongers] != one.at || err != api.OK {
			t.Errorf("behind %d minutes of driving and %d longer days %d more come to %+v, %v, %d, want %d, first broken at %d", one.day, one.longers, one.n, got, firsts, err, one.after, one.at)
		}
		for kind := range api.Kinds {
			checkBlocks(t, b, m, kind, upTo(120)...)
		}
	}
}

// TestAlways: clauses that were broken ahead of the block are broken by its first minute.
func TestAlways(t *testing.T) {
	b := sample.Changed(func(b *api.Book) { b.Longer = 540 })
	m := api.Meter{Now: 9500, Acc: 540, Day: 540, Longers: 2, Reduces: 3, Week: 4000, Last: 4000, Labour: 4000}
	all := [][2]int{{api.ClBreak, 9500}, {api.ClLonger, 9500}, {api.ClLongers, 9500}, {api.ClWeek, 9500}, {api.ClFortnight, 9500}, {api.ClDaily, 9500}, {api.ClWeekly, 9500}, {api.ClLabour, 9500}}
	checkOver(t, b, m, api.Drive, 20, with(m, func(m *api.Meter) { m.Now, m.Acc, m.Day, m.Longers, m.Week, m.Labour = 9520, 560, 560, 3, 4020, 4020 }), all...)
	checkOver(t, b, m, api.Work, 20, with(m, func(m *api.Meter) { m.Now, m.Labour = 9520, 4020 }), all[5:]...)
	checkOver(t, b, m, api.Avail, 20, with(m, func(m *api.Meter) { m.Now = 9520 }), all[5:7]...)
	checkOver(t, b, m, api.Rest, 20, with(m, func(m *api.Meter) { m.Now, m.Lie = 9520, 20 }))
	for kind := range api.Kinds {
		want := 0
		if kind == api.Rest {
			want = 40320 - 9500
		}
		checkFar(t, b, m, kind, want)
	}
}

// TestEurope: by the European book blocks of each length up to MaxTime, from meters of all kinds.
func TestEurope(t *testing.T) {
	b := book.Europe()
	draws := chance(14)
	meters := []api.Meter{{}, busy(), {Now: 10079, Week: 3000, Labour: 3500}, {Now: 10080, Week: 3000, Labour: 3500}, {Now: 10081, Dawn: 10081, Last: 3000}, {Now: 3000, Lie: 2999}, full(20159), full(30240)}
	for range 4 {
		meters = append(meters, sample.AnyMeter(draws.Intn, b))
	}
	for _, m := range meters {
		for kind := range api.Kinds {
			checkBlocks(t, b, m, kind, upTo(40320-m.Now)...)
		}
	}
}

// TestAny: by all books blocks of many lengths, from meters of all kinds, also such as no timeline comes to.
func TestAny(t *testing.T) {
	draws := chance(15)
	for _, b := range sample.May() {
		for range 40 {
			m := sample.AnyMeter(draws.Intn, b)
			room := 40320 - m.Now
			for kind := range api.Kinds {
				checkBlocks(t, b, m, kind, rising(min(room, 60), upTo(60)...)...)
			}
		}
		for range 2 {
			m := sample.AnyMeter(draws.Intn, b)
			for kind := range api.Kinds {
				checkBlocks(t, b, m, kind, edges(b, m, draws.Intn)...)
			}
		}
	}
}

// edges: lengths of blocks from the meter on that may matter by the book, and some others, up to MaxTime.
func edges(b api.Book, m api.Meter, draw func(n int) int) []int {
	room := 40320 - m.Now
	l := []int{0, 1, 2, room - 1, room}
	for _, n := range append(book.Numbers(b), b.Drive-m.Acc, b.Day-m.Day, b.Longer-m.Day, b.Week-m.Week, b.Fortnight-m.Week-m.Last, b.Labour-m.Labour, m.Dawn+b.Round-b.Reduced-m.Now, m.Sabbath+b.Rounds-m.Now) {
		l = append(l, n-1, n, n+1, draw(room+1))
	}
	for begin := range 6 {
		at := begin*b.Length - m.Now
		l = append(l, at-1, at, at+1, at+b.Week, at+b.Fortnight, at+b.Labour)
	}
	return rising(room, l...)
}

// TestBehind: by books of small numbers blocks behind all short timelines.
func TestBehind(t *testing.T) {
	for _, b := range append(sample.TinyBooks(), sample.Lowest()) {
		on(t, b, api.Meter{}, 4)
	}
}

// on: blocks from the meter on, and from all that it goes on to by so many minutes at the most.
func on(t *testing.T, b api.Book, m api.Meter, left int) {
	t.Helper()
	for kind := range api.Kinds {
		checkBlocks(t, b, m, kind, upTo(30)...)
		if left > 0 {
			after, _, _ := meter.Run(b, m, kind)
			on(t, b, after, left-1)
		}
	}
}

// TestChain: timelines of blocks, one behind the other, against all their minutes.
func TestChain(t *testing.T) {
	draws := chance(16)
	for _, b := range sample.May() {
		most := min(40320, 60*b.Reduced)
		numbers := book.Numbers(b)
		m := api.Meter{}
		for m.Now < most {
			kind, n := draws.Intn(4), 1+draws.Intn(3)
			if draws.Intn(2) == 0 {
				n = max(1, numbers[draws.Intn(len(numbers))]-1+draws.Intn(3))
			}
			n = min(n, 40320-m.Now)
			checkBlocks(t, b, m, kind, n)
			m, _, _ = stretch.Over(b, m, kind, n)
			if meter.Check(m) != api.OK {
				t.Fatalf("by %+v a block comes to %+v, that may not be", b, m)
			}
		}
	}
}

// TestFar: Far by the European book: where nothing can go on, something, and all.
func TestFar(t *testing.T) {
	b := book.Europe()
	for _, one := range []struct {
		m    api.Meter
		want [4]int
	}{
		{api.Meter{}, [4]int{40320, 900, 900, 270}},
		{busy(), [4]int{35320, 400, 400, 170}},
		{api.Meter{Now: 40320}, [4]int{0, 0, 0, 0}},
		{full(40320), [4]int{0, 0, 0, 0}},
		{api.Meter{Now: 40319, Dawn: 40319, Sabbath: 40319}, [4]int{1, 1, 1, 1}},
		{api.Meter{Now: 40319}, [4]int{1, 0, 0, 0}},
		{api.Meter{Now: 40319, Lie: 3000}, [4]int{1, 1, 1, 1}},
		{api.Meter{Now: 40050, Dawn: 40050, Sabbath: 40050}, [4]int{270, 270, 270, 270}},
		{api.Meter{Now: 40049, Dawn: 40049, Sabbath: 40049}, [4]int{271, 271, 271, 270}},
		{api.Meter{Now: 39420, Dawn: 39420, Sabbath: 39420}, [4]int{900, 900, 900, 270}},
		{api.Meter{Now: 39419, Dawn: 39419, Sabbath: 39419}, [4]int{901, 900, 900, 270}},
		{api.Meter{Now: 899}, [4]int{39421, 1, 1, 1}},
		{api.Meter{Now: 900}, [4]int{39420, 0, 0, 0}},
		{api.Meter{Now: 900, Lie: 540}, [4]int{39420, 900, 900, 270}},
		{api.Meter{Now: 900, Lie: 540, Reduces: 3}, [4]int{39420, 0, 0, 0}},
		{api.Meter{Now: 800, Acc: 270}, [4]int{39520, 100, 100, 0}},
		{api.Meter{Now: 800, Acc: 269}, [4]int{39520, 100, 100, 1}},
		{api.Meter{Now: 8639, Dawn: 8639}, [4]int{31681, 1, 1, 1}},
		{api.Meter{Now: 10000, Dawn: 10000, Sabbath: 10000, Week: 3360, Labour: 3360}, [4]int{30320, 900, 240 + 660, 0}},
		{api.Meter{Now: 10000, Dawn: 10000, Sabbath: 10000, Week: 3300, Labour: 3590}, [4]int{30320, 900, 10, 10}},
		{api.Meter{Now: 10080, Dawn: 10080, Sabbath: 10080, Week: 5300, Labour: 9000}, [4]int{30240, 900, 900, 100}},
	} {
		for kind, want := range one.want {
			checkFar(t, b, one.m, kind, want)
			checkBlocks(t, b, one.m, kind, 40320-one.m.Now)
		}
	}
}

// TestFarAny: Far by all books, from meters of all kinds.
func TestFarAny(t *testing.T) {
	draws := chance(17)
	some, all, nothing := 0, 0, 0
	for _, b := range sample.May() {
		for range 12 {
			m := sample.AnyMeter(draws.Intn, b)
			checkFar(t, b, m, api.Rest, 40320-m.Now)
			for _, kind := range up {
				w := begin(t, b, m, kind)
				for w.firsts == of() && w.meter.Now < 40320 {
					w.minute()
				}
				far := w.whole(m.Now)
				checkFar(t, b, m, kind, far)
				switch {
				case far == 0:
					nothing++
				case far == 40320-m.Now:
					all++
				default:
					some++
				}
			}
		}
	}
	if min(some, all, nothing) < 20 {
		t.Errorf("the test itself: something could go on %d times, all %d times, nothing %d times", some, all, nothing)
	}
}

// TestFirst: the least of the first minutes, at each place, and those that are none.
func TestFirst(t *testing.T) {
	for _, one := range []struct {
		f    stretch.Firsts
		want int
	}{
		{of(), -1},
		{stretch.Firsts{}, 0},
		{stretch.Firsts{5, 4, 3, 2, 1, 2, 3, 4, 5, 6}, 1},
		{stretch.Firsts{1, 2, 3, 4, 5, 6, 7, 8, 9, 10}, 1},
		{stretch.Firsts{10, 9, 8, 7, 6, 5, 4, 3, 2, 1}, 1},
		{stretch.Firsts{7, 7, 7, 7, 7, 7, 7, 7, 7, 7}, 7},
		{stretch.Firsts{-2, -3, -4, -5, -6, -7, -8, -9, -10, math.MinInt}, -1},
		{stretch.Firsts{-2, -3, -4, -5, 40320, -7, -8, -9, 40319, math.MinInt}, 40319},
		{stretch.Firsts{math.MaxInt, math.MinInt, math.MaxInt, -1, math.MaxInt, -1, -1, -1, -1, -1}, math.MaxInt},
		{stretch.Firsts{math.MaxInt, math.MinInt, math.MaxInt - 1, -1, math.MaxInt, -1, -1, -1, -1, -1}, math.MaxInt - 1},
		{stretch.Firsts{math.MinInt, math.MinInt, math.MinInt, math.MinInt, math.MinInt, math.MinInt, math.MinInt, math.MinInt, math.MinInt, math.MinInt}, -1},
	} {
		checkFirst(t, one.f, one.want)
	}
	for i := range 10 {
		for _, n := range []int{0, 1, 40319, 40320, 1 << 32, math.MaxInt} {
			checkFirst(t, of([2]int{i, n}), n)
			for j := range 10 {
				for _, other := range []int{math.MinInt, -2, -1, n, n + 1, math.MaxInt} {
					f := of([2]int{j, other}, [2]int{i, n})
					want := n
					if i != j && other >= 0 {
						want = min(n, other)
					}
					checkFirst(t, f, want)
				}
			}
		}
		for _, n := range []int{math.MinInt, math.MinInt + 1, -40320, -2, -1} {
			checkFirst(t, of([2]int{i, n}), -1)
		}
	}
}

// checkFirst: what First tells; what it was handed reads as before.
func checkFirst(t *testing.T, f stretch.Firsts, want int) {
	t.Helper()
	before := f
	if got := stretch.First(f); got != want || f != before {
		t.Errorf("First(%v) = %d, want %d", before, got, want)
	}
}

// TestParts: P14.3: of two blocks of one kind, one behind the other, the first minutes are those of the whole, wherever they are parted; so is the last meter.
func TestParts(t *testing.T) {
	draws := chance(18)
	for _, b := range sample.May() {
		for range 12 {
			m := sample.AnyMeter(draws.Intn, b)
			room := 40320 - m.Now
			for kind := range api.Kinds {
				n := draws.Intn(room + 1)
				for _, at := range rising(n, 0, 1, 2, n/2, n-2, n-1, n, draws.Intn(n+1), draws.Intn(n+1), b.Length-m.Now%b.Length) {
					checkParts(t, b, m, kind, at, n)
				}
			}
		}
	}
	for kind := range api.Kinds {
		for at := range 400 {
			checkParts(t, book.Europe(), busy(), kind, at, 401)
			checkParts(t, book.Europe(), busy(), kind, at*70, 30000)
		}
	}
}

// checkParts: n minutes of the kind, parted behind at of them.
func checkParts(t *testing.T, b api.Book, m api.Meter, kind, at, n int) {
	t.Helper()
	whole, firsts, err := stretch.Over(b, m, kind, n)
	amid, one, errOne := stretch.Over(b, m, kind, at)
	behind, other, errOther := stretch.Over(b, amid, kind, n-at)
	both := one
	for clause := range both {
		if both[clause] == -1 {
			both[clause] = other[clause]
		}
	}
	if behind != whole || both != firsts || err != api.OK || errOne != api.OK || errOther != api.OK {
		t.Errorf("by %+v, %d minutes of %d behind %+v, parted at %d, come to %+v, %v, want %+v, %v", b, n, kind, m, at, behind, both, whole, firsts)
	}
}

// TestExample: the chapter's one: by the European book Far of a first meter, for Drive, is 270.
func TestExample(t *testing.T) {
	if n, err := stretch.Far(book.Europe(), api.Meter{}, api.Drive); n != 270 || err != api.OK {
		t.Errorf("Far = %d, %d, want 270", n, err)
	}
}

// TestReadsOnly: books and meters read as before behind each call, and no call changes what another one tells.
func TestReadsOnly(t *testing.T) {
	b, m := sample.Tiny(), full(6)
	want, wantFirsts, _ := stretch.Over(b, m, api.Drive, 30)
	far, _ := stretch.Far(b, m, api.Work)
	for _, other := range slices.Concat(sample.May(), sample.NoBooks()) {
		for _, meter := range []api.Meter{busy(), full(10080), full(40321)} {
			sameBook, sameMeter := other, meter
			for kind := -1; kind <= api.Kinds; kind++ {
				stretch.Over(other, meter, kind, 5000)
				stretch.Far(other, meter, kind)
			}
			if other != sameBook || meter != sameMeter {
				t.Errorf("what was handed in reads %+v, %+v, and read %+v, %+v", other, meter, sameBook, sameMeter)
			}
		}
		got, firsts, err := stretch.Over(b, m, api.Drive, 30)
		if got != want || firsts != wantFirsts || err != api.OK {
			t.Errorf("asked again, Over tells %+v, %v, %d, and told %+v, %v", got, firsts, err, want, wantFirsts)
		}
		if n, err := stretch.Far(b, m, api.Work); n != far || err != api.OK {
			t.Errorf("asked again, Far tells %d, %d, and told %d", n, err, far)
		}
	}
}
