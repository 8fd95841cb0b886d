package verdict_test

import (
	"math"
	"slices"
	"testing"

	"haulier/api"
	"haulier/book"
	"haulier/sample"
	"haulier/verdict"
)

// TestExample: the chapter's one: a plan without tasks, records and loads.
func TestExample(t *testing.T) {
	c := verdict.Case{Book: book.Europe()}
	if text, err := verdict.Report(c); text != "clear\n" || err != api.OK {
		t.Errorf("Report = %q, %d, want clear, and a byte 10", text, err)
	}
	if found, err := verdict.Audit(c); len(found) != 0 || err != api.OK {
		t.Errorf("Audit = %v, %d, want nothing", found, err)
	}
	if !verdict.Passes(c) {
		t.Error("it doesn't pass")
	}
}

// TestGood: cases that break nothing: one with some of all, full weeks, and each of a case's parts alone.
func TestGood(t *testing.T) {
	checkCase(t, good())
	lawful := sample.Lawful()
	for _, m := range []int{0, 1, 135, 150, 600, 10080, 20160, 30000, 37620, 40319, 40320} {
		checkFound(t, cut(t, book.Europe(), lawful, m))
	}
	checkCase(t, cut(t, book.Europe(), lawful, 20160))
	g := good()
	for _, b := range sample.May() {
		checkFound(t, verdict.Case{Book: b})
		checkFound(t, verdict.Case{Book: b, Past: did("R5")})
		checkFound(t, verdict.Case{Book: b, Plan: did("R40320")})
	}
	checkCase(t, verdict.Case{Book: g.Book, Past: g.Past})
	checkCase(t, verdict.Case{Book: g.Book, Past: did("R600"), Plan: sample.Did(600, "R5 A5")})
	checkCase(t, verdict.Case{Book: g.Book, Tasks: make([]api.Task, 2001), Spot: spot(2001, 0, 0)})
	checkCase(t, verdict.Case{Book: g.Book, Tasks: g.Tasks, Spot: spot(4, 0, 0)})
	checkCase(t, verdict.Case{Book: g.Book, Plan: did("D5 W5"), Tasks: []api.Task{task(5, 5, 5, 6)}})
	checkCase(t, verdict.Case{Book: g.Book, Loads: []int{-4, 6}, Room: 10})
}

// TestNoRecords: no Past, no Plan, neither: without a Plan nothing more is done, and without a Past the Plan begins with 0.
func TestNoRecords(t *testing.T) {
	for _, none := range [][]api.Record{nil, {}, make([]api.Record, 3)[:0], list(rec(9, -1, -1))[:0]} {
		g := good()
		noPlan := with(g, func(c *verdict.Case) { c.Plan = none })
		checkCase(t, noPlan, find(api.ClLeft, 0, 1))
		checkCase(t, with(noPlan, func(c *verdict.Case) { c.Spot = spot(4, 0, 0) }))
		neither := with(noPlan, func(c *verdict.Case) { c.Past = none })
		checkCase(t, neither, find(api.ClLeft, 0, 1))
		checkCase(t, with(neither, func(c *verdict.Case) { c.Spot = spot(4, 0, 0) }))
		checkCase(t, with(neither, func(c *verdict.Case) { c.Tasks, c.Spot = nil, spot(0, 0, 0) }))
		noPast := with(g, func(c *verdict.Case) { c.Past = none })
		checkErr(t, noPast, api.ErrGap)
		checkCase(t, with(noPast, func(c *verdict.Case) {
			c.Plan = did("D40 W20 R100 D60 W10 D30 R50")
			c.Tasks[1].Open, c.Tasks[2].Open = sample.Spans(40, 41), sample.Spans(220, 221)
		}))
	}
}

// TestBegins: a whole that has records begins with 0, whether Past has records or Plan alone has.
func TestBegins(t *testing.T) {
	b := book.Europe()
	for _, from := range []int{1, 2, 5, 1440, 10080, 40318} {
		past, plan := list(rec(0, from, from+1)), list(rec(0, from+1, from+2))
		checkErr(t, verdict.Case{Book: b, Past: past, Plan: plan}, api.ErrGap)
		checkErr(t, verdict.Case{Book: b, Past: past}, api.ErrGap)
		checkErr(t, verdict.Case{Book: b, Plan: past}, api.ErrGap)
		checkErr(t, verdict.Case{Book: b, Plan: slices.Concat(past, plan)}, api.ErrGap)
		checkErr(t, verdict.Case{Book: b, Past: slices.Concat(past, plan)}, api.ErrGap)
		// A Past that begins with 0 ahead of one that need not.
		checkCase(t, verdict.Case{Book: b, Past: list(rec(0, 0, from)), Plan: past})
		checkCase(t, verdict.Case{Book: b, Past: slices.Concat(list(rec(0, 0, from)), past), Plan: plan})
	}
	checkErr(t, verdict.Case{Book: b, Plan: list(rec(0, 40319, 40320))}, api.ErrGap)
	checkCase(t, verdict.Case{Book: b, Plan: did("R1")})
	checkCase(t, verdict.Case{Book: b, Past: did("R1")})
}

// wrongSpots are spots of the good case's tasks that are not right.
func wrongSpots() []api.Spot {
	return []api.Spot{
		spot(-1, 0, 0), spot(5, 0, 0), spot(4, 1, 0), spot(4, 0, 1), spot(1, 141, 0), spot(1, 140, 20), spot(1, 140, 21), spot(1, 139, 1), spot(1, -1, 0), spot(1, 0, -1), spot(0, 270, 0),
		spot(math.MinInt, 0, 0), spot(math.MaxInt, 0, 0), spot(1, math.MaxInt, 0), spot(1, 140, math.MinInt), spot(math.MaxInt, math.MaxInt, math.MaxInt),
	}
}

// TestErrBook: books that may not be, alone, and ahead of all else that is wrong.
func TestErrBook(t *testing.T) {
	for _, b := range sample.NoBooks() {
		checkErr(t, verdict.Case{Book: b}, api.ErrBook)
		checkErr(t, with(good(), func(c *verdict.Case) { c.Book = b }), api.ErrBook)
		checkErr(t, with(good(), func(c *verdict.Case) { c.Book, c.Tasks = b, make([]api.Task, 2002) }), api.ErrBook)
		checkErr(t, verdict.Case{Book: b, Past: list(rec(4, -1, -1)), Spot: spot(-1, 0, 0), Loads: []int{math.MaxInt}}, api.ErrBook)
	}
}

// TestErrTasks: each error of layer 19's Check, of the first task, a later one, the last one; done already or not.
func TestErrTasks(t *testing.T) {
	for _, w := range sample.NoTasks() {
		g := good()
		for place := range len(g.Tasks) + 1 {
			l := slices.Insert(slices.Clone(g.Tasks), place, w.Task)
			for _, s := range []api.Spot{spot(0, 0, 0), g.Spot, spot(4, 0, 0), spot(5, 0, 0), spot(-1, 0, 0)} {
				checkErr(t, with(g, func(c *verdict.Case) { c.Tasks, c.Spot = l, s }), w.Err)
			}
		}
		checkErr(t, verdict.Case{Book: g.Book, Tasks: []api.Task{w.Task}}, w.Err)
	}
	many := make([]api.Task, 2002)
	checkErr(t, with(good(), func(c *verdict.Case) { c.Tasks = many }), api.ErrMany)
	checkErr(t, verdict.Case{Book: book.Europe(), Tasks: many, Spot: spot(2002, 0, 0)}, api.ErrMany)
	many[0].Drive = -1
	checkErr(t, verdict.Case{Book: book.Europe(), Tasks: many, Spot: spot(2002, 0, 0)}, api.ErrMany)
	checkCase(t, verdict.Case{Book: book.Europe(), Tasks: many[1:], Spot: spot(2001, 0, 0)})
}

// TestErrSpot: spots that are not right, also of no tasks.
func TestErrSpot(t *testing.T) {
	for _, s := range wrongSpots() {
		checkErr(t, with(good(), func(c *verdict.Case) { c.Spot = s }), api.ErrArg)
		checkErr(t, with(good(), func(c *verdict.Case) { c.Spot, c.Plan = s, nil }), api.ErrArg)
		checkErr(t, verdict.Case{Book: book.Europe(), Spot: s}, api.ErrArg)
	}
}

// TestErrRecords: each error of layer 8's Check, in Past, in Plan, and anywhere over both.
func TestErrRecords(t *testing.T) {
	b := book.Europe()
	for _, w := range sample.Wrong() {
		places := []int{0, 1, w.At, len(w.L) - 1, len(w.L)}
		for _, m := range places {
			checkErr(t, verdict.Case{Book: b, Past: w.L[:m], Plan: w.L[m:]}, w.Err)
			checkErr(t, with(good(), func(c *verdict.Case) { c.Past, c.Plan = w.L[:m], w.L[m:] }), w.Err)
		}
		// Behind it what is planned doesn't matter any more.
		checkErr(t, with(good(), func(c *verdict.Case) { c.Past = w.L }), w.Err)
	}
	for _, kind := range sample.NoKinds() {
		checkErr(t, with(good(), func(c *verdict.Case) { c.Past[1].Kind = kind }), api.ErrKind)
		checkErr(t, with(good(), func(c *verdict.Case) { c.Plan[6].Kind = kind }), api.ErrKind)
		checkErr(t, with(good(), func(c *verdict.Case) { c.Past, c.Plan = nil, list(rec(kind, 0, 1)) }), api.ErrKind)
	}
	for _, m := range []int{math.MinInt, -1, 40321, math.MaxInt} {
		checkErr(t, with(good(), func(c *verdict.Case) { c.Past[0].From = m }), api.ErrRange)
		checkErr(t, with(good(), func(c *verdict.Case) { c.Past[6].To = m }), api.ErrRange)
		checkErr(t, with(good(), func(c *verdict.Case) { c.Plan[0].From = m }), api.ErrRange)
		checkErr(t, with(good(), func(c *verdict.Case) { c.Plan[6].To = m }), api.ErrRange)
	}
	for _, to := range []int{1290, 1289, 0} {
		checkErr(t, with(good(), func(c *verdict.Case) { c.Plan[6].To = to }), api.ErrSpan)
	}
	checkErr(t, with(good(), func(c *verdict.Case) { c.Past[6].To = 930 }), api.ErrSpan)
}

// TestErrJoin: Past and Plan neither of which is wrong alone, and that don't join.
func TestErrJoin(t *testing.T) {
	b := book.Europe()
	for _, c := range []struct {
		past, plan []api.Record
		want       api.Errno
	}{
		{list(rec(0, 0, 5)), list(rec(0, 6, 7)), api.ErrGap},
		{list(rec(0, 0, 5)), list(rec(3, 40319, 40320)), api.ErrGap},
		{list(rec(0, 0, 5)), list(rec(0, 4, 7)), api.ErrOverlap},
		{list(rec(0, 0, 5)), list(rec(0, 4, 5)), api.ErrOverlap},
		{list(rec(0, 0, 5)), list(rec(0, 0, 5)), api.ErrOverlap},
		{list(rec(0, 0, 5)), list(rec(0, 0, 7)), api.ErrOverlap},
		{list(rec(0, 0, 5)), list(rec(3, 0, 1), rec(0, 1, 5)), api.ErrOverlap},
		{list(rec(0, 0, 40320)), list(rec(0, 0, 1)), api.ErrOverlap},
		{list(rec(0, 0, 40320)), list(rec(0, 40319, 40320)), api.ErrOverlap},
		{list(rec(0, 5, 7)), list(rec(0, 0, 5)), api.ErrOverlap},
		{list(rec(0, 5, 7)), list(rec(0, 8, 9)), api.ErrGap},
		// More records together than there are minutes, and no gap between them.
		{sample.Many(true), sample.Many(true), api.ErrOverlap},
		{sample.Many(true), sample.Many(false)[1:], api.ErrOverlap},
		{sample.Many(true)[:20160], sample.Many(true)[20159:], api.ErrOverlap},
		{sample.Many(true)[:20160], sample.Many(true)[20161:], api.ErrGap},
	} {
		checkCaseOf(t, c.past)
		checkCaseOf(t, c.plan)
		checkErr(t, verdict.Case{Book: b, Past: c.past, Plan: c.plan}, c.want)
		checkErr(t, with(good(), func(g *verdict.Case) { g.Past, g.Plan = c.past, c.plan }), c.want)
	}
	checkErr(t, verdict.Case{Book: b, Past: sample.Many(true), Plan: list(rec(0, 40320, 40321))}, api.ErrRange)
	for _, c := range []verdict.Case{
		{Book: b, Past: list(rec(0, 0, 5)), Plan: list(rec(0, 5, 7))},
		{Book: b, Past: list(rec(0, 0, 40319)), Plan: list(rec(0, 40319, 40320))},
	} {
		checkCase(t, c)
	}
}

// checkCaseOf: the records, alone, are not wrong but that they may begin later than 0.
func checkCaseOf(t *testing.T, l []api.Record) {
	t.Helper()
	c := verdict.Case{Book: book.Europe(), Plan: l}
	if l[0].From > 0 {
		checkErr(t, c, api.ErrGap)
	} else if _, err := verdict.Audit(c); err != api.OK {
		t.Errorf("of %v alone Audit tells %d", sample.Short(l), err)
	}
}

// TestErrLoads: each error of layer 21, whatever room there is.
func TestErrLoads(t *testing.T) {
	for _, room := range []int{7, math.MaxInt, 0, math.MinInt} {
		for _, n := range []int{1000001, -1000001, math.MaxInt, math.MinInt} {
			for _, l := range [][]int{{n}, {5, -3, n}, {n, 5, -3}, {n, -n}} {
				checkErr(t, with(good(), func(c *verdict.Case) { c.Loads, c.Room = l, room }), api.ErrRange)
				checkErr(t, verdict.Case{Book: book.Europe(), Loads: l, Room: room}, api.ErrRange)
			}
		}
		checkErr(t, with(good(), func(c *verdict.Case) { c.Loads, c.Room = make([]int, 2001), room }), api.ErrMany)
		checkErr(t, with(good(), func(c *verdict.Case) { c.Loads, c.Room = slices.Repeat([]int{1000001}, 2001), room }), api.ErrMany)
	}
	checkCase(t, with(good(), func(c *verdict.Case) { c.Loads, c.Room = make([]int, 2000), 0 }))
	checkCase(t, with(good(), func(c *verdict.Case) { c.Loads, c.Room = slices.Repeat([]int{1000000}, 2000), 2000000000 }))
	checkCase(t, with(good(), func(c *verdict.Case) { c.Loads, c.Room = slices.Repeat([]int{-1000000}, 2000), 1999999999 }), at(api.ClLoad, 1030))
}

// fault is a way in which a case is spoilt, and what is told of it alone.
type fault struct {
	err   api.Errno
	spoil func(c *verdict.Case)
}

// faults are, for each error in the promise's order, ways of it, of which the first does nothing; and findings of all kinds last. Each can be done to a case that others were done to.
func faults() [][]fault {
	none := fault{api.OK, func(*verdict.Case) {}}
	record := func(err api.Errno, spoil func(r *api.Record)) fault {
		return fault{err, func(c *verdict.Case) { spoil(&c.Plan[6]) }}
	}
	return [][]fault{
		{none, {api.ErrBook, func(c *verdict.Case) { c.Book.Drive = 0 }}, {api.ErrBook, func(c *verdict.Case) { c.Book = api.Book{} }}},
		{none,
			{api.ErrMany, func(c *verdict.Case) { c.Tasks = append(c.Tasks, make([]api.Task, 2000)...) }},
			{api.ErrRange, func(c *verdict.Case) { c.Tasks[0].Drive = -1 }},
			{api.ErrNone, func(c *verdict.Case) { c.Tasks[0].Serve = 1 }},
			{api.ErrSpan, func(c *verdict.Case) { c.Tasks[1].Open[0].To = 0 }},
			{api.ErrOverlap, func(c *verdict.Case) { c.Tasks[1].Open[0].To = 1071 }},
			{api.ErrArg, func(c *verdict.Case) { c.Tasks[3].Open = sample.Spans(5, 7) }},
		},
		{none, {api.ErrArg, func(c *verdict.Case) { c.Spot.Task = -1 }}, {api.ErrArg, func(c *verdict.Case) { c.Spot.Served = 1 }}},
		{none,
			record(api.ErrKind, func(r *api.Record) { r.Kind = 4 }), record(api.ErrRange, func(r *api.Record) { r.To = 40321 }), record(api.ErrSpan, func(r *api.Record) { r.To = r.From }),
			record(api.ErrGap, func(r *api.Record) { r.From++ }), record(api.ErrOverlap, func(r *api.Record) { r.From-- }),
			{api.ErrKind, func(c *verdict.Case) { c.Past[len(c.Past)-1].Kind = -1 }}, {api.ErrOverlap, func(c *verdict.Case) { c.Past[len(c.Past)-1].To++ }},
		},
		{none, {api.ErrGap, func(c *verdict.Case) { c.Past[0].From++ }}, {api.ErrGap, func(c *verdict.Case) { c.Past = c.Past[3:] }}},
		{none, {api.ErrMany, func(c *verdict.Case) { c.Loads = make([]int, 2001) }}, {api.ErrRange, func(c *verdict.Case) { c.Loads[2] = 1000001 }}},
		{none, {api.OK, func(c *verdict.Case) { c.Past[2].Kind, c.Plan[1].Kind, c.Room = api.Rest, api.Drive, 0 }}},
	}
}

// TestErrorOrder: of all errors together, each two, each one alone, what is named first is told first.
func TestErrorOrder(t *testing.T) {
	all := faults()
	var try func(done []fault)
	try = func(done []fault) {
		if len(done) < len(all) {
			for _, f := range all[len(done)] {
				try(append(slices.Clone(done), f))
			}
			return
		}
		c, want := good(), api.OK
		for _, f := range done {
			f.spoil(&c)
			if want == api.OK {
				want = f.err
			}
		}
		if want != api.OK {
			checkErr(t, c, want)
		} else {
			checkFound(t, c, plainFound(t, c)...)
		}
	}
	try(nil)
}

// rule is a timeline that breaks one clause of layer 16 alone.
type rule struct {
	book api.Book
	did  string
	want api.Finding
}

// rules are such timelines, for each clause.
func rules() []rule {
	b := book.Europe()
	long, day := "D270 R45 D270 R45 D1 R660", "D270 R45 D270 R660"
	return []rule{
		{b, "A60 D271", find(api.ClBreak, 0, 331)},
		{b, "D270 R45 D271", find(api.ClBreak, 315, 586)},
		{b, "D200 R15 D70 R29 D1", find(api.ClBreak, 0, 315)},
		{b, "D270 R45 D270 R45 D61", find(api.ClLonger, 0, 691)},
		{b, times(3, long), find(api.ClLongers, 0, 3213)},
		{b, times(6, day) + "D121", find(api.ClWeek, 0, 7591)},
		{sample.Changed(func(b *api.Book) { b.Fortnight = 3361 }), times(6, day) + "D120 R2490 D2", find(api.ClFortnight, 0, 10082)},
		{b, "A901", find(api.ClDaily, 0, 901)},
		{b, "A100 R540 W901", find(api.ClDaily, 640, 1541)},
		{b, times(4, "A900 R540") + "A1", find(api.ClReduces, 0, 5761)},
		{b, times(6, "A780 R660") + "A1", find(api.ClWeekly, 0, 8641)},
		{b, "A100 R1440 A100 R1440 D1", find(api.ClBrief, 1540, 3081)},
		{b, times(6, "D270 R45 D270 W15 R660") + "W271", find(api.ClLabour, 0, 7831)},
	}
}

// TestRules: a clause of layer 16 that is broken in Past alone, in Plan alone, across the two: the whole is one timeline, wherever Past ends.
func TestRules(t *testing.T) {
	var inPast, inPlan, across [10]int
	for _, one := range rules() {
		// A week ahead changes nothing but when all of it is.
		for _, ahead := range []string{"", "A100 R9980 "} {
			for _, behind := range []string{"", " R2700 A5"} {
				want := one.want
				if ahead != "" {
					want.From, want.To = want.From+10080, want.To+10080
				}
				l := did(ahead + one.did + behind)
				end := l[len(l)-1].To
				checkCase(t, cut(t, one.book, l, (want.From+want.To)/2), want)
				for _, m := range []int{0, 1, want.From - 1, want.From, want.From + 1, (want.From + want.To) / 2, want.To - 2, want.To - 1, want.To, want.To + 1, end - 1, end} {
					checkFound(t, cut(t, one.book, l, min(max(m, 0), end)), want)
					switch c := want.Clause; {
					case m >= want.To:
						inPast[c]++
					case m <= want.From:
						inPlan[c]++
					default:
						across[c]++
					}
				}
			}
		}
	}
	for c := range inPast {
		if min(inPast[c], inPlan[c], across[c]) < 4 {
			t.Errorf("the test itself: clause %d is broken %d times in Past, %d times in Plan, %d times across the two", c, inPast[c], inPlan[c], across[c])
		}
	}
}

// TestAcross: some of these by hand: what Past did counts for what is planned.
func TestAcross(t *testing.T) {
	b := book.Europe()
	one := func(past, plan string, tasks ...api.Task) verdict.Case {
		l := did(past)
		return verdict.Case{Book: b, Past: l, Plan: sample.Did(l[len(l)-1].To, plan), Tasks: tasks}
	}
	checkCase(t, one("D200", "D70", task(70, 0)))
	checkCase(t, one("D200", "D71", task(71, 0)), find(api.ClBreak, 0, 271))
	checkCase(t, one("D271", "R45 D270", task(270, 0)), find(api.ClBreak, 0, 271))
	checkCase(t, one("D270", "R44 D1", task(1, 0)), find(api.ClBreak, 0, 315))
	checkCase(t, one("D270 R15", "R29 D1", task(1, 0)), find(api.ClBreak, 0, 315))
	checkCase(t, one("D270 R15", "R30 D1", task(1, 0)))
	checkCase(t, one("D100 R45", "D271", task(271, 0)), find(api.ClBreak, 145, 416))
	checkCase(t, one("R600 D270 R45 D270", "R45 D60", task(60, 0)))
	checkCase(t, one("R600 D270 R45 D270", "R45 D61", task(61, 0)), find(api.ClLonger, 600, 1291))
	checkCase(t, one("A900", "R1"))
	checkCase(t, one("A900", "A1"), find(api.ClDaily, 0, 901))
	checkCase(t, one("A900 R539", "R1 A1"))
	checkCase(t, one("A900 R539", "W1", task(0, 1, 1439, 1440)), find(api.ClDaily, 0, 1440))
	checkCase(t, one("A100 R1440 A100", "R1440 A1"), find(api.ClBrief, 1540, 3081))
	checkCase(t, one("A100 R1440 A100 R1440", "A1"), find(api.ClBrief, 1540, 3081))
	checkCase(t, one("A100 R1440 A100 R1440", "R1260 A1"))
}

// TestTasks: each clause of layer 20 that Plan breaks, alone; what Past did of the tasks is what the spot tells.
func TestTasks(t *testing.T) {
	one := func(plan string) verdict.Case {
		return verdict.Case{
			Book: book.Europe(), Past: did("R600 D100 W50 R45"), Plan: sample.Did(795, plan), Tasks: []api.Task{task(10, 5, 800, 810, 900, 910)},
		}
	}
	checkCase(t, one("D10 W5"))
	checkCase(t, one("R2 D5 A2 D5 W5 R7"))
	checkCase(t, one("D11 W5"), at(api.ClDrive, 805))
	checkCase(t, one("D10 W5 R2 D1"), at(api.ClDrive, 812))
	checkCase(t, one("W1 D10 W4"), at(api.ClWork, 795), at(api.ClLeft, 809))
	checkCase(t, one("W1 D10 W5"), at(api.ClWork, 795))
	checkCase(t, one("D10 W6"), at(api.ClWork, 810))
	checkCase(t, one("D10 R5 W5"), at(api.ClOpen, 810))
	checkCase(t, one("D10 R95 W5"))
	checkCase(t, one("D10 R105 W5"), at(api.ClOpen, 910))
	checkCase(t, one("D10 W2 R1 W3"), at(api.ClServe, 807))
	checkCase(t, one("D10 W4 A9 W1"), at(api.ClServe, 809))
	checkCase(t, one("D10"), at(api.ClLeft, 804))
	checkCase(t, one("D10 W4"), at(api.ClLeft, 808))
	checkCase(t, one("R1"), at(api.ClLeft, 795))
	checkCase(t, one(""), at(api.ClLeft, 0))
	spotted := func(s api.Spot, plan string) verdict.Case {
		return with(one(plan), func(c *verdict.Case) { c.Spot = s })
	}
	checkCase(t, spotted(spot(0, 3, 0), "D7 W5"))
	checkCase(t, spotted(spot(0, 3, 0), "D8 W5"), at(api.ClDrive, 802))
	checkCase(t, spotted(spot(0, 10, 0), "R5 W5"))
	checkCase(t, spotted(spot(0, 10, 2), "W3"))
	checkCase(t, spotted(spot(0, 10, 2), "R1 W3"), at(api.ClServe, 795))
	checkCase(t, spotted(spot(0, 10, 2), ""), at(api.ClLeft, 0))
	checkCase(t, spotted(spot(1, 0, 0), "R1"))
	checkCase(t, spotted(spot(1, 0, 0), ""))
	checkCase(t, spotted(spot(1, 0, 0), "D1 W1"), at(api.ClDrive, 795), at(api.ClWork, 796))
}

// TestPastIsNotAsked: what Past drove and worked, and where it was broken off, is nothing to the tasks, whatever they are.
func TestPastIsNotAsked(t *testing.T) {
	for _, past := range []string{"R600 D100", "R600 W100", "W1 D1 W1 D1", "R600 D7 W3 R1 W2 A5 D9", "R795"} {
		l := did(past)
		end := l[len(l)-1].To
		for _, tasks := range [][]api.Task{nil, {task(10, 5, 0, 1)}, {task(0, 5, 0, 40320), task(7, 0)}} {
			c := verdict.Case{Book: book.Europe(), Past: l, Tasks: tasks, Spot: spot(len(tasks), 0, 0)}
			checkCase(t, c)
			checkCase(t, with(c, func(c *verdict.Case) { c.Plan = sample.Did(end, "R9") }))
			checkCase(t, with(c, func(c *verdict.Case) { c.Plan = sample.Did(end, "R9 D5") }), at(api.ClDrive, end+9))
			checkCase(t, with(c, func(c *verdict.Case) { c.Plan = sample.Did(end, "W5") }), at(api.ClWork, end))
		}
	}
}

// TestLoads: loads that fit the room or not, with a Plan, whose first minute is told, and without one.
func TestLoads(t *testing.T) {
	b := book.Europe()
	plans := []struct {
		c    verdict.Case
		want api.Finding
	}{
		{good(), find(api.ClLoad, 1030, 1031)},
		{verdict.Case{Book: b}, find(api.ClLoad, 0, 1)},
		{verdict.Case{Book: b, Past: did("R600 A7")}, find(api.ClLoad, 0, 1)},
		{verdict.Case{Book: b, Past: did("R40320")}, find(api.ClLoad, 0, 1)},
		{verdict.Case{Book: b, Plan: did("R600 A7")}, find(api.ClLoad, 0, 1)},
		{verdict.Case{Book: b, Past: did("R1"), Plan: sample.Did(1, "A5 R5")}, find(api.ClLoad, 1, 2)},
		{verdict.Case{Book: b, Past: did("R40319"), Plan: sample.Did(40319, "R1")}, find(api.ClLoad, 40319, 40320)},
		{verdict.Case{Book: b, Past: did("R600"), Plan: sample.Did(600, "D5"), Tasks: []api.Task{task(5, 0)}}, find(api.ClLoad, 600, 601)},
	}
	for _, l := range []struct {
		loads []int
		peak  int
	}{
		{nil, 0}, {[]int{}, 0}, {[]int{0}, 0}, {[]int{5}, 5}, {[]int{-5}, 5}, {[]int{5, -3, 2}, 7}, {[]int{-4, 6}, 10}, {[]int{6, -4}, 6}, {[]int{-1, -1, -1}, 3}, {[]int{-1000000, 1000000}, 2000000},
	} {
		for _, room := range []int{math.MinInt, math.MinInt + 1, -1000000, -1, 0, 1, l.peak - 1, l.peak, l.peak + 1, 1000000000, math.MaxInt - 1, math.MaxInt} {
			for _, p := range plans {
				c := with(p.c, func(c *verdict.Case) { c.Loads, c.Room = l.loads, room })
				if room >= l.peak {
					checkFound(t, c)
				} else {
					checkFound(t, c, p.want)
				}
			}
		}
	}
}

// TestKinds: findings of two kinds, and of all three, stand by clause, whichever minute comes first.
func TestKinds(t *testing.T) {
	one := func(past, plan string, room int, tasks ...api.Task) verdict.Case {
		l := did(past)
		return verdict.Case{Book: book.Europe(), Past: l, Plan: sample.Did(l[len(l)-1].To, plan), Tasks: tasks, Loads: []int{5}, Room: room}
	}
	// Rules and tasks: either first.
	checkCase(t, one("D1", "D270 D9", 5, task(270, 0)), find(api.ClBreak, 0, 271), at(api.ClDrive, 271))
	checkCase(t, one("D1", "W1 D270", 5, task(270, 0)), find(api.ClBreak, 0, 272), at(api.ClWork, 1))
	checkCase(t, one("D1", "D270", 5, task(269, 0)), find(api.ClBreak, 0, 271), at(api.ClDrive, 270))
	checkCase(t, one("D271", "R1", 5, task(269, 0)), find(api.ClBreak, 0, 271), at(api.ClLeft, 271))
	checkCase(t, one("A900", "R5 A1 R5", 5, task(269, 0)), find(api.ClDaily, 0, 906), at(api.ClLeft, 910))
	// Rules and loads.
	checkCase(t, one("D1", "D270", 4, task(270, 0)), find(api.ClBreak, 0, 271), at(api.ClLoad, 1))
	checkCase(t, one("D271", "R1", 4), find(api.ClBreak, 0, 271), at(api.ClLoad, 271))
	checkCase(t, one("D271 R45", "", 4), find(api.ClBreak, 0, 271), at(api.ClLoad, 0))
	// Tasks and loads.
	checkCase(t, one("D1", "D270", -1, task(7, 0), task(262, 0)), find(api.ClBreak, 0, 271), at(api.ClDrive, 270), at(api.ClLoad, 1))
	checkCase(t, one("D1", "D7", 4, task(7, 1, 0, 40320)), at(api.ClLeft, 7), at(api.ClLoad, 1))
	checkCase(t, one("D1", "", 4, task(7, 0)), at(api.ClLeft, 0), at(api.ClLoad, 0))
	checkCase(t, one("R5", "W2 R1 W1", 4, task(0, 3, 6, 7)), at(api.ClOpen, 5), at(api.ClServe, 7), at(api.ClLoad, 5))
	// All three, with several of each.
	checkCase(t, one("D200", "D71 W900 R5", 0, task(70, 1, 0, 1), task(5, 0)),
		find(api.ClBreak, 0, 271), find(api.ClDaily, 0, 901), at(api.ClDrive, 270), at(api.ClWork, 272), at(api.ClOpen, 271), at(api.ClLeft, 1175), at(api.ClLoad, 200))
}

// all is a case that breaks all sixteen clauses, and what is found of it.
func all() (verdict.Case, []api.Finding) {
	b := api.Book{
		Drive: 9, First: 1, Second: 1, Break: 1, Part: 1, Reduced: 2, Regular: 3, Short: 4, Weekly: 5, Round: 20,
		Day: 7, Longer: 8, Longers: 0, Reduces: 0, Rounds: 40, Week: 5, Fortnight: 6, Labour: 3, Length: 1000,
	}
	c := verdict.Case{Book: b, Plan: did("W4 R4 A1 R4 A1 R2 A38 D10 W3 R1"), Tasks: []api.Task{task(9, 5, 0, 1)}, Loads: []int{1}}
	return c, []api.Finding{
		find(api.ClBreak, 16, 64), find(api.ClLonger, 16, 63), find(api.ClLongers, 13, 62), find(api.ClWeek, 0, 60), find(api.ClFortnight, 0, 61),
		find(api.ClDaily, 16, 35), find(api.ClReduces, 13, 17), find(api.ClWeekly, 13, 54), find(api.ClBrief, 8, 14), find(api.ClLabour, 0, 4),
		at(api.ClDrive, 63), at(api.ClWork, 0), at(api.ClOpen, 64), at(api.ClServe, 67), at(api.ClLeft, 67), at(api.ClLoad, 0),
	}
}

// TestAll: as many clauses as there are, of a Plan; of a Past that did some of it the work is not asked, and nothing is left behind more work.
func TestAll(t *testing.T) {
	c, found := all()
	checkCase(t, c, found...)
	c.Past, c.Plan = c.Plan[:3], append(slices.Clone(c.Plan[3:]), rec(api.Work, 68, 74))
	found[11], found[14], found[15] = at(api.ClWork, 70), at(api.ClLoad, 9), api.Finding{}
	checkCase(t, c, found[:15]...)
}

// TestReport: no findings, one, several, each a line of its own.
func TestReport(t *testing.T) {
	sixteen, _ := all()
	for _, one := range []struct {
		c    verdict.Case
		want string
	}{
		{verdict.Case{Book: book.Europe()}, "clear\n"},
		{good(), "clear\n"},
		{verdict.Case{Book: book.Europe(), Past: did("D271")}, "art.7 break 0-271\n"},
		{verdict.Case{Book: book.Europe(), Loads: []int{1}}, "art.R5 load 0-1\n"},
		{verdict.Case{Book: book.Europe(), Tasks: []api.Task{task(1, 0)}}, "art.R4 left 0-1\n"},
		{verdict.Case{Book: book.Europe(), Past: did("A900"), Plan: sample.Did(900, "A1"), Room: -1}, "art.8(2) daily 0-901\nart.R5 load 900-901\n"},
		{verdict.Case{Book: book.Europe(), Plan: did("D271"), Room: -1}, "art.7 break 0-271\nart.R1 drive 0-1\nart.R5 load 0-1\n"},
		{sixteen, "art.7 break 16-64\nart.6(1) longer 16-63\nart.6(1) longers 13-62\nart.6(2) week 0-60\nart.6(3) fortnight 0-61\n" +
			"art.8(2) daily 16-35\nart.8(4) reduces 13-17\nart.8(6) weekly 13-54\nart.8(6) brief 8-14\nart.D4 labour 0-4\n" +
			"art.R1 drive 63-64\nart.R1 work 0-1\nart.R2 open 64-65\nart.R3 serve 67-68\nart.R4 left 67-68\nart.R5 load 0-1\n"},
	} {
		if got, err := verdict.Report(one.c); got != one.want || err != api.OK {
			t.Errorf("Report(%s) = %q, %d, want %q", short(one.c), got, err, one.want)
		}
		if passes := verdict.Passes(one.c); passes != (one.want == "clear\n") {
			t.Errorf("Passes(%s) = %v, and its report is %q", short(one.c), passes, one.want)
		}
	}
}
