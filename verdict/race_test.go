package verdict_test

import (
	"math"
	"reflect"
	"slices"
	"testing"

	"haulier/api"
	"haulier/book"
	"haulier/record"
	"haulier/sample"
	"haulier/verdict"
)

// few are all timelines of up to two records of one or two minutes each, from that minute on, and none.
func few(from int) [][]api.Record {
	l := [][]api.Record{nil}
	for _, first := range shorts(from) {
		l = append(l, list(first))
		for _, second := range shorts(first.To) {
			l = append(l, list(first, second))
		}
	}
	return l
}

// shorts are the records of one or two minutes from that minute on.
func shorts(from int) []api.Record {
	var l []api.Record
	for kind := range api.Kinds {
		l = append(l, rec(kind, from, from+1), rec(kind, from, from+2))
	}
	return l
}

// TestSmallWorlds: all short Pasts and Plans, such that join and others, with few tasks, at all spots, and loads that fit or don't: by a book that soon is broken.
func TestSmallWorlds(t *testing.T) {
	b := sample.Changed(func(b *api.Book) {
		*b = sample.Lowest()
		b.Drive, b.Labour, b.Round, b.Regular, b.Short, b.Weekly, b.Rounds, b.Longer, b.Length = 2, 2, 5, 2, 3, 3, 40320, 3, 4
	})
	passes, count := 0, map[int]int{}
	for _, tasks := range [][]api.Task{nil, {task(1, 0)}, {task(0, 2, 1, 2, 3, 4)}, {task(1, 1, 2, 3)}, {task(0, 0), task(1, 0), task(0, 1, 0, 40320)}} {
		for _, s := range sample.Spots(tasks) {
			for _, past := range few(0) {
				end := 0
				if len(past) > 0 {
					end = past[len(past)-1].To
				}
				for i, plan := range few(end) {
					found, _ := checkPlain(t, verdict.Case{Book: b, Past: past, Plan: plan, Tasks: tasks, Spot: s, Loads: []int{1}, Room: min(i%3, 1)})
					for _, f := range found {
						count[f.Clause]++
					}
					if len(found) == 0 {
						passes++
					}
				}
			}
		}
	}
	for _, c := range []int{0, 1, 3, 4, 5, 6, 9, 10, 11, 12, 13, 14, 15} {
		if count[c] < 100 || passes < 100 {
			t.Errorf("the test itself: clause %d is found %d times, and %d cases pass", c, count[c], passes)
		}
	}
}

// TestSmallJoins: short Pasts and Plans, that begin, and join, anywhere.
func TestSmallJoins(t *testing.T) {
	count := map[api.Errno]int{}
	for pastFrom := range 3 {
		for planFrom := range 6 {
			for _, past := range few(pastFrom) {
				for _, plan := range few(planFrom)[:20] {
					_, err := checkPlain(t, verdict.Case{Book: sample.Tiny(), Past: past, Plan: plan})
					count[err]++
				}
			}
		}
	}
	for _, err := range []api.Errno{api.OK, api.ErrGap, api.ErrOverlap} {
		if count[err] < 1000 {
			t.Errorf("the test itself: %d is told but %d times", err, count[err])
		}
	}
}

// anyCase is a case, as draws below n tell: books of all kinds, Pasts that break something or not, Plans that follow the tasks or not, loads about as great as the room.
func anyCase(draw func(n int) int) verdict.Case {
	books := [][]api.Book{sample.May(), {sample.Tiny(), sample.Tiny()}, {sample.Roomy(func(*api.Book) {})}, {book.Europe()}}[draw(4)]
	b := books[draw(len(books))]
	c := verdict.Case{Book: b, Past: anyPast(draw, b)}
	end := 0
	if len(c.Past) > 0 {
		end = c.Past[len(c.Past)-1].To
	}
	long := []int{2, 5, 20, 60}[draw(4)]
	c.Tasks = sample.AnyTasks(draw, draw(6), long)
	for i := range c.Tasks {
		// Many a service may begin late, and late in all.
		if n := len(c.Tasks[i].Open); n > 0 && draw(2) == 0 {
			c.Tasks[i].Open = sample.Spans(0, 40320)
		} else if n > 0 {
			c.Tasks[i].Open[n-1].To = 40320
		}
	}
	c.Spot = sample.AnySpot(draw, c.Tasks)
	if draw(2) == 0 {
		c.Plan = sample.Following(draw, c.Tasks, c.Spot, end)
	} else {
		c.Plan = sample.AnyTrail(draw, c.Tasks, c.Spot, end, draw(8), long)
	}
	for range draw(4) {
		c.Loads = append(c.Loads, draw(9)-4)
	}
	c.Room = 2 + draw(5)
	return c
}

// anyPast is a timeline from 0 on, mostly one up to a minute ahead of what breaks the book.
func anyPast(draw func(n int) int, b api.Book) []api.Record {
	l := sample.AnyTimeline(draw, b, min(12000, draw(3)*(b.Reduced/2+draw(2000))))
	if draw(4) == 0 {
		return l
	}
	found, _ := verdict.Audit(verdict.Case{Book: b, Past: l})
	for _, f := range found {
		l, _ = record.Cut(l, sample.Span(-1, f.To-1))
	}
	return l
}

// TestMany: of many cases what is told is what layers 16, 20 and 21 find, each alone; and they pass just if each of these accepts its part.
func TestMany(t *testing.T) {
	draw := chance(22).Intn
	count, passes, kinds := map[int]int{}, 0, map[int]int{}
	for range 12000 {
		c := anyCase(draw)
		found, err := checkPlain(t, c)
		if err == api.OK && len(found) == 0 {
			passes++
		}
		kind := 0
		for _, f := range found {
			count[f.Clause]++
			switch {
			case f.Clause < api.ClDrive:
				kind |= 1
			case f.Clause < api.ClLoad:
				kind |= 2
			default:
				kind |= 4
			}
		}
		kinds[kind]++
	}
	for c := range api.Clauses {
		if count[c] < 50 {
			t.Errorf("the test itself: clause %d is found but %d times", c, count[c])
		}
	}
	for kind := range 8 {
		if kinds[kind] < 100 {
			t.Errorf("the test itself: of 8 sets of kinds of clauses %d is found but %d times", kind, kinds[kind])
		}
	}
	if passes < 500 {
		t.Errorf("the test itself: but %d cases pass", passes)
	}
}

// numbers are the places of all numbers of a case.
func numbers(c *verdict.Case) []*int {
	l := append(sample.BookNumbers(&c.Book), &c.Spot.Task, &c.Spot.Driven, &c.Spot.Served, &c.Room)
	for _, records := range [][]api.Record{c.Past, c.Plan} {
		for i := range records {
			l = append(l, &records[i].Kind, &records[i].From, &records[i].To)
		}
	}
	for i := range c.Tasks {
		l = append(l, &c.Tasks[i].Drive, &c.Tasks[i].Serve)
		for j := range c.Tasks[i].Open {
			l = append(l, &c.Tasks[i].Open[j].From, &c.Tasks[i].Open[j].To)
		}
	}
	for i := range c.Loads {
		l = append(l, &c.Loads[i])
	}
	return l
}

// TestNumbers: numbers at the edges, and at both ends of 64 bits, in place of each number of a case, and of each two.
func TestNumbers(t *testing.T) {
	edges := append(sample.Minutes(), 1440, 10080, 10081, 1000000, 1000001, -1000000, -1000001)
	first := good()
	for i := range numbers(&first) {
		for _, n := range edges {
			c := good()
			*numbers(&c)[i] = n
			checkPlain(t, c)
		}
	}
	draw := chance(2200).Intn
	for range 30000 {
		c := good()
		for range 1 + draw(3) {
			l := numbers(&c)
			*l[draw(len(l))] = edges[draw(len(edges))]
		}
		checkPlain(t, c)
	}
	// All numbers at one end.
	for _, n := range []int{math.MinInt, math.MaxInt, -1, 0} {
		c := good()
		for _, one := range numbers(&c) {
			*one = n
		}
		checkErr(t, c, api.ErrBook)
		c.Book = book.Europe()
		checkPlain(t, c)
	}
}

// TestGreat: as many records, tasks, windows and loads as there may be.
func TestGreat(t *testing.T) {
	tasks := slices.Repeat([]api.Task{{Drive: 10, Serve: 10, Open: append(sample.Apart(7), sample.Span(30, 40320))}}, 2001)
	b := sample.Roomy(func(b *api.Book) { b.Break, b.First, b.Second, b.Part, b.Reduced = 1, 1, 1, 1, 1 })
	c := verdict.Case{Book: b, Tasks: tasks, Loads: slices.Repeat([]int{-1000000}, 2000), Room: 2000000000}
	for m := range 40320 {
		kind := api.Drive
		if m/10%2 == 0 {
			kind = api.Work
		}
		c.Plan = append(c.Plan, rec(kind, m, m+1))
	}
	c.Past, c.Plan = c.Plan[:30], c.Plan[30:40050]
	checkFound(t, c)
	c.Room--
	checkFound(t, c, at(api.ClLoad, 30))
	c.Plan = c.Plan[:len(c.Plan)-1]
	checkFound(t, c, at(api.ClLeft, 40048), at(api.ClLoad, 30))
}

// argumentCases are cases of all sorts, such as may be and others.
func argumentCases() []verdict.Case {
	sixteen, _ := all()
	l := []verdict.Case{{}, {Book: book.Europe()}, good(), sixteen}
	for _, some := range faults() {
		for _, f := range some[1:] {
			for _, make := range []func() verdict.Case{good, func() verdict.Case { return with(good(), func(c *verdict.Case) { c.Room = 0 }) }} {
				c := make()
				f.spoil(&c)
				l = append(l, c)
			}
		}
	}
	return l
}

// callAll is all that is told of the case.
func callAll(c verdict.Case) []any {
	found, err := verdict.Audit(c)
	report, reportErr := verdict.Report(c)
	return []any{slices.Clone(found), err, verdict.Passes(c), report, reportErr}
}

// checkReadsOnly: of the case this is told, and what reads so ahead of it reads so behind it.
func checkReadsOnly(t *testing.T, c verdict.Case, want []any, parts ...any) {
	t.Helper()
	before := make([]any, len(parts))
	for i, part := range parts {
		before[i] = deep(part)
	}
	if got := callAll(c); !reflect.DeepEqual(got, want) {
		t.Errorf("of %s all that is told is %v, want %v", short(c), got, want)
	}
	if !reflect.DeepEqual(parts, before) {
		t.Errorf("behind the calls of %s what was handed in does not read as before", short(c))
	}
}

// deep is the same list in other memory.
func deep(part any) any {
	switch l := part.(type) {
	case []api.Record:
		return slices.Clone(l)
	case []api.Span:
		return slices.Clone(l)
	case []int:
		return slices.Clone(l)
	case []api.Task:
		same := slices.Clone(l)
		for i := range same {
			same[i].Open = slices.Clone(same[i].Open)
		}
		return same
	}
	panic("the test itself: no such list")
}

// TestArguments: what is handed in reads as before, and what lies beside it in memory is neither read nor written, whatever it is.
func TestArguments(t *testing.T) {
	for _, c := range argumentCases() {
		want := callAll(c)
		for _, beside := range []api.Record{rec(9, -9, -9), rec(3, 0, 40320), rec(0, 1030, 1031)} {
			past := slices.Concat(list(beside), c.Past, list(beside, beside, beside, beside, beside, beside, beside, beside))
			plan := slices.Concat(list(beside), c.Plan, list(beside, beside))
			tasks, windows := sample.AmidTasks(c.Tasks)
			loads := slices.Concat([]int{math.MaxInt, 7}, c.Loads, []int{9, math.MinInt})
			mine := c
			mine.Past, mine.Plan = past[1:1+len(c.Past)], plan[1:1+len(c.Plan)]
			mine.Tasks, mine.Loads = tasks[2:2+len(c.Tasks)], loads[2:2+len(c.Loads)]
			checkReadsOnly(t, mine, want, past, plan, tasks, windows, loads)
		}
	}
}

// TestOneMemory: Past and Plan as pieces of one list: with Plan in the room behind Past, ahead of it, or with other records between.
func TestOneMemory(t *testing.T) {
	for _, c := range argumentCases() {
		want, between := callAll(c), list(rec(9, -9, -9), rec(2, 5, 7))
		mine := c
		memory := slices.Concat(c.Past, c.Plan, between)
		mine.Past, mine.Plan = memory[:len(c.Past)], memory[len(c.Past):len(c.Past)+len(c.Plan)]
		checkReadsOnly(t, mine, want, memory)
		memory = slices.Concat(c.Past, between, c.Plan)
		mine.Past, mine.Plan = memory[:len(c.Past)], memory[len(c.Past)+2:]
		checkReadsOnly(t, mine, want, memory)
		memory = slices.Concat(c.Plan, c.Past, between)
		mine.Past, mine.Plan = memory[len(c.Plan):len(c.Plan)+len(c.Past)], memory[:len(c.Plan)]
		checkReadsOnly(t, mine, want, memory)
	}
	// The same list as Past and as Plan.
	l := append(did("R5 D5 A5"), rec(9, -9, -9))[:3]
	checkErr(t, verdict.Case{Book: book.Europe(), Past: l, Plan: l}, api.ErrOverlap)
}

// TestAnswersAreNewMemory: who writes to an answer, also behind its length, changes no other one.
func TestAnswersAreNewMemory(t *testing.T) {
	c, want := all()
	for range 2 {
		found, err := verdict.Audit(c)
		if !slices.Equal(found, want) || err != api.OK {
			t.Fatalf("Audit = %v, %d, want %v", found, err, want)
		}
		found = found[:cap(found)]
		for i := range found {
			found[i] = find(-9, -9, -9)
		}
		if same, _ := all(); !reflect.DeepEqual(c, same) {
			t.Error("what was written to an answer is seen in what was handed in")
		}
	}
}

// TestNothingIsKept: what was told before is nothing to what is told of the same memory with other things in it.
func TestNothingIsKept(t *testing.T) {
	c := good()
	checkFound(t, c)
	c.Plan[0].Kind = api.Work
	checkFound(t, c, at(api.ClDrive, 1230), at(api.ClWork, 1030), at(api.ClOpen, 1250), at(api.ClServe, 1260), at(api.ClLeft, 1339))
	c = good()
	c.Loads[0] = 6
	checkFound(t, c, at(api.ClLoad, 1030))
	c.Tasks[0].Drive = -1
	checkErr(t, c, api.ErrRange)
	c.Tasks[0].Drive, c.Loads[0] = 270, 5
	checkFound(t, c)
	c.Past[0].Kind = api.Avail
	checkFound(t, c, find(api.ClDaily, 0, 931))
}
