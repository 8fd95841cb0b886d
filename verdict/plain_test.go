package verdict_test

import (
	"fmt"
	"math/rand"
	"slices"
	"strings"
	"testing"

	"haulier/api"
	"haulier/book"
	"haulier/duty"
	"haulier/errand"
	"haulier/load"
	"haulier/record"
	"haulier/sample"
	"haulier/trail"
	"haulier/verdict"
)

// What stands here asks layers 16, 20 and 21, each alone, so that the tests lean on nothing that they test.

// What is said often here, in short.
var (
	rec  = sample.Rec
	list = sample.List
	task = sample.Task
	spot = sample.Spot
)

func find(c, from, to int) api.Finding { return api.Finding{Clause: c, From: from, To: to} }

// at is a clause that the minute breaks, alone.
func at(c, m int) api.Finding { return find(c, m, m+1) }

// did is the timeline from 0 on that is written so: "D270 R45".
func did(text string) []api.Record { return sample.Did(0, text) }

// times is a text of records, so many times, one behind the other.
func times(n int, text string) string { return strings.Repeat(text+" ", n) }

// chance draws the same numbers each time.
func chance(seed int64) *rand.Rand { return rand.New(rand.NewSource(seed)) }

// with is the case, changed.
func with(c verdict.Case, change func(c *verdict.Case)) verdict.Case {
	change(&c)
	return c
}

// good is a case that breaks nothing, and in which there is some of all: a task that is done, one that is half driven, and two more.
func good() verdict.Case {
	return verdict.Case{
		Book:  book.Europe(),
		Past:  did("R600 W15 D200 R15 D70 R30 D100"),
		Plan:  sample.Did(1030, "D40 W20 R100 D60 W10 D30 R50"),
		Tasks: []api.Task{task(270, 0), task(140, 20, 900, 960, 1070, 1071), task(60, 10, 1250, 1251), task(30, 0)},
		Spot:  spot(1, 100, 0),
		Loads: []int{5, -3, 2},
		Room:  7,
	}
}

// short is the case as a failure tells it.
func short(c verdict.Case) string {
	c.Past, c.Plan, c.Tasks, c.Loads = sample.Short(c.Past), sample.Short(c.Plan), sample.Short(c.Tasks), sample.Short(c.Loads)
	return fmt.Sprintf("%+v", c)
}

// whole is the records of Past, and behind them those of Plan.
func whole(c verdict.Case) []api.Record {
	var l []api.Record
	for _, records := range [][]api.Record{c.Past, c.Plan} {
		for _, r := range records {
			l = append(l, r)
		}
	}
	return l
}

// plainErr is what is wrong with the case, in the promise's order.
func plainErr(c verdict.Case) api.Errno {
	tasks := errand.Check(c.Tasks)
	_, records := record.Check(whole(c))
	_, loads := load.Peak(c.Loads)
	switch {
	case book.Check(c.Book) != api.OK:
		return api.ErrBook
	case tasks != api.OK:
		return tasks
	case !errand.Right(c.Tasks, c.Spot):
		return api.ErrArg
	case records != api.OK:
		return records
	case len(whole(c)) > 0 && whole(c)[0].From != 0:
		return api.ErrGap
	}
	return loads
}

// plainFound is what layers 16, 20 and 21 find, each asked alone; the clauses of each are above those of the one ahead.
func plainFound(t *testing.T, c verdict.Case) []api.Finding {
	t.Helper()
	rules, err := duty.Audit(c.Book, whole(c))
	if err != api.OK {
		t.Errorf("the test itself: layer 16 tells %d of %s", err, short(c))
	}
	_, tasks, err := trail.Audit(c.Tasks, c.Spot, c.Plan)
	if err != api.OK {
		t.Errorf("the test itself: layer 20 tells %d of %s", err, short(c))
	}
	found := slices.Concat(rules, tasks)
	if load.Fits(c.Room, c.Loads) {
		return found
	}
	for _, r := range c.Plan {
		return append(found, at(15, r.From))
	}
	return append(found, find(15, 0, 1))
}

// titles are the clauses' articles and names, as chapter 15 has them.
func titles() []string {
	return []string{
		"art.7 break", "art.6(1) longer", "art.6(1) longers", "art.6(2) week", "art.6(3) fortnight", "art.8(2) daily", "art.8(4) reduces", "art.8(6) weekly",
		"art.8(6) brief", "art.D4 labour", "art.R1 drive", "art.R1 work", "art.R2 open", "art.R3 serve", "art.R4 left", "art.R5 load",
	}
}

// text is the findings as text.
func text(l []api.Finding) string {
	if len(l) == 0 {
		return "clear\x0a"
	}
	all := ""
	for _, f := range l {
		all += fmt.Sprintf("%s %d-%d\x0a", titles()[f.Clause], f.From, f.To)
	}
	return all
}

// checkTold: this is told of the case, and P22.3 holds.
func checkTold(t *testing.T, c verdict.Case, want []api.Finding) {
	t.Helper()
	if found, err := verdict.Audit(c); !slices.Equal(found, want) || err != api.OK {
		t.Errorf("Audit(%s) = %v, %d, want %v", short(c), found, err, want)
	}
	if passes := verdict.Passes(c); passes != (len(want) == 0) {
		t.Errorf("Passes(%s) = %v, and to be found is %v", short(c), passes, want)
	}
	if got, err := verdict.Report(c); got != text(want) || err != api.OK {
		t.Errorf("Report(%s) = %q, %d, want %q", short(c), got, err, text(want))
	}
	checkParts(t, c)
}

// checkParts: P22.3: the case passes just if layer 16 accepts the whole, layer 20's Follows holds of Plan, and the loads fit.
func checkParts(t *testing.T, c verdict.Case) {
	t.Helper()
	accepts, follows, fits := duty.Accepts(c.Book, whole(c)), trail.Follows(c.Tasks, c.Spot, c.Plan), load.Fits(c.Room, c.Loads)
	if passes := verdict.Passes(c); passes != (accepts && follows && fits) {
		t.Errorf("Passes(%s) = %v, and the whole is accepted: %v, the plan follows the tasks: %v, the loads fit: %v", short(c), passes, accepts, follows, fits)
	}
}

// checkFound: this is told of the case; and so say layers 16, 20 and 21, each alone.
func checkFound(t *testing.T, c verdict.Case, want ...api.Finding) {
	t.Helper()
	if err := plainErr(c); err != api.OK {
		t.Errorf("the test itself: %s has the error %d", short(c), err)
		return
	}
	if found := plainFound(t, c); !slices.Equal(found, want) {
		t.Errorf("the test itself: of %s is found %v, not %v", short(c), found, want)
	}
	checkTold(t, c, want)
}

// checkCase: this is told of the case, as of the same minutes in other records.
func checkCase(t *testing.T, c verdict.Case, want ...api.Finding) {
	t.Helper()
	checkFound(t, c, want...)
	pasts, plans := sample.Alike(c.Past), sample.Alike(c.Plan)
	for i := range pasts {
		c.Past, c.Plan = pasts[i], plans[len(plans)-1-i]
		checkTold(t, c, want)
	}
}

// checkErr: that error is told of the case, and nothing else.
func checkErr(t *testing.T, c verdict.Case, want api.Errno) {
	t.Helper()
	if err := plainErr(c); err != want {
		t.Errorf("the test itself: %s has the error %d, not %d", short(c), err, want)
	}
	if found, err := verdict.Audit(c); len(found) != 0 || err != want {
		t.Errorf("Audit(%s) = %v, %d, want %d alone", short(c), found, err, want)
	}
	if verdict.Passes(c) {
		t.Errorf("%s passes, where the error is %d", short(c), want)
	}
	if got, err := verdict.Report(c); got != "" || err != want {
		t.Errorf("Report(%s) = %q, %d, want %d alone", short(c), got, err, want)
	}
	checkParts(t, c)
}

// checkPlain: what is told of the case is what is wrong with it, or what layers 16, 20 and 21 find.
func checkPlain(t *testing.T, c verdict.Case) ([]api.Finding, api.Errno) {
	t.Helper()
	if err := plainErr(c); err != api.OK {
		checkErr(t, c, err)
		return nil, err
	}
	found := plainFound(t, c)
	checkTold(t, c, found)
	return found, api.OK
}

// tasksOf are tasks that the records follow: each drive, and each spell of work, that stands alone.
func tasksOf(l []api.Record) []api.Task {
	var tasks []api.Task
	for _, r := range sample.Alike(l)[0] {
		long, most := r.To-r.From, map[int]int{api.Drive: api.MaxTravel, api.Work: api.MaxServe}[r.Kind]
		for most > 0 && long > 0 {
			n := min(long, most)
			if r.Kind == api.Drive {
				tasks = append(tasks, task(n, 0))
			} else {
				tasks = append(tasks, task(0, n, 0, api.MaxTime))
			}
			long -= n
		}
	}
	return tasks
}

// cut is the timeline as Past, up to that minute, and Plan, with tasks for what is planned.
func cut(t *testing.T, b api.Book, l []api.Record, m int) verdict.Case {
	t.Helper()
	past, err := record.Cut(l, sample.Span(-1, max(m, 0)))
	if err != api.OK {
		t.Errorf("the test itself: %v can't be cut at %d: %d", sample.Short(l), m, err)
	}
	plan, err := record.Cut(l, sample.Span(m, api.MaxTime+1))
	if err != api.OK {
		t.Errorf("the test itself: %v can't be cut at %d: %d", sample.Short(l), m, err)
	}
	return verdict.Case{Book: b, Past: past, Plan: plan, Tasks: tasksOf(plan)}
}
