package clause_test

import (
	"fmt"
	"math"
	"math/big"
	"regexp"
	"slices"
	"strconv"
	"strings"
	"testing"
	"unsafe"

	"haulier/api"
	"haulier/clause"
	"haulier/sample"
)

// titles: the clauses as the document tells them, in the order of api's numbers.
var titles = []struct {
	clause        int
	name, article string
}{
	{api.ClBreak, "break", "7"},
	{api.ClLonger, "longer", "6(1)"},
	{api.ClLongers, "longers", "6(1)"},
	{api.ClWeek, "week", "6(2)"},
	{api.ClFortnight, "fortnight", "6(3)"},
	{api.ClDaily, "daily", "8(2)"},
	{api.ClReduces, "reduces", "8(4)"},
	{api.ClWeekly, "weekly", "8(6)"},
	{api.ClBrief, "brief", "8(6)"},
	{api.ClLabour, "labour", "D4"},
	{api.ClDrive, "drive", "R1"},
	{api.ClWork, "work", "R1"},
	{api.ClOpen, "open", "R2"},
	{api.ClServe, "serve", "R3"},
	{api.ClLeft, "left", "R4"},
	{api.ClLoad, "load", "R5"},
}

// noClauses: numbers that are no clause's, some of which are one in their lowest bits.
func noClauses() []int {
	return []int{-1, -2, -15, -16, -17, 16, 17, 18, 31, 32, 63, 64, 65, 128, 255, 256, 257, 65536, 65537, 1 << 31, 1<<31 + 1, 1 << 32, 1<<32 + 5, 1 << 62, math.MinInt, math.MinInt + 1, math.MinInt + 15, math.MaxInt - 15, math.MaxInt - 1, math.MaxInt}
}

func find(c, from, to int) api.Finding { return api.Finding{Clause: c, From: from, To: to} }

// head: a text as a failure tells it.
func head(s string) string { return s[:min(len(s), 60)] }

// TestTitles: the article and the name of each of the sixteen clauses.
func TestTitles(t *testing.T) {
	if len(titles) != 16 || api.Clauses != 16 {
		t.Fatalf("the test itself: %d clauses of %d", len(titles), api.Clauses)
	}
	for c, want := range titles {
		if c != want.clause {
			t.Errorf("the test itself: the clause %d stands at %d", want.clause, c)
		}
		if got, err := clause.Article(c); got != want.article || err != api.OK {
			t.Errorf("Article(%d) = %q, %d, want %q", c, got, err, want.article)
		}
		if got, err := clause.Name(c); got != want.name || err != api.OK {
			t.Errorf("Name(%d) = %q, %d, want %q", c, got, err, want.name)
		}
	}
}

// TestTitlesErrors: of what is no clause there is neither, and nothing beside the error.
func TestTitlesErrors(t *testing.T) {
	for _, c := range noClauses() {
		if got, err := clause.Article(c); got != "" || err != api.ErrNone {
			t.Errorf("Article(%d) = %q, %d, want ErrNone", c, got, err)
		}
		if got, err := clause.Name(c); got != "" || err != api.ErrNone {
			t.Errorf("Name(%d) = %q, %d, want ErrNone", c, got, err)
		}
	}
}

// plainFind: the clause of the name, by a table the other way round.
func plainFind(name string) (int, api.Errno) {
	names := map[string]int{}
	for c, title := range titles {
		names[title.name] = c
	}
	if c, ok := names[name]; ok {
		return c, api.OK
	}
	return 0, api.ErrNone
}

func checkFind(t *testing.T, name string) {
	t.Helper()
	want, wantErr := plainFind(name)
	if got, err := clause.Find(name); got != want || err != wantErr {
		t.Errorf("Find(%q: %d bytes) = %d, %d, want %d, %d", head(name), len(name), got, err, want, wantErr)
	}
}

// TestFind: each clause by its name.
func TestFind(t *testing.T) {
	for c, title := range titles {
		if got, err := clause.Find(title.name); got != c || err != api.OK {
			t.Errorf("Find(%q) = %d, %d, want %d", title.name, got, err, c)
		}
	}
}

// TestFindNone: texts that are no clause's name.
func TestFindNone(t *testing.T) {
	none := []string{
		"", " ", "  ", "\n", "\x00", "\xff", "0", "7", "16", "art.", "art.7", "art.7 break", "break 0-271", "art.7 break 0-271",
		"longerS", "longerss", "long", "longe", "dail", "weeks", "week ly", "forthnight", "labor", "rest", "avail", "breaks", "serv", "lef", "loads", "loaded", "opens",
		"breaklonger", "break longer", "break\x00", "\x00break", "break\n", "\tbreak", "br eak", "breakbreak", "weekweekly", "ｂreak", "breаk",
	}
	for _, title := range titles {
		name := title.name
		none = append(none, title.article, "art."+title.article, "("+name+")", strings.ToUpper(name), strings.ToUpper(name[:1])+name[1:], name[:len(name)-1]+strings.ToUpper(name[len(name)-1:]))
		none = append(none, " "+name, name+" ", " "+name+" ", name+"x", "x"+name, name+"\n", name+"\x00", name+name, name[1:], name[:1], strings.Repeat(name, 20000), name+strings.Repeat(" ", 100000))
	}
	none = append(none, strings.Repeat("x", 1<<20), strings.Repeat(" ", 1<<20))
	for _, name := range none {
		if got, err := clause.Find(name); got != 0 || err != api.ErrNone {
			t.Errorf("Find(%q: %d bytes) = %d, %d, want ErrNone", head(name), len(name), got, err)
		}
	}
}

// TestFindEach: each name with each of the 256 bytes in place of each of its own, and between any two; each part of it.
func TestFindEach(t *testing.T) {
	for _, title := range titles {
		name := title.name
		for at := range len(name) + 1 {
			for i := range 256 {
				c := string([]byte{byte(i)})
				checkFind(t, name[:at]+c+name[at:])
				if at < len(name) {
					checkFind(t, name[:at]+c+name[at+1:])
				}
			}
			for from := range at + 1 {
				checkFind(t, name[from:at])
			}
		}
	}
}

// sets: sets with none, one, several and all clauses, with bits from the seventeenth on, and below 0.
func sets() []int {
	l := []int{0, 1, 1 << 15, 1<<15 + 1, 0x5555, 0xaaaa, 0x1234, 0xfffe, 0x7fff, 0xffff, 0x10000, 0x10001, 0x1ffff, 0x18000, 1 << 31, 1 << 32, 1<<32 + 5, 1 << 48, 1<<62 + 0x8001, math.MaxInt - 0xffff, math.MaxInt - 1, math.MaxInt}
	for _, set := range slices.Clone(l) {
		l = append(l, -set, ^set, set|math.MinInt)
	}
	for c := range 63 {
		l = append(l, 1<<c, -1<<c, 1<<c-1, 1<<c+1)
	}
	return l
}

// plainSet: the clauses of the set, by its lowest sixteen binary digits.
func plainSet(set int) []int {
	digits := strconv.FormatUint(uint64(set)%65536, 2)
	var l []int
	for i := range len(digits) {
		if digits[len(digits)-1-i] == '1' {
			l = append(l, i)
		}
	}
	return l
}

func checkSet(t *testing.T, set int) {
	t.Helper()
	want := plainSet(set)
	if got := clause.All(set); !slices.Equal(got, want) {
		t.Errorf("All(%d) = %v, want %v", set, got, want)
	}
	for c := range 16 {
		if got := clause.In(set, c); got != slices.Contains(want, c) {
			t.Errorf("In(%d, %d) = %v", set, c, got)
		}
	}
}

// TestSets: sets by literal numbers.
func TestSets(t *testing.T) {
	all := []int{0, 1, 2, 3, 4, 5, 6, 7, 8, 9, 10, 11, 12, 13, 14, 15}
	for _, c := range []struct {
		set  int
		want []int
	}{
		{0, nil},
		{1, []int{api.ClBreak}},
		{2, []int{api.ClLonger}},
		{3, []int{api.ClBreak, api.ClLonger}},
		{32 + 512, []int{api.ClDaily, api.ClLabour}},
		{32768, []int{api.ClLoad}},
		{32768 + 1, []int{api.ClBreak, api.ClLoad}},
		{65535, all},
		{65535 - 128, []int{0, 1, 2, 3, 4, 5, 6, 8, 9, 10, 11, 12, 13, 14, 15}},
		// Bits from the seventeenth on.
		{65536, nil},
		{65536 + 4, []int{2}},
		{131071, all},
		{1 << 32, nil},
		{1<<62 + 32768, []int{15}},
		{math.MaxInt, all},
		{math.MaxInt - 65535, nil},
		// Below 0.
		{-1, all},
		{-2, all[1:]},
		{-32768, []int{15}},
		{-65535, []int{0}},
		{-65536, nil},
		{-65537, all},
		{math.MinInt, nil},
		{math.MinInt + 3, []int{0, 1}},
	} {
		if got := clause.All(c.set); !slices.Equal(got, c.want) {
			t.Errorf("All(%d) = %v, want %v", c.set, got, c.want)
		}
		for _, one := range all {
			if got, want := clause.In(c.set, one), slices.Contains(c.want, one); got != want {
				t.Errorf("In(%d, %d) = %v, want %v", c.set, one, got, want)
			}
		}
	}
}

// TestSetsEach: each set there is, alone, and with other bits and below 0; and those at the edges.
func TestSetsEach(t *testing.T) {
	for set := range 65536 {
		checkSet(t, set)
		checkSet(t, set-65536)
		checkSet(t, set|1<<40)
		checkSet(t, set|math.MinInt)
	}
	for _, set := range sets() {
		checkSet(t, set)
	}
}

// TestInNone: what is no clause is in no set.
func TestInNone(t *testing.T) {
	for _, set := range sets() {
		for _, c := range noClauses() {
			if clause.In(set, c) {
				t.Errorf("In(%d, %d) = true", set, c)
			}
		}
	}
}

func checkSort(t *testing.T, l, want []api.Finding) {
	t.Helper()
	if got := clause.Sort(l...); !slices.Equal(got, want) {
		t.Errorf("Sort(%v: %d findings) = %v (%d), want %v (%d)", sample.Short(l), len(l), sample.Short(got), len(got), sample.Short(want), len(want))
	}
}

// TestSort: no findings, one, several; the same ones several times; such as differ in one field alone.
func TestSort(t *testing.T) {
	a, b, c, d := find(0, 0, 271), find(1, 0, 5), find(1, 2, 3), find(1, 2, 4)
	for _, one := range []struct{ l, want []api.Finding }{
		{nil, nil},
		{[]api.Finding{}, nil},
		{[]api.Finding{a}, []api.Finding{a}},
		{[]api.Finding{{}}, []api.Finding{{}}},
		// Sorted, the other way round, and neither.
		{[]api.Finding{a, b, c, d}, []api.Finding{a, b, c, d}},
		{[]api.Finding{d, c, b, a}, []api.Finding{a, b, c, d}},
		{[]api.Finding{c, a, d, b}, []api.Finding{a, b, c, d}},
		// The same one several times, side by side and apart.
		{[]api.Finding{a, a}, []api.Finding{a}},
		{[]api.Finding{a, a, a, a, a}, []api.Finding{a}},
		{[]api.Finding{{}, {}, {}}, []api.Finding{{}}},
		{[]api.Finding{a, b, a}, []api.Finding{a, b}},
		{[]api.Finding{d, a, d, a, c, d, d, a}, []api.Finding{a, c, d}},
		// In Clause alone, in From alone, in To alone.
		{[]api.Finding{find(9, 5, 6), find(10, 5, 6), find(2, 5, 6)}, []api.Finding{find(2, 5, 6), find(9, 5, 6), find(10, 5, 6)}},
		{[]api.Finding{find(9, 10, 20), find(9, 9, 20), find(9, 1, 20)}, []api.Finding{find(9, 1, 20), find(9, 9, 20), find(9, 10, 20)}},
		{[]api.Finding{find(9, 5, 100), find(9, 5, 99), find(9, 5, 6)}, []api.Finding{find(9, 5, 6), find(9, 5, 99), find(9, 5, 100)}},
		// The clause comes ahead of the minutes, From ahead of To.
		{[]api.Finding{find(1, 0, 1), find(0, 9, 10)}, []api.Finding{find(0, 9, 10), find(1, 0, 1)}},
		{[]api.Finding{find(1, 2, 3), find(1, 1, 9)}, []api.Finding{find(1, 1, 9), find(1, 2, 3)}},
		// What may not be is sorted as it is.
		{[]api.Finding{find(16, 0, 1), find(0, 9, 3), find(-1, 7, 7), find(0, -5, 3)}, []api.Finding{find(-1, 7, 7), find(0, -5, 3), find(0, 9, 3), find(16, 0, 1)}},
		{
			[]api.Finding{find(math.MaxInt, 0, 0), find(math.MinInt, 0, 0), find(0, math.MaxInt, math.MinInt), find(0, math.MinInt, math.MaxInt), find(0, math.MinInt, math.MinInt)},
			[]api.Finding{find(math.MinInt, 0, 0), find(0, math.MinInt, math.MinInt), find(0, math.MinInt, math.MaxInt), find(0, math.MaxInt, math.MinInt), find(math.MaxInt, 0, 0)},
		},
	} {
		checkSort(t, one.l, one.want)
	}
}

// grid: all findings of these numbers, in order, if these rise.
func grid(numbers []int) []api.Finding {
	var l []api.Finding
	for _, c := range numbers {
		for _, from := range numbers {
			for _, to := range numbers {
				l = append(l, find(c, from, to))
			}
		}
	}
	return l
}

// plainSort: of all findings that there might be, in order, those that are in the list.
func plainSort(possible, l []api.Finding) []api.Finding {
	var sorted []api.Finding
	for _, f := range possible {
		if slices.Contains(l, f) {
			sorted = append(sorted, f)
		}
	}
	return sorted
}

// TestSortEach: all lists of up to four small findings.
func TestSortEach(t *testing.T) {
	possible := grid([]int{0, 1})
	lists := [][]api.Finding{nil}
	for range 4 {
		var longer [][]api.Finding
		for _, l := range lists {
			for _, f := range possible {
				longer = append(longer, append(slices.Clone(l), f))
			}
		}
		for _, l := range longer {
			checkSort(t, l, plainSort(possible, l))
		}
		lists = longer
	}
}

// TestSortPairs: each two findings of numbers at the edges, both ways round.
func TestSortPairs(t *testing.T) {
	possible := grid([]int{math.MinInt, -1, 0, 15, 16, 40320, math.MaxInt})
	for i, a := range possible {
		for _, b := range possible[i+1:] {
			checkSort(t, []api.Finding{a, b}, []api.Finding{a, b})
			checkSort(t, []api.Finding{b, a}, []api.Finding{a, b})
			checkSort(t, []api.Finding{b, a, b}, []api.Finding{a, b})
		}
		checkSort(t, []api.Finding{a, a}, []api.Finding{a})
	}
}

// TestSortMany: many findings, in orders of several kinds, each once and several times.
func TestSortMany(t *testing.T) {
	want := grid([]int{math.MinInt, math.MinInt + 1, -40320, -2, -1, 0, 1, 2, 3, 9, 10, 14, 15, 16, 100, 270, 271, 40319, 40320, 40321, 1 << 32, math.MaxInt - 1, math.MaxInt})
	n := len(want)
	turned := slices.Clone(want)
	slices.Reverse(turned)
	checkSort(t, want, want)
	checkSort(t, turned, want)
	checkSort(t, slices.Concat(turned, want, turned), want)
	checkSort(t, slices.Repeat([]api.Finding{want[n/2]}, 100000), want[n/2:n/2+1])
	// Numbers that have no factor in common with n go through all of it.
	for _, step := range []int{2, 5, 1009, 6007} {
		var mixed []api.Finding
		for i := range n {
			mixed = append(mixed, want[i*step%n])
		}
		checkSort(t, mixed, want)
		checkSort(t, append(mixed, mixed[:n/2]...), want)
	}
}

// plainLine: the line of a finding, or what is wrong with it.
func plainLine(f api.Finding) (string, api.Errno) {
	switch {
	case f.Clause < 0 || f.Clause > 15:
		return "", api.ErrNone
	case f.From >= f.To:
		return "", api.ErrSpan
	case f.From < 0 || f.To > 40320:
		return "", api.ErrRange
	}
	title := titles[f.Clause]
	return fmt.Sprintf("art.%s %s %d-%d", title.article, title.name, f.From, f.To), api.OK
}

func checkLine(t *testing.T, f api.Finding, want string, err api.Errno) {
	t.Helper()
	if got, gotErr := clause.Line(f); got != want || gotErr != err {
		t.Errorf("Line(%v) = %q, %d, want %q, %d", f, got, gotErr, want, err)
	}
}

// lines: of each clause a line, and others at the limits.
var lines = []struct {
	f    api.Finding
	line string
}{
	{find(api.ClBreak, 0, 271), "art.7 break 0-271"},
	{find(api.ClLonger, 0, 601), "art.6(1) longer 0-601"},
	{find(api.ClLongers, 1440, 3000), "art.6(1) longers 1440-3000"},
	{find(api.ClWeek, 10080, 20160), "art.6(2) week 10080-20160"},
	{find(api.ClFortnight, 0, 20160), "art.6(3) fortnight 0-20160"},
	{find(api.ClDaily, 5, 906), "art.8(2) daily 5-906"},
	{find(api.ClReduces, 7, 8), "art.8(4) reduces 7-8"},
	{find(api.ClWeekly, 0, 8641), "art.8(6) weekly 0-8641"},
	{find(api.ClBrief, 100, 1000), "art.8(6) brief 100-1000"},
	{find(api.ClLabour, 30240, 33841), "art.D4 labour 30240-33841"},
	{find(api.ClDrive, 9, 10), "art.R1 drive 9-10"},
	{find(api.ClWork, 10, 11), "art.R1 work 10-11"},
	{find(api.ClOpen, 99, 100), "art.R2 open 99-100"},
	{find(api.ClServe, 59, 60), "art.R3 serve 59-60"},
	{find(api.ClLeft, 0, 1), "art.R4 left 0-1"},
	{find(api.ClLoad, 0, 40320), "art.R5 load 0-40320"},
	{find(api.ClBreak, 0, 1), "art.7 break 0-1"},
	{find(api.ClBreak, 0, 40320), "art.7 break 0-40320"},
	{find(api.ClBreak, 40319, 40320), "art.7 break 40319-40320"},
	{find(api.ClLoad, 40318, 40319), "art.R5 load 40318-40319"},
	{find(api.ClLoad, 1, 40320), "art.R5 load 1-40320"},
}

// TestLine: the lines of findings, of each clause, and at the limits.
func TestLine(t *testing.T) {
	for _, c := range lines {
		checkLine(t, c.f, c.line, api.OK)
	}
}

// TestLineErrors: findings that are wrong, and which error comes first where there are several.
func TestLineErrors(t *testing.T) {
	for _, c := range noClauses() {
		for _, s := range []api.Span{{From: 0, To: 271}, {From: 0, To: 40320}, {From: 5, To: 5}, {From: 5, To: 4}, {From: -1, To: 5}, {From: 0, To: 40321}, {From: -5, To: -6}, {From: math.MinInt, To: math.MaxInt}, {From: math.MaxInt, To: math.MinInt}} {
			checkLine(t, find(c, s.From, s.To), "", api.ErrNone)
		}
	}
	for c := range 16 {
		for _, m := range sample.Minutes() {
			checkLine(t, find(c, m, m), "", api.ErrSpan)
		}
		for _, s := range []api.Span{{From: 5, To: 4}, {From: 1, To: 0}, {From: 40320, To: 0}, {From: 0, To: -1}, {From: -1, To: -2}, {From: 40321, To: 40320}, {From: 40322, To: 40321}, {From: 40321, To: -1}, {From: math.MaxInt, To: math.MinInt}, {From: math.MaxInt, To: 0}, {From: 0, To: math.MinInt}} {
			checkLine(t, find(c, s.From, s.To), "", api.ErrSpan)
		}
		for _, s := range []api.Span{{From: -1, To: 0}, {From: -1, To: 5}, {From: -1, To: 40320}, {From: -2, To: -1}, {From: 0, To: 40321}, {From: 40320, To: 40321}, {From: 40321, To: 40322}, {From: -1, To: 40321}, {From: math.MinInt, To: 0}, {From: 0, To: math.MaxInt}, {From: math.MinInt, To: math.MaxInt}, {From: math.MaxInt - 1, To: math.MaxInt}, {From: math.MinInt, To: math.MinInt + 1}} {
			checkLine(t, find(c, s.From, s.To), "", api.ErrRange)
		}
	}
}

// TestLineEach: findings of all clauses, and of none, and of minutes at the edges.
func TestLineEach(t *testing.T) {
	clauses := noClauses()
	for c := range 16 {
		clauses = append(clauses, c)
	}
	for _, c := range clauses {
		for _, from := range sample.Minutes() {
			for _, to := range sample.Minutes() {
				f := find(c, from, to)
				line, err := plainLine(f)
				checkLine(t, f, line, err)
			}
		}
	}
}

var lineForm = regexp.MustCompile(`\Aart\.([!-~]+) ([!-~]+) (0|[1-9][0-9]*)-(0|[1-9][0-9]*)\z`)

// plainParse: the finding of a line, of which the words are found by a pattern, and the numbers without limits.
func plainParse(line string) (api.Finding, api.Errno) {
	words := lineForm.FindStringSubmatch(line)
	if words == nil {
		return api.Finding{}, api.ErrForm
	}
	from, _ := new(big.Int).SetString(words[3], 10)
	to, _ := new(big.Int).SetString(words[4], 10)
	if from.Cmp(to) >= 0 || to.Cmp(big.NewInt(40320)) > 0 {
		return api.Finding{}, api.ErrForm
	}
	for c, title := range titles {
		if title.article == words[1] && title.name == words[2] {
			return find(c, int(from.Int64()), int(to.Int64())), api.OK
		}
	}
	return api.Finding{}, api.ErrForm
}

func checkParse(t *testing.T, line string, want api.Finding, err api.Errno) {
	t.Helper()
	if got, gotErr := clause.Parse(line); got != want || gotErr != err {
		t.Errorf("Parse(%q: %d bytes) = %v, %d, want %v, %d", head(line), len(line), got, gotErr, want, err)
	}
}

// checkPlain: what is parsed of a line is what the plain oracle tells, and is told as that line.
func checkPlain(t *testing.T, line string) {
	t.Helper()
	want, err := plainParse(line)
	checkParse(t, line, want, err)
	if f, err := clause.Parse(line); err == api.OK {
		checkLine(t, f, line, api.OK)
	}
}

// TestParse: the findings of lines.
func TestParse(t *testing.T) {
	for _, c := range lines {
		checkParse(t, c.line, c.f, api.OK)
	}
}

// noLines: lines that are no finding's.
var noLines = []string{
	"", " ", "  ", "   ", "\n", "\x00", "\xff", "-",
	// Fewer words than three, and more.
	"art.7", "break", "0-271", "art.7 break", "art.7 0-271", "break 0-271", "art.7break 0-271", "art.7 break0-271", "art.7break0-271",
	"art.7 break 0 271", "art.7 break 0 -271", "art.7 break 0- 271", "art.7 break 0-271 x", "x art.7 break 0-271", "art.7 break break 0-271", "art.7 art.7 break 0-271", "art.7 break 0-271 0-271", "art.7 break 0-271 art.7 break 0-271",
	// Another article than the clause's.
	"art.6(1) break 0-271", "art.8 break 0-271", "art.07 break 0-271", "art.77 break 0-271", "art.7(1) break 0-271", "art.(7) break 0-271", "art.D4 break 0-271", "art.7 longer 0-271", "art.6 longer 0-271", "art.6(2) longer 0-271", "art.6(1 longer 0-271", "art.61 longer 0-271", "art.d4 labour 0-5", "art.R2 drive 0-5", "art.r1 drive 0-5", "art.R1 load 0-5", "art.0 break 0-271", "art.break break 0-271",
	// Without "art.", and with what is like it.
	"7 break 0-271", ".7 break 0-271", "art7 break 0-271", "art,7 break 0-271", "Art.7 break 0-271", "ART.7 break 0-271", "art..7 break 0-271", "rt.7 break 0-271", "ar.7 break 0-271", "aart.7 break 0-271", "article7 break 0-271", "art. break 0-271", "art break 0-271", "xart.7 break 0-271", "art.art.7 break 0-271", "art.7. break 0-271",
	// A blank behind "art.", or elsewhere.
	"art. 7 break 0-271", "art .7 break 0-271", "art.6 (1) longer 0-5", "art.6( 1) longer 0-5", "art.7 bre ak 0-271", "art.7  break 0-271", "art.7 break  0-271", "art.7   break 0-271", " art.7 break 0-271", "  art.7 break 0-271", "art.7 break 0-271 ", "art.7 break 0-271  ", " art.7 break 0-271 ", "art.7\tbreak 0-271", "art.7 break\t0-271", "art.7\nbreak 0-271", "art.7 break 0-271\n", "\nart.7 break 0-271", "art.7 break 0-271\r", "art.7 break 0-271\x00", "art.7\u00a0break 0-271", "art.7 break 0–271",
	// No name of a clause.
	"art.7 x 0-271", "art.7 Break 0-271", "art.7 BREAK 0-271", "art.7 breaks 0-271", "art.7 brea 0-271", "art.7 0 0-271", "art.7 7 0-271", "art.6(1) long 0-5", "art.6(1) longerss 0-5", "art.R5 loads 0-5", "art. x 0-5", "x x 0-5",
	// The words the other way round.
	"break art.7 0-271", "art.7 0-271 break", "0-271 break art.7",
	// No span's text.
	"art.7 break x", "art.7 break 0", "art.7 break 271", "art.7 break -", "art.7 break 0-", "art.7 break -271", "art.7 break --", "art.7 break 0--271", "art.7 break -0-271", "art.7 break 0-271-", "art.7 break 0-1-2", "art.7 break -1-5", "art.7 break 0--1", "art.7 break -2--1", "art.7 break +0-271", "art.7 break 0-+271", "art.7 break 0x0-271", "art.7 break 0-271x", "art.7 break 0-271.0", "art.7 break 0-1e3", "art.7 break 0:271", "art.7 break 0,271", "art.7 break a-b",
	// Noughts ahead of a number.
	"art.7 break 00-271", "art.7 break 0-0271", "art.7 break 00-0271", "art.7 break 01-271", "art.7 break 1-02", "art.7 break 0-00", "art.7 break 0-040320",
	// To at From, and below it.
	"art.7 break 0-0", "art.7 break 5-5", "art.7 break 40320-40320", "art.7 break 1-0", "art.7 break 271-0", "art.7 break 10-9", "art.7 break 40320-40319",
	// Beyond MaxTime.
	"art.7 break 0-40321", "art.7 break 40320-40321", "art.7 break 40321-40322", "art.7 break 40321-40321", "art.7 break 40322-40321", "art.7 break 40321-0", "art.7 break 0-100000", "art.7 break 0-2147483648", "art.7 break 0-4294967567", "art.7 break 4294967296-5", "art.7 break 0-9223372036854775807", "art.7 break 0-9223372036854775808", "art.7 break 0-18446744073709551887", "art.7 break 18446744073709551616-271",
}

// TestParseErrors: lines that are no finding's.
func TestParseErrors(t *testing.T) {
	for _, line := range noLines {
		checkParse(t, line, api.Finding{}, api.ErrForm)
		if _, err := plainParse(line); err != api.ErrForm {
			t.Errorf("the test itself: %q is some finding's line", line)
		}
	}
	long := strings.Repeat("x", 1<<20)
	for _, line := range []string{
		long, strings.Repeat(" ", 1<<20), strings.Repeat("art.7 ", 1<<18), strings.Repeat("art.7 break 0-271 ", 1<<16), strings.Repeat("art.7 break 0-271", 1<<16),
		"art.7" + long + " break 0-271", "art." + strings.Repeat("7", 1<<20) + " break 0-271", "art.7 break" + long + " 0-271", "art.7 break 0-271" + long, "art.7 break 0-" + strings.Repeat("1", 1<<20), "art.7 break " + strings.Repeat("0", 1<<20) + "-271", "art.7 break " + strings.Repeat("9", 1<<20) + "-271",
	} {
		checkParse(t, line, api.Finding{}, api.ErrForm)
	}
}

// TestParseWords: each article with each name; with spans that layer 6 reads, and others.
func TestParseWords(t *testing.T) {
	for _, one := range titles {
		for _, other := range titles {
			for _, span := range []string{"0-271", "0-40320", "0-40321", "5-5", "9-5", "00-5", "x", "5"} {
				checkPlain(t, "art."+one.article+" "+other.name+" "+span)
				checkPlain(t, one.article+" "+other.name+" "+span)
				checkPlain(t, "art. "+one.article+" "+other.name+" "+span)
				checkPlain(t, "art."+other.name+" "+one.article+" "+span)
			}
		}
	}
}

// TestParseEach: all lines of a few pieces: words, right ones and wrong ones, and what may stand between.
func TestParseEach(t *testing.T) {
	pieces := []string{"", " ", "art.", "7", "art.7", "6(1)", "break", "longer", "s", "0-5", "5-5", "0-40321", "-", "\n", " break "}
	texts := []string{""}
	for range 5 {
		var longer []string
		for _, text := range texts {
			for _, piece := range pieces {
				longer = append(longer, text+piece)
			}
		}
		texts = longer
	}
	for _, line := range texts {
		checkPlain(t, line)
	}
}

// TestParseEachByte: each of the 256 bytes, in place of each byte of a line, and between any two of them; and with each of its bytes left out.
func TestParseEachByte(t *testing.T) {
	for _, c := range lines {
		for at := range len(c.line) + 1 {
			checkPlain(t, c.line[:at])
			checkPlain(t, c.line[at:])
			for i := range 256 {
				b := string([]byte{byte(i)})
				checkPlain(t, c.line[:at]+b+c.line[at:])
				if at < len(c.line) {
					checkPlain(t, c.line[:at]+b+c.line[at+1:])
				}
			}
			if at < len(c.line) {
				checkPlain(t, c.line[:at]+c.line[at+1:])
			}
		}
	}
}

// TestBack: P15.5: a finding's line is parsed as it, and what is parsed is told as its line; a clause is found by its name.
func TestBack(t *testing.T) {
	minutes := []int{0, 1, 2, 9, 10, 11, 60, 99, 100, 270, 271, 999, 1000, 1440, 9999, 10000, 10080, 20160, 40318, 40319, 40320}
	for n := range 50 {
		minutes = append(minutes, n*n*16)
	}
	for c := range 16 {
		name, _ := clause.Name(c)
		if got, err := clause.Find(name); got != c || err != api.OK {
			t.Errorf("Find(%q) = %d, %d, want %d", name, got, err, c)
		}
		for _, from := range minutes {
			for _, to := range minutes {
				f := find(c, from, to)
				line, err := clause.Line(f)
				if from >= to {
					if err != api.ErrSpan {
						t.Errorf("Line(%v) = %q, %d, want ErrSpan", f, line, err)
					}
					continue
				}
				if err != api.OK {
					t.Errorf("Line(%v): %d", f, err)
				}
				checkParse(t, line, f, api.OK)
			}
		}
		for to := range 40320 {
			line, _ := clause.Line(find(c, to/2, to+1))
			checkParse(t, line, find(c, to/2, to+1), api.OK)
		}
	}
}

// TestReadsOnly: a list that is sorted reads as before, and so does what lies ahead of it and behind its length; that is nothing to what is told.
func TestReadsOnly(t *testing.T) {
	possible := grid([]int{-1, 0, 1, 40321})
	turned := slices.Clone(possible)
	slices.Reverse(turned)
	beside := []api.Finding{{}, find(0, -1, 0), find(-9, -9, -9), find(99, 99, 99)}
	for _, l := range [][]api.Finding{nil, possible[:1], possible[5:9], turned, turned[:2], slices.Concat(turned, possible), slices.Repeat(possible[3:4], 9), {possible[9], possible[2], possible[9]}} {
		want := plainSort(possible, l)
		if !sample.Among(l, beside, func(mine []api.Finding) { checkSort(t, mine, want) }) {
			t.Errorf("%v, or what lies beside it, was written to", sample.Short(l))
		}
	}
	f := find(15, 9, 5)
	clause.Line(f)
	if f != find(15, 9, 5) {
		t.Errorf("a finding became %v", f)
	}
}

// TestReadsTextOnly: a text that is a piece of a longer one: what lies around it is nothing to what is told, and all reads as before.
func TestReadsTextOnly(t *testing.T) {
	for _, text := range []string{"", "break", "longer", "longers", "week", "art.7 break 0-271", "art.7 break 0-27", "rt.7 break 0-271", "art.6(1) longer 0-5", "art.7 break 5-5", "art.7 break 0-40321"} {
		for _, beside := range []string{"\n", " ", "9", "s", "a", "art.7 break 0-271", "\x00"} {
			before := beside + text + beside
			memory := []byte(before)
			whole := unsafe.String(&memory[0], len(memory))
			mine := whole[len(beside) : len(beside)+len(text)]
			checkFind(t, mine)
			checkPlain(t, mine)
			if string(memory) != before {
				t.Errorf("the memory became %q, want %q", memory, before)
			}
		}
	}
}

// TestNewMemory: what is written into an answer, or behind it, is in no other answer, and in no argument.
func TestNewMemory(t *testing.T) {
	a, b := clause.All(7), clause.All(7)
	clear(b[:cap(b)])
	if !slices.Equal(a, []int{0, 1, 2}) || !slices.Equal(clause.All(7), []int{0, 1, 2}) {
		t.Errorf("All(7) became %v, and %v anew", a, clause.All(7))
	}
	for _, l := range [][]api.Finding{{find(1, 2, 3)}, {find(1, 2, 3), find(4, 5, 6)}, {find(4, 5, 6), find(1, 2, 3), find(1, 2, 3)}} {
		before := slices.Clone(l)
		first, second := clause.Sort(l...), clause.Sort(l...)
		want := slices.Clone(first)
		clear(second[:cap(second)])
		if !slices.Equal(first, want) || !slices.Equal(l, before) {
			t.Errorf("behind a write into an answer, Sort(%v) is %v, and the list %v", before, first, l)
		}
		clear(l)
		if !slices.Equal(first, want) {
			t.Errorf("behind a write into the list, Sort(%v) is %v", before, first)
		}
	}
	for _, c := range lines {
		one, _ := clause.Line(c.f)
		other, _ := clause.Line(c.f)
		if unsafe.StringData(one) == unsafe.StringData(other) {
			t.Errorf("two lines of %v have one memory: %q", c.f, one)
		}
	}
}
