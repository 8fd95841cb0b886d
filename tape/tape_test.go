package tape_test

import (
	"fmt"
	"math"
	"math/big"
	"regexp"
	"slices"
	"strings"
	"testing"
	"unsafe"

	"haulier/api"
	"haulier/record"
	"haulier/sample"
	"haulier/tape"
)

var rec, list = sample.Rec, sample.List

// wrongAlone: what is wrong with a record, whatever is ahead of it.
func wrongAlone(r api.Record) api.Errno {
	switch {
	case r.Kind < 0 || r.Kind > 3:
		return api.ErrKind
	case min(r.From, r.To) < 0 || max(r.From, r.To) > 40320:
		return api.ErrRange
	case r.To <= r.From:
		return api.ErrSpan
	}
	return api.OK
}

// plainLine: the line of a record, or what is wrong with it.
func plainLine(r api.Record) (string, api.Errno) {
	if err := wrongAlone(r); err != api.OK {
		return "", err
	}
	return fmt.Sprintf("%c %d-%d", "RAWD"[r.Kind], r.From, r.To), api.OK
}

var (
	twoWords = regexp.MustCompile(`\A([!-~]+) ([!-~]+)\z`)
	aSpan    = regexp.MustCompile(`\A(0|[1-9][0-9]*)-(0|[1-9][0-9]*)\z`)
)

// plainRead: the record of a line, of which the words are found by patterns, and the numbers without limits.
func plainRead(line string) (api.Record, api.Errno) {
	words := twoWords.FindStringSubmatch(line)
	if words == nil {
		return api.Record{}, api.ErrForm
	}
	kind := slices.Index([]string{"R", "A", "W", "D"}, words[1])
	if kind < 0 {
		return api.Record{}, api.ErrKind
	}
	ends := aSpan.FindStringSubmatch(words[2])
	if ends == nil {
		return api.Record{}, api.ErrForm
	}
	from, _ := new(big.Int).SetString(ends[1], 10)
	to, _ := new(big.Int).SetString(ends[2], 10)
	most := big.NewInt(40320)
	if from.Cmp(most) > 0 || to.Cmp(most) > 0 {
		return api.Record{}, api.ErrRange
	}
	if from.Cmp(to) >= 0 {
		return api.Record{}, api.ErrSpan
	}
	return rec(kind, int(from.Int64()), int(to.Int64())), api.OK
}

// plainPrint: the text of a timeline that is right.
func plainPrint(l []api.Record) string {
	var lines []string
	for _, r := range l {
		line, _ := plainLine(r)
		lines = append(lines, line+"\n")
	}
	return strings.Join(lines, "")
}

// plainParse: the timeline of a text, line by line, as the document tells it.
func plainParse(text string) ([]api.Record, int, api.Errno) {
	if text != "" && text[len(text)-1] != 10 {
		return nil, len(text), api.ErrEnd
	}
	var l []api.Record
	for at := 0; at < len(text); {
		end := at + strings.IndexByte(text[at:], 10)
		r, err := plainRead(text[at:end])
		if err == api.OK && len(l) > 0 && r.From > l[len(l)-1].To {
			err = api.ErrGap
		}
		if err == api.OK && len(l) > 0 && r.From < l[len(l)-1].To {
			err = api.ErrOverlap
		}
		if err != api.OK {
			return nil, at, err
		}
		l = append(l, r)
		at = end + 1
	}
	return l, 0, api.OK
}

// head: a text as a failure tells it.
func head(s string) string { return s[:min(len(s), 60)] }

func checkLine(t *testing.T, r api.Record, want string, err api.Errno) {
	t.Helper()
	if got, gotErr := tape.Line(r); got != want || gotErr != err {
		t.Errorf("Line(%v) = %q, %d, want %q, %d", r, got, gotErr, want, err)
	}
}

func checkRead(t *testing.T, line string, want api.Record, err api.Errno) {
	t.Helper()
	if got, gotErr := tape.Read(line); got != want || gotErr != err {
		t.Errorf("Read(%q: %d bytes) = %v, %d, want %v, %d", head(line), len(line), got, gotErr, want, err)
	}
}

func checkPrint(t *testing.T, l []api.Record, want string, err api.Errno) {
	t.Helper()
	if got, gotErr := tape.Print(l); got != want || gotErr != err {
		t.Errorf("Print(%v) = %q (%d bytes), %d, want %q (%d bytes), %d", sample.Short(l), head(got), len(got), gotErr, head(want), len(want), err)
	}
}

func checkParse(t *testing.T, text string, want []api.Record, at int, err api.Errno) {
	t.Helper()
	got, gotAt, gotErr := tape.Parse(text)
	if !slices.Equal(got, want) || gotAt != at || gotErr != err {
		t.Errorf("Parse(%q: %d bytes) = %v (%d records), %d, %d, want %v (%d records), %d, %d", head(text), len(text), sample.Short(got), len(got), gotAt, gotErr, sample.Short(want), len(want), at, err)
	}
}

// checkPlain: what is parsed of a text is what the plain oracle tells.
func checkPlain(t *testing.T, text string) {
	t.Helper()
	l, at, err := plainParse(text)
	checkParse(t, text, l, at, err)
}

// checkBack: P10.3, of a text that may be a timeline's, or not.
func checkBack(t *testing.T, text string) {
	t.Helper()
	if l, _, err := tape.Parse(text); err == api.OK {
		checkPrint(t, l, text, api.OK)
	}
}

// TestLine: the lines of tables of the edges: each kind, and each limit.
func TestLine(t *testing.T) {
	for _, c := range []struct {
		r    api.Record
		line string
	}{
		{rec(api.Rest, 0, 5), "R 0-5"},
		{rec(api.Avail, 0, 5), "A 0-5"},
		{rec(api.Work, 0, 5), "W 0-5"},
		{rec(api.Drive, 0, 5), "D 0-5"},
		{rec(0, 0, 1), "R 0-1"},
		{rec(1, 1, 2), "A 1-2"},
		{rec(2, 9, 10), "W 9-10"},
		{rec(3, 0, 40320), "D 0-40320"},
		{rec(3, 0, 40319), "D 0-40319"},
		{rec(3, 1, 40320), "D 1-40320"},
		{rec(3, 40319, 40320), "D 40319-40320"},
		{rec(3, 40318, 40319), "D 40318-40319"},
		{rec(0, 100, 1000), "R 100-1000"},
		{rec(2, 10079, 10080), "W 10079-10080"},
	} {
		checkLine(t, c.r, c.line, api.OK)
	}
}

// TestLineErrors: records that are wrong alone, and which error comes first where there are several.
func TestLineErrors(t *testing.T) {
	for _, kind := range sample.NoKinds() {
		for _, s := range [][2]int{{0, 5}, {5, 5}, {5, 0}, {-1, 5}, {0, 40321}, {math.MaxInt, math.MinInt}} {
			checkLine(t, rec(kind, s[0], s[1]), "", api.ErrKind)
		}
	}
	for kind := range 4 {
		for _, m := range []int{math.MinInt, math.MinInt + 1, -40320, -1, 40321, 1 << 32, math.MaxInt - 1, math.MaxInt} {
			for _, other := range []int{m, 0, 5, 40320} {
				checkLine(t, rec(kind, m, other), "", api.ErrRange)
				checkLine(t, rec(kind, other, m), "", api.ErrRange)
			}
		}
		for _, m := range []int{0, 1, 5, 40319, 40320} {
			checkLine(t, rec(kind, m, m), "", api.ErrSpan)
			for _, less := range []int{0, m - 1, m / 2} {
				if 0 <= less && less < m {
					checkLine(t, rec(kind, m, less), "", api.ErrSpan)
				}
			}
		}
	}
}

// TestLineEach: records of all kinds and minutes at the edges.
func TestLineEach(t *testing.T) {
	for _, kind := range append(sample.NoKinds(), 0, 1, 2, 3) {
		for _, from := range sample.Minutes() {
			for _, to := range sample.Minutes() {
				r := rec(kind, from, to)
				line, err := plainLine(r)
				checkLine(t, r, line, err)
				if err == api.OK {
					checkRead(t, line, r, api.OK)
				}
			}
		}
	}
}

// TestRead: the records of lines, and what is wrong with others.
func TestRead(t *testing.T) {
	for _, c := range []struct {
		line string
		want api.Record
	}{
		{"D 0-5", rec(api.Drive, 0, 5)},
		{"W 0-5", rec(api.Work, 0, 5)},
		{"A 0-5", rec(api.Avail, 0, 5)},
		{"R 0-5", rec(api.Rest, 0, 5)},
		{"R 0-1", rec(0, 0, 1)},
		{"D 0-40320", rec(3, 0, 40320)},
		{"D 40319-40320", rec(3, 40319, 40320)},
		{"W 9-10", rec(2, 9, 10)},
		{"A 1440-10080", rec(1, 1440, 10080)},
	} {
		checkRead(t, c.line, c.want, api.OK)
	}
	for err, lines := range map[api.Errno][]string{
		// Not two words.
		api.ErrForm: {
			"", "D", "0-5", "D0-5", "D 0-5 x", "D 0 5", "D 0 -5", "D 0- 5", "D 0-5 D 5-6", "D D 0-5",
			" ", "  ", "D ", " D", " 0-5", " D 0-5", "D 0-5 ", "D  0-5", "  D 0-5", "D 0-5  ", " D 0-5 ",
			"D\t0-5", "\tD 0-5", "D 0-5\t", "D\n0-5", "D 0-5\n", "\nD 0-5", "D 0-5\r", "D 0-5\x00", "\x00", "\n", "D\u00a00-5",
			"D 0\x1f-5", "D 0-5\x7f", "\x80 0-5", "\xff 0-5", "D 0-5\x80", "Ä 0-5", "D 0–5",
			// Also ahead of what is wrong with either word.
			"X 0-5 ", "X", "X 5-0 x", "DD  5-0", "x 0-40321\t", " d 0-5", "X 0-5\n",
			// The second one is no span's text.
			"D x", "D 0", "D 5", "D -", "D -5", "D 5-", "D --", "D 0--5", "D -0-5", "D 0-5-", "D 0-5-6", "D -1-5", "D 0--1",
			"D 00-5", "D 0-05", "D 01-5", "D +0-5", "D 0-+5", "D 0x0-5", "D 0-5x", "D 0-5.0", "D 0-1e3", "D 0_0-5", "D 0,5", "D 0:5", "D 0-x", "D x-5",
			"D 40321", "D 40321-", "D -40321", "D 40321-x", "D 040321-40322", "D 5-00",
		},
		// The first one is no letter of a kind.
		api.ErrKind: {
			"X 0-5", "d 0-5", "r 0-5", "a 0-5", "w 0-5", "DD 0-5", "DR 0-5", "RD 0-5", "RAWD 0-5", "D. 0-5", ".D 0-5", "0 0-5", "3 0-5", "! 0-5", "~ 0-5", "B 0-5", "Z 0-5", "- 0-5", "Drive 0-5", "Rest 0-5",
			// Also ahead of what is wrong with the second one.
			"X x", "X 5-0", "X 0-40321", "0-5 D", "d 00-5", "DD 5-5", "3 -", "X -", "RR 0-99999999999999999999",
		},
		api.ErrRange: {
			"D 0-40321", "D 40320-40321", "D 40321-40322", "D 40321-40320", "D 40321-0", "D 40321-40321", "D 99999-5", "D 0-99999",
			"D 0-2147483648", "D 0-4294967301", "D 0-9223372036854775807", "D 0-9223372036854775808", "D 0-18446744073709551621", "D 18446744073709551616-5", "D 0-" + strings.Repeat("9", 1000), "D " + strings.Repeat("9", 1000) + "-0",
		},
		api.ErrSpan: {"D 0-0", "D 5-5", "D 5-4", "D 1-0", "D 5-0", "D 10-9", "D 40320-40320", "D 40320-40319", "D 40320-0", "R 9-9", "A 9-8", "W 100-20"},
	} {
		for _, line := range lines {
			checkRead(t, line, api.Record{}, err)
			if _, plainErr := plainRead(line); plainErr != err {
				t.Errorf("the test itself: %q is wrong by %d, and should be by %d", head(line), plainErr, err)
			}
		}
	}
}

// TestReadEachByte: each of the 256 bytes, in place of each byte of a line, and between any two of them.
func TestReadEachByte(t *testing.T) {
	for _, line := range []string{"D 0-5", "R 12-340", "W 40319-40320"} {
		for i := range 256 {
			c := string([]byte{byte(i)})
			for at := range len(line) + 1 {
				longer := line[:at] + c + line[at:]
				want, err := plainRead(longer)
				checkRead(t, longer, want, err)
				if at < len(line) {
					other := line[:at] + c + line[at+1:]
					want, err = plainRead(other)
					checkRead(t, other, want, err)
				}
			}
		}
	}
}

// TestReadEach: all lines of a few pieces: words, right ones and wrong ones, and what may stand between.
func TestReadEach(t *testing.T) {
	pieces := []string{"", " ", "D", "R", "d", "DD", "X", "0-5", "5-6", "5-5", "6-5", "0-40320", "0-40321", "40321-0", "00-5", "-", "7", "\n", "\x7f"}
	lines := []string{""}
	for range 4 {
		var longer []string
		for _, line := range lines {
			for _, piece := range pieces {
				longer = append(longer, line+piece)
			}
		}
		lines = longer
	}
	for _, line := range lines {
		want, err := plainRead(line)
		checkRead(t, line, want, err)
	}
}

// TestPrint: the texts of timelines, normal ones and others.
func TestPrint(t *testing.T) {
	for _, c := range []struct {
		l    []api.Record
		text string
	}{
		{nil, ""},
		{[]api.Record{}, ""},
		{make([]api.Record, 0, 3), ""},
		{list(rec(3, 0, 5)), "D 0-5\n"},
		{list(rec(3, 5, 7), rec(0, 7, 8)), "D 5-7\nR 7-8\n"},
		// What isn't normal is told record by record.
		{list(rec(3, 0, 5), rec(3, 5, 7)), "D 0-5\nD 5-7\n"},
		{list(rec(0, 1, 2), rec(1, 2, 3), rec(2, 3, 4), rec(3, 4, 5)), "R 1-2\nA 2-3\nW 3-4\nD 4-5\n"},
		{list(rec(2, 0, 40319), rec(2, 40319, 40320)), "W 0-40319\nW 40319-40320\n"},
	} {
		checkPrint(t, c.l, c.text, api.OK)
	}
	for _, l := range sample.Right() {
		checkPrint(t, l, plainPrint(l), api.OK)
	}
	for _, turn := range []bool{true, false} {
		checkPrint(t, sample.Many(turn), plainPrint(sample.Many(turn)), api.OK)
	}
}

// TestPrintErrors: of what is no timeline, Check's error, and no text beside it.
func TestPrintErrors(t *testing.T) {
	for _, c := range sample.Wrong() {
		if _, err := record.Check(c.L); err != c.Err {
			t.Errorf("the test itself: %v is wrong by %d, and should be by %d", sample.Short(c.L), err, c.Err)
		}
		checkPrint(t, c.L, "", c.Err)
	}
}

// TestParse: the timelines of texts, and no others.
func TestParse(t *testing.T) {
	for _, c := range []struct {
		text string
		want []api.Record
	}{
		{"", nil},
		{"D 0-5\n", list(rec(3, 0, 5))},
		{"D 5-7\nR 7-8\n", list(rec(3, 5, 7), rec(0, 7, 8))},
		// A timeline need not be normal, nor begin with 0.
		{"D 0-5\nD 5-7\n", list(rec(3, 0, 5), rec(3, 5, 7))},
		{"R 1-2\nA 2-3\nW 3-4\nD 4-5\n", list(rec(0, 1, 2), rec(1, 2, 3), rec(2, 3, 4), rec(3, 4, 5))},
		{"W 40319-40320\n", list(rec(2, 40319, 40320))},
		{"W 0-40319\nW 40319-40320\n", list(rec(2, 0, 40319), rec(2, 40319, 40320))},
	} {
		checkParse(t, c.text, c.want, 0, api.OK)
	}
	for _, turn := range []bool{true, false} {
		checkParse(t, plainPrint(sample.Many(turn)), sample.Many(turn), 0, api.OK)
	}
}

// TestParseEnd: a text whose last line is not ended: that comes ahead of all that is wrong with its lines.
func TestParseEnd(t *testing.T) {
	for _, text := range []string{
		"D", "D 0-5", " ", "\r", "x", "\x00", "D 0-5\nR 5-6", "D 0-5\n ", "\nD 0-5", "\n\nx", "D 0-5\r",
		"X 0-5", "X 0-5\nD 0-5", "D 0-5\nD 4-5\nD 5-6", "D 5-0\nD 0-5", "D 0-5\n\nR 5-6", "D 0-5\nR 6-7\n\x00",
		strings.Repeat("x", 100000),
	} {
		checkParse(t, text, nil, len(text), api.ErrEnd)
	}
	for _, l := range sample.Right() {
		if text := plainPrint(l); text != "" {
			checkParse(t, text[:len(text)-1], nil, len(text)-1, api.ErrEnd)
		}
	}
}

// TestParseErrors: lines that are wrong, first, in the middle, last, and several: the first one is told, by the byte with which it begins.
func TestParseErrors(t *testing.T) {
	for _, c := range []struct {
		text string
		at   int
		err  api.Errno
	}{
		// Empty lines.
		{"\n", 0, api.ErrForm},
		{"\n\n", 0, api.ErrForm},
		{"\nD 0-5\n", 0, api.ErrForm},
		{"D 0-5\n\n", 6, api.ErrForm},
		{"D 0-5\n\nR 5-6\n", 6, api.ErrForm},
		{"D 0-5\nR 5-6\n\n", 12, api.ErrForm},
		// What Read tells, first, in the middle and last.
		{"D 0-5 \n", 0, api.ErrForm},
		{"D 0-5\r\n", 0, api.ErrForm},
		{" D 0-5\nR 5-6\n", 0, api.ErrForm},
		{"D 0-5\nR  5-6\nD 6-7\n", 6, api.ErrForm},
		{"D 0-5\nR 5-6\nD 6-07\n", 12, api.ErrForm},
		{"D 0-5\nR 5-6\nD\n", 12, api.ErrForm},
		{"X 0-5\nR 5-6\n", 0, api.ErrKind},
		{"D 0-5\nX 5-6\nD 6-7\n", 6, api.ErrKind},
		{"D 0-5\nR 5-6\nd 6-7\n", 12, api.ErrKind},
		{"D 0-40321\n", 0, api.ErrRange},
		{"D 0-40320\nR 40320-40321\n", 10, api.ErrRange},
		{"D 0-5\nR 5-40321\nD 5-6\n", 6, api.ErrRange},
		{"D 5-5\n", 0, api.ErrSpan},
		{"D 0-5\nR 5-5\nD 5-6\n", 6, api.ErrSpan},
		{"D 0-5\nR 5-6\nD 6-5\n", 12, api.ErrSpan},
		// What Check tells of the records up to the line.
		{"D 0-5\nR 6-7\n", 6, api.ErrGap},
		{"D 0-5\nR 6-7\nD 7-8\n", 6, api.ErrGap},
		{"D 0-5\nR 5-6\nD 7-8\n", 12, api.ErrGap},
		{"D 0-5\nR 4-6\n", 6, api.ErrOverlap},
		{"D 0-5\nR 4-6\nD 6-7\n", 6, api.ErrOverlap},
		{"D 0-5\nD 0-5\n", 6, api.ErrOverlap},
		{"D 5-6\nD 0-5\n", 6, api.ErrOverlap},
		{"D 10-100\nR 100-1000\nD 1-2\n", 20, api.ErrOverlap},
		{"D 10-100\nR 100-1000\nD 100-1001\n", 20, api.ErrOverlap},
		{"D 10-100\nR 100-1000\nD 1001-1002\n", 20, api.ErrGap},
		// Of several lines the first one; of one line what Read tells comes first.
		{"D 0-5\nR 6-7\nX\n", 6, api.ErrGap},
		{"D 0-5\nX\nR 6-7\n", 6, api.ErrForm},
		{"X 0-5\nD 5-0\n", 0, api.ErrKind},
		{"D 5-0\nX 0-5\n", 0, api.ErrSpan},
		{"D 0-5\nR 4-4\n", 6, api.ErrSpan},
		{"D 0-5\nX 9-10\n", 6, api.ErrKind},
		{"D 0-5\nR 0-5\nR 9-10\nx\n", 6, api.ErrOverlap},
		{"D 0-5\nR 9-10\nR 0-5\n\n", 6, api.ErrGap},
	} {
		checkParse(t, c.text, nil, c.at, c.err)
	}
}

// TestParseWrong: the lines of lists that are no timelines, of which each record is right alone.
func TestParseWrong(t *testing.T) {
	gaps := 0
	for _, c := range sample.Wrong() {
		if c.Err != api.ErrGap && c.Err != api.ErrOverlap {
			continue
		}
		checkParse(t, plainPrint(c.L), nil, len(plainPrint(c.L[:c.At])), c.Err)
		gaps++
	}
	if gaps < 3 {
		t.Errorf("the test itself: %d lists alone", gaps)
	}
}

// TestParseEach: all texts of up to four lines, right ones and wrong ones, with the last one ended and not.
func TestParseEach(t *testing.T) {
	lines := []string{"D 0-5", "R 5-6", "R 5-7", "W 6-7", "A 7-10", "D 4-5", "D 6-40320", "R 40320-40321", "", "X 5-6", "R 6-5", " R 5-6", "R 5"}
	texts := []string{""}
	for range 4 {
		var longer []string
		for _, text := range texts {
			for _, line := range lines {
				longer = append(longer, text+line+"\n")
				checkPlain(t, text+line)
			}
		}
		for _, text := range longer {
			checkPlain(t, text)
			checkBack(t, text)
		}
		texts = longer
	}
}

// TestParseEachByte: each of the 256 bytes, in place of each byte of a text, and between any two of them.
func TestParseEachByte(t *testing.T) {
	text := "W 0-5\nD 5-10\nR 10-11\n"
	for i := range 256 {
		c := string([]byte{byte(i)})
		for at := range len(text) + 1 {
			longer := text[:at] + c + text[at:]
			checkPlain(t, longer)
			checkBack(t, longer)
			if at < len(text) {
				other := text[:at] + c + text[at+1:]
				checkPlain(t, other)
				checkBack(t, other)
			}
		}
	}
	for at := range len(text) {
		checkPlain(t, text[:at])
		checkPlain(t, text[at:])
		checkPlain(t, text[:at]+text[at+1:])
	}
}

// TestParseShort: all short texts of the bytes of lines.
func TestParseShort(t *testing.T) {
	bytes := "D 0-1\n"
	texts := []string{""}
	for range 7 {
		var longer []string
		for _, text := range texts {
			checkPlain(t, text)
			for i := range len(bytes) {
				longer = append(longer, text+bytes[i:i+1])
			}
		}
		texts = longer
	}
}

// TestParseLong: as many lines as there are minutes, with one more, with one that is wrong last, in the middle and first; and as many again that come behind a wrong one.
func TestParseLong(t *testing.T) {
	many := plainPrint(sample.Many(true))
	checkParse(t, many+"D 40320-40321\n", nil, len(many), api.ErrRange)
	checkParse(t, many+"D 40319-40320\n", nil, len(many), api.ErrOverlap)
	checkParse(t, many+"\n", nil, len(many), api.ErrForm)
	checkParse(t, many+many, nil, len(many), api.ErrOverlap)
	checkParse(t, many+"x", nil, len(many)+1, api.ErrEnd)
	checkParse(t, "X 0-1\n"+many, nil, 0, api.ErrKind)
	middle := len(plainPrint(sample.Many(true)[:20000]))
	checkParse(t, many[:middle]+"A 20000-20000\n"+many[middle:], nil, middle, api.ErrSpan)
	checkParse(t, strings.Repeat("\n", 1<<20), nil, 0, api.ErrForm)
	checkParse(t, "D 0-1\n"+strings.Repeat("D 1-2\n", 1<<17), nil, 12, api.ErrOverlap)
	checkParse(t, "D 0-"+strings.Repeat("1", 1<<20)+"\n", nil, 0, api.ErrRange)
	checkParse(t, strings.Repeat("D ", 1<<19)+"\n", nil, 0, api.ErrForm)
}

// TestBack: P10.3: a timeline's text is parsed as it; what is parsed is printed as it was; and so it is with each record's line.
func TestBack(t *testing.T) {
	for _, l := range append(sample.Right(), nil, sample.Many(true), sample.Many(false)) {
		text, err := tape.Print(l)
		if err != api.OK {
			t.Fatalf("Print(%v): %d", sample.Short(l), err)
		}
		checkParse(t, text, l, 0, api.OK)
		checkBack(t, text)
		var lines strings.Builder
		for _, r := range l {
			line, err := tape.Line(r)
			if err != api.OK {
				t.Fatalf("Line(%v): %d", r, err)
			}
			checkRead(t, line, r, api.OK)
			lines.WriteString(line + "\n")
		}
		if lines.String() != text {
			t.Errorf("Print(%v) = %q, but its lines are %q", sample.Short(l), head(text), head(lines.String()))
		}
	}
}

// callAll: every call, on a list and on a text.
func callAll(l []api.Record, text string) {
	tape.Print(l)
	tape.Parse(text)
	tape.Read(text)
	for _, r := range l {
		tape.Line(r)
	}
}

// TestReadsOnly: a list reads as before behind each call, and so does what lies ahead of it and behind its length; that is nothing to what is told.
func TestReadsOnly(t *testing.T) {
	for _, l := range sample.All() {
		if !sample.Amid(l, func(mine []api.Record) {
			callAll(mine, "D 0-5\n")
			if _, err := record.Check(l); err == api.OK {
				checkPrint(t, mine, plainPrint(l), api.OK)
			} else {
				checkPrint(t, mine, "", err)
			}
		}) {
			t.Errorf("%v, or what lies beside it, was written to", sample.Short(l))
		}
	}
}

// TestReadsTextOnly: a text that is a piece of a longer one: what lies around it is nothing to what is told, and all reads as before.
func TestReadsTextOnly(t *testing.T) {
	for _, text := range []string{"", "D 0-5", "D 0-5\n", "D 0-5\nR 5-6\n", "D 0-5\nR 4-6\n", "X 0-5\n", "\n", "D 0-5\nR 5", "D 5-5"} {
		for _, beside := range []string{"\n", " ", "9", "D 0-5\n", "\x00"} {
			before := beside + text + beside
			memory := []byte(before)
			whole := unsafe.String(&memory[0], len(memory))
			mine := whole[len(beside) : len(beside)+len(text)]
			callAll(nil, mine)
			checkPlain(t, mine)
			want, err := plainRead(mine)
			checkRead(t, mine, want, err)
			if string(memory) != before {
				t.Errorf("the memory became %q, want %q", memory, before)
			}
		}
	}
}

// TestNewMemory: what is written into an answer, or behind it, is in no other answer; a text that is told is none of the call ahead.
func TestNewMemory(t *testing.T) {
	text := "D 0-5\nR 5-6\nW 6-9\n"
	want := list(rec(3, 0, 5), rec(0, 5, 6), rec(2, 6, 9))
	first, _, _ := tape.Parse(text)
	second, _, _ := tape.Parse(text)
	clear(second[:cap(second)])
	if !slices.Equal(first, want) {
		t.Errorf("Parse(%q) became %v, want %v", text, first, want)
	}
	checkParse(t, text, want, 0, api.OK)
	for _, l := range [][]api.Record{want, want[:1]} {
		a, _ := tape.Print(l)
		b, _ := tape.Print(l)
		c, _ := tape.Line(l[0])
		d, _ := tape.Line(l[0])
		for i, one := range []string{a, b, c, d} {
			for _, other := range []string{a, b, c, d}[:i] {
				if unsafe.StringData(one) == unsafe.StringData(other) {
					t.Errorf("two texts of %v have one memory: %q, %q", l, one, other)
				}
			}
		}
	}
}
