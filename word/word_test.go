package word_test

import (
	"fmt"
	"math"
	"math/big"
	"regexp"
	"slices"
	"strings"
	"testing"
	"unsafe"

	"haulier/api"
	"haulier/word"
)

// upTo: all texts of n bytes at most that are of these bytes.
func upTo(n int, bytes string) []string {
	l := []string{""}
	for from := 0; n > 0; n-- {
		to := len(l)
		for _, s := range l[from:to] {
			for i := range len(bytes) {
				l = append(l, s+bytes[i:i+1])
			}
		}
		from = to
	}
	return l
}

// one: the text of this byte alone.
func one(b int) string { return string([]byte{byte(b)}) }

// all: the text of all bytes from one on, up to and with another.
func all(from, to int) string {
	var l []byte
	for b := from; b <= to; b++ {
		l = append(l, byte(b))
	}
	return string(l)
}

// edges: numbers beside the limits, and at the ends of 64 bits.
func edges() []int {
	l := []int{math.MinInt, math.MinInt + 1, math.MaxInt - 1, math.MaxInt, 1 << 31, 1 << 32, 1<<62 - 1, 1 << 62}
	for _, n := range []int{0, 5, 10, 100, 1000, api.Day, 9999, 10080, api.MaxTime, 99999, api.MaxID, api.MaxLoad, api.MaxRoom, 1e18} {
		for d := -2; d <= 2; d++ {
			l = append(l, n+d, -n-d)
		}
	}
	return l
}

func TestLines(t *testing.T) {
	for _, c := range []struct {
		text string
		want []string
		at   int
		err  api.Errno
	}{
		{"", nil, 0, api.OK},
		// Lines without bytes.
		{"\n", []string{""}, 0, api.OK},
		{"\n\n", []string{"", ""}, 0, api.OK},
		{"\n\n\n", []string{"", "", ""}, 0, api.OK},
		{"\na\n", []string{"", "a"}, 0, api.OK},
		{"a\n\n", []string{"a", ""}, 0, api.OK},
		{"a\n\n\nb\n", []string{"a", "", "", "b"}, 0, api.OK},
		// Lines with bytes.
		{"a\n", []string{"a"}, 0, api.OK},
		{"a\nb\n", []string{"a", "b"}, 0, api.OK},
		{"plan 0\nout\nclear\n", []string{"plan 0", "out", "clear"}, 0, api.OK},
		// Any bytes but 10 are of a line, whether they may be of words or not.
		{" \n", []string{" "}, 0, api.OK},
		{"  a  b \n", []string{"  a  b "}, 0, api.OK},
		{"a\r\nb\r\n", []string{"a\r", "b\r"}, 0, api.OK},
		{"\r\n", []string{"\r"}, 0, api.OK},
		{"a\tb\n\x00\n\x7f\n", []string{"a\tb", "\x00", "\x7f"}, 0, api.OK},
		{"\x80\n\xff\n", []string{"\x80", "\xff"}, 0, api.OK},
		{"ü\u2028\u0085\n\xe2\x80\n", []string{"ü\u2028\u0085", "\xe2\x80"}, 0, api.OK},
		{"\v\f\x1c\n", []string{"\v\f\x1c"}, 0, api.OK},
		// The last one is not ended.
		{"a", nil, 1, api.ErrEnd},
		{" ", nil, 1, api.ErrEnd},
		{"\r", nil, 1, api.ErrEnd},
		{"\x00", nil, 1, api.ErrEnd},
		{"\xff", nil, 1, api.ErrEnd},
		{"a longer one", nil, 12, api.ErrEnd},
		{"\na", nil, 2, api.ErrEnd},
		{"a\nb", nil, 3, api.ErrEnd},
		{"a\n\nbcd", nil, 6, api.ErrEnd},
		{"a\nb\n\r", nil, 5, api.ErrEnd},
		{"ü", nil, 2, api.ErrEnd},
		{strings.Repeat("a\n", 1000) + "b", nil, 2001, api.ErrEnd},
		{strings.Repeat("a", 70000), nil, 70000, api.ErrEnd},
	} {
		if got, at, err := word.Lines(c.text); !slices.Equal(got, c.want) || at != c.at || err != c.err {
			t.Errorf("Lines(%.40q) = %q, %d, %d, want %q, %d, %d", c.text, got, at, err, c.want, c.at, c.err)
		}
	}
}

// plainLines: byte by byte, as the document tells it.
func plainLines(text string) ([]string, int, api.Errno) {
	var l []string
	line := []byte{}
	for _, b := range []byte(text) {
		if b == 10 {
			l, line = append(l, string(line)), nil
		} else {
			line = append(line, b)
		}
	}
	if len(line) > 0 {
		return nil, len(text), api.ErrEnd
	}
	return l, 0, api.OK
}

func checkLines(t *testing.T, text string) {
	t.Helper()
	want, wantAt, wantErr := plainLines(text)
	got, at, err := word.Lines(text)
	if !slices.Equal(got, want) || at != wantAt || err != wantErr {
		t.Errorf("Lines(%.40q) = %.40q, %d, %d, want %.40q, %d, %d", text, got, at, err, want, wantAt, wantErr)
	}
	back := ""
	for _, line := range got {
		back += line + "\n"
	}
	if err == api.OK && back != text {
		t.Errorf("the lines of %.40q are together %.40q", text, back)
	}
}

func TestLinesAll(t *testing.T) {
	for _, text := range upTo(7, "\n\ra ") {
		checkLines(t, text)
	}
	for _, text := range upTo(5, "\n\x00\t\x0b\x1f!~\x7f\x80\xff") {
		checkLines(t, text)
	}
	for b := range 256 {
		s := one(b)
		for _, text := range []string{s, s + "\n", "a" + s + "b\n", s + "\n" + s + "\n", "a\n" + s, "\n" + s + "b"} {
			checkLines(t, text)
		}
	}
	long := strings.Repeat("x", 5000)
	for _, text := range []string{long + "\n", long + "\n" + long + "\n", strings.Repeat("\n", 5000), strings.Repeat("ab c\n", 1000), long + "\n" + long} {
		checkLines(t, text)
	}
}

// words: of a list of places and texts, one behind the other.
func words(l ...any) []word.Word {
	var w []word.Word
	for i := 0; i < len(l); i += 2 {
		w = append(w, word.Word{At: l[i].(int), Text: l[i+1].(string)})
	}
	return w
}

func TestSplit(t *testing.T) {
	long := strings.Repeat("long", 5000)
	for _, c := range []struct {
		line string
		want []word.Word
	}{
		{"", nil},
		{"a", words(0, "a")},
		{"word", words(0, "word")},
		{"a b", words(0, "a", 2, "b")},
		{"a b c", words(0, "a", 2, "b", 4, "c")},
		{"plan 0", words(0, "plan", 5, "0")},
		{"a bc def g", words(0, "a", 2, "bc", 5, "def", 9, "g")},
		{"art.7 break 0-271", words(0, "art.7", 6, "break", 12, "0-271")},
		{"! ~", words(0, "!", 2, "~")},
		{"- -- -1", words(0, "-", 2, "--", 5, "-1")},
		{all(33, 126), words(0, all(33, 126))},
		{all(33, 79) + " " + all(80, 126), words(0, all(33, 79), 48, all(80, 126))},
		{long, words(0, long)},
		{long + " " + long, words(0, long, 20001, long)},
		{"a " + long + " b", words(0, "a", 2, long, 20003, "b")},
	} {
		if got, at, err := word.Split(c.line); !slices.Equal(got, c.want) || at != 0 || err != api.OK {
			t.Errorf("Split(%.40q) = %.40v, %d, %d, want %.40v", c.line, got, at, err, c.want)
		}
	}
}

func TestSplitErrors(t *testing.T) {
	for _, c := range []struct {
		line string
		at   int
	}{
		// A blank ahead of the first word.
		{" a", 0},
		{" a b", 0},
		{"  a", 0},
		// Two blanks.
		{"a  b", 2},
		{"a   b", 2},
		{"a b  c", 4},
		{"word  word", 5},
		// A blank at the end: the line's length.
		{"a ", 2},
		{"a b ", 4},
		{"word word ", 10},
		// Two of them: the second one stands behind a blank.
		{"a  ", 2},
		{"a   ", 2},
		{"a b  ", 4},
		// Blanks alone.
		{" ", 0},
		{"  ", 0},
		{"     ", 0},
		// Bytes that are neither.
		{"\t", 0},
		{"\n", 0},
		{"\r", 0},
		{"\x00", 0},
		{"\x1f", 0},
		{"\x7f", 0},
		{"\x80", 0},
		{"\xff", 0},
		{"a\tb", 1},
		{"a b\n", 3},
		{"a b\r", 3},
		{"a \tb", 2},
		{"a\x7f", 1},
		{"ab\x80cd", 2},
		{"ab ü", 3},
		{"aü b", 1},
		{"a\u00a0b", 1},
		{"a b\u2003c", 3},
		{"a\xff b", 1},
		// Several bytes stand wrong: the first one's place.
		{" \t", 0},
		{"\t ", 0},
		{" a\t", 0},
		{" a  b", 0},
		{" a ", 0},
		{"a\t b", 1},
		{"a\t ", 1},
		{"a\t  b ", 1},
		{"a  b\t", 2},
		{"a  \t", 2},
		{"a \t ", 2},
		{"a \t\tb", 2},
		{"a  b ", 2},
		{"a b c\xff\x00  ", 5},
		{strings.Repeat("a", 300) + " \xff ", 301},
		{strings.Repeat("a ", 300), 600},
	} {
		if got, at, err := word.Split(c.line); len(got) > 0 || at != c.at || err != api.ErrForm {
			t.Errorf("Split(%.40q) = %v, %d, %d, want ErrForm, %d", c.line, got, at, err, c.at)
		}
	}
}

// lineForm, and aheadForm: what a right line is, and what may stand at the begin of one.
var (
	lineForm  = regexp.MustCompile(`^([!-~]+( [!-~]+)*)?$`)
	aheadForm = regexp.MustCompile(`^([!-~]+( [!-~]+)* ?)?$`)
	wordForm  = regexp.MustCompile(`[!-~]+`)
)

// plainSplit: the first byte that stands wrong is the one behind the longest text that a right line may begin with.
func plainSplit(line string) ([]word.Word, int, api.Errno) {
	if !lineForm.MatchString(line) {
		at := len(line)
		for !aheadForm.MatchString(line[:at]) {
			at--
		}
		return nil, at, api.ErrForm
	}
	var l []word.Word
	for _, ends := range wordForm.FindAllStringIndex(line, -1) {
		l = append(l, word.Word{At: ends[0], Text: line[ends[0]:ends[1]]})
	}
	return l, 0, api.OK
}

// checkSplit: what the line is split into, and P6.5: these texts are joined to the line again.
func checkSplit(t *testing.T, line string) {
	t.Helper()
	want, wantAt, wantErr := plainSplit(line)
	got, at, err := word.Split(line)
	if !slices.Equal(got, want) || at != wantAt || err != wantErr {
		t.Errorf("Split(%.40q) = %.40v, %d, %d, want %.40v, %d, %d", line, got, at, err, want, wantAt, wantErr)
	}
	if err != api.OK {
		return
	}
	var texts []string
	for _, w := range got {
		texts = append(texts, w.Text)
	}
	if back := word.Join(texts...); back != line {
		t.Errorf("the words of %.40q are joined to %.40q", line, back)
	}
}

func TestSplitAll(t *testing.T) {
	for _, line := range upTo(7, " a~\t") {
		checkSplit(t, line)
	}
	for _, line := range upTo(4, "\t\n\r\x1f !~\x7f\x80\xff") {
		checkSplit(t, line)
	}
	for b := range 256 {
		s := one(b)
		for _, line := range []string{s, s + "a", "a" + s, "a" + s + "b", "a " + s, s + " a", "a " + s + " b", s + s, "a " + s + s, s + " " + s} {
			checkSplit(t, line)
		}
	}
}

func TestJoin(t *testing.T) {
	long := strings.Repeat("long", 5000)
	for _, c := range []struct {
		l    []string
		want string
	}{
		{nil, ""},
		{[]string{}, ""},
		{[]string{"a"}, "a"},
		{[]string{"a", "b"}, "a b"},
		{[]string{"b", "a"}, "b a"},
		{[]string{"plan", "0", "out"}, "plan 0 out"},
		{[]string{"a", "bc", "def", "a"}, "a bc def a"},
		{[]string{long, long}, long + " " + long},
		// Empty ones.
		{[]string{""}, ""},
		{[]string{"", ""}, " "},
		{[]string{"", "", ""}, "  "},
		{[]string{"", "a"}, " a"},
		{[]string{"a", ""}, "a "},
		{[]string{"a", "", "b"}, "a  b"},
		// Texts that are no words are joined as they are.
		{[]string{" "}, " "},
		{[]string{"a b", "c"}, "a b c"},
		{[]string{"\n", "\xff\x00", "ü"}, "\n \xff\x00 ü"},
	} {
		if got := word.Join(c.l...); got != c.want {
			t.Errorf("Join(%.40q) = %.40q, want %.40q", c.l, got, c.want)
		}
	}
	if got := word.Join(); got != "" {
		t.Errorf("Join() = %q", got)
	}
	if got, want := word.Join(slices.Repeat([]string{"ab"}, 1000)...), strings.Repeat("ab ", 999)+"ab"; got != want {
		t.Errorf("Join of 1000 is %.40q", got)
	}
}

// TestJoinSplit: P6.5: words that are joined are split again, and each begins where it should.
func TestJoinSplit(t *testing.T) {
	parts := []string{"a", "!", "~", "word", "0-271", all(33, 126), strings.Repeat("x", 1000)}
	for _, places := range upTo(4, all(0, len(parts)-1)) {
		var l []string
		var want []word.Word
		at := 0
		for _, place := range []byte(places) {
			l = append(l, parts[place])
			want = append(want, word.Word{At: at, Text: parts[place]})
			at += len(parts[place]) + 1
		}
		line := word.Join(l...)
		if got, at, err := word.Split(line); !slices.Equal(got, want) || at != 0 || err != api.OK {
			t.Errorf("Split(%.40q) = %.40v, %d, %d, want %.40v", line, got, at, err, want)
		}
	}
}

func TestNumber(t *testing.T) {
	for _, c := range []struct {
		s    string
		most int
		want int
		err  api.Errno
	}{
		{"0", 9, 0, api.OK},
		{"1", 9, 1, api.OK},
		{"9", 9, 9, api.OK},
		{"10", 99, 10, api.OK},
		{"99", 99, 99, api.OK},
		{"40320", 40320, 40320, api.OK},
		{"1234567890", math.MaxInt, 1234567890, api.OK},
		{"9223372036854775806", math.MaxInt, math.MaxInt - 1, api.OK},
		{"9223372036854775807", math.MaxInt, math.MaxInt, api.OK},
		{"9223372036854775806", math.MaxInt - 1, math.MaxInt - 1, api.OK},
		// Above most.
		{"10", 9, 0, api.ErrRange},
		{"100", 99, 0, api.ErrRange},
		{"40321", 40320, 0, api.ErrRange},
		{"9223372036854775807", math.MaxInt - 1, 0, api.ErrRange},
		// Beyond 64 bits.
		{"9223372036854775808", math.MaxInt, 0, api.ErrRange},
		{"9223372036854775810", math.MaxInt, 0, api.ErrRange},
		{"9223372036854775817", math.MaxInt, 0, api.ErrRange},
		{"10000000000000000000", math.MaxInt, 0, api.ErrRange},
		{"18446744073709551615", math.MaxInt, 0, api.ErrRange},
		{"18446744073709551616", math.MaxInt, 0, api.ErrRange},
		{"18446744073709551617", math.MaxInt, 0, api.ErrRange},
		{"99999999999999999999", math.MaxInt, 0, api.ErrRange},
		{"340282366920938463463374607431768211457", math.MaxInt, 0, api.ErrRange},
		{"18446744073709551617", 5, 0, api.ErrRange},
		{"1" + strings.Repeat("0", 100000), math.MaxInt, 0, api.ErrRange},
		// most is 0, or below.
		{"0", 0, 0, api.OK},
		{"1", 0, 0, api.ErrRange},
		{"0", -1, 0, api.ErrRange},
		{"1", -1, 0, api.ErrRange},
		{"0", -10, 0, api.ErrRange},
		{"0", math.MinInt, 0, api.ErrRange},
		{"9223372036854775808", math.MinInt, 0, api.ErrRange},
	} {
		if got, err := word.Number(c.s, c.most); got != c.want || err != c.err {
			t.Errorf("Number(%.40q, %d) = %d, %d, want %d, %d", c.s, c.most, got, err, c.want, c.err)
		}
	}
}

func TestNumberErrors(t *testing.T) {
	for _, s := range []string{
		"", " ",
		// Noughts ahead.
		"00", "01", "000", "007", "00000000000000000000000000001", "099999999999999999999",
		// Signs ahead, or elsewhere.
		"-", "+", "-0", "+0", "-1", "+1", "--1", "1-", "1+1", "5-3", "-9223372036854775808", "-99999999999999999999",
		// Blanks.
		" 1", "1 ", "1 2", "\t1", "1\n", "1\r", "1\u00a0", "0 ", " 0",
		// Other bytes.
		"a", "a1", "1a", "12x34", "/", ":", "1/", "1:", "0x1", "0b1", "0o7", "1_000", "1,000", "1.0", ".5", "1e3", "1E3", "NaN", "inf", "½", "²", "٣", "１", "1\x00", "\x00", "\xff", "1\xff", "\x801", "\xb1",
		// Beyond 64 bits as well: the form is told of first.
		"99999999999999999999x", "x99999999999999999999", "99999999999999999999 ", "9999999999 9999999999", "99999999999999999999.5", strings.Repeat("9", 100000) + "-",
	} {
		for _, most := range []int{math.MaxInt, 40320, 1, 0, -1, math.MinInt} {
			if got, err := word.Number(s, most); got != 0 || err != api.ErrForm {
				t.Errorf("Number(%.40q, %d) = %d, %d, want ErrForm", s, most, got, err)
			}
		}
	}
}

var numberForm = regexp.MustCompile(`^(0|[1-9][0-9]*)$`)

// plainNumber: by numbers without limits.
func plainNumber(s string, most int) (int, api.Errno) {
	if !numberForm.MatchString(s) {
		return 0, api.ErrForm
	}
	n, _ := new(big.Int).SetString(s, 10)
	if n.Cmp(big.NewInt(int64(most))) > 0 {
		return 0, api.ErrRange
	}
	return int(n.Int64()), api.OK
}

func checkNumber(t *testing.T, s string, most int) {
	t.Helper()
	want, wantErr := plainNumber(s, most)
	if got, err := word.Number(s, most); got != want || err != wantErr {
		t.Errorf("Number(%.40q, %d) = %d, %d, want %d, %d", s, most, got, err, want, wantErr)
	}
}

func TestNumberAll(t *testing.T) {
	texts := append(upTo(5, "0159 -+x/:"), upTo(2, all(0, 255))...)
	for _, s := range texts {
		for _, most := range []int{math.MaxInt, 1051, 50, 5, 0, -1, math.MinInt} {
			checkNumber(t, s, most)
		}
	}
	for _, n := range edges() {
		for d := -12; d <= 12; d++ {
			s := new(big.Int).Add(big.NewInt(int64(n)), big.NewInt(int64(d))).String()
			for _, most := range append(edges(), n) {
				for _, s := range []string{s, "0" + s, "-" + s, s + "0", "1" + s, s + "x"} {
					checkNumber(t, s, most)
				}
			}
		}
	}
}

func TestPrint(t *testing.T) {
	for _, c := range []struct {
		n    int
		want string
	}{
		{0, "0"},
		{1, "1"},
		{9, "9"},
		{10, "10"},
		{99, "99"},
		{100, "100"},
		{40320, "40320"},
		{1000000007, "1000000007"},
		{-1, "-1"},
		{-9, "-9"},
		{-10, "-10"},
		{-40320, "-40320"},
		{math.MaxInt, "9223372036854775807"},
		{math.MaxInt - 1, "9223372036854775806"},
		{-math.MaxInt, "-9223372036854775807"},
		{math.MinInt, "-9223372036854775808"},
	} {
		if got := word.Print(c.n); got != c.want {
			t.Errorf("Print(%d) = %q, want %q", c.n, got, c.want)
		}
	}
}

// TestPrintNumber: what is printed, and P6.5: it is read as it was, and below 0 it is no number's text.
func TestPrintNumber(t *testing.T) {
	l := edges()
	for n := range 50000 {
		l = append(l, n, -n)
	}
	for _, n := range l {
		s := word.Print(n)
		if want := big.NewInt(int64(n)).String(); s != want {
			t.Errorf("Print(%d) = %q, want %q", n, s, want)
		}
		for _, most := range []int{n, math.MaxInt} {
			want, wantErr := n, api.OK
			if n < 0 {
				want, wantErr = 0, api.ErrForm
			}
			if got, err := word.Number(s, most); got != want || err != wantErr {
				t.Errorf("Number(%q, %d) = %d, %d, want %d, %d", s, most, got, err, want, wantErr)
			}
		}
		if n > 0 {
			if got, err := word.Number(s, n-1); got != 0 || err != api.ErrRange {
				t.Errorf("Number(%q, %d) = %d, %d, want ErrRange", s, n-1, got, err)
			}
		}
	}
}

func span(from, to int) api.Span { return api.Span{From: from, To: to} }

func TestSpan(t *testing.T) {
	for _, c := range []struct {
		s    string
		want api.Span
		err  api.Errno
	}{
		{"60-90", span(60, 90), api.OK},
		{"0-1", span(0, 1), api.OK},
		{"0-40320", span(0, 40320), api.OK},
		{"40319-40320", span(40319, 40320), api.OK},
		{"9-10", span(9, 10), api.OK},
		{"999-1000", span(999, 1000), api.OK},
		// Above MaxTime, on one side or both.
		{"0-40321", span(0, 0), api.ErrRange},
		{"40320-40321", span(0, 0), api.ErrRange},
		{"0-100000", span(0, 0), api.ErrRange},
		{"40321-40322", span(0, 0), api.ErrRange},
		// Beyond 64 bits, on one side or both.
		{"0-9223372036854775807", span(0, 0), api.ErrRange},
		{"0-9223372036854775808", span(0, 0), api.ErrRange},
		{"0-18446744073709551617", span(0, 0), api.ErrRange},
		{"18446744073709551616-1", span(0, 0), api.ErrRange},
		{"18446744073709551616-18446744073709551617", span(0, 0), api.ErrRange},
		{"1" + strings.Repeat("0", 1000) + "-2" + strings.Repeat("0", 1000), span(0, 0), api.ErrRange},
		// Not right.
		{"0-0", span(0, 0), api.ErrSpan},
		{"5-5", span(0, 0), api.ErrSpan},
		{"40320-40320", span(0, 0), api.ErrSpan},
		{"1-0", span(0, 0), api.ErrSpan},
		{"90-60", span(0, 0), api.ErrSpan},
		{"10-9", span(0, 0), api.ErrSpan},
		{"40320-0", span(0, 0), api.ErrSpan},
		// Not right, and above MaxTime: that is told of first.
		{"40321-40321", span(0, 0), api.ErrRange},
		{"40321-40320", span(0, 0), api.ErrRange},
		{"40321-0", span(0, 0), api.ErrRange},
		{"40322-40321", span(0, 0), api.ErrRange},
		{"99999999999999999999-99999999999999999999", span(0, 0), api.ErrRange},
	} {
		if got, err := word.Span(c.s); got != c.want || err != c.err {
			t.Errorf("Span(%.40q) = %v, %d, want %v, %d", c.s, got, err, c.want, c.err)
		}
	}
}

func TestSpanErrors(t *testing.T) {
	for _, s := range []string{
		// Without a minus.
		"", "5", "60", "6090", "60 90", "60:90", "60+90", "60/90", "60..90", "60–90", "60−90", "60_90", "60,90", "a", "99999999999999999999",
		// With two, or more.
		"--", "---", "1--2", "-1-2", "1-2-", "1-2-3", "-1--2", "--1-2", "1-2--", "1---2", "60-90-120", "-60-90",
		// With nothing on a side.
		"-", "5-", "-5", "0-", "-0", "60-", "-90",
		// With noughts ahead.
		"00-1", "0-00", "0-01", "01-2", "1-02", "060-90", "60-090", "00-00",
		// With blanks, signs or other bytes.
		" 60-90", "60-90 ", "60 -90", "60- 90", "60 - 90", " - ", "+60-90", "60-+90", "60-90\n", "\t60-90", "a-b", "a-5", "5-a", "60-9o", "6x-90", "0x1-2", "1-2.0", "1-2\x00", "\xff-\xff", "٦-٩",
		// Above MaxTime, or not right, as well: the form is told of first.
		"40321-", "-40321", "40321-x", "x-40321", "40321-090", "090-40321", "40321--1", "40321-40321-", "99999999999999999999-", "-99999999999999999999", "99999999999999999999-x", "x-99999999999999999999",
		"90-060", "5-5-5", "9-5 ", "05-5", "5-05", "00-0", "40321-00",
	} {
		if got, err := word.Span(s); got != span(0, 0) || err != api.ErrForm {
			t.Errorf("Span(%q) = %v, %d, want ErrForm", s, got, err)
		}
	}
}

var spanForm = regexp.MustCompile(`^(0|[1-9][0-9]*)-(0|[1-9][0-9]*)$`)

// plainSpan: by numbers without limits.
func plainSpan(s string) (api.Span, api.Errno) {
	parts := spanForm.FindStringSubmatch(s)
	if parts == nil {
		return span(0, 0), api.ErrForm
	}
	from, _ := new(big.Int).SetString(parts[1], 10)
	to, _ := new(big.Int).SetString(parts[2], 10)
	if most := big.NewInt(40320); from.Cmp(most) > 0 || to.Cmp(most) > 0 {
		return span(0, 0), api.ErrRange
	}
	if from.Cmp(to) >= 0 {
		return span(0, 0), api.ErrSpan
	}
	return span(int(from.Int64()), int(to.Int64())), api.OK
}

// checkSpan: which span it is, and P6.5: that is told by the same text.
func checkSpan(t *testing.T, s string) {
	t.Helper()
	want, wantErr := plainSpan(s)
	got, err := word.Span(s)
	if got != want || err != wantErr {
		t.Errorf("Span(%.40q) = %v, %d, want %v, %d", s, got, err, want, wantErr)
	}
	if err == api.OK && word.Told(got) != s {
		t.Errorf("Span(%q) is told as %q", s, word.Told(got))
	}
}

func TestSpanAll(t *testing.T) {
	for _, s := range upTo(6, "0-19 x") {
		checkSpan(t, s)
	}
	sides := []string{"", "0", "1", "00", "01", "-1", "+1", " 1", "1 ", "x", "40319", "40320", "40321", "040320", "403200", "99999", "100000", "9223372036854775807", "9223372036854775808", "18446744073709551615", "18446744073709551616", "18446744073709551617", "99999999999999999999", "99999999999999999999x"}
	for _, from := range sides {
		for _, between := range []string{"", "-", "--", " ", ":", " - "} {
			for _, to := range sides {
				checkSpan(t, from+between+to)
			}
		}
	}
	for b := range 256 {
		s := one(b)
		for _, s := range []string{s, s + "60-90", "6" + s + "0-90", "60" + s + "-90", "60" + s + "90", "60-" + s + "90", "60-9" + s, "60-90" + s, s + "-" + s} {
			checkSpan(t, s)
		}
	}
}

func TestTold(t *testing.T) {
	for _, c := range []struct {
		s    api.Span
		want string
	}{
		{span(60, 90), "60-90"},
		{span(0, 1), "0-1"},
		{span(0, 40320), "0-40320"},
		// Not right, or beyond what is read.
		{span(0, 0), "0-0"},
		{span(90, 60), "90-60"},
		{span(5, 5), "5-5"},
		{span(40320, 40321), "40320-40321"},
		{span(-1, 2), "-1-2"},
		{span(1, -2), "1--2"},
		{span(-1, -2), "-1--2"},
		{span(-2, -1), "-2--1"},
		{span(math.MinInt, math.MaxInt), "-9223372036854775808-9223372036854775807"},
		{span(math.MaxInt, math.MinInt), "9223372036854775807--9223372036854775808"},
	} {
		if got := word.Told(c.s); got != c.want {
			t.Errorf("Told(%v) = %q, want %q", c.s, got, c.want)
		}
	}
}

// TestToldSpan: what is told, and P6.5: a span that is right, and not beyond MaxTime, is read as it was.
func TestToldSpan(t *testing.T) {
	ends := append(edges(), 2, 7, 42, 123, 20160, 30240, 40300)
	for n := range 60 {
		ends = append(ends, n*683)
	}
	for _, from := range ends {
		for _, to := range ends {
			s := word.Told(span(from, to))
			if want := fmt.Sprintf("%d-%d", from, to); s != want {
				t.Errorf("Told of %d to %d = %q, want %q", from, to, s, want)
			}
			want, wantErr := span(from, to), api.OK
			switch {
			case from < 0 || to < 0:
				want, wantErr = span(0, 0), api.ErrForm
			case from > 40320 || to > 40320:
				want, wantErr = span(0, 0), api.ErrRange
			case from >= to:
				want, wantErr = span(0, 0), api.ErrSpan
			}
			if got, err := word.Span(s); got != want || err != wantErr {
				t.Errorf("Span(%q) = %v, %d, want %v, %d", s, got, err, want, wantErr)
			}
		}
	}
}

// memory: what a test's text lies over; at package level, as the language copies some texts that lie on a function's stack, so that sharing would not be seen.
var memory []byte

// over: a text that lies over the memory, which holds these bytes, so that a write into either is seen in both.
func over(s string) string {
	memory = []byte(s)
	return unsafe.String(&memory[0], len(memory))
}

// TestReadsOnly: the bytes around a text that is a piece of a longer one are nothing to it, and all reads as before.
func TestReadsOnly(t *testing.T) {
	before := "\na b\n 160-90 x"
	whole := over(before)
	lines, at, err := word.Lines(whole[1:5])
	if !slices.Equal(lines, []string{"a b"}) || at != 0 || err != api.OK {
		t.Errorf("Lines = %q, %d, %d", lines, at, err)
	}
	if lines, at, err := word.Lines(whole[1:4]); len(lines) > 0 || at != 3 || err != api.ErrEnd {
		t.Errorf("Lines = %q, %d, %d", lines, at, err)
	}
	split, at, err := word.Split(whole[1:4])
	if !slices.Equal(split, words(0, "a", 2, "b")) || at != 0 || err != api.OK {
		t.Errorf("Split = %v, %d, %d", split, at, err)
	}
	if split, at, err := word.Split(whole[1:5]); len(split) > 0 || at != 3 || err != api.ErrForm {
		t.Errorf("Split = %v, %d, %d", split, at, err)
	}
	if split, at, err := word.Split(whole[6:13]); len(split) > 0 || at != 7 || err != api.ErrForm {
		t.Errorf("Split = %v, %d, %d", split, at, err)
	}
	if got := word.Join(whole[1:2], whole[7:12]); got != "a 60-90" {
		t.Errorf("Join = %q", got)
	}
	if got, err := word.Number(whole[7:9], 60); got != 60 || err != api.OK {
		t.Errorf("Number = %d, %d", got, err)
	}
	if got, err := word.Number(whole[6:9], 60); got != 0 || err != api.ErrRange {
		t.Errorf("Number = %d, %d", got, err)
	}
	if got, err := word.Number(whole[10:13], 90); got != 0 || err != api.ErrForm {
		t.Errorf("Number = %d, %d", got, err)
	}
	if got, err := word.Span(whole[7:12]); got != span(60, 90) || err != api.OK {
		t.Errorf("Span = %v, %d", got, err)
	}
	if got, err := word.Span(whole[6:12]); got != span(0, 0) || err != api.ErrSpan {
		t.Errorf("Span = %v, %d", got, err)
	}
	if got, err := word.Span(whole[6:13]); got != span(0, 0) || err != api.ErrForm {
		t.Errorf("Span = %v, %d", got, err)
	}
	if string(memory) != before {
		t.Errorf("the memory became %q, want %q", memory, before)
	}
}

// TestJoinReadsOnly: the texts that are joined, and what lies behind them in their list's memory, read as before, and nothing of that is joined.
func TestJoinReadsOnly(t *testing.T) {
	before := []string{"a", "", "b", "behind", "it"}
	l := slices.Clone(before)
	if got := word.Join(l[:3]...); got != "a  b" {
		t.Errorf("Join = %q", got)
	}
	if got := word.Join(l[:0]...); got != "" {
		t.Errorf("Join = %q", got)
	}
	if !slices.Equal(l, before) {
		t.Errorf("the list became %q, want %q", l, before)
	}
}

// TestToldReadsOnly: a span that is told, right or not, reads as before.
func TestToldReadsOnly(t *testing.T) {
	s := span(90, 60)
	if got := word.Told(s); got != "90-60" || s != span(90, 60) {
		t.Errorf("Told = %q of what is %v now", got, s)
	}
}

// TestNewMemory: what is written into the argument's memory behind a call is in no answer.
func TestNewMemory(t *testing.T) {
	whole := over("ab cd\nef\n")
	lines, _, _ := word.Lines(whole)
	split, _, _ := word.Split(whole[:5])
	alone, _, _ := word.Split(whole[:2])
	joined, same := word.Join(whole[:2], whole[3:5]), word.Join(whole[:2])
	for i := range memory {
		memory[i] = 'z'
	}
	if !slices.Equal(lines, []string{"ab cd", "ef"}) || joined != "ab cd" || same != "ab" {
		t.Errorf("behind a write there are %q, %q and %q", lines, joined, same)
	}
	if !slices.Equal(split, words(0, "ab", 3, "cd")) || !slices.Equal(alone, words(0, "ab")) {
		t.Errorf("behind a write there are %v and %v", split, alone)
	}
}

// TestNoListTwice: what is written into one answer is in no other.
func TestNoListTwice(t *testing.T) {
	lines, _, _ := word.Lines("a\nb\n")
	split, _, _ := word.Split("a b")
	_ = append(lines[:1], "z")
	_ = append(split[:1], word.Word{At: 9, Text: "z"})
	lines[0], split[0] = "y", word.Word{At: 8, Text: "y"}
	if got, _, _ := word.Lines("a\nb\n"); !slices.Equal(got, []string{"a", "b"}) {
		t.Errorf("beside an answer that was written into, Lines is %q", got)
	}
	if got, _, _ := word.Split("a b"); !slices.Equal(got, words(0, "a", 2, "b")) {
		t.Errorf("beside an answer that was written into, Split is %v", got)
	}
}
