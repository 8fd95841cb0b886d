package week_test

import (
	"math"
	"math/big"
	"slices"
	"testing"

	"haulier/api"
	"haulier/week"
)

func span(from, to int) api.Span { return api.Span{From: from, To: to} }

// numbers: small ones, those beside the limits, and those around each power of two, up to the ends of 64 bits.
func numbers() []int {
	l := []int{math.MinInt, math.MinInt + 1, math.MaxInt - 1, math.MaxInt, 3037000499, 3037000500}
	for n := -3; n <= 12; n++ {
		l = append(l, n)
	}
	for _, n := range []int{60, api.Day, api.Week, 3 * api.Week, api.MaxTime, math.MaxInt / api.Week, math.MaxInt / 2} {
		l = append(l, n-1, n, n+1, -n)
	}
	for k := 4; k < 63; k += 3 {
		n := 1 << k
		l = append(l, n-1, n, n+1, -n)
	}
	return l
}

func TestOf(t *testing.T) {
	for _, c := range []struct {
		m, length, want int
		err             api.Errno
	}{
		{0, api.Week, 0, api.OK},
		{api.Week - 1, api.Week, 0, api.OK},
		{api.Week, api.Week, 1, api.OK},
		{api.MaxTime - 1, api.Week, 3, api.OK},
		{api.MaxTime, api.Week, 4, api.OK},
		// A minute may be beyond MaxTime.
		{api.MaxTime + api.Week, api.Week, 5, api.OK},
		{13, 5, 2, api.OK},
		{14, 5, 2, api.OK},
		{15, 5, 3, api.OK},
		{0, 1, 0, api.OK},
		{7, 1, 7, api.OK},
		{math.MaxInt, 1, math.MaxInt, api.OK},
		{math.MaxInt, math.MaxInt, 1, api.OK},
		{math.MaxInt - 1, math.MaxInt, 0, api.OK},
		{0, math.MaxInt, 0, api.OK},
		// A length below 1.
		{7, 0, 0, api.ErrArg},
		{0, 0, 0, api.ErrArg},
		{7, -1, 0, api.ErrArg},
		{7, math.MinInt, 0, api.ErrArg},
		// A minute below 0.
		{-1, 5, 0, api.ErrRange},
		{-5, 5, 0, api.ErrRange},
		{-1, 1, 0, api.ErrRange},
		{math.MinInt, 1, 0, api.ErrRange},
		{math.MinInt, math.MaxInt, 0, api.ErrRange},
		// Both: the length is told of first.
		{-1, 0, 0, api.ErrArg},
		{-5, -5, 0, api.ErrArg},
		{math.MinInt, -1, 0, api.ErrArg},
	} {
		if got, err := week.Of(c.m, c.length); got != c.want || err != c.err {
			t.Errorf("Of(%d, %d) = %d, %d, want %d, %d", c.m, c.length, got, err, c.want, c.err)
		}
	}
}

func TestBegin(t *testing.T) {
	for _, c := range []struct {
		w, length, want int
		err             api.Errno
	}{
		{0, api.Week, 0, api.OK},
		{1, api.Week, api.Week, api.OK},
		{4, api.Week, api.MaxTime, api.OK},
		{5, api.Week, api.MaxTime + api.Week, api.OK},
		{3, 5, 15, api.OK},
		{0, 1, 0, api.OK},
		{math.MaxInt, 1, math.MaxInt, api.OK},
		// Of the last week that begins within 64 bits, the last minute may be beyond them.
		{1, math.MaxInt, math.MaxInt, api.OK},
		{2, math.MaxInt, 0, api.ErrOver},
		{1, 1<<62 + 1, 1<<62 + 1, api.OK},
		{2, 1<<62 + 1, 0, api.ErrOver},
		{math.MaxInt / 2, 2, math.MaxInt - 1, api.OK},
		{math.MaxInt/2 + 1, 2, 0, api.ErrOver},
		{math.MaxInt / api.Week, api.Week, math.MaxInt - math.MaxInt%api.Week, api.OK},
		{math.MaxInt/api.Week + 1, api.Week, 0, api.ErrOver},
		// What wraps round past 0 is beyond 64 bits as well.
		{1 << 32, 1 << 32, 0, api.ErrOver},
		{1<<32 + 1, 1 << 32, 0, api.ErrOver},
		{math.MaxInt, math.MaxInt, 0, api.ErrOver},
		// A length below 1.
		{1, 0, 0, api.ErrArg},
		{0, 0, 0, api.ErrArg},
		{0, -1, 0, api.ErrArg},
		{math.MaxInt, math.MinInt, 0, api.ErrArg},
		// A week below 0.
		{-1, 1, 0, api.ErrRange},
		{-1, api.Week, 0, api.ErrRange},
		{math.MinInt, 1, 0, api.ErrRange},
		// Several: the length is told of first, then the week.
		{-1, 0, 0, api.ErrArg},
		{-1, -1, 0, api.ErrArg},
		{math.MinInt, math.MinInt, 0, api.ErrArg},
		{math.MinInt, math.MaxInt, 0, api.ErrRange},
		{math.MinInt, 2, 0, api.ErrRange},
	} {
		if got, err := week.Begin(c.w, c.length); got != c.want || err != c.err {
			t.Errorf("Begin(%d, %d) = %d, %d, want %d, %d", c.w, c.length, got, err, c.want, c.err)
		}
	}
}

// plainError: what both calls tell of a minute or a week, and a length.
func plainError(n, length int) api.Errno {
	if length < 1 {
		return api.ErrArg
	}
	if n < 0 {
		return api.ErrRange
	}
	return api.OK
}

// TestOfBeginExact: against big numbers; the week that a minute is in begins not behind it, and the next one does.
func TestOfBeginExact(t *testing.T) {
	for _, n := range numbers() {
		for _, length := range numbers() {
			w, err := week.Of(n, length)
			if err != plainError(n, length) {
				t.Errorf("Of(%d, %d) tells %d", n, length, err)
			}
			begin, beginErr := week.Begin(n, length)
			if err != api.OK {
				if w != 0 || begin != 0 || beginErr != err {
					t.Errorf("of %d, %d there are %d, and %d, %d", n, length, w, begin, beginErr)
				}
				continue
			}
			from, long, at := new(big.Int), big.NewInt(int64(length)), big.NewInt(int64(n))
			from.Mul(big.NewInt(int64(w)), long)
			if to := new(big.Int).Add(from, long); from.Cmp(at) > 0 || to.Cmp(at) <= 0 {
				t.Errorf("Of(%d, %d) = %d, which has the minutes from %v on, below %v", n, length, w, from, to)
			}
			want, wantErr := 0, api.ErrOver
			if exact := new(big.Int).Mul(at, long); exact.IsInt64() {
				want, wantErr = int(exact.Int64()), api.OK
			}
			if begin != want || beginErr != wantErr {
				t.Errorf("Begin(%d, %d) = %d, %d, want %d, %d", n, length, begin, beginErr, want, wantErr)
			}
		}
	}
}

func TestCut(t *testing.T) {
	for _, c := range []struct {
		s      api.Span
		length int
		want   []api.Span
	}{
		// In one week.
		{span(3, 7), 10, []api.Span{span(3, 7)}},
		{span(13, 17), 10, []api.Span{span(13, 17)}},
		{span(0, 1), 1, []api.Span{span(0, 1)}},
		{span(0, 40320), 40320, []api.Span{span(0, 40320)}},
		{span(0, 40320), 40321, []api.Span{span(0, 40320)}},
		{span(5, 40320), math.MaxInt, []api.Span{span(5, 40320)}},
		{span(40319, 40320), math.MaxInt, []api.Span{span(40319, 40320)}},
		// It begins, or ends, or both, where a week begins.
		{span(10, 17), 10, []api.Span{span(10, 17)}},
		{span(13, 20), 10, []api.Span{span(13, 20)}},
		{span(10, 20), 10, []api.Span{span(10, 20)}},
		{span(0, 10), 10, []api.Span{span(0, 10)}},
		{span(10, 30), 10, []api.Span{span(10, 20), span(20, 30)}},
		// A single minute beside where a week begins.
		{span(9, 10), 10, []api.Span{span(9, 10)}},
		{span(10, 11), 10, []api.Span{span(10, 11)}},
		{span(9, 11), 10, []api.Span{span(9, 10), span(10, 11)}},
		// Over several weeks.
		{span(7, 13), 10, []api.Span{span(7, 10), span(10, 13)}},
		{span(7, 43), 10, []api.Span{span(7, 10), span(10, 20), span(20, 30), span(30, 40), span(40, 43)}},
		{span(2, 5), 1, []api.Span{span(2, 3), span(3, 4), span(4, 5)}},
		{
			span(0, api.MaxTime), api.Week,
			[]api.Span{span(0, 10080), span(10080, 20160), span(20160, 30240), span(30240, 40320)},
		},
		{span(10000, 30300), api.Week, []api.Span{span(10000, 10080), span(10080, 20160), span(20160, 30240), span(30240, 30300)}},
		{span(40000, 40320), 40319, []api.Span{span(40000, 40319), span(40319, 40320)}},
	} {
		if got, err := week.Cut(c.s, c.length); !slices.Equal(got, c.want) || err != api.OK {
			t.Errorf("Cut(%v, %d) = %v, %d, want %v", c.s, c.length, got, err, c.want)
		}
	}
}

func TestCutErrors(t *testing.T) {
	for _, c := range []struct {
		s      api.Span
		length int
		err    api.Errno
	}{
		// A length below 1.
		{span(3, 7), 0, api.ErrArg},
		{span(3, 7), -1, api.ErrArg},
		{span(3, 7), math.MinInt, api.ErrArg},
		// A span that is not right.
		{span(0, 0), 10, api.ErrSpan},
		{span(5, 5), 10, api.ErrSpan},
		{span(7, 3), 10, api.ErrSpan},
		{span(20, 10), 10, api.ErrSpan},
		{span(api.MaxTime, api.MaxTime), 10, api.ErrSpan},
		// From below 0, or To above MaxTime, or both.
		{span(-1, 5), 10, api.ErrRange},
		{span(-5, -1), 10, api.ErrRange},
		{span(-1, 0), 1, api.ErrRange},
		{span(math.MinInt, 5), 10, api.ErrRange},
		{span(0, api.MaxTime+1), 10, api.ErrRange},
		{span(api.MaxTime, api.MaxTime+1), 1, api.ErrRange},
		{span(5, math.MaxInt), 1, api.ErrRange},
		{span(math.MaxInt-1, math.MaxInt), math.MaxInt, api.ErrRange},
		{span(-1, api.MaxTime+1), 10, api.ErrRange},
		{span(math.MinInt, math.MaxInt), 1, api.ErrRange},
		// Several: the length is told of first, then that it is not right.
		{span(7, 3), 0, api.ErrArg},
		{span(-1, 5), 0, api.ErrArg},
		{span(0, api.MaxTime+1), -1, api.ErrArg},
		{span(math.MaxInt, math.MinInt), math.MinInt, api.ErrArg},
		{span(-1, -1), 10, api.ErrSpan},
		{span(-1, -5), 10, api.ErrSpan},
		{span(api.MaxTime+5, api.MaxTime+1), 10, api.ErrSpan},
		{span(math.MaxInt, math.MinInt), 1, api.ErrSpan},
		{span(math.MaxInt, math.MaxInt), 1, api.ErrSpan},
	} {
		if got, err := week.Cut(c.s, c.length); len(got) > 0 || err != c.err {
			t.Errorf("Cut(%v, %d) = %v, %d, want %d", c.s, c.length, got, err, c.err)
		}
	}
}

// plainCut: a minute that begins a week begins a piece; so no minute is reckoned from another.
func plainCut(s api.Span, length int) []api.Span {
	var l []api.Span
	for m := s.From; m < s.To; m++ {
		if len(l) == 0 || m%length == 0 {
			l = append(l, span(m, m))
		}
		l[len(l)-1].To = m + 1
	}
	return l
}

func TestCutAll(t *testing.T) {
	for length := 1; length <= 14; length++ {
		for from := 0; from <= 30; from++ {
			for to := from + 1; to <= 45; to++ {
				checkCut(t, span(from, to), length)
			}
		}
	}
	for _, length := range []int{1, 7, 1440, 10079, 10080, 10081, 20160, 40319, 40320, 40321, math.MaxInt} {
		for _, from := range []int{0, 1, 1440, 10079, 10080, 10081, 40318, 40319} {
			for _, to := range []int{from + 1, 20159, 20160, 20161, 40319, 40320} {
				if from < to {
					checkCut(t, span(from, to), length)
				}
			}
		}
	}
}

// checkCut: what the cut is, and P4.4: each piece lies in one week, and together they are the span.
func checkCut(t *testing.T, s api.Span, length int) {
	t.Helper()
	got, err := week.Cut(s, length)
	if want := plainCut(s, length); !slices.Equal(got, want) || err != api.OK {
		t.Errorf("Cut(%v, %d) = %v, %d, want %v", s, length, got, err, want)
	}
	at := s.From
	for _, p := range got {
		first, firstErr := week.Of(p.From, length)
		last, lastErr := week.Of(p.To-1, length)
		if p.From != at || p.From >= p.To || first != last || firstErr != api.OK || lastErr != api.OK {
			t.Errorf("Cut(%v, %d) has %v, in weeks %d to %d, behind %d", s, length, p, first, last, at)
		}
		at = p.To
	}
	if at != s.To {
		t.Errorf("Cut(%v, %d) ends at %d", s, length, at)
	}
}

// TestCutNewMemory: what is handed in reads as before, and what is written into one answer is in no other.
func TestCutNewMemory(t *testing.T) {
	s := span(7, 33)
	a, _ := week.Cut(s, 10)
	want := slices.Clone(a)
	b, _ := week.Cut(s, 10)
	for i := range a {
		a[i] = span(-1, -2)
	}
	_ = append(a[:1], span(-3, -4))
	c, _ := week.Cut(s, 10)
	if !slices.Equal(b, want) || !slices.Equal(c, want) || s != span(7, 33) {
		t.Errorf("beside an answer that was written into, Cut of %v is %v, and then %v, want %v", s, b, c, want)
	}
}

// names: of each minute from 0 to MaxTime, counted up as a clock does, so that the tests lean on nothing that they test.
func names() []string {
	days := []string{"Mon", "Tue", "Wed", "Thu", "Fri", "Sat", "Sun"}
	var l []string
	digits := [4]byte{'0', '0', '0', '0'}
	number, day := byte('1'), 0
	for range api.MaxTime + 1 {
		l = append(l, string(number)+" "+days[day]+" "+string(digits[:2])+":"+string(digits[2:]))
		digits[3]++
		if digits[3] > '9' {
			digits[3], digits[2] = '0', digits[2]+1
		}
		if digits[2] == '6' {
			digits[2], digits[1] = '0', digits[1]+1
		}
		if digits[1] > '9' {
			digits[1], digits[0] = '0', digits[0]+1
		}
		if digits == [4]byte{'2', '4', '0', '0'} {
			digits, day = [4]byte{'0', '0', '0', '0'}, day+1
		}
		if day == len(days) {
			day, number = 0, number+1
		}
	}
	return l
}

// named: the minutes by their names.
func named() map[string]int {
	minutes := map[string]int{}
	for m, name := range names() {
		minutes[name] = m
	}
	return minutes
}

func TestName(t *testing.T) {
	for _, c := range []struct {
		m    int
		want string
		err  api.Errno
	}{
		{0, "1 Mon 00:00", api.OK},
		{1, "1 Mon 00:01", api.OK},
		{59, "1 Mon 00:59", api.OK},
		{60, "1 Mon 01:00", api.OK},
		{1439, "1 Mon 23:59", api.OK},
		{1440, "1 Tue 00:00", api.OK},
		{1505, "1 Tue 01:05", api.OK},
		{2*1440 + 12*60 + 34, "1 Wed 12:34", api.OK},
		{3*1440 + 600, "1 Thu 10:00", api.OK},
		{4*1440 + 9, "1 Fri 00:09", api.OK},
		{5*1440 + 10, "1 Sat 00:10", api.OK},
		{10079, "1 Sun 23:59", api.OK},
		{10080, "2 Mon 00:00", api.OK},
		{40319, "4 Sun 23:59", api.OK},
		{40320, "5 Mon 00:00", api.OK},
		{40321, "", api.ErrRange},
		{50400, "", api.ErrRange},
		{-1, "", api.ErrRange},
		{-10080, "", api.ErrRange},
		{math.MaxInt, "", api.ErrRange},
		{math.MinInt, "", api.ErrRange},
	} {
		if got, err := week.Name(c.m); got != c.want || err != c.err {
			t.Errorf("Name(%d) = %q, %d, want %q, %d", c.m, got, err, c.want, c.err)
		}
	}
}

// TestNameParseAll: all minutes, and P4.4: each name is parsed as its minute.
func TestNameParseAll(t *testing.T) {
	for m, want := range names() {
		got, err := week.Name(m)
		if got != want || err != api.OK {
			t.Errorf("Name(%d) = %q, %d, want %q", m, got, err, want)
		}
		if back, err := week.Parse(got); back != m || err != api.OK {
			t.Errorf("Parse(%q) = %d, %d, want %d", got, back, err, m)
		}
	}
}

func TestParse(t *testing.T) {
	for _, c := range []struct {
		s    string
		want int
	}{
		{"1 Mon 00:00", 0},
		{"1 Tue 01:05", 1505},
		{"3 Thu 19:58", 2*10080 + 3*1440 + 19*60 + 58},
		{"4 Sun 23:59", 40319},
		{"5 Mon 00:00", 40320},
	} {
		if got, err := week.Parse(c.s); got != c.want || err != api.OK {
			t.Errorf("Parse(%q) = %d, %d, want %d", c.s, got, err, c.want)
		}
	}
}

func TestParseErrors(t *testing.T) {
	for _, s := range []string{
		"", " ", "1", "1 ", "1 Mon", "1 Mon ", "1 Mon 00", "1 Mon 00:", "1505", "Tue 01:05", "01:05",
		// A minute beyond MaxTime, or below 0.
		"5 Mon 00:01", "5 Mon 01:00", "5 Tue 00:00", "5 Sun 23:59", "6 Mon 00:00", "9 Mon 00:00",
		"0 Mon 00:00", "0 Sun 23:59", "-1 Mon 00:00", "10 Mon 00:00", "1000000000000000000000 Mon 00:00",
		// No such day, hour or minute.
		"1 Foo 00:00", "1 Mo 00:00", "1 Mond 00:00", "1 Monday 00:00", "1 Mue 00:00", "1 1 00:00",
		"1 Mon 24:00", "1 Mon 24:01", "1 Mon 25:00", "1 Mon 99:00", "1 Mon 00:60", "1 Mon 23:60", "1 Mon 00:99",
		// One digit for two, or more than two.
		"1 Tue 1:05", "1 Tue 01:5", "1 Tue 1:5", "1 Tue  1:05", "1 Tue 01: 5", "1 Tue 001:05", "1 Tue 01:005",
		// Blanks too many, too few, or others.
		" 1 Tue 01:05", "1 Tue 01:05 ", "1  Tue 01:05", "1 Tue  01:05", "1Tue 01:05", "1 Tue01:05", "1Tue01:05",
		"1 Tue 01 :05", "1 Tue 01: 05", "1\tTue 01:05", "1 Tue\t01:05", "1\u00a0Tue 01:05", "1 Tue 01:05\n", "1 Tue 01:05\x00",
		// Noughts or signs ahead.
		"01 Tue 01:05", "+1 Tue 01:05", "-1 Tue 01:05", "1 Tue +1:05", "1 Tue -1:05", "1 Tue 01:+5", "1 Tue 01:-5",
		"1 Tue -0:05", "1 Tue 02:-0", "+ Tue 01:05", "- Tue 01:05",
		// In other letters, or digits.
		"1 tue 01:05", "1 TUE 01:05", "1 tUE 01:05", "1 TuE 01:05", "1 Die 01:05", "١ Tue 01:05", "1 Tue ٠١:05", "I Tue 01:05",
		"a Tue 01:05", "1 Tue 0a:05", "1 Tue 01:0x", "1 Tue 0:0:05",
		// Other signs between, or other parts.
		"1 Tue 01.05", "1 Tue 0105", "1 Tue 01-05", "1,Tue,01:05", "Tue 1 01:05", "1 01:05 Tue", "1 Tue 01:05:00", "1 Tue 01:05 1 Tue 01:05",
		"\xff Tue 01:05", "1 \xff\xff\xff 01:05", "1 Tue \xff\xff:05", "1 Tue 01:\xff\xff",
	} {
		if got, err := week.Parse(s); got != 0 || err != api.ErrForm {
			t.Errorf("Parse(%q) = %d, %d, want ErrForm", s, got, err)
		}
	}
}

// slips: the texts that are the text with one byte changed for any other, left out, or put in, and with two neighbours changed about.
func slips(s string) []string {
	var l []string
	for i := range len(s) + 1 {
		for b := range 256 {
			l = append(l, s[:i]+string([]byte{byte(b)})+s[i:])
			if i < len(s) {
				l = append(l, s[:i]+string([]byte{byte(b)})+s[i+1:])
			}
		}
		if i < len(s) {
			l = append(l, s[:i]+s[i+1:])
		}
		if i+1 < len(s) {
			l = append(l, s[:i]+s[i+1:i+2]+s[i:i+1]+s[i+2:])
		}
	}
	return l
}

// checkParse: the minute if the text is a name, or else ErrForm.
func checkParse(t *testing.T, minutes map[string]int, s string) {
	t.Helper()
	want, is := minutes[s]
	wantErr := api.ErrForm
	if is {
		wantErr = api.OK
	}
	if got, err := week.Parse(s); got != want || err != wantErr {
		t.Errorf("Parse(%q) = %d, %d, want %d, %d", s, got, err, want, wantErr)
	}
}

func TestParseSlips(t *testing.T) {
	l, minutes := names(), named()
	for _, m := range []int{0, 9, 59, 1439, 1440, 1505, 10079, 10080, 17654, 25678, 33333, 40319, 40320} {
		for _, s := range slips(l[m]) {
			checkParse(t, minutes, s)
		}
	}
}

// TestParseForms: all weeks of one digit, days, hours and minutes of two digits, those that there are not too.
func TestParseForms(t *testing.T) {
	minutes := named()
	digits := "0123456789"
	for _, w := range digits {
		for _, day := range []string{"Mon", "Tue", "Wed", "Thu", "Fri", "Sat", "Sun", "mon", "Day"} {
			for i := range 100 * 100 {
				hour := string([]byte{digits[i/1000], digits[i/100%10]})
				minute := string([]byte{digits[i/10%10], digits[i%10]})
				checkParse(t, minutes, string(w)+" "+day+" "+hour+":"+minute)
			}
		}
	}
}

// TestParseReadsOnly: the bytes around a text that is a piece of a longer one are nothing to it, and all reads as before.
func TestParseReadsOnly(t *testing.T) {
	whole := "11 Tue 01:055"
	s := whole[1:12]
	if got, err := week.Parse(s); got != 1505 || err != api.OK {
		t.Errorf("Parse(%q) = %d, %d", s, got, err)
	}
	if s != "1 Tue 01:05" || whole != "11 Tue 01:055" {
		t.Errorf("the text became %q, in %q", s, whole)
	}
}
