package disc_test

import (
	"math"
	"slices"
	"strings"
	"testing"
	"unsafe"

	"haulier/api"
	"haulier/disc"
	"haulier/record"
	"haulier/sample"
)

var rec, list, chain = sample.Rec, sample.List, sample.Chain

// two: numbers as two bytes each, the higher one first.
func two(l ...int) string {
	var text []byte
	for _, n := range l {
		text = append(text, byte(n>>8), byte(n))
	}
	return string(text)
}

// text: the bytes ahead of the sum: HD, and the numbers.
func text(l ...int) string { return "HD" + two(l...) }

// seal: a text and its sum, reckoned here.
func seal(s string) string {
	first, second := 0, 0
	for _, b := range []byte(s) {
		first = (first + int(b)) % 255
		second = (second + first) % 255
	}
	return s + two(second<<8+first)
}

// ch: a change's number.
func ch(kind, minute int) int { return kind<<11 | minute }

// kindsOf: of each minute of a timeline its kind, from its begin on.
func kindsOf(l []api.Record) (int, []int) {
	var kinds []int
	for _, r := range l {
		for range r.To - r.From {
			kinds = append(kinds, r.Kind)
		}
	}
	return l[0].From, kinds
}

// grouped: the normal timeline of kinds, from a minute on.
func grouped(from int, kinds []int) []api.Record {
	var l []api.Record
	for i, kind := range kinds {
		if i == 0 || kinds[i-1] != kind {
			l = append(l, rec(kind, from+i, from+i))
		}
		l[len(l)-1].To++
	}
	return l
}

// plainEncode: the bytes of a timeline that has records, minute by minute.
func plainEncode(l []api.Record) string {
	begin, kinds := kindsOf(l)
	end := begin + len(kinds)
	numbers := []int{begin, end}
	for day := range 28 {
		var changes []int
		for minute := range 1440 {
			m := day*1440 + minute
			if m < begin || m >= end {
				continue
			}
			if len(changes) == 0 || kinds[m-begin] != kinds[m-begin-1] {
				changes = append(changes, ch(kinds[m-begin], minute))
			}
		}
		if len(changes) > 0 {
			numbers = append(append(numbers, len(changes)), changes...)
		}
	}
	return seal(text(numbers...))
}

// plainDecode: the timeline of a text, as the document tells it, minute by minute.
func plainDecode(s string) ([]api.Record, int, api.Errno) {
	if len(s) < 2 {
		return nil, len(s), api.ErrEnd
	}
	body := s[:len(s)-2]
	if seal(body) != s {
		return nil, len(body), api.ErrSum
	}
	if len(body) < 6 {
		return nil, len(body), api.ErrEnd
	}
	for i := range 2 {
		if body[i] != "HD"[i] {
			return nil, i, api.ErrForm
		}
	}
	// One byte that is left over is no number.
	var numbers []int
	for i := 2; i+1 < len(body); i += 2 {
		numbers = append(numbers, int(body[i])<<8|int(body[i+1]))
	}
	begin, end := numbers[0], numbers[1]
	if begin >= end {
		return nil, 2, api.ErrSpan
	}
	if end >= 40321 {
		return nil, 4, api.ErrRange
	}
	kinds, place, err := plainDays(begin, end, numbers[2:])
	switch {
	case err == api.ErrEnd:
		return nil, len(body), err
	case err != api.OK || 6+2*place < len(body):
		return nil, 6 + 2*place, api.ErrForm
	}
	return grouped(begin, kinds), 0, api.OK
}

// plainDays: the kinds that the days' numbers tell, and how many of these there are ahead of what is wrong, or behind all days.
func plainDays(begin, end int, numbers []int) ([]int, int, api.Errno) {
	kinds := make([]int, end-begin)
	place := 0
	for day := begin / 1440; day*1440 < end; day++ {
		if place == len(numbers) {
			return nil, 0, api.ErrEnd
		}
		count := numbers[place]
		if count == 0 {
			return nil, place, api.ErrForm
		}
		place++
		first := max(day*1440, begin)
		for i := range count {
			if place == len(numbers) {
				return nil, 0, api.ErrEnd
			}
			kind, minute := numbers[place]>>11, numbers[place]&2047
			m := day*1440 + minute
			wrong := kind >= 4 || minute >= 1440 || m >= end || i == 0 && m != first
			if i > 0 && !wrong {
				ahead := numbers[place-1]
				wrong = minute <= ahead&2047 || kind == ahead>>11
			}
			if wrong {
				return nil, place, api.ErrForm
			}
			for x := m; x < min(end, day*1440+1440); x++ {
				kinds[x-begin] = kind
			}
			place++
		}
	}
	return kinds, place, api.OK
}

// head: a text as a failure tells it.
func head(s string) string { return s[:min(len(s), 40)] }

func checkChange(t *testing.T, kind, minute, want int, err api.Errno) {
	t.Helper()
	if got, gotErr := disc.Change(kind, minute); got != want || gotErr != err {
		t.Errorf("Change(%d, %d) = %d, %d, want %d, %d", kind, minute, got, gotErr, want, err)
	}
}

func checkTold(t *testing.T, n, kind, minute int, err api.Errno) {
	t.Helper()
	if gotKind, gotMinute, gotErr := disc.Told(n); gotKind != kind || gotMinute != minute || gotErr != err {
		t.Errorf("Told(%d) = %d, %d, %d, want %d, %d, %d", n, gotKind, gotMinute, gotErr, kind, minute, err)
	}
}

func checkEncode(t *testing.T, l []api.Record, want string, err api.Errno) {
	t.Helper()
	if got, gotErr := disc.Encode(l); got != want || gotErr != err {
		t.Errorf("Encode(%v: %d records) = %x (%d bytes), %d, want %x (%d bytes), %d", sample.Short(l), len(l), head(got), len(got), gotErr, head(want), len(want), err)
	}
}

func checkDecode(t *testing.T, s string, want []api.Record, at int, err api.Errno) {
	t.Helper()
	got, gotAt, gotErr := disc.Decode(s)
	if !slices.Equal(got, want) || gotAt != at || gotErr != err {
		t.Errorf("Decode(%x: %d bytes) = %v (%d records), %d, %d, want %v (%d records), %d, %d", head(s), len(s), sample.Short(got), len(got), gotAt, gotErr, sample.Short(want), len(want), at, err)
	}
}

// checkPlain: what is decoded of a text is what the plain oracle tells; what is decoded is encoded as it was.
func checkPlain(t *testing.T, s string) api.Errno {
	t.Helper()
	want, at, err := plainDecode(s)
	checkDecode(t, s, want, at, err)
	if err == api.OK {
		checkEncode(t, want, s, api.OK)
	}
	return err
}

// normal: the normal timeline of the same minutes.
func normal(t *testing.T, l []api.Record) []api.Record {
	t.Helper()
	if len(l) == 0 {
		return nil
	}
	return grouped(kindsOf(l))
}

// overDays: timelines within a day, from or up to a day's begin, over one day's begin and over several, on the last day, and of all the time there is.
func overDays() [][]api.Record {
	return [][]api.Record{
		list(rec(3, 0, 1)),
		list(rec(2, 0, 1440)),
		list(rec(2, 0, 1439)),
		list(rec(2, 0, 1441)),
		list(rec(1, 1439, 1440)),
		list(rec(1, 1439, 1441)),
		list(rec(1, 1440, 1441)),
		list(rec(1, 1440, 2880)),
		list(rec(1, 1440, 2881)),
		list(rec(0, 1439, 2881)),
		list(rec(3, 1000, 1400), rec(0, 1400, 1440)),
		list(rec(3, 1000, 1440), rec(0, 1440, 1500)),
		list(rec(3, 1000, 1439), rec(0, 1439, 1500)),
		list(rec(3, 1000, 1441), rec(0, 1441, 1500)),
		list(rec(3, 1439, 1440), rec(3, 1440, 1441), rec(3, 1441, 1442)),
		list(rec(3, 1439, 1440), rec(2, 1440, 1441)),
		list(rec(3, 1438, 1439), rec(2, 1439, 1440), rec(2, 1440, 1441), rec(1, 1441, 1442)),
		list(rec(0, 700, 5000), rec(3, 5000, 5001), rec(0, 5001, 9000)),
		list(rec(0, 2879, 4320), rec(1, 4320, 5760), rec(1, 5760, 7200), rec(2, 7200, 7201)),
		list(rec(0, 0, 40320)),
		list(rec(3, 0, 40319)),
		list(rec(3, 1, 40320)),
		list(rec(3, 38879, 40320)),
		list(rec(3, 38880, 40320)),
		list(rec(3, 38881, 40320)),
		list(rec(0, 0, 20160), rec(1, 20160, 30000), rec(2, 30000, 40319), rec(3, 40319, 40320)),
		chain(1300, [2]int{3, 50}, [2]int{3, 60}, [2]int{0, 30}, [2]int{2, 1}, [2]int{3, 2000}, [2]int{1, 440}, [2]int{1, 440}, [2]int{0, 1440}),
		chain(0, [2]int{0, 1440}, [2]int{1, 1440}, [2]int{2, 1440}, [2]int{3, 1440}, [2]int{3, 1440}, [2]int{0, 1440}),
	}
}

// timelines: those of the sample that have records, and those over days.
func timelines() [][]api.Record {
	l := overDays()
	for _, r := range sample.Right() {
		if len(r) > 0 {
			l = append(l, r)
		}
	}
	return l
}

// few: timelines whose bytes are gone through one by one: of one day and of several, of few changes and of many, with bytes 0 and 255 among them.
func few() [][]api.Record {
	return [][]api.Record{
		list(rec(3, 0, 5)),
		list(rec(0, 0, 1)),
		list(rec(3, 255, 511)),
		list(rec(2, 256, 512), rec(3, 512, 767), rec(0, 767, 770)),
		list(rec(1, 1439, 1441)),
		list(rec(3, 1438, 1439), rec(2, 1439, 1440), rec(2, 1440, 1441), rec(1, 1441, 1442)),
		list(rec(0, 700, 5000), rec(3, 5000, 5001), rec(0, 5001, 5800)),
		list(rec(3, 38879, 40320)),
	}
}

// TestChange: the numbers of changes; each kind and each minute; what is none.
func TestChange(t *testing.T) {
	for _, c := range [][3]int{
		{3, 5, 6149},
		{0, 0, 0}, {0, 1, 1}, {0, 1439, 1439},
		{1, 0, 2048}, {1, 1439, 3487},
		{2, 0, 4096}, {2, 1, 4097}, {2, 1439, 5535},
		{3, 0, 6144}, {3, 1438, 7582}, {3, 1439, 7583},
	} {
		checkChange(t, c[0], c[1], c[2], api.OK)
	}
	for kind := range 4 {
		for minute := range 1440 {
			checkChange(t, kind, minute, kind*2048+minute, api.OK)
		}
		for _, minute := range noMinutes() {
			checkChange(t, kind, minute, 0, api.ErrRange)
		}
	}
	for _, kind := range sample.NoKinds() {
		for _, minute := range append(noMinutes(), 0, 1, 5, 1439) {
			checkChange(t, kind, minute, 0, api.ErrKind)
		}
	}
}

// noMinutes: numbers that are no minute of a day.
func noMinutes() []int {
	return []int{-1, -2, -608, -1440, -2048, 1440, 1441, 2047, 2048, 2049, 4096, 40320, 1 << 32, 1<<32 + 5, math.MinInt, math.MinInt + 5, math.MaxInt - 1, math.MaxInt}
}

// TestTold: the changes of numbers, those around all that are, and those at both ends of 64 bits.
func TestTold(t *testing.T) {
	check := func(n int) {
		t.Helper()
		// Kinds have bits above those of minutes, none of them below 0.
		if kind, minute := n>>11, n&2047; kind >= 0 && kind <= 3 && minute < 1440 {
			checkTold(t, n, kind, minute, api.OK)
		} else {
			checkTold(t, n, 0, 0, api.ErrForm)
		}
	}
	for n := -70000; n <= 140000; n++ {
		check(n)
	}
	for d := range 5000 {
		check(math.MinInt + d)
		check(math.MaxInt - d)
		check(1<<32 + d)
		check(-1<<32 + d)
	}
	for _, c := range [][3]int{{6149, 3, 5}, {0, 0, 0}, {1439, 0, 1439}, {2048, 1, 0}, {5535, 2, 1439}, {6144, 3, 0}, {7583, 3, 1439}} {
		checkTold(t, c[0], c[1], c[2], api.OK)
	}
	for _, n := range []int{-1, -2, -2047, -2048, -2049, 1440, 2047, 3488, 4095, 5536, 7584, 8191, 8192, 8197, 65535, 65536, math.MinInt, math.MaxInt} {
		checkTold(t, n, 0, 0, api.ErrForm)
	}
}

// TestChangeTold: changes are told as they were, and no two alike.
func TestChangeTold(t *testing.T) {
	seen := map[int]bool{}
	for kind := range 4 {
		for minute := range 1440 {
			n, err := disc.Change(kind, minute)
			if err != api.OK || seen[n] {
				t.Errorf("Change(%d, %d) = %d, %d: seen ahead %v", kind, minute, n, err, seen[n])
			}
			seen[n] = true
			checkTold(t, n, kind, minute, api.OK)
		}
	}
}

// TestEncode: the bytes of timelines, written out.
func TestEncode(t *testing.T) {
	for _, c := range []struct {
		l    []api.Record
		want string
	}{
		{list(rec(3, 0, 5)), "\x48\x44\x00\x00\x00\x05\x00\x01\x18\x00" + "\x85\xaa"},
		{list(rec(3, 0, 5)), seal(text(0, 5, 1, 6144))},
		{list(rec(0, 7, 8)), seal(text(7, 8, 1, 7))},
		{list(rec(3, 5, 10), rec(0, 10, 12)), seal(text(5, 12, 2, 6149, 10))},
		{list(rec(3, 5, 10), rec(3, 10, 12)), seal(text(5, 12, 1, 6149))},
		{list(rec(2, 0, 1), rec(2, 1, 2), rec(1, 2, 3), rec(2, 3, 4)), seal(text(0, 4, 3, 4096, 2050, 4099))},
		// Up to a day's begin, from it on, and over it: with another kind, or the same one.
		{list(rec(1, 1439, 1440)), seal(text(1439, 1440, 1, 3487))},
		{list(rec(1, 1440, 1441)), seal(text(1440, 1441, 1, 2048))},
		{list(rec(1, 1439, 1441)), seal(text(1439, 1441, 1, 3487, 1, 2048))},
		{list(rec(1, 1439, 1440), rec(1, 1440, 1441)), seal(text(1439, 1441, 1, 3487, 1, 2048))},
		{list(rec(1, 1439, 1440), rec(0, 1440, 1441)), seal(text(1439, 1441, 1, 3487, 1, 0))},
		{list(rec(1, 1438, 1439), rec(0, 1439, 1441), rec(3, 1441, 1450)), seal(text(1438, 1450, 2, 3486, 1439, 2, 0, 6145))},
		// Over several.
		{list(rec(0, 700, 5000), rec(3, 5000, 5001)), seal(text(700, 5001, 1, 700, 1, 0, 1, 0, 2, 0, 6824))},
		{list(rec(0, 0, 40320)), seal(text(append([]int{0, 40320}, slices.Repeat([]int{1, 0}, 28)...)...))},
		{list(rec(3, 0, 40320)), seal(text(append([]int{0, 40320}, slices.Repeat([]int{1, 6144}, 28)...)...))},
		{list(rec(3, 38880, 40320)), seal(text(38880, 40320, 1, 6144))},
		{list(rec(3, 40319, 40320)), seal(text(40319, 40320, 1, 7583))},
		{list(rec(3, 38879, 40320)), seal(text(38879, 40320, 1, 7583, 1, 6144))},
	} {
		checkEncode(t, c.l, c.want, api.OK)
		checkDecode(t, c.want, normal(t, c.l), 0, api.OK)
	}
}

// TestEncodeErrors: no records; lists that are no timelines, with Check's error; and no bytes beside an error.
func TestEncodeErrors(t *testing.T) {
	for _, l := range [][]api.Record{nil, {}, make([]api.Record, 0, 3), list(rec(3, 0, 5))[:0]} {
		checkEncode(t, l, "", api.ErrNone)
	}
	kinds := map[api.Errno]int{}
	for _, c := range sample.Wrong() {
		checkEncode(t, c.L, "", c.Err)
		kinds[c.Err]++
	}
	for _, err := range []api.Errno{api.ErrKind, api.ErrRange, api.ErrSpan, api.ErrGap, api.ErrOverlap} {
		if kinds[err] == 0 {
			t.Errorf("the test itself: no list is wrong by %d", err)
		}
	}
	for _, kind := range append(sample.NoKinds(), 0, 1, 2, 3) {
		for _, from := range sample.Minutes() {
			for _, to := range sample.Minutes() {
				l := list(rec(kind, from, to))
				if _, err := record.Check(l); err != api.OK {
					checkEncode(t, l, "", err)
				} else {
					checkEncode(t, l, plainEncode(l), api.OK)
				}
			}
		}
	}
}

// TestBack: P11.4: the bytes of timelines, normal and not, are the plain ones; the normal one of the same minutes comes back; that is encoded as it was.
func TestBack(t *testing.T) {
	for _, l := range append(timelines(), sample.Many(true), sample.Many(false), daily()) {
		s := plainEncode(l)
		checkEncode(t, l, s, api.OK)
		same := normal(t, l)
		checkEncode(t, same, s, api.OK)
		checkDecode(t, s, same, 0, api.OK)
		if !record.IsNormal(same) {
			t.Errorf("the test itself: %v is not normal", sample.Short(same))
		}
		checkPlain(t, s)
	}
}

// daily: all the time there is, with changes side by side around each day's begin, of which every other one has none.
func daily() []api.Record {
	var l []api.Record
	for day := range 28 {
		begin := day * 1440
		l = append(l, rec(day%4, begin, begin+1), rec((day+1)%4, begin+1, begin+1439), rec((day+1+day%2)%4, begin+1439, begin+1440))
	}
	return l
}

// TestBackSmall: all timelines of up to three records of one or two minutes each, around a day's begin.
func TestBackSmall(t *testing.T) {
	for _, l := range sample.Small() {
		if len(l) == 0 {
			continue
		}
		for _, begin := range []int{1437, 1438, 1439, 1440, 2878, 38879} {
			moved := slices.Clone(l)
			for i := range moved {
				moved[i].From += begin
				moved[i].To += begin
			}
			s := plainEncode(moved)
			checkEncode(t, moved, s, api.OK)
			checkDecode(t, s, normal(t, moved), 0, api.OK)
		}
	}
}

// TestDecodeEnds: texts that end too early for a sum, and those whose sum is right, at each place ahead of it.
func TestDecodeEnds(t *testing.T) {
	checkDecode(t, "", nil, 0, api.ErrEnd)
	for b := range 256 {
		checkDecode(t, string([]byte{byte(b)}), nil, 1, api.ErrEnd)
		for c := range 256 {
			if s := string([]byte{byte(b), byte(c)}); b+c == 0 {
				checkDecode(t, s, nil, 0, api.ErrEnd)
			} else {
				checkDecode(t, s, nil, 0, api.ErrSum)
			}
		}
	}
	for _, l := range timelines() {
		s := plainEncode(l)
		for at := range len(s) - 2 {
			checkDecode(t, seal(s[:at]), nil, at, api.ErrEnd)
		}
	}
	for _, l := range few() {
		s := plainEncode(l)
		for at := range len(s) {
			checkPlain(t, s[:at])
			checkPlain(t, s[at:])
			checkPlain(t, seal(s[at:]))
			checkPlain(t, s+s[:at])
			checkPlain(t, seal(s+s[:at]))
		}
	}
}

// TestDecodeSum: a sum that is wrong, in each of its bytes, comes ahead of all that is wrong with what it is the sum of.
func TestDecodeSum(t *testing.T) {
	texts := []string{"H", "X", "XY", "HDxxxx", text(5, 5), text(0, 40321), text(0, 5, 0), text(0, 5, 1, 6145)}
	for _, l := range few() {
		s := plainEncode(l)
		texts = append(texts, s[:len(s)-2])
	}
	for _, body := range texts {
		sealed := []byte(seal(body))
		for i := len(body); i < len(sealed); i++ {
			for d := 1; d < 256; d++ {
				other := slices.Clone(sealed)
				other[i] += byte(d)
				checkDecode(t, string(other), nil, len(body), api.ErrSum)
			}
		}
	}
}

// TestDecodeErrors: what is wrong ahead of the sum, and where.
func TestDecodeErrors(t *testing.T) {
	for _, c := range []struct {
		body string
		at   int
		err  api.Errno
	}{
		// It ends where a byte should stand; of the six bytes that all texts have, that is told first.
		{"", 0, api.ErrEnd},
		{"H", 1, api.ErrEnd},
		{"HD", 2, api.ErrEnd},
		{"HD\x00", 3, api.ErrEnd},
		{"HD\x00\x00", 4, api.ErrEnd},
		{"HD\x00\x00\x00", 5, api.ErrEnd},
		{"HD\x05\x00\x00", 5, api.ErrEnd},
		{text(0, 5), 6, api.ErrEnd},
		{text(0, 5) + "\x00", 7, api.ErrEnd},
		{text(0, 5, 1), 8, api.ErrEnd},
		{text(0, 5, 1) + "\x18", 9, api.ErrEnd},
		{text(0, 5, 1) + "\x48", 9, api.ErrEnd},
		{text(0, 5, 2, 6144), 10, api.ErrEnd},
		{text(0, 5, 65535, 6144, 1), 12, api.ErrEnd},
		{text(0, 1441, 1, 6144), 10, api.ErrEnd},
		{text(0, 1441, 1, 6144, 1), 12, api.ErrEnd},
		{text(0, 1441, 1, 6144, 2, 6144), 14, api.ErrEnd},
		{"X", 1, api.ErrEnd},
		{"XY", 2, api.ErrEnd},
		{"XD\x00\x05\x00", 5, api.ErrEnd},
		// The first two bytes.
		{"XD" + two(0, 5, 1, 6144), 0, api.ErrForm},
		{"HX" + two(0, 5, 1, 6144), 1, api.ErrForm},
		{"XX" + two(0, 5, 1, 6144), 0, api.ErrForm},
		{"DH" + two(0, 5, 1, 6144), 0, api.ErrForm},
		{"hD" + two(0, 5, 1, 6144), 0, api.ErrForm},
		{"Hd" + two(0, 5, 1, 6144), 1, api.ErrForm},
		{"\x00\x00" + two(0, 5, 1, 6144), 0, api.ErrForm},
		{"XX\x00\x00\x00\x05", 0, api.ErrForm},
		// They come ahead of begin and end, and these of what is behind.
		{"XD" + two(5, 5), 0, api.ErrForm},
		{"HX" + two(0, 40321), 1, api.ErrForm},
		{"XD" + two(0, 5, 0, 0), 0, api.ErrForm},
		{text(5, 5), 2, api.ErrSpan},
		{text(0, 0), 2, api.ErrSpan},
		{text(5, 4), 2, api.ErrSpan},
		{text(5, 0), 2, api.ErrSpan},
		{text(5, 5, 1, 6149), 2, api.ErrSpan},
		{text(5, 4, 0), 2, api.ErrSpan},
		{text(256, 255, 1, 256), 2, api.ErrSpan},
		{text(40320, 40320, 1, 0), 2, api.ErrSpan},
		{text(65535, 65535), 2, api.ErrSpan},
		{text(50000, 45000), 2, api.ErrSpan},
		{text(65535, 0), 2, api.ErrSpan},
		{text(0, 40321), 4, api.ErrRange},
		{text(0, 40321, 1, 6144), 4, api.ErrRange},
		{text(0, 40321, 0), 4, api.ErrRange},
		{text(0, 65535), 4, api.ErrRange},
		{text(40320, 40321, 1, 0), 4, api.ErrRange},
		{text(40319, 40321, 1, 7583, 1, 6144), 4, api.ErrRange},
		{text(50000, 65535, 1, 0), 4, api.ErrRange},
		{text(append([]int{0, 40321}, slices.Repeat([]int{1, 6144}, 29)...)...), 4, api.ErrRange},
		// No changes on a day.
		{text(0, 5, 0), 6, api.ErrForm},
		{text(0, 5, 0, 6144), 6, api.ErrForm},
		{text(0, 5, 0, 1, 6144), 6, api.ErrForm},
		{text(0, 1441, 0, 1, 6144), 6, api.ErrForm},
		{text(0, 1441, 1, 6144, 0), 10, api.ErrForm},
		{text(0, 1441, 1, 6144, 0, 6144), 10, api.ErrForm},
		{text(0, 2881, 1, 6144, 1, 6144, 0), 14, api.ErrForm},
		// Too few: a change that is left stands for the next day's number of them, or behind all days.
		{text(0, 5, 1, 6144, 1), 10, api.ErrForm},
		{text(0, 1441, 1, 6144, 5, 1, 6144), 12, api.ErrForm},
		{text(0, 1441, 1, 6144, 5, 0), 14, api.ErrEnd},
		{text(0, 1441, 1, 6144, 1, 6144, 2049), 14, api.ErrForm},
		// Too many: the next day's number stands for a change.
		{text(0, 1441, 2, 6144, 1, 6144), 14, api.ErrEnd},
		{text(0, 1441, 2, 6144, 0, 1, 6144), 10, api.ErrForm},
		{text(1439, 1441, 2, 7583, 1, 6144), 10, api.ErrForm},
		// A change that is none: of no minute, or of no kind; the first one, and a further one.
		{text(0, 5, 1, 6144+1440), 8, api.ErrForm},
		{text(0, 5, 1, 2047), 8, api.ErrForm},
		{text(0, 5, 1, 8192), 8, api.ErrForm},
		{text(0, 5, 1, 65535), 8, api.ErrForm},
		{text(0, 5, 2, 6144, 8193), 10, api.ErrForm},
		{text(0, 2880, 2, 6144, 1440), 10, api.ErrForm},
		{text(0, 2880, 2, 6144, 1440, 1, 0), 10, api.ErrForm},
		{text(0, 2880, 1, 6144, 2, 0, 2048+1440), 14, api.ErrForm},
		{text(0, 5, 2, 8192, 8192), 8, api.ErrForm},
		// A first one of another minute.
		{text(0, 5, 1, 6145), 8, api.ErrForm},
		{text(0, 5, 2, 6145, 2), 8, api.ErrForm},
		{text(3, 5, 1, 6144), 8, api.ErrForm},
		{text(3, 5, 1, 6146), 8, api.ErrForm},
		{text(3, 5, 1, 6148), 8, api.ErrForm},
		{text(1439, 1441, 1, 7582, 1, 0), 8, api.ErrForm},
		{text(1439, 1441, 1, 7583, 1, 1), 12, api.ErrForm},
		{text(1439, 1441, 1, 7583, 1, 1439), 12, api.ErrForm},
		{text(1440, 1441, 1, 1439), 8, api.ErrForm},
		// Further ones: not above the minute ahead.
		{text(0, 5, 2, 6144, 0), 10, api.ErrForm},
		{text(0, 5, 3, 6144, 2, 2050), 12, api.ErrForm},
		{text(0, 5, 3, 6144, 2, 2049), 12, api.ErrForm},
		{text(0, 5, 3, 6144, 2, 6144), 12, api.ErrForm},
		{text(3, 5, 2, 6147, 2), 10, api.ErrForm},
		{text(0, 1445, 1, 6144, 3, 0, 2050, 4098), 16, api.ErrForm},
		// Not ahead of the timeline's end.
		{text(0, 5, 2, 6144, 5), 10, api.ErrForm},
		{text(0, 5, 2, 6144, 6), 10, api.ErrForm},
		{text(0, 5, 2, 6144, 1439), 10, api.ErrForm},
		{text(0, 1439, 2, 6144, 1439), 10, api.ErrForm},
		{text(1439, 1445, 1, 7583, 2, 0, 2053), 14, api.ErrForm},
		// Of the kind ahead.
		{text(0, 5, 2, 6144, 6145), 10, api.ErrForm},
		{text(0, 5, 2, 0, 1), 10, api.ErrForm},
		{text(0, 5, 3, 6144, 1, 2), 12, api.ErrForm},
		{text(1439, 1445, 1, 7583, 2, 6144, 6145), 14, api.ErrForm},
		// Of several the first one.
		{text(0, 5, 3, 6144, 6145, 9999), 10, api.ErrForm},
		{text(0, 5, 2, 6144, 6145, 7, 7), 10, api.ErrForm},
		{text(0, 5, 2, 9999), 8, api.ErrForm},
		{text(0, 5, 3, 6144, 6145), 10, api.ErrForm},
		{text(0, 1441, 1, 6145), 8, api.ErrForm},
		// Bytes behind the last day.
		{text(0, 5, 1, 6144) + "\x00", 10, api.ErrForm},
		{text(0, 5, 1, 6144) + "\xff", 10, api.ErrForm},
		{text(0, 5, 1, 6144, 0), 10, api.ErrForm},
		{text(0, 5, 1, 6144, 1, 6144), 10, api.ErrForm},
		{text(0, 1440, 1, 6144, 1, 6144), 10, api.ErrForm},
		{text(1439, 1441, 1, 7583, 1, 0) + "HD", 14, api.ErrForm},
		{seal(text(0, 5, 1, 6144)), 10, api.ErrForm},
		{text(0, 5, 1, 6144) + strings.Repeat("\x00", 1<<20), 10, api.ErrForm},
	} {
		checkDecode(t, seal(c.body), nil, c.at, c.err)
		if _, at, err := plainDecode(seal(c.body)); at != c.at || err != c.err {
			t.Errorf("the test itself: %x is wrong at %d by %d, and should be at %d by %d", head(c.body), at, err, c.at, c.err)
		}
	}
}

// TestDecodeFirstBytes: each first two bytes, but the right ones.
func TestDecodeFirstBytes(t *testing.T) {
	right := plainEncode(list(rec(3, 0, 5)))
	rest := right[2 : len(right)-2]
	for b := range 256 {
		for c := range 256 {
			s := seal(string([]byte{byte(b), byte(c)}) + rest)
			switch {
			case b != 'H':
				checkDecode(t, s, nil, 0, api.ErrForm)
			case c != 'D':
				checkDecode(t, s, nil, 1, api.ErrForm)
			default:
				checkDecode(t, s, list(rec(3, 0, 5)), 0, api.OK)
			}
		}
	}
}

// TestDecodeEachChange: each of the 65,536 numbers as a day's first change, as a further one, as the one of a further day, and as a number of changes.
func TestDecodeEachChange(t *testing.T) {
	for n := range 65536 {
		checkPlain(t, seal(text(1000, 1400, 1, n)))
		checkPlain(t, seal(text(1000, 1400, 2, ch(1, 1000), n)))
		checkPlain(t, seal(text(1000, 1400, 3, ch(1, 1000), ch(2, 1200), n)))
		checkPlain(t, seal(text(1439, 1500, 1, ch(1, 1439), 1, n)))
		checkPlain(t, seal(text(1439, 1500, 1, ch(1, 1439), 2, ch(1, 0), n)))
		checkPlain(t, seal(text(1000, 1400, n, ch(1, 1000))))
		checkPlain(t, seal(text(1439, 1500, 1, ch(1, 1439), n, ch(1, 0), ch(2, 1))))
	}
}

// TestDecodeEachSpan: begins and ends at the edges of days and of time, with as many days behind as they have.
func TestDecodeEachSpan(t *testing.T) {
	edges := []int{0, 1, 2, 255, 256, 1438, 1439, 1440, 1441, 2879, 2880, 2881, 38879, 38880, 38881, 40318, 40319, 40320, 40321, 41760, 41761, 65534, 65535}
	for _, begin := range edges {
		for _, end := range edges {
			numbers := []int{begin, end, 1, ch(3, begin%1440)}
			checkPlain(t, seal(text(begin, end)))
			checkPlain(t, seal(text(numbers...)))
			for m := begin - begin%1440 + 1440; m < end; m += 1440 {
				numbers = append(numbers, 1, ch(3, 0))
				checkPlain(t, seal(text(numbers...)))
			}
			checkPlain(t, seal(text(append(numbers, 1, ch(3, 0))...)))
		}
	}
}

// TestDecodeEach: all lists of up to seven numbers behind some spans, as long as there is nothing wrong with them but their end, and one number further.
func TestDecodeEach(t *testing.T) {
	numbers := []int{0, 1, 2, 3, 1438, 1439, 1440, ch(1, 0), ch(3, 0), ch(3, 1), ch(3, 2), ch(3, 1437), ch(3, 1438), ch(3, 1439), ch(4, 0)}
	found := 0
	var further func(body string, more int)
	further = func(body string, more int) {
		err := checkPlain(t, seal(body))
		if err == api.OK {
			found++
		}
		if err != api.ErrEnd {
			more--
		}
		if more == 0 || len(body) == 6+2*7 {
			return
		}
		for _, n := range numbers {
			further(body+two(n), more)
		}
	}
	for _, s := range [][2]int{{0, 2}, {0, 4}, {1437, 1440}, {1438, 1441}, {1439, 1443}, {1440, 1442}, {1438, 2881}, {0, 40321}, {5, 5}} {
		further(text(s[0], s[1]), 2)
	}
	if found < 100 {
		t.Errorf("the test itself: %d lists alone are right", found)
	}
}

// TestDecodeShort: all texts of up to four bytes of some, with their sum and without.
func TestDecodeShort(t *testing.T) {
	bytes := "HD\x00\x01X\xff"
	texts := []string{""}
	for range 5 {
		var longer []string
		for _, s := range texts {
			checkPlain(t, s)
			checkPlain(t, seal(s))
			checkPlain(t, seal("HD"+s))
			checkPlain(t, seal("HD\x00\x00"+s))
			for i := range len(bytes) {
				longer = append(longer, s+bytes[i:i+1])
			}
		}
		texts = longer
	}
}

// TestOtherByte: P11.4: a byte that is another one is found, wherever, but 0 and 255 for each other; with a sum that is right it is told as the document has it.
func TestOtherByte(t *testing.T) {
	swapped := 0
	for _, l := range few() {
		s := plainEncode(l)
		for at := range len(s) {
			for d := 1; d < 256; d++ {
				other := []byte(s)
				other[at] += byte(d)
				if s[at]%255 == 0 && other[at]%255 == 0 && at < len(s)-2 {
					checkPlain(t, string(other))
					swapped++
				} else {
					checkDecode(t, string(other), nil, len(s)-2, api.ErrSum)
				}
				checkPlain(t, seal(string(other[:len(s)-2])))
			}
		}
	}
	if swapped == 0 {
		t.Error("the test itself: no 0 or 255 is in the texts")
	}
	for _, l := range timelines() {
		s := plainEncode(l)
		for at := range len(s) {
			other := []byte(s)
			other[at] ^= 1 << (at % 8)
			checkDecode(t, string(other), nil, len(s)-2, api.ErrSum)
			checkPlain(t, seal(string(other[:len(s)-2])))
		}
	}
}

// TestLong: a change a minute, as many as there are minutes; with one wrong at the end, with more behind, and cut off.
func TestLong(t *testing.T) {
	s := plainEncode(sample.Many(true))
	if len(s) != 6+28*2+40320*2+2 {
		t.Errorf("the test itself: %d bytes", len(s))
	}
	body := s[:len(s)-2]
	checkDecode(t, s, sample.Many(true), 0, api.OK)
	checkDecode(t, seal(body+"\x00"), nil, len(body), api.ErrForm)
	checkDecode(t, seal(body[:len(body)-1]), nil, len(body)-1, api.ErrEnd)
	checkDecode(t, seal(body[:len(body)-2]+two(ch(2, 1439))), nil, len(body)-2, api.ErrForm)
	checkDecode(t, seal(body[:len(body)-2]+two(ch(1, 1439))), append(sample.Many(true)[:40319:40319], rec(1, 40319, 40320)), 0, api.OK)
	checkDecode(t, strings.Repeat("\x00", 1<<20), nil, 0, api.ErrForm)
	checkDecode(t, strings.Repeat("H", 1<<20), nil, 1<<20-2, api.ErrSum)
	checkDecode(t, seal("HD"+strings.Repeat("\x00\x01", 1<<20)), nil, 2, api.ErrSpan)
}

// callAll: every call, on a list and on a text.
func callAll(l []api.Record, s string) {
	disc.Encode(l)
	disc.Decode(s)
	for _, r := range l {
		disc.Change(r.Kind, r.From)
		disc.Told(r.From)
	}
}

// TestReadsOnly: a list reads as before behind each call, and so does what lies ahead of it and behind its length; that is nothing to what is told.
func TestReadsOnly(t *testing.T) {
	right := plainEncode(list(rec(3, 0, 5)))
	for _, l := range append(sample.All(), overDays()...) {
		want, err := disc.Encode(l)
		if !sample.Amid(l, func(mine []api.Record) {
			callAll(mine, right)
			checkEncode(t, mine, want, err)
		}) {
			t.Errorf("%v, or what lies beside it, was written to", sample.Short(l))
		}
	}
}

// TestReadsTextOnly: a text that is a piece of a longer one: what lies around it is nothing to what is told, and all reads as before.
func TestReadsTextOnly(t *testing.T) {
	texts := []string{"", "\x00", "\x00\x00", "ab", seal("H"), seal("XY"), seal(text(5, 5)), seal(text(0, 40321)), seal(text(0, 5, 2, 6144)), seal(text(0, 5, 1, 6144, 1)), seal(text(0, 5, 0))}
	for _, l := range few() {
		s := plainEncode(l)
		texts = append(texts, s, s[:len(s)-1], s[1:])
	}
	for _, s := range texts {
		for _, beside := range []string{"\x00", "\x00\x00", "H", "HD", "\xff\xff", seal(text(0, 5, 1, 6144))} {
			before := beside + s + beside
			memory := []byte(before)
			whole := unsafe.String(&memory[0], len(memory))
			mine := whole[len(beside) : len(beside)+len(s)]
			callAll(nil, mine)
			checkPlain(t, mine)
			if string(memory) != before {
				t.Errorf("the memory became %x, want %x", memory, before)
			}
		}
	}
}

// TestNewMemory: what is written into an answer, or behind it, is in no other answer; bytes that are told are none of the call ahead.
func TestNewMemory(t *testing.T) {
	for _, l := range few() {
		s := plainEncode(l)
		want := normal(t, l)
		first, _, _ := disc.Decode(s)
		second, _, _ := disc.Decode(s)
		clear(second[:cap(second)])
		if !slices.Equal(first, want) {
			t.Errorf("Decode(%x) became %v, want %v", s, first, want)
		}
		checkDecode(t, s, want, 0, api.OK)
		a, _ := disc.Encode(l)
		b, _ := disc.Encode(l)
		if unsafe.StringData(a) == unsafe.StringData(b) {
			t.Errorf("two answers of %v have one memory", l)
		}
	}
}
