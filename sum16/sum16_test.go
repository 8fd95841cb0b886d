package sum16_test

import (
	"math"
	"math/big"
	"slices"
	"strings"
	"testing"
	"unsafe"

	"haulier/api"
	"haulier/sum16"
)

// mixed: a text of n bytes of all kinds, the same each time.
func mixed(n int) string {
	l := make([]byte, n)
	state := uint32(1)
	for i := range l {
		state = state*1664525 + 1013904223
		l[i] = byte(state >> 24)
	}
	return string(l)
}

// upTo: all texts of n bytes at most that are of these bytes.
func upTo(n int, bytes string) []string {
	l := []string{""}
	for from := 0; n > 0; n-- {
		to := len(l)
		for _, s := range l[from:to] {
			for i := range len(bytes) {
				l = append(l, s+bytes[i:i+1])
			}
		}
		from = to
	}
	return l
}

// texts: short ones of the bytes at the edges, all of one byte, and longer ones.
func texts() []string {
	l := upTo(4, "\x00\x01a\xfe\xff")
	for b := range 256 {
		l = append(l, string([]byte{byte(b)}))
	}
	for _, n := range []int{7, 16, 127, 128, 253, 254, 255, 256, 257, 509, 510, 511, 1000} {
		l = append(l, mixed(n))
		for _, b := range []string{"\x00", "\x01", "\x80", "\xfd", "\xfe", "\xff"} {
			l = append(l, strings.Repeat(b, n))
		}
	}
	return append(l, "haulier", "plan 0\nout\nclear\n", "Ünïcödé ٠١ \u2028", "a\x00b", mixed(70000))
}

// numbers: those beside the limits of bytes and of sums, and at the ends of 64 bits.
func numbers() []int {
	var l []int
	for _, n := range []int{0, 97, 254, 255, 256, 257, 9667, 24929, 254 * 256, 255 * 255, 255 * 256, 65535, 65536, 131072, 1 << 31, 1 << 32, 1 << 48, math.MaxInt / 255} {
		for d := -2; d <= 2; d++ {
			l = append(l, n+d, -n-d)
		}
	}
	for d := range 300 {
		l = append(l, math.MaxInt-d, math.MinInt+d)
	}
	return l
}

// exact: both numbers of the sum as one sum over the whole text each, cut but once, at the end.
func exact(sum int, s string) int {
	start := int(new(big.Int).Mod(big.NewInt(int64(sum)), big.NewInt(65536)).Int64())
	first := start - start/256*256
	second := start/256 + len(s)*first
	for i, b := range []byte(s) {
		first += int(b)
		second += (len(s) - i) * int(b)
	}
	return second%255*256 + first%255
}

func TestSum(t *testing.T) {
	for _, c := range []struct {
		s    string
		want int
	}{
		{"", 0},
		// Of one byte.
		{"\x00", 0},
		{"\x01", 257},
		{"a", 97*256 + 97},
		{"\xfd", 253*256 + 253},
		{"\xfe", 254*256 + 254},
		{"\xff", 0},
		// Of two; their order counts.
		{"ab", 9667},
		{"ba", 38*256 + 195},
		{"\x01\x02", 4*256 + 3},
		{"\x02\x01", 5*256 + 3},
		{"\x00\x01", 1*256 + 1},
		{"\x01\x00", 2*256 + 1},
		{"\xfe\x01", 254 * 256},
		{"\x01\xfe", 1 * 256},
		{"\xfe\xfe", 252*256 + 253},
		{"\xff\x01", 1*256 + 1},
		{"\x01\xff", 2*256 + 1},
		{"\xff\xfe", 254*256 + 254},
		{"\x00\xff", 0},
		// Known ones.
		{"abcde", 51440},
		{"abcdef", 8279},
		{"abcdefgh", 1575},
		// Long ones.
		{strings.Repeat("\x01", 16), 136*256 + 16},
		{strings.Repeat("\x01", 254), 254},
		{strings.Repeat("\x01", 255), 0},
		{strings.Repeat("\x01", 256), 1*256 + 1},
		{strings.Repeat("\x00", 100000), 0},
		{strings.Repeat("\xff", 100000), 0},
		{strings.Repeat("\xfe", 255), 0},
		{strings.Repeat("\xfe", 510*1000+1), 254*256 + 254},
	} {
		if got := sum16.Sum(c.s); got != c.want {
			t.Errorf("Sum of %d bytes, %.20q, = %d, want %d", len(c.s), c.s, got, c.want)
		}
	}
}

func TestSumExact(t *testing.T) {
	for _, s := range append(texts(), mixed(1000000)) {
		if got, want := sum16.Sum(s), exact(0, s); got != want {
			t.Errorf("Sum of %d bytes, %.20q, = %d, want %d", len(s), s, got, want)
		}
	}
}

// TestSumParts: no part of a sum is 255, or more.
func TestSumParts(t *testing.T) {
	for _, s := range texts() {
		if sum := sum16.Sum(s); sum < 0 || sum/256 > 254 || sum%256 > 254 {
			t.Errorf("Sum of %d bytes, %.20q, = %d", len(s), s, sum)
		}
	}
}

func TestAdd(t *testing.T) {
	for _, c := range []struct {
		sum  int
		s    string
		want int
	}{
		// Behind the empty text, and the empty text behind one.
		{0, "", 0},
		{0, "ab", 9667},
		{9667, "", 9667},
		{97*256 + 97, "b", 9667},
		{51440, "f", 8279},
		{254*256 + 254, "", 254*256 + 254},
		{254*256 + 254, "\xfe", 252*256 + 253},
		{254*256 + 254, "\x01", 254 * 256},
		// One part, or both, 255: it is 0.
		{254, "", 254},
		{255, "", 0},
		{256, "", 256},
		{254 * 256, "", 254 * 256},
		{255 * 256, "", 0},
		{255*256 + 7, "", 7},
		{7*256 + 255, "", 7 * 256},
		{65535, "", 0},
		{65534, "", 254},
		{255, "ab", 9667},
		{255 * 256, "ab", 9667},
		{65535, "ab", 9667},
		// From 65,536 on.
		{65536, "", 0},
		{65537, "", 1},
		{65536 + 9667, "", 9667},
		{65536*3 + 24929, "b", 9667},
		{131071, "", 0},
		{131070, "", 254},
		// Below 0.
		{-1, "", 0},
		{-1, "ab", 9667},
		{-2, "", 254},
		{-255, "", 1},
		{-256, "", 0},
		{-257, "", 254 * 256},
		{-258, "", 254*256 + 254},
		{-65535, "", 1},
		{-65536, "", 0},
		{-65537, "", 0},
		{-65538, "", 254},
		{9667 - 65536, "", 9667},
		{24929 - 65536*5, "b", 9667},
		// At the ends of 64 bits.
		{math.MaxInt, "", 0},
		{math.MaxInt, "ab", 9667},
		{math.MaxInt - 1, "", 254},
		{math.MaxInt - 65535 + 24929, "b", 9667},
		{math.MinInt, "", 0},
		{math.MinInt, "ab", 9667},
		{math.MinInt + 1, "", 1},
		{math.MinInt + 24929, "b", 9667},
	} {
		if got := sum16.Add(c.sum, c.s); got != c.want {
			t.Errorf("Add(%d, %q) = %d, want %d", c.sum, c.s, got, c.want)
		}
	}
}

func TestAddExact(t *testing.T) {
	for _, s := range []string{"", "\x00", "\x01", "\xfe", "\xff", "ab", mixed(300)} {
		for sum := -70000; sum <= 140000; sum += 1 + len(s)/2 {
			if got, want := sum16.Add(sum, s), exact(sum, s); got != want {
				t.Errorf("Add(%d, %.20q) = %d, want %d", sum, s, got, want)
			}
		}
	}
	for _, s := range texts() {
		if len(s) > 1000 {
			continue
		}
		for _, sum := range numbers() {
			if got, want := sum16.Add(sum, s), exact(sum, s); got != want {
				t.Errorf("Add(%d, %.20q) = %d, want %d", sum, s, got, want)
			}
		}
	}
}

// TestAddPieces: wherever a text is cut, the second piece behind the first one's sum comes to the sum of the whole.
func TestAddPieces(t *testing.T) {
	for _, s := range texts() {
		for at := 0; at <= len(s); at += 1 + len(s)/500 {
			if got, want := sum16.Add(sum16.Sum(s[:at]), s[at:]), sum16.Sum(s); got != want {
				t.Errorf("%d bytes, %.20q, cut at %d come to %d, want %d", len(s), s, at, got, want)
			}
		}
	}
}

func TestSeal(t *testing.T) {
	for _, c := range []struct{ s, want string }{
		{"", "\x00\x00"},
		{"\x00", "\x00\x00\x00"},
		{"\xff", "\xff\x00\x00"},
		{"\xfe", "\xfe\xfe\xfe"},
		{"\x01", "\x01\x01\x01"},
		{"ab", "ab\x25\xc3"},
		{"\x01\x02", "\x01\x02\x04\x03"},
		{"abcde", "abcde\xc8\xf0"},
		{"abcdefgh", "abcdefgh\x06\x27"},
		// One that is sealed already is a text as well.
		{"ab\x25\xc3", "ab\x25\xc3\xba\xac"},
		{strings.Repeat("\x01", 256), strings.Repeat("\x01", 256) + "\x01\x01"},
	} {
		if got := sum16.Seal(c.s); got != c.want {
			t.Errorf("Seal(%q) = %q, want %q", c.s, got, c.want)
		}
	}
}

// TestSealOpen: what is sealed is opened as it was, and of all other sums none opens it.
func TestSealOpen(t *testing.T) {
	for _, s := range append(texts(), mixed(1000000)) {
		sum := exact(0, s)
		want := s + string([]byte{byte(sum >> 8), byte(sum)})
		sealed := sum16.Seal(s)
		if sealed != want {
			t.Errorf("Seal of %d bytes, %.20q, = %.30q, want %.30q", len(s), s, sealed, want)
		}
		if got, err := sum16.Open(sealed); got != s || err != api.OK {
			t.Errorf("Open of %d bytes, %.20q, = %.20q, %d", len(sealed), sealed, got, err)
		}
	}
}

func TestOpen(t *testing.T) {
	for _, c := range []struct {
		s, want string
		err     api.Errno
	}{
		// Fewer than two bytes.
		{"", "", api.ErrEnd},
		{"\x00", "", api.ErrEnd},
		{"a", "", api.ErrEnd},
		{"\xff", "", api.ErrEnd},
		// Just two.
		{"\x00\x00", "", api.OK},
		{"\x00\x01", "", api.ErrSum},
		{"\x01\x00", "", api.ErrSum},
		{"\x00\xff", "", api.ErrSum},
		{"\xff\x00", "", api.ErrSum},
		{"\xff\xff", "", api.ErrSum},
		{"ab", "", api.ErrSum},
		// Three.
		{"\x00\x00\x00", "\x00", api.OK},
		{"\xff\x00\x00", "\xff", api.OK},
		{"\x01\x01\x01", "\x01", api.OK},
		{"\xfe\xfe\xfe", "\xfe", api.OK},
		{"aaa", "a", api.OK},
		{"aab", "", api.ErrSum},
		{"\xff\xff\xff", "", api.ErrSum},
		{"\x00\xff\xff", "", api.ErrSum},
		// More.
		{"ab\x25\xc3", "ab", api.OK},
		{"abcdef\x20\x57", "abcdef", api.OK},
		{"ab\x25\xc3\xba\xac", "ab\x25\xc3", api.OK},
		// The last two are one off, or in the other order.
		{"ab\x25\xc2", "", api.ErrSum},
		{"ab\x25\xc4", "", api.ErrSum},
		{"ab\x24\xc3", "", api.ErrSum},
		{"ab\x26\xc3", "", api.ErrSum},
		{"ab\xc3\x25", "", api.ErrSum},
		// A part that is 255 is not the 0 of the sum.
		{"\x00\x00\xff", "", api.ErrSum},
		{"\x00\xff\x00", "", api.ErrSum},
		// The sum ahead of its text, and a text with nothing or something else behind it.
		{"\x25\xc3ab", "", api.ErrSum},
		{"abcde", "", api.ErrSum},
		{"ab\x25", "", api.ErrSum},
		{"ab\x25\xc3\x00", "", api.ErrSum},
		{"\x00ab\x25\xc3", "\x00ab", api.OK},
		{"ab\x00\x25\xc3", "", api.ErrSum},
	} {
		if got, err := sum16.Open(c.s); got != c.want || err != c.err {
			t.Errorf("Open(%q) = %q, %d, want %q, %d", c.s, got, err, c.want, c.err)
		}
	}
}

// TestOpenAll: all texts of two and of three bytes; of each text ahead there is just one that opens.
func TestOpenAll(t *testing.T) {
	for _, ahead := range upTo(1, all()) {
		sum := exact(0, ahead)
		for n := range 65536 {
			want, wantErr := ahead, api.OK
			if n != sum {
				want, wantErr = "", api.ErrSum
			}
			s := ahead + string([]byte{byte(n >> 8), byte(n)})
			if got, err := sum16.Open(s); got != want || err != wantErr {
				t.Fatalf("Open(%q) = %q, %d, want %q, %d", s, got, err, want, wantErr)
			}
		}
	}
}

// all: the text of all bytes.
func all() string {
	var l []byte
	for b := range 256 {
		l = append(l, byte(b))
	}
	return string(l)
}

func TestPut(t *testing.T) {
	for _, c := range []struct {
		n    int
		want string
		err  api.Errno
	}{
		{0, "\x00\x00", api.OK},
		{1, "\x00\x01", api.OK},
		{255, "\x00\xff", api.OK},
		{256, "\x01\x00", api.OK},
		{9667, "\x25\xc3", api.OK},
		{65280, "\xff\x00", api.OK},
		{65534, "\xff\xfe", api.OK},
		{65535, "\xff\xff", api.OK},
		{65536, "", api.ErrRange},
		{65537, "", api.ErrRange},
		{131072, "", api.ErrRange},
		{-1, "", api.ErrRange},
		{-255, "", api.ErrRange},
		{-65535, "", api.ErrRange},
		{-65536, "", api.ErrRange},
		{1 << 32, "", api.ErrRange},
		{math.MaxInt, "", api.ErrRange},
		{math.MinInt, "", api.ErrRange},
	} {
		if got, err := sum16.Put(c.n); got != c.want || err != c.err {
			t.Errorf("Put(%d) = %q, %d, want %q, %d", c.n, got, err, c.want, c.err)
		}
	}
}

// TestPutTake: each number that is put is taken as it was, and each two bytes that are taken are put as they were.
func TestPutTake(t *testing.T) {
	n := 0
	for high := range 256 {
		for low := range 256 {
			s := string([]byte{byte(high), byte(low)})
			if got, err := sum16.Put(n); got != s || err != api.OK {
				t.Errorf("Put(%d) = %q, %d, want %q", n, got, err, s)
			}
			if got, err := sum16.Take(s, 0); got != n || err != api.OK {
				t.Errorf("Take(%q, 0) = %d, %d, want %d", s, got, err, n)
			}
			if got, err := sum16.Take("\xaa"+s+"\x55", 1); got != n || err != api.OK {
				t.Errorf("Take(.. %q .., 1) = %d, %d, want %d", s, got, err, n)
			}
			n++
		}
	}
}

func TestTake(t *testing.T) {
	for _, c := range []struct {
		s    string
		at   int
		want int
		err  api.Errno
	}{
		{"\x01\x02\x03\x04", 0, 258, api.OK},
		{"\x01\x02\x03\x04", 1, 515, api.OK},
		{"\x01\x02\x03\x04", 2, 772, api.OK},
		{"\xff\xff", 0, 65535, api.OK},
		{"\x00\x00", 0, 0, api.OK},
		{"\x00\xff", 0, 255, api.OK},
		{"\xff\x00", 0, 65280, api.OK},
		// Behind the last two.
		{"\x01\x02\x03\x04", 3, 0, api.ErrEnd},
		{"\x01\x02\x03\x04", 4, 0, api.ErrEnd},
		{"\x01\x02\x03\x04", 5, 0, api.ErrEnd},
		{"\x01\x02\x03\x04", math.MaxInt, 0, api.ErrEnd},
		{"\x01\x02\x03\x04", math.MaxInt - 1, 0, api.ErrEnd},
		{"\x01\x02\x03\x04", math.MaxInt - 2, 0, api.ErrEnd},
		{"\x01\x02", 1, 0, api.ErrEnd},
		{"\x01", 0, 0, api.ErrEnd},
		{"\x01", 1, 0, api.ErrEnd},
		{"", 0, 0, api.ErrEnd},
		{"", 1, 0, api.ErrEnd},
		{"", math.MaxInt, 0, api.ErrEnd},
		// Below 0.
		{"\x01\x02\x03\x04", -1, 0, api.ErrArg},
		{"\x01\x02\x03\x04", -2, 0, api.ErrArg},
		{"\x01\x02\x03\x04", math.MinInt, 0, api.ErrArg},
		{"\x01\x02\x03\x04", math.MinInt + 1, 0, api.ErrArg},
		// Both: the place below 0 is told of first.
		{"", -1, 0, api.ErrArg},
		{"", -2, 0, api.ErrArg},
		{"\x01", -1, 0, api.ErrArg},
		{"", math.MinInt, 0, api.ErrArg},
	} {
		if got, err := sum16.Take(c.s, c.at); got != c.want || err != c.err {
			t.Errorf("Take(%q, %d) = %d, %d, want %d, %d", c.s, c.at, got, err, c.want, c.err)
		}
	}
}

// alike: the bytes are the same, or 0 and 255.
func alike(a, b byte) bool { return a == b || min(a, b) == 0 && max(a, b) == 255 }

// checkSlip: a text that is not opened but where it may be; then, what it answers is what stands ahead.
func checkSlip(t *testing.T, sealed, slipped string, opens bool) {
	t.Helper()
	want, wantErr := "", api.ErrSum
	if opens {
		want, wantErr = slipped[:len(slipped)-2], api.OK
	}
	if got, err := sum16.Open(slipped); got != want || err != wantErr {
		t.Errorf("of %.40q there became %.40q, which is opened as %.40q, %d, want %.40q, %d", sealed, slipped, got, err, want, wantErr)
	}
}

// slipTexts: texts short enough that all slips of them are tried.
func slipTexts() []string {
	l := upTo(3, "\x00\x01\x02a\xfd\xfe\xff")
	for _, n := range []int{5, 30, 300} {
		l = append(l, mixed(n))
	}
	return append(l, "haulier", "00000\x00\xff\x00", "\x00\xff\x00\xff\xff\x00\x00", strings.Repeat("\xff", 254), strings.Repeat("\x00", 255))
}

// TestSlipsOfBytes: one byte is another one. Where 0 and 255 took each other's place, the text opens, but not if that is in the sum.
func TestSlipsOfBytes(t *testing.T) {
	for _, s := range slipTexts() {
		sealed := sum16.Seal(s)
		for i := range len(sealed) {
			for b := range 256 {
				if byte(b) != sealed[i] {
					slipped := sealed[:i] + string([]byte{byte(b)}) + sealed[i+1:]
					checkSlip(t, sealed, slipped, i < len(s) && alike(byte(b), sealed[i]))
				}
			}
		}
	}
}

// TestSlipsOfPlaces: two bytes side by side changed places, in the text, in its sum, or one of each. All texts of two bytes are among them.
func TestSlipsOfPlaces(t *testing.T) {
	for _, s := range append(upTo(2, all()), slipTexts()...) {
		sealed := sum16.Seal(s)
		for i := range len(sealed) - 1 {
			a, b := sealed[i], sealed[i+1]
			slipped := sealed[:i] + string([]byte{b, a}) + sealed[i+2:]
			checkSlip(t, sealed, slipped, a == b || i+1 < len(s) && alike(a, b))
		}
	}
}

// memory: what a test's text lies over; at package level, as the language copies some texts that lie on a function's stack, so that sharing would not be seen.
var memory []byte

// TestReadsOnly: the bytes around a text that is a piece of a longer one are nothing to it, and all reads as before.
func TestReadsOnly(t *testing.T) {
	before := []byte("xab\x25\xc3y")
	memory = slices.Clone(before)
	// The text lies over bytes that the test can see, so that a write into it would be seen.
	whole := unsafe.String(&memory[0], len(memory))
	if got := sum16.Sum(whole[1:3]); got != 9667 {
		t.Errorf("Sum = %d", got)
	}
	if got := sum16.Add(24929, whole[2:3]); got != 9667 {
		t.Errorf("Add = %d", got)
	}
	if got := sum16.Seal(whole[1:3]); got != "ab\x25\xc3" {
		t.Errorf("Seal = %q", got)
	}
	if got, err := sum16.Open(whole[1:5]); got != "ab" || err != api.OK {
		t.Errorf("Open = %q, %d", got, err)
	}
	if got, err := sum16.Open(whole); got != "" || err != api.ErrSum {
		t.Errorf("Open = %q, %d", got, err)
	}
	if got, err := sum16.Take(whole[1:5], 2); got != 9667 || err != api.OK {
		t.Errorf("Take = %d, %d", got, err)
	}
	if got, err := sum16.Take(whole[1:5], 3); got != 0 || err != api.ErrEnd {
		t.Errorf("Take = %d, %d", got, err)
	}
	if !slices.Equal(memory, before) {
		t.Errorf("the memory became %q, want %q", memory, before)
	}
}

// TestNewMemory: what is written into the argument's memory behind a call is in no answer.
func TestNewMemory(t *testing.T) {
	memory = []byte("ab\x25\xc3")
	s := unsafe.String(&memory[0], len(memory))
	sealed := sum16.Seal(s)
	opened, err := sum16.Open(s)
	for i := range memory {
		memory[i] = 'z'
	}
	if sealed != "ab\x25\xc3\xba\xac" || opened != "ab" || err != api.OK {
		t.Errorf("behind a write there are %q, and %q, %d", sealed, opened, err)
	}
}
