package book_test

import (
	"math"
	"reflect"
	"slices"
	"testing"

	"haulier/api"
	"haulier/book"
	"haulier/sample"
)

// names: those of the numbers, in the order of api's fields.
func names() []string {
	var l []string
	fields := reflect.TypeFor[api.Book]()
	for i := range fields.NumField() {
		l = append(l, fields.Field(i).Name)
	}
	return l
}

// get: the number of that name.
func get(b api.Book, name string) int { return int(reflect.ValueOf(b).FieldByName(name).Int()) }

// with: the book, but for the number of that name.
func with(b api.Book, name string, n int) api.Book {
	reflect.ValueOf(&b).Elem().FieldByName(name).SetInt(int64(n))
	return b
}

// each: the book whose numbers are all the same.
func each(n int) api.Book {
	var b api.Book
	for _, name := range names() {
		b = with(b, name, n)
	}
	return b
}

// counted: the book whose numbers are first, and on by one step each.
func counted(first, step int) api.Book {
	var b api.Book
	for i, name := range names() {
		b = with(b, name, first+i*step)
	}
	return b
}

// europe: as the document has it.
func europe() []int {
	return []int{270, 45, 15, 30, 540, 600, 2, 660, 540, 3, 180, 1440, 2700, 1440, 8640, 3360, 5400, 3600, 10080}
}

var lowest, highest, wide, right = sample.Lowest, sample.Highest, sample.Wide, sample.Books

// wrong: books that may not be.
func wrong() []api.Book {
	l := []api.Book{each(1), each(1000), each(40320), each(-1), each(math.MinInt), each(math.MaxInt), counted(1, 1), counted(-9, 1), counted(math.MinInt, 1), counted(math.MaxInt-18, 1), counted(100, -3)}
	return append(l, sample.NoBooks()...)
}

// edges: numbers beside the limits, and at the ends of 64 bits.
func edges() []int {
	return []int{math.MinInt, math.MinInt + 1, -40320, -1, 0, 1, 2, 3, 999, 1000, 1001, 40318, 40319, 40320, 40321, 1 << 32, 1<<32 + 1, math.MaxInt - 1, math.MaxInt}
}

// isCount: is the number of that name a count?
func isCount(name string) bool { return name == "Longers" || name == "Reduces" }

// orders: the first of two is not above the second one.
func orders() [][2]string {
	return [][2]string{{"First", "Break"}, {"Second", "Break"}, {"Break", "Part"}, {"Part", "Reduced"}, {"Reduced", "Regular"}, {"Regular", "Short"}, {"Short", "Weekly"}, {"Day", "Longer"}}
}

// plainCheck: number by number, and two by two, as the document tells it.
func plainCheck(b api.Book) api.Errno {
	for _, name := range names() {
		n := get(b, name)
		if isCount(name) && (n < 0 || n > 1000) || !isCount(name) && (n < 1 || n > 40320) {
			return api.ErrBook
		}
	}
	for _, o := range orders() {
		if get(b, o[0]) > get(b, o[1]) {
			return api.ErrBook
		}
	}
	if b.Reduced >= b.Round {
		return api.ErrBook
	}
	return api.OK
}

// same: the numbers that must be the same for one book to be tighter than another.
func same() []string {
	return []string{"Break", "First", "Second", "Regular", "Reduced", "Part", "Weekly", "Short", "Length"}
}

// plainTighter: number by number, as the document tells it.
func plainTighter(a, b api.Book) bool {
	for _, name := range names() {
		x, y := get(a, name), get(b, name)
		if slices.Contains(same(), name) && x != y || x > y {
			return false
		}
	}
	return true
}

func checkCheck(t *testing.T, b api.Book, want api.Errno) {
	t.Helper()
	if plain := plainCheck(b); plain != want {
		t.Errorf("the test itself: %+v is told as %d, and should be %d", b, plain, want)
	}
	if got := book.Check(b); got != want {
		t.Errorf("Check(%+v) = %d, want %d", b, got, want)
	}
}

func checkTighter(t *testing.T, a, b api.Book, want bool) {
	t.Helper()
	if plain := plainTighter(a, b); plain != want {
		t.Errorf("the test itself: %+v and %+v are told as %t, and should be %t", a, b, plain, want)
	}
	if got := book.Tighter(a, b); got != want {
		t.Errorf("Tighter(%+v, %+v) = %t, want %t", a, b, got, want)
	}
}

func TestEurope(t *testing.T) {
	got := book.Europe()
	for i, name := range names() {
		if n := get(got, name); n != europe()[i] {
			t.Errorf("the European book's %s is %d, want %d", name, n, europe()[i])
		}
	}
	want := api.Book{
		Drive: 270, Break: 45, First: 15, Second: 30, Day: 540, Longer: 600, Longers: 2, Regular: 660, Reduced: 540, Reduces: 3,
		Part: 180, Round: 1440, Weekly: 2700, Short: 1440, Rounds: 8640, Week: 3360, Fortnight: 5400, Labour: 3600, Length: 10080,
	}
	if got != want || got != book.Europe() {
		t.Errorf("Europe() = %+v, want %+v, each time", got, want)
	}
	checkCheck(t, got, api.OK)
	if l := book.Numbers(got); !slices.Equal(l, europe()) {
		t.Errorf("its numbers are %v, want %v", l, europe())
	}
}

func TestFields(t *testing.T) {
	if book.Fields != 19 || book.Fields != len(names()) {
		t.Errorf("there are %d numbers, and %d fields, want 19", book.Fields, len(names()))
	}
}

func TestCheckRight(t *testing.T) {
	for _, b := range right() {
		checkCheck(t, b, api.OK)
	}
}

func TestCheckWrong(t *testing.T) {
	for _, b := range wrong() {
		checkCheck(t, b, api.ErrBook)
	}
}

// TestCheckCounts: each of the two counts, at its limits and outside, whatever the other one is.
func TestCheckCounts(t *testing.T) {
	for _, b := range right() {
		for _, name := range []string{"Longers", "Reduces"} {
			for _, n := range []int{0, 1, 2, 500, 999, 1000} {
				checkCheck(t, with(b, name, n), api.OK)
			}
			for _, n := range []int{-1, -2, -1000, 1001, 1002, 40320, 1 << 32, math.MinInt, math.MinInt + 1, math.MaxInt - 1, math.MaxInt} {
				checkCheck(t, with(b, name, n), api.ErrBook)
			}
		}
	}
}

// TestCheckTimes: each other number, at the limits and outside, in books that may be as far as the others go.
func TestCheckTimes(t *testing.T) {
	below := []string{"Break", "First", "Second", "Reduced", "Part"}
	for _, name := range names() {
		if isCount(name) {
			continue
		}
		// A round is above a reduced rest, which is 1 at least; so what is not above a reduced rest is below 40,320.
		least, most := 1, 40320
		if name == "Round" {
			least = 2
		}
		if slices.Contains(below, name) {
			most = 40319
		}
		checkCheck(t, with(lowest(), name, least), api.OK)
		checkCheck(t, with(lowest(), name, least-1), api.ErrBook)
		checkCheck(t, with(highest(), name, most), api.OK)
		checkCheck(t, with(highest(), name, most+1), api.ErrBook)
		for _, b := range right() {
			for _, n := range []int{0, -1, -40320, 40321, 40322, 1 << 32, 1<<32 + 1, math.MinInt, math.MinInt + 1, math.MaxInt - 1, math.MaxInt} {
				checkCheck(t, with(b, name, n), api.ErrBook)
			}
		}
	}
}

// TestCheckAlone: the numbers that no other one holds, from 1 to 40,320.
func TestCheckAlone(t *testing.T) {
	for _, b := range right() {
		for _, name := range []string{"Drive", "Rounds", "Week", "Fortnight", "Labour", "Length"} {
			for _, n := range []int{1, 2, 1000, 1001, 10080, 40319, 40320} {
				checkCheck(t, with(b, name, n), api.OK)
			}
		}
	}
}

// TestCheckOrders: each two numbers of which one is not above the other, the same, and one off, on either side, while all others lie far away.
func TestCheckOrders(t *testing.T) {
	far := wide()
	far.Second = 1
	for _, o := range append(orders(), [2]string{"Reduced", "Round"}) {
		b := far
		if o[1] == "Round" {
			// Else a reduced rest as long as a round would be above a regular one.
			b.Regular, b.Short, b.Weekly = 1400, 1500, 1600
		}
		low, high := get(b, o[0]), get(b, o[1])
		for _, n := range []int{low, (low + high) / 2, high} {
			for _, off := range []int{-1, 0, 1} {
				want := api.OK
				if off > 0 || off == 0 && o[1] == "Round" || n+off < 1 {
					want = api.ErrBook
				}
				checkCheck(t, with(with(b, o[1], n), o[0], n+off), want)
			}
		}
	}
}

// TestCheckOthers: numbers of which the document asks nothing against each other.
func TestCheckOthers(t *testing.T) {
	for _, b := range []api.Book{
		with(wide(), "First", 101), with(wide(), "Second", 101),
		with(with(wide(), "First", 101), "Second", 101),
		with(with(wide(), "First", 1), "Second", 1),
		with(wide(), "Round", 302),
		with(wide(), "Rounds", 1),
		with(wide(), "Week", 3300),
		with(wide(), "Length", 1),
		with(with(wide(), "Longers", 0), "Reduces", 1000),
		with(with(wide(), "Longers", 1000), "Reduces", 0),
		with(with(wide(), "Day", 1), "Longer", 1),
		with(wide(), "Longer", 40320),
		with(wide(), "Drive", 40320),
	} {
		checkCheck(t, b, api.OK)
	}
}

// TestCheckSmall: all books of small numbers, as far as these are held by each other.
func TestCheckSmall(t *testing.T) {
	held := []string{"First", "Second", "Break", "Part", "Reduced", "Regular", "Short", "Weekly", "Round"}
	few := []api.Book{lowest()}
	for _, name := range held {
		var more []api.Book
		for _, b := range few {
			more = append(more, with(b, name, 1), with(b, name, 2), with(b, name, 3))
		}
		few = more
	}
	may := 0
	for _, b := range few {
		want := plainCheck(b)
		if want == api.OK {
			may++
		}
		if got := book.Check(b); got != want {
			t.Errorf("Check(%+v) = %d, want %d", b, got, want)
		}
	}
	if may == 0 || may == len(few) {
		t.Errorf("the test itself: %d of %d books may be", may, len(few))
	}
	for day := range 5 {
		for longer := range 5 {
			b := with(with(lowest(), "Day", day), "Longer", longer)
			if got, want := book.Check(b), plainCheck(b); got != want {
				t.Errorf("Check(%+v) = %d, want %d", b, got, want)
			}
		}
	}
}

// TestCheckTwo: books with any two numbers at any edges.
func TestCheckTwo(t *testing.T) {
	l := names()
	for _, b := range right() {
		for i, first := range l {
			for _, second := range l[i:] {
				for _, n := range edges() {
					one := with(b, first, n)
					for _, m := range edges() {
						two := with(one, second, m)
						if got, want := book.Check(two), plainCheck(two); got != want {
							t.Fatalf("Check(%+v) = %d, want %d", two, got, want)
						}
					}
				}
			}
		}
	}
}

// TestNumbers: in the order of api's fields, whether the book may be or not.
func TestNumbers(t *testing.T) {
	l := slices.Concat(right(), wrong())
	for _, name := range names() {
		for _, n := range edges() {
			l = append(l, with(api.Book{}, name, n), with(wide(), name, n))
		}
	}
	for _, b := range l {
		var want []int
		for _, name := range names() {
			want = append(want, get(b, name))
		}
		if got := book.Numbers(b); !slices.Equal(got, want) {
			t.Errorf("Numbers(%+v) = %v, want %v", b, got, want)
		}
	}
	if got := book.Numbers(book.Europe()); !slices.Equal(got[:3], []int{270, 45, 15}) {
		t.Errorf("the European book's numbers begin %v", got[:3])
	}
	if got := book.Numbers(api.Book{}); !slices.Equal(got, make([]int, 19)) {
		t.Errorf("the numbers of nothing but noughts are %v", got)
	}
}

func TestFrom(t *testing.T) {
	if got, err := book.From(europe()); got != book.Europe() || err != api.OK {
		t.Errorf("From of the European numbers = %+v, %d", got, err)
	}
	if got, err := book.From([]int{5, 101, 1, 2, 700, 900, 6, 401, 301, 7, 201, 1301, 601, 501, 2000, 3000, 3100, 3200, 10000}); got != wide() || err != api.OK {
		t.Errorf("From of numbers that all differ = %+v, %d, want %+v", got, err, wide())
	}
}

// TestFromMatch: lists that are not of nineteen numbers, of numbers that may be, or may not.
func TestFromMatch(t *testing.T) {
	long := slices.Concat(europe(), europe())
	many := slices.Repeat(europe(), 1000)
	for _, l := range [][]int{
		nil, {}, {270}, {0}, {-1}, {math.MinInt}, europe()[:2], europe()[:18], europe()[1:], long[:20], long, many, many[:18999],
		make([]int, 1), make([]int, 18), make([]int, 20), make([]int, 38), make([]int, 1<<16), make([]int, 0, 19),
		slices.Repeat([]int{math.MaxInt}, 18), slices.Repeat([]int{math.MaxInt}, 20), slices.Repeat([]int{-1}, 20),
	} {
		if got, err := book.From(l); got != (api.Book{}) || err != api.ErrMatch {
			t.Errorf("From of %d numbers = %+v, %d, want ErrMatch", len(l), got, err)
		}
	}
}

// TestFromBook: nineteen numbers of which no book may be.
func TestFromBook(t *testing.T) {
	l := [][]int{make([]int, 19), slices.Repeat([]int{1}, 19), slices.Repeat([]int{-1}, 19), slices.Repeat([]int{math.MaxInt}, 19), slices.Repeat([]int{math.MinInt}, 19)}
	for i := range europe() {
		for _, n := range []int{math.MinInt, -1, 40321, math.MaxInt} {
			numbers := europe()
			numbers[i] = n
			l = append(l, numbers)
		}
	}
	backwards := europe()
	slices.Reverse(backwards)
	for _, numbers := range append(l, backwards) {
		if got, err := book.From(numbers); got != (api.Book{}) || err != api.ErrBook {
			t.Errorf("From(%v) = %+v, %d, want ErrBook", numbers, got, err)
		}
	}
}

// TestFromEach: the European numbers, with any one of them at any edge.
func TestFromEach(t *testing.T) {
	for i, name := range names() {
		for _, n := range append(edges(), 14, 15, 16, 44, 45, 46, 180, 539, 540, 541, 600, 660, 1440, 2700) {
			numbers := europe()
			numbers[i] = n
			want := with(book.Europe(), name, n)
			wantErr := plainCheck(want)
			if wantErr != api.OK {
				want = api.Book{}
			}
			if got, err := book.From(numbers); got != want || err != wantErr {
				t.Errorf("From(%v) = %+v, %d, want %+v, %d", numbers, got, err, want, wantErr)
			}
		}
	}
}

// TestTighterEach: books of which each number alone is one more, or one less, on either side; whether they may be or not.
func TestTighterEach(t *testing.T) {
	for _, b := range slices.Concat(right(), []api.Book{{}, each(1), each(-5), counted(1, 1), counted(-9, 1), each(1 << 40)}) {
		for _, name := range names() {
			n := get(b, name)
			less, more := with(b, name, n-1), with(b, name, n+1)
			free := !slices.Contains(same(), name)
			checkTighter(t, less, b, free)
			checkTighter(t, b, more, free)
			checkTighter(t, less, more, free)
			checkTighter(t, more, b, false)
			checkTighter(t, b, less, false)
			checkTighter(t, more, less, false)
		}
	}
}

// TestTighterEnds: numbers at both ends of 64 bits, of which one less the other would be beyond them.
func TestTighterEnds(t *testing.T) {
	for _, name := range names() {
		free := !slices.Contains(same(), name)
		for _, b := range []api.Book{wide(), {}} {
			low, high := with(b, name, math.MinInt), with(b, name, math.MaxInt)
			checkTighter(t, low, low, true)
			checkTighter(t, high, high, true)
			checkTighter(t, low, high, free)
			checkTighter(t, high, low, false)
			checkTighter(t, low, b, free)
			checkTighter(t, b, low, false)
			checkTighter(t, b, high, free)
			checkTighter(t, high, b, false)
		}
	}
}

// TestTighterTwo: of two numbers, both may be less, or one less and one more.
func TestTighterTwo(t *testing.T) {
	l := names()
	for _, b := range append(right(), api.Book{}) {
		for i, first := range l {
			for _, second := range l[i+1:] {
				n, m := get(b, first), get(b, second)
				free := !slices.Contains(same(), first) && !slices.Contains(same(), second)
				checkTighter(t, with(with(b, first, n-1), second, m-1), b, free)
				checkTighter(t, with(with(b, first, n-1), second, m+1), b, false)
				checkTighter(t, with(with(b, first, n+1), second, m-1), b, false)
				checkTighter(t, with(with(b, first, n+1), second, m+1), b, false)
			}
		}
	}
}

// TestTighterFar: books in which all free numbers are far apart.
func TestTighterFar(t *testing.T) {
	tight := lowest()
	lax := highest()
	checkTighter(t, tight, lax, false)
	checkTighter(t, lax, tight, false)
	for _, name := range same() {
		tight = with(tight, name, get(lax, name))
	}
	checkTighter(t, tight, lax, true)
	checkTighter(t, lax, tight, false)
}

// chain: books that come near each other, of which some are tighter than others, and some may not be.
func chain() []api.Book {
	l := slices.Concat(right(), wrong())
	for _, b := range []api.Book{wide(), {}} {
		for i, name := range names() {
			b = with(b, name, get(b, name)+i%3-1)
			l = append(l, b, with(b, "Drive", get(b, "Drive")-1), with(b, "Labour", get(b, "Labour")+1))
		}
	}
	return l
}

// TestTighterChain: three books one behind the other, and P7.4: a book is tighter than itself; tighter both ways is the same one.
func TestTighterChain(t *testing.T) {
	three := 0
	l := chain()
	for _, a := range l {
		checkTighter(t, a, a, true)
		for _, b := range l {
			ab := book.Tighter(a, b)
			if want := plainTighter(a, b); ab != want {
				t.Errorf("Tighter(%+v, %+v) = %t, want %t", a, b, ab, want)
			}
			if ab && book.Tighter(b, a) && a != b {
				t.Errorf("%+v and %+v are tighter both ways", a, b)
			}
			for _, c := range l {
				if ab && book.Tighter(b, c) {
					if !book.Tighter(a, c) {
						t.Errorf("Tighter(%+v, %+v) is false, but not by %+v between", a, c, b)
					}
					if a != b && b != c {
						three++
					}
				}
			}
		}
	}
	if three == 0 {
		t.Error("the test itself: no three books stand one behind the other")
	}
}

// TestBack: P7.4: a book that may be is From of its Numbers; and numbers are those of the book that is made of them.
func TestBack(t *testing.T) {
	may := 0
	for _, b := range chain() {
		for _, name := range append(names(), "Drive") {
			for _, n := range append(edges(), get(b, name)) {
				changed := with(b, name, n)
				l := book.Numbers(changed)
				got, err := book.From(l)
				if book.Check(changed) != api.OK {
					if got != (api.Book{}) || err != api.ErrBook {
						t.Errorf("From(%v) = %+v, %d, want ErrBook", l, got, err)
					}
					continue
				}
				may++
				if got != changed || err != api.OK || !book.Tighter(got, changed) || !book.Tighter(changed, got) {
					t.Errorf("From(%v) = %+v, %d, want %+v", l, got, err, changed)
				}
				if again := book.Numbers(got); !slices.Equal(again, l) {
					t.Errorf("the numbers %v come back as %v", l, again)
				}
			}
		}
	}
	if may < 100 {
		t.Errorf("the test itself: only %d books may be", may)
	}
}

// TestReadsOnly: a list reads as before behind a call, and what lies ahead of it and behind its length is nothing to it.
func TestReadsOnly(t *testing.T) {
	for _, numbers := range [][]int{europe(), make([]int, 19), slices.Repeat([]int{-1}, 19)} {
		before := slices.Concat([]int{-7}, numbers, []int{-8, -9})
		memory := slices.Clone(before)
		wantErr := api.ErrBook
		want := api.Book{}
		if slices.Equal(numbers, europe()) {
			want, wantErr = book.Europe(), api.OK
		}
		if got, err := book.From(memory[1:20]); got != want || err != wantErr {
			t.Errorf("From(%v) = %+v, %d, want %+v, %d", memory[1:20], got, err, want, wantErr)
		}
		for _, l := range [][]int{memory[1:1], memory[1:2], memory[1:19], memory[1:21], memory[:21], memory} {
			if got, err := book.From(l); got != (api.Book{}) || err != api.ErrMatch {
				t.Errorf("From(%v) = %+v, %d, want ErrMatch", l, got, err)
			}
		}
		if !slices.Equal(memory, before) {
			t.Errorf("the memory became %v, want %v", memory, before)
		}
	}
}

// TestBooksReadOnly: books that are handed in read as before behind each call.
func TestBooksReadOnly(t *testing.T) {
	for _, before := range chain() {
		a, b := before, before
		book.Check(a)
		clear(book.Numbers(a))
		book.Tighter(a, b)
		if a != before || b != before {
			t.Errorf("the books became %+v and %+v, want %+v", a, b, before)
		}
	}
}

// TestNewMemory: what is written into a list of numbers, or behind it, is in no other, and what is written into a list behind From is not in the book.
func TestNewMemory(t *testing.T) {
	first, second := book.Numbers(wide()), book.Numbers(wide())
	want := slices.Clone(second)
	clear(first)
	_ = append(first[:0], slices.Repeat([]int{-1}, 40)...)
	if again := book.Numbers(wide()); !slices.Equal(second, want) || !slices.Equal(again, want) {
		t.Errorf("beside a list that was written into there are %v and %v, want %v", second, again, want)
	}
	b, err := book.From(second)
	clear(second)
	if b != wide() || err != api.OK {
		t.Errorf("behind a write into its list the book is %+v, %d", b, err)
	}
	if clear(book.Numbers(book.Europe())); !slices.Equal(book.Numbers(book.Europe()), europe()) {
		t.Errorf("behind a write into its numbers the European book has %v", book.Numbers(book.Europe()))
	}
}
