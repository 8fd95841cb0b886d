package below_test

import (
	"math/rand"
	"slices"
	"testing"

	"haulier/api"
	"haulier/below"
	"haulier/book"
	"haulier/meter"
	"haulier/sample"
)

// chance: draws that are the same each time.
func chance(seed int64) *rand.Rand { return rand.New(rand.NewSource(seed)) }

// number: one of a meter's numbers, and how one may differ from that of a meter that it is under: -1, it may be less; 1, more; 0, not at all.
type number struct {
	name   string
	better int
	of     func(m *api.Meter) *int
}

// numbers: all but Longers, of which more is asked.
func numbers() []number {
	return []number{
		{"Now", 0, func(m *api.Meter) *int { return &m.Now }},
		{"Lie", 0, func(m *api.Meter) *int { return &m.Lie }},
		{"Acc", -1, func(m *api.Meter) *int { return &m.Acc }},
		{"Day", -1, func(m *api.Meter) *int { return &m.Day }},
		{"Reduces", -1, func(m *api.Meter) *int { return &m.Reduces }},
		{"Week", -1, func(m *api.Meter) *int { return &m.Week }},
		{"Last", -1, func(m *api.Meter) *int { return &m.Last }},
		{"Labour", -1, func(m *api.Meter) *int { return &m.Labour }},
		{"Dawn", 1, func(m *api.Meter) *int { return &m.Dawn }},
		{"Sabbath", 1, func(m *api.Meter) *int { return &m.Sabbath }},
	}
}

// flag: one of a meter's bools, and how one may differ from that of a meter that it is under: 1, it may be where the other one is not; -1, it may not be where the other one is; 0, neither.
type flag struct {
	name   string
	better int
	of     func(m *api.Meter) *bool
}

func flags() []flag {
	return []flag{
		{"Half", 0, func(m *api.Meter) *bool { return &m.Half }},
		{"Split", 1, func(m *api.Meter) *bool { return &m.Split }},
		{"Brief", -1, func(m *api.Meter) *bool { return &m.Brief }},
	}
}

// plainLongers: have the longer days of x no more counted than those of y, as the document tells it?
func plainLongers(b api.Book, x, y api.Meter) bool {
	short, long := x.Day <= b.Day, y.Day > b.Day
	switch {
	case short && long:
		return x.Longers < min(y.Longers, b.Longers)
	default:
		return x.Longers <= y.Longers
	}
}

// why: for what x is not under y, field by field, as the document tells it.
func why(b api.Book, x, y api.Meter) []string {
	var l []string
	says := func(name string, is bool) {
		if is {
			l = append(l, name)
		}
	}
	says("book", book.Check(b) != api.OK)
	says("x", meter.Check(x) != api.OK)
	says("y", meter.Check(y) != api.OK)
	for _, n := range numbers() {
		left, right := *n.of(&x), *n.of(&y)
		says(n.name, n.better <= 0 && left > right || n.better >= 0 && left < right)
	}
	for _, f := range flags() {
		left, right := *f.of(&x), *f.of(&y)
		says(f.name, left != right && (f.better == 0 || (f.better == 1) == right))
	}
	says("Longers", !plainLongers(b, x, y))
	return l
}

// plainLeast: meter by meter, as the document tells it.
func plainLeast(b api.Book, l []api.Meter) []api.Meter {
	var least []api.Meter
	for i, m := range l {
		stays := !slices.Contains(l[:i], m)
		for _, other := range l {
			if other != m && len(why(b, other, m)) == 0 {
				stays = false
			}
		}
		if stays {
			least = append(least, m)
		}
	}
	return least
}

// checkUnder: is x under y?
func checkUnder(t *testing.T, b api.Book, x, y api.Meter, want bool) {
	t.Helper()
	if l := why(b, x, y); (len(l) == 0) != want {
		t.Errorf("the test itself: by the document %+v is held not to be under %+v for %v, and it should be %t", x, y, l, want)
	}
	if got := below.Under(b, x, y); got != want {
		t.Errorf("Under(%+v, %+v, %+v) = %t, want %t", b, x, y, got, want)
	}
}

// checkPair: whether each of the two is under the other one, and under itself, is what the document tells.
func checkPair(t *testing.T, b api.Book, x, y api.Meter) {
	t.Helper()
	for _, two := range [][2]api.Meter{{x, y}, {y, x}, {x, x}, {y, y}} {
		if got, l := below.Under(b, two[0], two[1]), why(b, two[0], two[1]); got != (len(l) == 0) {
			t.Errorf("Under(%+v, %+v, %+v) = %t, and by the document it is not for %v", b, two[0], two[1], got, l)
		}
	}
}

// checkLeast: these are the least of the list.
func checkLeast(t *testing.T, b api.Book, l []api.Meter, want ...api.Meter) {
	t.Helper()
	if plain := plainLeast(b, l); !slices.Equal(plain, want) {
		t.Errorf("the test itself: by the document the least of %+v are %+v, and should be %+v", sample.Short(l), sample.Short(plain), sample.Short(want))
	}
	if got := below.Least(b, l); !slices.Equal(got, want) {
		t.Errorf("Least(%+v, %+v and on, %d in all) = %+v and on, %d in all, want %+v and on, %d in all", b, sample.Short(l), len(l), sample.Short(got), len(got), sample.Short(want), len(want))
	}
}

// better: a meter that is the same as y or better in each field, as draws tell, and may be, if y may; most of them are under y.
func better(draws *rand.Rand, b api.Book, y api.Meter) api.Meter {
	x := y
	for _, n := range numbers() {
		if n.better == 0 || draws.Intn(3) == 0 {
			continue
		}
		most := *n.of(&y)
		if n.better > 0 {
			most = y.Now - most
		}
		*n.of(&x) += n.better * some(draws, most)
	}
	for _, f := range flags() {
		if f.better != 0 && draws.Intn(2) == 0 {
			*f.of(&x) = f.better > 0
		}
	}
	x.Longers -= some(draws, y.Longers)
	if draws.Intn(3) > 0 {
		x.Longers = max(0, min(x.Longers, b.Longers-1))
	}
	return x
}

// some: a number from 0 to most, often at one of these ends; 0, if most is below it.
func some(draws *rand.Rand, most int) int {
	most = max(0, most)
	return []int{0, min(1, most), most, draws.Intn(most + 1)}[draws.Intn(4)]
}
