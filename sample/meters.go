package sample

import (
	"math"
	"slices"

	"haulier/api"
	"haulier/book"
)

// With is the meter, changed.
func With(m api.Meter, change func(m *api.Meter)) api.Meter {
	change(&m)
	return m
}

// MeterNumbers are the places of a meter's numbers but Now, in the order of api's fields.
func MeterNumbers(m *api.Meter) []*int {
	return []*int{&m.Acc, &m.Lie, &m.Dawn, &m.Day, &m.Longers, &m.Reduces, &m.Sabbath, &m.Week, &m.Last, &m.Labour}
}

// Busy is a meter all of whose numbers are different, by which no minute breaks a clause of the European book.
func Busy() api.Meter {
	return api.Meter{
		Now: 5000, Acc: 100, Half: true, Dawn: 4500, Day: 200, Longers: 1, Split: true, Reduces: 2,
		Sabbath: 2100, Brief: true, Week: 900, Last: 3000, Labour: 1300,
	}
}

// Full is a meter all of whose numbers are as great as they may be, with that Now.
func Full(now int) api.Meter {
	return api.Meter{
		Now: now, Acc: now, Half: true, Lie: now, Dawn: now, Day: now, Longers: now, Split: true, Reduces: now,
		Sabbath: now, Brief: true, Week: now, Last: now, Labour: now,
	}
}

// NoMeters are meters that may not be: of Now, and of each other number, each that is beyond its limits.
func NoMeters() []api.Meter {
	l := []api.Meter{Full(40321), Full(math.MaxInt), Full(-1)}
	for _, now := range []int{-1, -2, math.MinInt, 40321, 40322, 1 << 32, math.MaxInt} {
		l = append(l, api.Meter{Now: now}, With(Busy(), func(m *api.Meter) { m.Now = now }))
	}
	for _, now := range []int{0, 1, 5000, 40319, 40320} {
		for i := range MeterNumbers(&api.Meter{}) {
			for _, n := range []int{-1, -2, math.MinInt, now + 1, now + 2, 1 << 32, math.MaxInt} {
				for _, m := range []api.Meter{{Now: now}, Full(now)} {
					*MeterNumbers(&m)[i] = n
					l = append(l, m)
				}
			}
		}
	}
	return l
}

// BadMeters are some meters that may not be, for what comes first of several errors.
func BadMeters() []api.Meter {
	return []api.Meter{{Now: -1}, {Now: 40321}, {Now: math.MinInt}, {Now: math.MaxInt}, {Acc: 1}, {Now: 40320, Labour: -1}, Full(-1), Full(40321), {Now: 5, Lie: 6}}
}

// AnyMeter is a meter that may be, as draws below n tell, whether a timeline comes to it or not.
func AnyMeter(draw func(n int) int, b api.Book) api.Meter {
	nows := meterEdges(b, api.MaxTime)
	m := api.Meter{Now: nows[draw(len(nows))], Half: draw(2) == 0, Split: draw(2) == 0, Brief: draw(2) == 0}
	if draw(2) == 0 {
		m.Now = min(b.Length*draw(5), api.MaxTime)
	}
	l := meterEdges(b, m.Now)
	for _, n := range MeterNumbers(&m) {
		if draw(3) > 0 {
			*n = l[draw(len(l))]
		}
	}
	if draw(3) == 0 {
		m.Lie = 0
	}
	return m
}

// meterEdges are numbers at which a meter's one number may matter by the book, that may be with that Now.
func meterEdges(b api.Book, now int) []int {
	var l []int
	for _, n := range append(book.Numbers(b), b.Round-b.Reduced, now-b.Round, now-(b.Round-b.Reduced), now-b.Rounds, now, 0) {
		l = append(l, n-1, n, n+1)
	}
	slices.Sort(l)
	return slices.DeleteFunc(slices.Compact(l), func(n int) bool { return n < 0 || n > now })
}

// Rungs are meters each of which is under the next one by the European book, in different fields.
func Rungs() []api.Meter {
	l := []api.Meter{{Now: 5000, Dawn: 4000, Sabbath: 4000, Split: true, Acc: 10, Day: 20, Week: 30, Labour: 40}}
	for _, how := range []func(m *api.Meter){
		func(m *api.Meter) { m.Acc++ },
		func(m *api.Meter) { m.Split, m.Week = false, 31 },
		func(m *api.Meter) { m.Sabbath, m.Longers = 2000, 1 },
		func(m *api.Meter) { m.Day, m.Longers = 541, 2 },
	} {
		l = append(l, With(l[len(l)-1], how))
	}
	return l
}

// Rivals are meters none of which is under another one by any book, each for another reason.
func Rivals() []api.Meter {
	return []api.Meter{
		{Now: 5000, Acc: 1, Day: 2, Week: 30},
		{Now: 5000, Acc: 2, Day: 1, Week: 30},
		{Now: 5000, Acc: 2, Day: 2, Week: 30, Half: true},
		{Now: 5000, Acc: 2, Day: 2, Week: 29, Brief: true},
		{Now: 5001, Acc: 1, Day: 1, Week: 1, Dawn: 5001, Sabbath: 5001, Split: true},
		{Now: 5000, Acc: 0, Day: 0, Lie: 1},
	}
}
