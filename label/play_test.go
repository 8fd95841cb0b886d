package label_test

import (
	"slices"
	"testing"

	"haulier/api"
	"haulier/book"
	"haulier/label"
	"haulier/meter"
	"haulier/sample"
)

// kinds are a row of minutes that is written as letters of kinds, each with how many minutes: "D270 R45".
func kinds(text string) []int { return minutes(sample.Did(0, text)) }

// minutes are the kinds of a timeline's minutes, one by one.
func minutes(l []api.Record) []int {
	var row []int
	for _, r := range l {
		row = append(row, slices.Repeat([]int{r.Kind}, r.To-r.From)...)
	}
	return row
}

// tour is tasks for rows: a drive that asks for a break, with a service that may begin from 350 on, below 400; nothing to do; a drive without a service.
func tour() []api.Task { return []api.Task{task(300, 20, 350, 400), task(0, 0), task(60, 0)} }

// TestPlay: rows that may follow, and the labels behind them.
func TestPlay(t *testing.T) {
	begun := at(api.Meter{Now: 50, Acc: 50, Day: 50, Week: 50, Labour: 50}, spot(0, 50, 0))
	for _, c := range []struct {
		name string
		x    label.Label
		row  string
		want label.Label
	}{
		{"none", begun, "", begun},
		{"none, fresh", label.Label{}, "", label.Label{}},
		{"none, at the end", at(sample.Full(40320), spot(0, 300, 7)), "", at(sample.Full(40320), spot(0, 300, 7))},
		{"one of driving", begun, "D1", at(api.Meter{Now: 51, Acc: 51, Day: 51, Week: 51, Labour: 51}, spot(0, 51, 0))},
		{"as much driving as may be", begun, "D220", at(api.Meter{Now: 270, Acc: 270, Day: 270, Week: 270, Labour: 270}, spot(0, 270, 0))},
		{"a break behind it", begun, "D220 R45", at(api.Meter{Now: 315, Acc: 270, Lie: 45, Day: 270, Week: 270, Labour: 270}, spot(0, 270, 0))},
		{"a drive, with a break in two parts", begun, "D100 R15 D120 R30 D30", at(api.Meter{Now: 345, Acc: 30, Day: 300, Week: 300, Labour: 300}, spot(0, 300, 0))},
		{"a drive and a service as early as can be", begun, "D220 R45 D30 A5 W20", at(api.Meter{Now: 370, Acc: 30, Day: 300, Week: 300, Labour: 320}, spot(2, 0, 0))},
		{"a drive and a service as late as can be", begun, "D220 R45 D30 A54 W20", at(api.Meter{Now: 419, Acc: 30, Day: 300, Week: 300, Labour: 320}, spot(2, 0, 0))},
		{"amid a service", begun, "D220 R45 D30 A5 W19", at(api.Meter{Now: 369, Acc: 30, Day: 300, Week: 300, Labour: 319}, spot(0, 300, 19))},
		{"all", begun, "D220 R45 D30 A5 W20 D60", at(api.Meter{Now: 430, Acc: 90, Day: 360, Week: 360, Labour: 380}, spot(3, 0, 0))},
		{"all, and rest behind it", begun, "D220 R45 D30 A5 W20 D60 A3 R7", at(api.Meter{Now: 440, Acc: 90, Lie: 7, Day: 360, Week: 360, Labour: 380}, spot(3, 0, 0))},
		{"rest up to the end", begun, "R40270", at(api.Meter{Now: 40320, Acc: 50, Lie: 40270, Day: 50}, spot(0, 50, 0))},
		{"the last minute", at(api.Meter{Now: 40319, Dawn: 40000, Sabbath: 40000}, spot(2, 59, 0)), "D1", at(api.Meter{Now: 40320, Acc: 1, Dawn: 40000, Day: 1, Sabbath: 40000, Week: 1, Labour: 1}, spot(3, 0, 0))},
	} {
		t.Run(c.name, func(t *testing.T) { checkPlay(t, book.Europe(), tour(), c.x, c.want, kinds(c.row)...) })
	}
}

// TestNoPlay: rows of which a minute may not follow, behind others that may: neither does the row that ends with it, nor what goes on behind it as if it did.
func TestNoPlay(t *testing.T) {
	for _, c := range []struct{ name, ahead, not, behind string }{
		{"work at the begin", "", "W1", "D270 R45 D30"},
		{"no break", "D270", "D1", "R45 D29 A6 W20"},
		{"a break too short", "D270 R44", "D1", "D29 A6 W20 D60"},
		{"the parts of a break the other way round", "D100 R30 D170 R15", "D1", "D29"},
		{"too much driving", "D270 R45 D30", "D1", "A4 W20"},
		{"driving left", "D270 R45 D29 A50", "W1", "D1 W19"},
		{"a service ahead of its window", "D270 R45 D30 A4", "W1", "W19 D60"},
		{"a service behind its window", "D270 R45 D30 A55", "W1", "W19 D60"},
		{"a service broken off by rest", "D270 R45 D30 A5 W10", "R1", "W10"},
		{"a service broken off by waiting, ahead of its last minute", "D270 R45 D30 A5 W19", "A1", "W1"},
		{"a service broken off by driving", "D270 R45 D30 A5 W1", "D1", "W19"},
		{"work behind a service", "D270 R45 D30 A5 W20", "W1", "D60"},
		{"driving behind all", "D270 R45 D30 A5 W20 D60", "D1", "R1"},
		{"work behind all", "D270 R45 D30 A5 W20 D60", "W1", "R1"},
		{"a round too long", "D270 R45 D30 A5 W20 D60 A470", "A1", "R540"},
		{"a daily rest too short", "D270 R45 A585 R539", "D1", "D29"},
		{"beyond the end", "R40320", "R1", ""},
		{"far beyond the end", "R40320", "R1", "R40320 D1"},
		{"beyond the end, awake", "R40300 A20", "A1", "R1"},
	} {
		t.Run(c.name, func(t *testing.T) {
			ahead, not, behind := kinds(c.ahead), kinds(c.not), kinds(c.behind)
			x, may, err := label.Play(book.Europe(), tour(), label.Label{}, ahead...)
			if !may || err != api.OK {
				t.Fatalf("Play of %s = %+v, %t, %d", c.ahead, x, may, err)
			}
			checkNoPlay(t, book.Europe(), tour(), x, not...)
			checkNoPlay(t, book.Europe(), tour(), x, append(not, behind...)...)
			checkNoPlay(t, book.Europe(), tour(), label.Label{}, append(ahead, not...)...)
			checkNoPlay(t, book.Europe(), tour(), label.Label{}, slices.Concat(ahead, not, behind)...)
		})
	}
}

// TestPlayNoKinds: kinds that are none, alone, at the begin, amid and at the end of a row; also where no time is left.
func TestPlayNoKinds(t *testing.T) {
	row := kinds("D3 R2 A1 D4")
	for _, none := range sample.NoKinds() {
		for i := range len(row) + 1 {
			checkNoPlay(t, book.Europe(), tour(), label.Label{}, slices.Insert(slices.Clone(row), i, none)...)
		}
		for _, x := range []label.Label{{}, at(busy(), spot(0, 299, 0)), at(busy(), spot(3, 0, 0)), at(api.Meter{Now: 360}, spot(0, 300, 5)), at(api.Meter{Now: 40320}, spot(0, 0, 0))} {
			checkNoPlay(t, book.Europe(), tour(), x, none)
			checkNoPlay(t, book.Europe(), tour(), x, none, none)
		}
	}
}

// TestPlayAtTheEnd: where just a minute is left, and where none is.
func TestPlayAtTheEnd(t *testing.T) {
	for kind := range api.Kinds {
		for _, b := range []api.Book{book.Europe(), sample.Wide(), sample.Tiny()} {
			for now := 40317; now <= 40320; now++ {
				x := at(api.Meter{Now: now, Dawn: 40316, Sabbath: 40316}, spot(0, 0, 0))
				for n := range 6 {
					row := slices.Repeat([]int{kind}, n)
					checkRow(t, b, tour(), x, row...)
					if now+n > 40320 {
						checkNoPlay(t, b, tour(), x, row...)
					}
				}
			}
		}
	}
}

// days are the tasks that four lawful weeks do: on each working day 540 minutes of driving, and 180 of work.
func days() []api.Task { return slices.Repeat([]api.Task{task(540, 180, 0, 40320), task(0, 0)}, 20) }

// TestPlayFourWeeks: all minutes that there are, in which all tasks are done; but not with one more, nor by a book that is tighter by a minute; nor mostly with one of them otherwise.
func TestPlayFourWeeks(t *testing.T) {
	row := minutes(sample.Lawful())
	m, _, err := meter.Of(book.Europe(), sample.Lawful())
	if len(row) != 40320 || err != api.OK {
		t.Fatalf("the test itself: %d minutes, %d", len(row), err)
	}
	checkPlay(t, book.Europe(), days(), label.Label{}, at(m, spot(40, 0, 0)), row...)
	checkNoPlay(t, book.Europe(), days(), label.Label{}, append(row, api.Rest)...)
	checkNoPlay(t, book.Europe(), days(), label.Label{}, append([]int{api.Rest}, row...)...)
	for _, tighter := range []func(b *api.Book){
		func(b *api.Book) { b.Drive-- },
		func(b *api.Book) { b.Day, b.Longers = 539, 0 },
		func(b *api.Book) { b.Week = 2699 },
		func(b *api.Book) { b.Fortnight = 5399 },
		func(b *api.Book) { b.Labour = 3599 },
		func(b *api.Book) { b.Reduces = 2 },
		func(b *api.Book) { b.Round-- },
	} {
		checkNoPlay(t, sample.Changed(tighter), days(), label.Label{}, row...)
	}
	for _, i := range []int{0, 134, 135, 269, 20000, 31000, 37059, 37060, 40319} {
		for kind := range api.Kinds {
			other := slices.Clone(row)
			other[i] = kind
			checkRow(t, book.Europe(), days(), label.Label{}, other...)
		}
	}
}

// checkRow: what is played is what the chapter's words say, and it is handed back.
func checkRow(t *testing.T, b api.Book, l []api.Task, x label.Label, row ...int) (label.Label, bool) {
	t.Helper()
	want, may := plainPlay(b, l, x, row...)
	if may {
		checkPlay(t, b, l, x, want, row...)
	} else {
		checkNoPlay(t, b, l, x, row...)
	}
	return want, may
}

// TestPlayMany: as many tasks as there may be, all of which a row does, by a book that lets it; and with nothing to do in most of them.
func TestPlayMany(t *testing.T) {
	b := sample.Roomy(func(b *api.Book) {
		b.First, b.Second, b.Break, b.Part, b.Reduced = 1, 1, 1, 1, 1
	})
	row := slices.Repeat(kinds("D10 W10"), 2001)
	m := api.Meter{Now: 40020, Acc: 20010, Day: 20010, Week: 4890, Last: 5040, Labour: 9780}
	l := slices.Repeat([]api.Task{task(10, 10, 0, 40320)}, 2001)
	checkPlay(t, b, l, label.Label{}, at(m, spot(2001, 0, 0)), row...)
	checkNoPlay(t, b, l, label.Label{}, append(row, api.Drive)...)
	checkBound(t, l, label.Label{}, 40020)
	l[2000].Open[0].To = 40010
	checkNoPlay(t, b, l, label.Label{}, row...)
	l = make([]api.Task, 2001)
	l[0], l[1000] = task(10000, 0), task(1, 0)
	checkPlay(t, b, l, label.Label{}, at(api.Meter{Now: 10000, Acc: 10000, Day: 10000, Week: 10000, Labour: 10000}, spot(1000, 0, 0)), kinds("D10000")...)
	checkPlay(t, b, l, label.Label{}, at(api.Meter{Now: 10001, Acc: 10001, Day: 10001, Week: 10001, Labour: 10001}, spot(2001, 0, 0)), kinds("D10001")...)
	checkNoPlay(t, b, l, label.Label{}, kinds("D10002")...)
}
