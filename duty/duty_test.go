package duty_test

import (
	"fmt"
	"math"
	"math/rand"
	"slices"
	"strings"
	"testing"

	"haulier/api"
	"haulier/book"
	"haulier/clause"
	"haulier/duty"
	"haulier/meter"
	"haulier/record"
	"haulier/sample"
)

var (
	changed = sample.Changed
	roomy   = sample.Roomy
)

func find(c, from, to int) api.Finding { return api.Finding{Clause: c, From: from, To: to} }

// chance: draws that are the same each time.
func chance(seed int64) *rand.Rand { return rand.New(rand.NewSource(seed)) }

// did: the timeline from 0 on that is written so: "D270 R45".
func did(text string) []api.Record { return sample.Did(0, text) }

// times: a text of records, so many times, one behind the other.
func times(n int, text string) string { return strings.Repeat(text+" ", n) }

// head: a timeline as a failure tells it.
func head(l []api.Record) string { return fmt.Sprintf("%v: %d records", sample.Short(l), len(l)) }

// checkAudit: this is what is found of the timeline, by what looks back from each minute, too; the same of the same minutes in other records; P16.3 and P16.4 hold.
func checkAudit(t *testing.T, b api.Book, l []api.Record, want ...api.Finding) {
	t.Helper()
	if got := plain(b, l); !slices.Equal(got, want) {
		t.Errorf("the test itself: looking back by %+v, of %s are found %v, and should be %v", b, head(l), got, want)
	}
	checkFound(t, b, l, want)
	for _, same := range sample.Alike(l) {
		checkFound(t, b, same, want)
	}
	checkWitness(t, b, l, want)
}

// checkFound: Audit, Accepts and Set tell this; so does layer 13.
func checkFound(t *testing.T, b api.Book, l []api.Record, want []api.Finding) {
	t.Helper()
	got, err := duty.Audit(b, l)
	if !slices.Equal(got, want) || err != api.OK {
		t.Errorf("Audit(%+v, %s) = %v, %d, want %v", b, head(l), got, err, want)
	}
	if is := duty.Accepts(b, l); is != (len(want) == 0) {
		t.Errorf("Accepts(%+v, %s) = %v, and of it should be found %v", b, head(l), is, want)
	}
	if _, broken, err := meter.Of(b, l); duty.Set(got) != broken || err != api.OK {
		t.Errorf("by %+v %s breaks, by layer 13, %v, and found is %v", b, head(l), clause.All(broken), got)
	}
}

// checkWitness: P16.4: of the timeline up to a finding's To the same is found, up to a minute less not; all else is found of either that ends by then.
func checkWitness(t *testing.T, b api.Book, l []api.Record, found []api.Finding) {
	t.Helper()
	for _, f := range found {
		for _, to := range []int{f.To, f.To - 1} {
			short, err := record.Cut(l, sample.Span(0, to))
			if err != api.OK {
				t.Errorf("the test itself: %s can't be cut at %d: %d", head(l), to, err)
			}
			checkFound(t, b, short, until(found, to))
			if broken := clause.In(broken(t, b, short), f.Clause); broken != (to == f.To) {
				t.Errorf("by %+v %s, up to %d, breaks clause %d, is %v, and found is %v", b, head(l), to, f.Clause, broken, f)
			}
		}
	}
}

// until: the findings that end by the minute.
func until(found []api.Finding, to int) []api.Finding {
	return slices.DeleteFunc(slices.Clone(found), func(f api.Finding) bool { return f.To > to })
}

// broken: what the timeline breaks, by layer 13.
func broken(t *testing.T, b api.Book, l []api.Record) int {
	t.Helper()
	_, set, err := meter.Of(b, l)
	if err != api.OK {
		t.Errorf("the test itself: of %s layer 13 tells %d", head(l), err)
	}
	return set
}

// row: what was done, and what is to be found of it.
type row struct {
	did  string
	want []api.Finding
}

// is: a row of which that is to be found.
func is(did string, want ...api.Finding) row { return row{did, want} }

// checkRows: each row, by the book.
func checkRows(t *testing.T, b api.Book, rows ...row) {
	t.Helper()
	for _, one := range rows {
		checkAudit(t, b, did(one.did), one.want...)
	}
}

// TestExample: the chapter's one: 271 minutes of driving, by the European book.
func TestExample(t *testing.T) {
	l := []api.Record{{Kind: api.Drive, From: 0, To: 271}}
	found, err := duty.Audit(book.Europe(), l)
	if len(found) != 1 || found[0] != (api.Finding{Clause: api.ClBreak, From: 0, To: 271}) || err != api.OK {
		t.Errorf("Audit = %v, %d, want break, from 0 to 271", found, err)
	}
	if line, err := clause.Line(found[0]); line != "art.7 break 0-271" || err != api.OK {
		t.Errorf("the finding's line is %q, %d", line, err)
	}
	checkAudit(t, book.Europe(), l, find(api.ClBreak, 0, 271))
	checkAudit(t, book.Europe(), did("D270"))
}

// TestBreak: driving without a break, behind none, behind whole ones and behind such in two parts.
func TestBreak(t *testing.T) {
	at := func(from, to int) api.Finding { return find(api.ClBreak, from, to) }
	checkRows(t, book.Europe(),
		is("D1"), is("D269"), is("D270"), is("D271", at(0, 271)), is("D272", at(0, 271)), is("D600", at(0, 271)),
		is("D270 R1"), is("D270 A1"), is("D270 W1"), is("D270 R1 D1", at(0, 272)), is("D270 A100"), is("D270 A100 D1", at(0, 371)), is("D270 W100 D1", at(0, 371)),
		is("D200 A60 D70"), is("D200 A60 D71", at(0, 331)), is("D200 W60 D70"), is("D200 W60 D71", at(0, 331)), is("A5 W5 D271", at(0, 281)),
		// A break, and one that is a minute shorter.
		is("D270 R45 D270"), is("D270 R45 D271", at(315, 586)), is("D270 R44 D1", at(0, 315)), is("D270 R44"), is("D270 R44 A1"), is("D270 R46 D270"), is("D270 R46 D271", at(316, 587)),
		is("D1 R45 D270"), is("D1 R45 D271", at(46, 317)), is("D1 R44 D269"), is("D1 R44 D270", at(0, 315)),
		is("D100 R45 W10 R45 D271", at(200, 471)), is("D100 R45 W10 R45 D270"), is("D100 R45 W10 R44 D271", at(145, 470)), is("D100 R45 A3 D271", at(145, 419)),
		// Rest ahead of all else, which is a break if it is long enough.
		is("R45 D270"), is("R45 D271", at(45, 316)), is("R44 D271", at(0, 315)), is("R15 D200 R30 D271", at(245, 516)), is("R14 D200 R30 D71", at(0, 315)), is("R600 D271", at(600, 871)),
		// Breaks in two parts, each of which is a minute shorter, or they are the other way round.
		is("D200 R15 D70 R30 D270"), is("D200 R15 D70 R30 D271", at(315, 586)),
		is("D200 R14 D70 R30 D1", at(0, 315)), is("D200 R15 D70 R29 D1", at(0, 315)), is("D200 R14 D70 R29 D1", at(0, 314)), is("D200 R15 D70 R29"),
		is("D200 R30 D70 R15 D1", at(0, 316)), is("D200 R30 D70 R30 D270"), is("D200 R30 D70 R30 D271", at(330, 601)), is("D200 R44 D70 R30 D271", at(344, 615)), is("D200 R16 D70 R44 D271", at(330, 601)),
		is("D200 R30 D70 R29 D1", at(0, 330)), is("D200 R15 A1 R30 D271", at(246, 517)), is("D200 R15 W1 R30 D271", at(246, 517)), is("D200 R15 R30 D271", at(245, 516)), is("D200 R15 R29 D71", at(0, 315)),
		// Several first parts: each of them counts, however long ago it was, until there is a break.
		is("D100 R15 D100 R15 D70 R30 D270"), is("D100 R15 D100 R15 D70 R30 D271", at(330, 601)), is("D100 R15 D100 R20 D70 R29 D1", at(0, 335)),
		is("D100 R15 D100 R10 D70 R30 D271", at(325, 596)), is("D100 R15 D100 R1 W1 R1 D70 R30 D271", at(318, 589)), is("D90 R29 D90 R29 D90 R29 D1", at(0, 358)),
		// Behind a break no first part is left, whether it was whole, in two parts, or a daily rest.
		is("D10 R15 D10 R45 D200 R30 D70"), is("D10 R15 D10 R45 D200 R30 D71", at(80, 381)),
		is("D10 R15 D10 R30 D200 R30 D70"), is("D10 R15 D10 R30 D200 R30 D71", at(65, 366)), is("D10 R15 D10 R30 D200 R30 D70 R30 D271", at(395, 666)),
		is("D10 R15 D10 R540 D200 R30 D70"), is("D10 R15 D10 R540 D200 R30 D71", at(575, 876)),
		is("D10 R15 D10 R180 D200 R30 D71", at(215, 516)),
		// Longer rests are breaks, too.
		is("D270 R180 D270"), is("D270 R180 D271", at(450, 721)), is("D270 R540 D270"), is("D270 R540 D271", at(810, 1081)), is("D270 R1440 D271", at(1710, 1981)), is("D270 R2700 D271", at(2970, 3241)),
		// Where it is broken several times, the first one is told.
		is("D271 R45 D271", at(0, 271)), is("D270 R45 D271 R540 D271", at(315, 586)), is("D271 R44 D1 R45 D271", at(0, 271)), is("D270 R45 D270 R540 D271 R45 D300", at(1125, 1396)),
	)
}

// TestBreakBooks: breaks by other books: parts as long as each other or as the break, and the first longer than the second.
func TestBreakBooks(t *testing.T) {
	at := func(from, to int) api.Finding { return find(api.ClBreak, from, to) }
	parts := func(first, second int) api.Book {
		return changed(func(b *api.Book) { b.First, b.Second = first, second })
	}
	checkRows(t, parts(30, 15),
		is("D200 R30 D70 R15 D271", at(315, 586)), is("D200 R29 D70 R15 D1", at(0, 315)), is("D200 R30 D70 R14 D1", at(0, 315)), is("D200 R15 D70 R30 D1", at(0, 316)),
		is("D200 R15 D20 R30 D50 R15 D271", at(330, 601)),
	)
	checkRows(t, parts(20, 20), is("D200 R20 D70 R20 D271", at(310, 581)), is("D200 R20 D70 R19 D1", at(0, 310)), is("D200 R19 D70 R20 D1", at(0, 310)))
	checkRows(t, parts(45, 45), is("D270 R44 D1", at(0, 315)), is("D270 R45 D271", at(315, 586)), is("D100 R44 D100 R44 D71", at(0, 359)))
	checkRows(t, parts(1, 45), is("D100 R1 D170 R44 D1", at(0, 316)), is("D100 R1 D170 R45 D271", at(316, 587)))
	checkRows(t, parts(1, 1), is("D100 R1 D170 R1 D271", at(272, 543)), is("D270 R1 D1", at(0, 272)), is("D100 R1 D100 R1 D100 R1 D171", at(202, 474)), is("D50 R1 D50 R1 D50 R1 D50 R1 D271", at(204, 475)))
	checkRows(t, changed(func(b *api.Book) { b.Drive = 1 }), is("D1"), is("D2", at(0, 2)), is("D1 R45 D1"), is("D1 R45 D2", at(46, 48)), is("D1 A1 D1", at(0, 3)))
}

// TestLonger: a day's driving beyond the longer one, with no dawn, and behind one.
func TestLonger(t *testing.T) {
	at := func(from, to int) api.Finding { return find(api.ClLonger, from, to) }
	full := "D270 R45 D270 R45 D60 "
	checkRows(t, book.Europe(),
		is(full), is(full+"D1", at(0, 691)), is(full+"D2", at(0, 691)), is(full+"A1"), is(full+"W1 R1"), is(full+"A5 D1", at(0, 696)),
		is(full+"R540 "+full), is(full+"R540 "+full+"D1", at(1230, 1921)), is(full+"R539 D1", at(0, 1230), find(api.ClDaily, 0, 1230)), is(full+"R539"),
		is("R600 "+full), is("R600 "+full+"D1", at(600, 1291)), is("R540 "+full+"D1", at(540, 1231)), is("R200 "+full+"D1", at(0, 891)),
		is("D270 R540 D270 R45 D61"), is("D270 R539 D270 R45 D60", find(api.ClDaily, 0, 901)), is("D270 R539 D270 R45 D61", at(0, 1185), find(api.ClDaily, 0, 901)),
		is("D270 R180 D270 R45 D61", at(0, 826)),
		// Where it is broken several times, the first one is told.
		is(full+"D1 R660 "+full+"D1", at(0, 691)), is(full+"R660 "+full+"D1 R660 "+full+"D1", at(1350, 2041), find(api.ClLongers, 0, 3332)),
	)
	checkRows(t, roomy(func(b *api.Book) { b.Longer, b.Day = 5, 5 }), is("D5"), is("D6", at(0, 6)), is("D3 A100 D2 W100 R100"), is("D3 A100 D2 W100 R100 D1", at(0, 306)), is("D5 R540 D5 R540 D6", at(1090, 1096)))
	checkRows(t, roomy(func(b *api.Book) { b.Longer, b.Day = 1, 1 }), is("D1 R540 D1"), is("D2", at(0, 2)), is("D1 R540 D2", at(541, 543)))
}

// TestLongers: longer days, as many as there may be and one more; days of just Day, Day and 1, and more, since the sabbath and ahead of it.
func TestLongers(t *testing.T) {
	at := func(from, to int) api.Finding { return find(api.ClLongers, from, to) }
	just, one, more := "D270 R45 D270 ", "D270 R45 D270 R45 D1 ", "D270 R45 D270 R45 D60 "
	checkRows(t, book.Europe(),
		is(times(5, just+"R660")), is(one), is(times(2, one+"R660")), is(times(2, one+"R660")+just), is(times(2, one+"R660")+just+"R45"),
		is(times(3, one+"R660"), at(0, 3213)), is(times(2, one+"R660")+one, at(0, 3213)), is(times(2, one+"R660")+just+"R45 A1"), is(times(2, more+"R660")+just), is(times(2, more+"R660")+just+"D1", find(api.ClBreak, 3015, 3286), at(0, 3286)),
		is(times(3, more+"R660"), at(0, 3331)), is(times(4, more+"R660"), at(0, 3331)), is(just+"R660 "+one+"R660 "+just+"R660 "+more+"R660 "+just), is(just+"R660 "+one+"R660 "+just+"R660 "+more+"R660 "+one, at(0, 5762)),
		// A day goes on behind a rest that is too short, and a longer one counts once.
		is(one+"R539 D59 R660 "+one, find(api.ClDaily, 0, 1171)), is(times(2, one+"R540")+one, at(0, 2973)), is(one+"R540 "+one+"R539 D1 R660 "+just, find(api.ClDaily, 1171, 2342)),
		// The sabbath parts them; what is a minute shorter does not.
		is(times(2, one+"R660")+just+"R1440 "+times(2, one+"R660")+just), is(times(2, one+"R660")+just+"R1440 "+times(2, one+"R660")+one, at(4607, 7820)),
		is(one+"R660 "+one+"R1440 "+one+"R660 "+one), is(one+"R660 "+one+"R1439 "+one, at(0, 3992)), is(one+"R660 "+one+"R1440 "+times(2, one+"R660")+one, at(3362, 6575)),
		is("R1440 "+times(2, one+"R660")+one, at(1440, 4653)), is("R1439 "+times(2, one+"R660")+one, at(0, 4652)),
		// Where it is broken several times, the first one is told.
		is(times(5, one+"R660"), at(0, 3213)), is(times(3, one+"R660")+"R1440 "+times(3, one+"R660"), at(0, 3213)),
	)
	never := func(longers int) api.Book {
		return roomy(func(b *api.Book) { b.Day, b.Longers = 3, longers })
	}
	checkRows(t, never(0), is("D3"), is("D4", at(0, 4)), is("D9", at(0, 4)), is("D3 R540 D3 R540 D3"), is("D3 R540 D3 R540 D4", at(0, 1090)), is("D3 R1440 D4", at(1443, 1447)))
	checkRows(t, never(1), is("D4"), is("D100"), is("D4 R540 D3"), is("D4 R540 D4", at(0, 548)), is("D4 R540 D9 R540 D9", at(0, 548)))
	// Of a day that is as long as a longer one the next minute breaks both.
	same := roomy(func(b *api.Book) { b.Day, b.Longer, b.Longers = 4, 4, 0 })
	checkRows(t, same, is("D4"), is("D5", find(api.ClLonger, 0, 5), at(0, 5)))
	// More longer days than there are weeks' days, as many as a book may allow at the most.
	many := roomy(func(b *api.Book) {
		b.Day, b.Longers, b.Break, b.First, b.Second, b.Part, b.Reduced, b.Regular = 1, 1000, 1, 1, 1, 1, 1, 1
	})
	checkRows(t, many, is(times(1000, "D2 R1")), is(times(1000, "D2 R1")+"D1"), is(times(1000, "D2 R1")+"D2", at(0, 3002)))
}

// TestWeek: a week's driving, in the first week and in later ones, and over a week's begin.
func TestWeek(t *testing.T) {
	at := func(from, to int) api.Finding { return find(api.ClWeek, from, to) }
	day := "D270 R45 D270 R660"
	checkRows(t, book.Europe(),
		is(times(6, day)+"D120"), is(times(6, day)+"D120 A1"), is(times(6, day)+"D121", at(0, 7591)), is(times(6, day)+"D200", at(0, 7591)),
		is("R10000 A80 "+times(6, day)+"D120"), is("R10000 A80 "+times(6, day)+"D121", at(10080, 17671)), is("R10000 A79 "+times(6, day)+"D121"), is("R10000 A79 "+times(6, day)+"D122", at(10080, 17671)),
	)
	b := roomy(func(b *api.Book) { b.Week, b.Length = 100, 1000 })
	checkRows(t, b,
		is("D100"), is("D100 A899 D1", at(0, 1000)), is("D100 A900 D1"), is("D101", at(0, 101)), is("D50 A50 W50 R50 D50"), is("D50 A50 W50 R50 D51", at(0, 251)),
		is("A950 D150"), is("A950 D151", at(1000, 1101)), is("A900 D200"), is("A899 D200", at(0, 1000)), is("A899 D101", at(0, 1000)), is("A999 D101"), is("A999 D102", at(1000, 1101)),
		is("A2000 D100"), is("A2000 D101", at(2000, 2101)), is("A1999 D102", at(2000, 2101)), is("A3900 D200"), is("A3900 D201", at(4000, 4101)), is("A38950 D151", at(39000, 39101)),
		is("D100 A900 D100 A900 D100"), is("D100 A900 D100 A900 D101", at(2000, 2101)), is("D100 R900 D101", at(1000, 1101)), is("R1000 D101", at(1000, 1101)),
		is("D101 A899 D101", at(0, 101)), is("D5000", at(0, 101)), is("A1950 D5000", at(2000, 2101)),
	)
	checkRows(t, roomy(func(b *api.Book) { b.Week, b.Length = 9, 10 }), is("D9 A1 D9 A1 D9"), is("D9 A1 D9 A1 D10", at(20, 30)), is("A5 D14"), is("A5 D15", at(10, 20)), is("D1000", at(0, 10)))
	checkRows(t, roomy(func(b *api.Book) { b.Week, b.Length = 10, 10 }), is("D1000"))
	checkRows(t, roomy(func(b *api.Book) { b.Week, b.Length = 1, 2 }), is("D1 A1 D1"), is("A1 D2"), is("A1 D3", at(2, 4)), is("D2", at(0, 2)))
	checkRows(t, roomy(func(b *api.Book) { b.Week, b.Length = 1, 1 }), is("D1000"), is("D39780"), is("D40320", find(api.ClDaily, 0, 39781)))
	checkRows(t, roomy(func(b *api.Book) { b.Week, b.Length = 100, 40320 }), is("D50 A39000 R1219 D50"), is("D50 A39000 R1219 D51", at(0, 40320)))
}

// TestFortnight: two weeks' driving, in the first week alone, in weeks side by side, and in such as are not.
func TestFortnight(t *testing.T) {
	at := func(from, to int) api.Finding { return find(api.ClFortnight, from, to) }
	b := roomy(func(b *api.Book) { b.Fortnight, b.Length = 150, 1000 })
	checkRows(t, b,
		is("D150"), is("D151", at(0, 151)), is("D150 A849"), is("D150 A849 D1", at(0, 1000)), is("D150 A850"), is("D150 A850 D1", at(0, 1001)), is("D150 A1850 D1"), is("D150 A1849 D1", at(0, 2000)),
		is("A900 D150"), is("A900 D151", at(0, 1051)), is("A1000 D150"), is("A1000 D151", at(0, 1151)), is("D100 A900 D50"), is("D100 A900 D51", at(0, 1051)), is("D100 A1900 D150"), is("D100 A1900 D151", at(1000, 2151)),
		is("A1900 D150"), is("A1900 D151", at(1000, 2051)), is("D50 A950 D100 A900 D50"), is("D50 A950 D100 A900 D51", at(1000, 2051)), is("A38900 D150"), is("A38900 D151", at(38000, 39051)),
		is("A900 D75 A925 D75 A925 D75"), is("A900 D75 A925 D76", at(0, 1976)), is("A900 R100 D151", at(0, 1151)), is("A500 D100 R1000 D51", at(0, 1651)), is("A500 D100 W1500 D51"),
		is("D151 A849 D151", at(0, 151)), is("D5000", at(0, 151)), is("A1950 D5000", at(1000, 2101)),
	)
	checkRows(t, roomy(func(b *api.Book) { b.Fortnight, b.Length = 1, 1 }), is("D1"), is("D1 A1 D1"), is("D2", at(0, 2)), is("A5 D2", at(5, 7)), is("D1 A1 D1 R1 D1 W1 D2", at(6, 8)))
	checkRows(t, roomy(func(b *api.Book) { b.Fortnight, b.Length = 2, 1 }), is("D39780"), is("D40320", find(api.ClDaily, 0, 39781)))
	checkRows(t, roomy(func(b *api.Book) { b.Fortnight, b.Length = 150, 40320 }), is("D75 A39000 R1169 D75"), is("D75 A39000 R1169 D76", at(0, 40320)))
	// Two weeks may have less than one of them.
	checkRows(t, roomy(func(b *api.Book) { b.Fortnight, b.Week, b.Length = 50, 100, 1000 }), is("D50"), is("D100", at(0, 51)), is("D101", find(api.ClWeek, 0, 101), at(0, 51)))
	day := "D270 R45 D270 R660"
	checkRows(t, changed(func(b *api.Book) { b.Fortnight = 3361 }), is(times(6, day)+"D120 R2490 D1"), is(times(6, day)+"D120 R2490 D2", at(0, 10082)), is(times(6, day)+"D120 R2489 D1", find(api.ClWeek, 0, 10080)), is(times(6, day)+"D120 R2700 D2", at(0, 10292)))
}

// TestDaily: time without a daily rest, with no dawn, and behind one.
func TestDaily(t *testing.T) {
	at := func(from, to int) api.Finding { return find(api.ClDaily, from, to) }
	checkRows(t, book.Europe(),
		is("A900"), is("A901", at(0, 901)), is("W901", at(0, 901)), is("A900 D1", at(0, 901)), is("A900 W1", at(0, 901)), is("A2000", at(0, 901)),
		is("A900 R1"), is("A900 R539"), is("A900 R1 A1", at(0, 902)), is("A900 R539 A1", at(0, 1440)), is("A900 R540 A1"), is("A900 R540 A900"), is("A900 R540 A901", at(1440, 2341)), is("A100 R540 A901", at(640, 1541)),
		is("A100 R539 A261"), is("A100 R539 A262", at(0, 901)), is("A100 R540 A262"), is("A100 R800"), is("A100 R800 A900"), is("A100 R800 A901", at(900, 1801)),
		is("R540 A900"), is("R540 A901", at(540, 1441)), is("R539 A361"), is("R539 A362", at(0, 901)), is("R900 A1"), is("R900 A901", at(900, 1801)), is("R40320"), is("R40319 A1"),
		is("A450 R270 R270 A900"), is("A450 R269 R270 A1", at(0, 990)), is("A300 R269 A1 R271 A59"), is("A300 R269 A1 R271 A60", at(0, 901)), is("A300 R180 A300 R180 A1", at(0, 961)), is("A400 R180 A300 R540 A900"),
		// Where it is broken several times, the first one is told.
		is("A901 R660 A901", at(0, 901)), is("A500 R660 A901 R660 A901", at(1160, 2061)), is("A901 R10 A10 R10 A10", at(0, 901)),
	)
	tight := roomy(func(b *api.Book) { b.Round = b.Reduced + 1 })
	checkRows(t, tight, is("A1"), is("A2", at(0, 2)), is("R1 A1", at(0, 2)), is("A1 R539 A1", at(0, 541)), is("A1 R540 A1"), is("A1 R540 A2", at(541, 543)), is("A1 R540 A1 R539"), is("A1 R540 A1 R539 W1", at(541, 1082)))
}

// TestReduces: reduced daily rests, as many as there may be and one more, with no sabbath and behind one.
func TestReduces(t *testing.T) {
	at := func(from, to int) api.Finding { return find(api.ClReduces, from, to) }
	day := "A900 R540"
	checkRows(t, book.Europe(),
		is(times(3, day)+"A900"), is(times(4, day)), is(times(4, day)+"A1", at(0, 5761)), is(times(4, day)+"D1", at(0, 5761)), is(times(4, day)+"W1", at(0, 5761)), is(times(4, day)+"R119 A1", at(0, 5880)), is(times(4, day)+"R120 A1", at(0, 5881)), is(times(4, day)+"R899 A1", at(0, 6660)), is(times(4, day)+"R900 A1"),
		is(times(5, day)+"A1", at(0, 5761)), is(times(3, day)+"A600 R900 A900"), is(times(3, day)+"A780 R660 "+day+" A1", at(0, 7201)),
		// Behind the sabbath it is counted anew.
		is(times(2, day)+"A900 R1440 "+times(3, day)+"A1"), is(times(2, day)+"A900 R1440 "+times(4, day)), is(times(2, day)+"A900 R1440 "+times(4, day)+"A1", at(5220, 10981)), is(times(3, day)+"A900 R1440 A1"), is(times(3, day)+"A900 R1439 A1", at(0, 6660)), is("R1440 "+times(4, day)+"A1", at(1440, 7201)), is("R1439 "+times(4, day)+"A1", at(0, 7200)),
		is(times(4, day)+"A900 R1440 "+times(4, day)+"A1", at(0, 5761)),
	)
	checkRows(t, changed(func(b *api.Book) { b.Reduces = 0 }), is("A900"), is(day), is(day+" A1", at(0, 1441)), is("A780 R660 A780"), is(day+" A900 R540 A1", at(0, 1441)))
	checkRows(t, changed(func(b *api.Book) { b.Reduces = 1 }), is(day+" A900"), is(times(2, day)+"A1", at(0, 2881)), is("A900 R540 A10 R1440 A900 R540 A1"), is("A900 R540 A10 R1439 A800 R540 A1", at(0, 4230)))
	many := roomy(func(b *api.Book) {
		b.Break, b.First, b.Second, b.Part, b.Reduced, b.Regular, b.Short, b.Weekly = 1, 1, 1, 1, 1, 2, 3, 3
	})
	checkRows(t, many, is(times(1000, "A1 R1")+"A1"), is(times(1001, "A1 R1")), is(times(1001, "A1 R1")+"A1", at(0, 2003)))
}

// TestReducedRests: which rests are reduced ones, by a book that allows none.
func TestReducedRests(t *testing.T) {
	at := func(from, to int) api.Finding { return find(api.ClReduces, from, to) }
	b := changed(func(b *api.Book) { b.Reduces = 0 })
	checkRows(t, b,
		// As long as Reduced, and a minute shorter.
		is("A900 R540 A1", at(0, 1441)), is("A900 R539 A1", find(api.ClDaily, 0, 1440)), is("A300 R540 A1", at(0, 841)), is("A300 R539 A1"),
		// As long as Regular within the round, and a minute less.
		is("A300 R659 A1", at(0, 960)), is("A300 R660 A1"), is("A780 R660 A1"), is("A781 R660 A1", at(0, 1442)), is("A781 R659 A1", at(0, 1441)), is("A780 R659 A1", at(0, 1440)), is("A781 R1000 A1", at(0, 1782)), is("A780 R1000 A1"),
		// As long as Short, and a minute shorter.
		is("A900 R1439 A1", at(0, 2340)), is("A900 R1440 A1"), is("A781 R1439 A1", at(0, 2221)), is("A781 R1440 A1"), is("A780 R1439 A1"),
		// Beyond the round.
		is("A900 R10 A530 R1000 A1", find(api.ClDaily, 0, 911), at(0, 2441)), is("A900 R10 A529 R1439 A1", find(api.ClDaily, 0, 911), at(0, 2879)), is("A900 R10 A1000 R1439 A1", find(api.ClDaily, 0, 911), at(0, 3350)), is("A900 R10 A1000 R1440 A1", find(api.ClDaily, 0, 911)),
		// Behind a rest as long as Part, and a minute shorter.
		is("A100 R180 A500 R540 A1"), is("A100 R179 A500 R540 A1", at(0, 1320)), is("A100 R181 A500 R540 A1"), is("A10 R539 A300 R540 A1"), is("R180 A500 R540 A1"), is("R179 A500 R540 A1", at(0, 1220)),
		is("A100 R180 A100 R10 A400 R540 A1"), is("A100 R90 A1 R90 A400 R540 A1", at(0, 1222)), is("A100 R90 R90 A400 R540 A1"), is("A100 R180 A720 R540 A1", find(api.ClDaily, 0, 901)),
		// Such a part counts for the one rest alone, and not behind it.
		is("A100 R180 A500 R540 A900 R540 A1", at(0, 2761)), is("A100 R180 A500 R540 A100 R180 A500 R540 A1"), is("A100 R660 A500 R180 A100 R540 A1"), is("A500 R540 A100 R180 A1", at(0, 1041)), is("A100 R180 A100 R660 A780 R659 A1", at(0, 2480)),
		is("A100 R180 A500 R1440 A500 R540 A1", at(2220, 3261)),
		// What counts is the dawn ahead of the rest.
		is("A600 R660 A780 R660 A1"), is("A600 R660 A781 R660 A1", at(0, 2702)), is("R540 A1", at(0, 541)), is("R659 A1", at(0, 660)), is("R660 A780 R660 A1"), is("R660 A781 R660 A1", at(0, 2102)),
	)
	// By a round that is shorter than a regular rest, all daily rests are reduced ones that are no weekly ones.
	late := sample.Late()
	late.Reduces = 0
	checkRows(t, late, is("A100 R300 A1", at(0, 401)), is("A1 R1500 A1", at(0, 1502)), is("R400 A1", at(0, 401)), is("R1599 A1", at(0, 1600)), is("R1600 A1"), is("A1 R1599 A1", at(0, 1601)), is("A10 R180 A10 R300 A1", find(api.ClDaily, 0, 191)))
}

// TestWeekly: time without a weekly rest, with no sabbath, and behind one.
func TestWeekly(t *testing.T) {
	at := func(from, to int) api.Finding { return find(api.ClWeekly, from, to) }
	day := "A780 R660"
	checkRows(t, book.Europe(),
		is(times(6, day)), is(times(6, day)+"A1", at(0, 8641)), is(times(6, day)+"D1", at(0, 8641)), is(times(6, day)+"W1", at(0, 8641)), is(times(6, day)+"A10 R660 A1", at(0, 8641)), is(times(6, day)+"R50 A1", at(0, 8691)), is(times(6, day)+"R800 A1"),
		is(times(5, day)+"R660 A780"), is(times(5, day)+"R660 A780 R10"), is(times(5, day)+"R660 A781", at(0, 8641)), is(times(5, day)+"R660 A780 R600 A1", at(0, 9241)), is(times(5, day)+"R660 A780 R1440 A1"), is(times(5, day)+"R660 A780 R1439 A1", at(0, 10080)),
		is("A780 R1440 "+times(6, day)), is("A780 R1440 "+times(6, day)+"A1", at(2220, 10861)), is("A780 R1439 "+times(5, day)+"A1", at(0, 8641)), is("A780 R2700 "+times(6, day)+"A1", at(3480, 12121)),
		is("R1440 "+times(6, day)), is("R1440 "+times(6, day)+"A1", at(1440, 10081)), is("R1439 A780 R660 "+times(4, day)+"A2", at(0, 8641)), is("R9000 A1"),
		// Where it is broken several times, the first one is told.
		is(times(6, day)+"A780 R1440 "+times(6, day)+"A1", at(0, 8641)), is("A780 R2700 "+times(6, day)+"A780 R2700 "+times(6, day)+"A1", at(3480, 12121)),
	)
	b := roomy(func(b *api.Book) { b.Rounds = 1 })
	checkRows(t, b, is("A1"), is("A2", at(0, 2)), is("A1 R1439 A1", at(0, 1441)), is("A1 R1440 A1"), is("A1 R2700 A2", at(2701, 2703)), is("R1 D1", at(0, 2)), is("R1440 D1"), is("R1440 D1 R5"), is("R1440 D1 R5 W1", at(1440, 1447)))
}

// TestBrief: weekly rests that are shorter than Weekly, one behind the other, with others between, and the first one of all.
func TestBrief(t *testing.T) {
	at := func(from, to int) api.Finding { return find(api.ClBrief, from, to) }
	checkRows(t, book.Europe(),
		is("A100 R1440 A1"), is("A100 R1440 A100 R1440"), is("A100 R1440 A100 R1440 A1", at(1540, 3081)), is("A100 R1440 A100 R1440 D1", at(1540, 3081)), is("A100 R1440 A100 R1440 W1", at(1540, 3081)),
		is("A100 R2699 A100 R2699 A1", at(2799, 5599)), is("A100 R2700 A100 R2699 A1"), is("A100 R2699 A100 R2700 A1"), is("A100 R1440 A100 R2699 A1", at(1540, 4340)), is("A100 R1440 A100 R2700 A1"), is("A100 R2700 A100 R2700 A1"),
		is("A100 R1440 A100 R2700 A100 R1440 A1"), is("A100 R1440 A100 R2699 A100 R1440 A1", at(1540, 4340)), is("A100 R2700 A100 R1440 A1"), is("A100 R2700 A100 R1440 A100 R1440 A1", at(4340, 5881)), is("A100 R1440 A100 R2700 A100 R1440 A100 R1440 A1", at(5880, 7421)),
		// What is not as long as Short is none of them.
		is("A100 R1439 A100 R1440 A1"), is("A100 R1440 A100 R1439 A1"), is("A100 R1440 A100 R1439 A100 R1440 A1", at(1540, 4620)), is("A100 R1440 A100 R540 A100 R1440 A1", at(1540, 3721)), is("A100 R1440 A100 R45 A100 R1440 A1", at(1540, 3226)),
		is("R1440 A100 R1440 A1", at(1440, 2981)), is("R1440 A1"), is("R2700 A100 R1440 A1"), is("R1439 A100 R1440 A1"),
		// A rest that is told of in several records is one.
		is("A100 R1440 R1260 A100 R1440 A1"), is("A100 R1440 A100 R720 R720 A1", at(1540, 3081)), is("A100 R1440 A1 R1440 A1", at(1540, 2982)),
		// Where it is broken several times, the first one is told.
		is(times(3, "A100 R1440")+"A1", at(1540, 3081)), is(times(2, "A100 R1440")+"A100 R2700 "+times(2, "A100 R1440")+"A1", at(1540, 3081)),
	)
	checkRows(t, changed(func(b *api.Book) { b.Weekly = 1440 }), is(times(4, "A100 R1440")+"A1"), is(times(4, "A100 R1439")+"A1"))
	checkRows(t, changed(func(b *api.Book) { b.Short = 2700 }), is(times(3, "A100 R2699")+"A1"), is(times(3, "A100 R2700")+"A1"))
}

// TestLabour: a week's driving and work together, in the first week and in later ones, and over a week's begin.
func TestLabour(t *testing.T) {
	at := func(from, to int) api.Finding { return find(api.ClLabour, from, to) }
	day := "D270 R45 D270 W15 R660"
	checkRows(t, book.Europe(),
		is(times(6, day)+"W270"), is(times(6, day)+"W270 A1"), is(times(6, day)+"W271", at(0, 7831)), is(times(6, day)+"W150 D120"), is(times(6, day)+"W151 D120", at(0, 7831)), is(times(6, day)+"W151 D121", find(api.ClWeek, 0, 7832), at(0, 7831)), is(times(6, day)+"W300", at(0, 7831)),
	)
	b := roomy(func(b *api.Book) { b.Labour, b.Length = 100, 1000 })
	checkRows(t, b,
		is("W100"), is("D100"), is("W50 D50"), is("D50 W50"), is("W101", at(0, 101)), is("D101", at(0, 101)), is("D50 W51", at(0, 101)), is("W50 D51", at(0, 101)), is("D100 W1", at(0, 101)), is("W100 D1", at(0, 101)),
		is("A1000"), is("W100 A800"), is("W100 R800"), is("W50 A50 D50 R50 A50"), is("W50 A50 D50 R50 A50 W1", at(0, 251)), is("W100 A900 W100"), is("W100 A899 W1", at(0, 1000)), is("W100 A900 W101", at(1000, 1101)),
		is("A950 W150"), is("A950 W151", at(1000, 1101)), is("A950 W100 D50"), is("A950 W100 D51", at(1000, 1101)), is("A899 W101", at(0, 1000)), is("A2999 D101"), is("A2999 D102", at(3000, 3101)), is("A38950 D75 W76", at(39000, 39101)),
		is("W101 A899 W101", at(0, 101)), is("W5000", at(0, 101)), is("A1950 D2500 W2500", at(2000, 2101)),
	)
	checkRows(t, roomy(func(b *api.Book) { b.Labour, b.Length = 1, 2 }), is("W1 A1 D1"), is("W1 D1", at(0, 2)), is("A1 W1 D1"), is("A1 W1 D1 W1", at(2, 4)), is("A1 W1 A2 D1 R1 W2", at(6, 8)))
	checkRows(t, roomy(func(b *api.Book) { b.Labour, b.Length = 1, 1 }), is("W1000 D1000"))
}

// TestAvail: minutes of Avail count for daily and weekly alone, those of Work for labour, too, and those of Rest for nothing.
func TestAvail(t *testing.T) {
	daily, weekly := find(api.ClDaily, 0, 901), find(api.ClWeekly, 0, 8641)
	checkRows(t, book.Europe(),
		is("R40320"), is("A40320", daily, weekly), is("W40320", daily, weekly, find(api.ClLabour, 0, 3601)),
		is("D40320", find(api.ClBreak, 0, 271), find(api.ClLonger, 0, 601), find(api.ClWeek, 0, 3361), find(api.ClFortnight, 0, 5401), daily, weekly, find(api.ClLabour, 0, 3601)),
	)
	tight := api.Book{
		Drive: 1, First: 1, Second: 1, Break: 1, Part: 1, Reduced: 1, Regular: 1, Short: 1, Weekly: 1, Round: 40320,
		Day: 1, Longer: 1, Rounds: 40320, Week: 1, Fortnight: 1, Labour: 1, Length: 40320,
	}
	checkRows(t, tight, is("A40319"), is("R40320"), is("A40318 D1"), is("A40318 W1"), is("A40320", find(api.ClDaily, 0, 40320)), is("A5 R5 W1 A5 R5 A5"), is("A5 R5 W1 A5 R5 W1 A5", find(api.ClLabour, 0, 22)))
}

// TestRestAtEnd: a rest behind which there is no minute has not ended, and is worth nothing.
func TestRestAtEnd(t *testing.T) {
	b := changed(func(b *api.Book) { b.Reduces = 0 })
	for _, one := range []struct {
		did  string
		want api.Finding
	}{
		{"A900 R540", find(api.ClReduces, 0, 1441)},
		{"A900 R1439", find(api.ClReduces, 0, 2340)},
		{"A900 R539", find(api.ClDaily, 0, 1440)},
		{"A800 R1440 A800 R1440", find(api.ClBrief, 2240, 4481)},
		{"A800 R1440 A800 R2699", find(api.ClBrief, 2240, 5740)},
	} {
		checkAudit(t, b, did(one.did))
		for _, kind := range []string{"A", "W", "D"} {
			checkAudit(t, b, did(one.did+" "+kind+"1"), one.want)
			checkAudit(t, b, did(one.did+" "+kind+"1 R5 "+kind+"1"), one.want)
		}
	}
}

// TestSeveral: several clauses that one minute breaks, as many as can be; each is told once, in order.
func TestSeveral(t *testing.T) {
	b := roomy(func(b *api.Book) {
		b.Drive, b.Day, b.Longer, b.Longers, b.Week, b.Fortnight, b.Labour, b.Round, b.Rounds = 100, 100, 100, 0, 100, 100, 100, 640, 100
	})
	eight := []api.Finding{
		find(api.ClBreak, 0, 101), find(api.ClLonger, 0, 101), find(api.ClLongers, 0, 101), find(api.ClWeek, 0, 101),
		find(api.ClFortnight, 0, 101), find(api.ClDaily, 0, 101), find(api.ClWeekly, 0, 101), find(api.ClLabour, 0, 101),
	}
	checkAudit(t, b, did("D100"))
	checkAudit(t, b, did("D101"), eight...)
	checkAudit(t, b, did("D100 R5"))
	later := slices.Clone(eight)
	for i := range later {
		later[i].To = 106
	}
	checkAudit(t, b, did("D100 R5 D5"), later...)
	checkAudit(t, b, did("D101 R600 D101 R1440 D101"), eight...)
	checkAudit(t, b, did("W101"), eight[5], eight[6], eight[7])
	checkAudit(t, b, did("A101"), eight[5], eight[6])
	// A daily rest ends with the minute that breaks these: it is a reduced one, and no weekly one, and the week is full.
	full := roomy(func(b *api.Book) { b.Reduces, b.Week, b.Fortnight, b.Labour, b.Rounds = 0, 100, 100, 100, 640 })
	full.Round = 700
	checkAudit(t, full, did("D100 R540"))
	checkAudit(t, full, did("D100 R540 D1"), find(api.ClWeek, 0, 641), find(api.ClFortnight, 0, 641), find(api.ClReduces, 0, 641), find(api.ClWeekly, 0, 641), find(api.ClLabour, 0, 641))
	checkAudit(t, full, did("D100 R540 W1"), find(api.ClReduces, 0, 641), find(api.ClWeekly, 0, 641), find(api.ClLabour, 0, 641))
	checkAudit(t, full, did("D100 R540 A1"), find(api.ClReduces, 0, 641), find(api.ClWeekly, 0, 641))
	// And a weekly one.
	checkAudit(t, full, did("D50 R1440 D50 R1440 D1"), find(api.ClWeek, 0, 2981), find(api.ClFortnight, 0, 2981), find(api.ClBrief, 1490, 2981), find(api.ClLabour, 0, 2981))
}

// TestAll: all ten clauses, one behind the other: they are told by their numbers, not by their minutes.
func TestAll(t *testing.T) {
	b := api.Book{
		Drive: 9, First: 1, Second: 1, Break: 1, Part: 1, Reduced: 2, Regular: 3, Short: 4, Weekly: 5, Round: 20,
		Day: 7, Longer: 8, Longers: 0, Reduces: 0, Rounds: 40, Week: 5, Fortnight: 6, Labour: 3, Length: 1000,
	}
	all := []api.Finding{
		find(api.ClBreak, 16, 64), find(api.ClLonger, 16, 63), find(api.ClLongers, 13, 62), find(api.ClWeek, 0, 60), find(api.ClFortnight, 0, 61),
		find(api.ClDaily, 16, 35), find(api.ClReduces, 13, 17), find(api.ClWeekly, 13, 54), find(api.ClBrief, 8, 14), find(api.ClLabour, 0, 4),
	}
	short := "W4 R4 A1 R4 A1 R2 A38 D10"
	checkAudit(t, b, did(short), all...)
	checkAudit(t, b, did(short+" R4 "+short+" R4 "+short), all...)
	l := did(short)
	for to := 1; to <= 64; to++ {
		cut, err := record.Cut(l, sample.Span(0, to))
		if err != api.OK {
			t.Errorf("the test itself: %s can't be cut at %d", head(l), to)
		}
		checkAudit(t, b, cut, until(all, to)...)
	}
}

// TestMaxTime: timelines up to the last minute that there is.
func TestMaxTime(t *testing.T) {
	last := func(change func(b *api.Book)) api.Book {
		b := roomy(change)
		b.Reduced, b.Part, b.Break, b.First, b.Second = 1, 1, 1, 1, 1
		return b
	}
	for _, one := range []struct {
		b    api.Book
		did  string
		want api.Finding
	}{
		{last(func(b *api.Book) { b.Drive = 40318 }), "R1 D40319", find(api.ClBreak, 1, 40320)},
		{last(func(b *api.Book) { b.Longer, b.Day = 20000, 20000 }), "R20319 D20001", find(api.ClLonger, 20319, 40320)},
		{last(func(b *api.Book) { b.Day, b.Longers = 20000, 0 }), "R20319 D20001", find(api.ClLongers, 20319, 40320)},
		{last(func(b *api.Book) { b.Week = 10079 }), "R30240 D10080", find(api.ClWeek, 30240, 40320)},
		{last(func(b *api.Book) { b.Fortnight = 20159 }), "R20160 D20160", find(api.ClFortnight, 20160, 40320)},
		{last(func(b *api.Book) { b.Round = 20000 }), "R20320 A20000", find(api.ClDaily, 20320, 40320)},
		{last(func(b *api.Book) { b.Reduces, b.Regular = 0, 1000 }), "A40000 R319 A1", find(api.ClReduces, 0, 40320)},
		{last(func(b *api.Book) { b.Rounds = 40319 }), "A20000 R20 A20300", find(api.ClWeekly, 0, 40320)},
		{last(func(*api.Book) {}), "A20000 R1500 A17319 R1500 A1", find(api.ClBrief, 21500, 40320)},
		{last(func(b *api.Book) { b.Labour = 10079 }), "R30240 D5040 W5040", find(api.ClLabour, 30240, 40320)},
	} {
		checkAudit(t, one.b, did(one.did), one.want)
	}
	checkAudit(t, book.Europe(), sample.Lawful())
}

// TestRecords: the same minutes as one record and as many, kinds in turn, and one a minute of all the time there is.
func TestRecords(t *testing.T) {
	b := book.Europe()
	rec, list := sample.Rec, sample.List
	for _, l := range [][]api.Record{
		list(rec(3, 0, 271)), list(rec(3, 0, 270), rec(3, 270, 271)), list(rec(3, 0, 1), rec(3, 1, 271)), list(rec(3, 0, 100), rec(3, 100, 200), rec(3, 200, 300)),
	} {
		checkAudit(t, b, l, find(api.ClBreak, 0, 271))
	}
	for _, l := range [][]api.Record{
		list(rec(3, 0, 270), rec(0, 270, 315), rec(3, 315, 320)), list(rec(3, 0, 270), rec(0, 270, 280), rec(0, 280, 314), rec(0, 314, 315), rec(3, 315, 320)),
	} {
		checkAudit(t, b, l)
	}
	checkAudit(t, b, list(rec(2, 0, 900), rec(0, 900, 1000), rec(0, 1000, 1440), rec(2, 1440, 2340), rec(0, 2340, 2350), rec(0, 2350, 2800), rec(2, 2800, 2801)), find(api.ClDaily, 1440, 2801))
	checkAudit(t, b, sample.Many(false), find(api.ClDaily, 0, 901), find(api.ClWeekly, 0, 8641), find(api.ClLabour, 0, 3601))
	// One minute of each kind in turn: Drive is each fourth one, and Drive and Work are two of four.
	checkAudit(t, b, sample.Many(true), find(api.ClBreak, 0, 1084), find(api.ClLonger, 0, 2404), find(api.ClDaily, 0, 902), find(api.ClWeekly, 0, 8642), find(api.ClLabour, 0, 7203))
}

// TestNone: of no records nothing is found.
func TestNone(t *testing.T) {
	for _, b := range sample.May() {
		for _, l := range [][]api.Record{nil, {}, make([]api.Record, 3)[:0], sample.List(sample.Rec(9, -1, -1))[:0]} {
			if found, err := duty.Audit(b, l); len(found) != 0 || err != api.OK {
				t.Errorf("Audit(%+v) of no records = %v, %d", b, found, err)
			}
			if !duty.Accepts(b, l) {
				t.Errorf("Accepts(%+v) of no records = false", b)
			}
		}
	}
}

// checkErr: Audit tells that error, and nothing else; the timeline is none that is accepted.
func checkErr(t *testing.T, b api.Book, l []api.Record, want api.Errno) {
	t.Helper()
	if found, err := duty.Audit(b, l); len(found) != 0 || err != want {
		t.Errorf("Audit(%+v, %s) = %v, %d, want %d alone", b, head(l), found, err, want)
	}
	if duty.Accepts(b, l) {
		t.Errorf("Accepts(%+v, %s) = true, want false, as Audit tells %d", b, head(l), want)
	}
	if _, _, err := meter.Of(b, l); err != want {
		t.Errorf("the test itself: layer 13 tells %d of %s, and Audit should tell %d", err, head(l), want)
	}
}

// late: timelines that begin with another minute than 0.
func late() [][]api.Record {
	rec, list := sample.Rec, sample.List
	return [][]api.Record{
		list(rec(0, 1, 2)), list(rec(3, 1, 40320)), list(rec(2, 40319, 40320)), list(rec(0, 5, 7), rec(0, 7, 8)),
		list(rec(0, 1440, 2880), rec(3, 2880, 3000)), list(rec(3, 10080, 10351)), list(rec(1, 1, 2), rec(3, 2, 400)),
	}
}

// TestErrBook: books that may not be, for each reason; that is told ahead of all else.
func TestErrBook(t *testing.T) {
	for _, b := range sample.NoBooks() {
		for _, l := range slices.Concat(late(), sample.Small()[:40], [][]api.Record{nil, did("D270"), did("D271"), did("R1")}) {
			checkErr(t, b, l, api.ErrBook)
		}
		for _, w := range sample.Wrong() {
			checkErr(t, b, w.L, api.ErrBook)
		}
	}
	// Just at the limits they may be.
	for _, b := range sample.May() {
		if !duty.Accepts(b, did("R5")) {
			t.Errorf("by %+v five minutes of rest are not accepted", b)
		}
	}
}

// TestErrList: each error of layer 8's Check, in the first record and behind others, ahead of ErrGap.
func TestErrList(t *testing.T) {
	rec, list := sample.Rec, sample.List
	for _, b := range sample.May() {
		for _, w := range sample.Wrong() {
			if len(w.L) < 100 {
				checkErr(t, b, w.L, w.Err)
			}
		}
	}
	for _, w := range sample.Wrong() {
		checkErr(t, book.Europe(), w.L, w.Err)
	}
	for _, l := range slices.Concat(late(), [][]api.Record{did("D271"), did("A901 R5"), did("R1")}) {
		end := l[len(l)-1].To
		behind := func(r api.Record) []api.Record { return append(slices.Clone(l), r) }
		checkErr(t, book.Europe(), behind(rec(4, end, end+1)), api.ErrKind)
		checkErr(t, book.Europe(), behind(rec(-1, end, end+1)), api.ErrKind)
		checkErr(t, book.Europe(), behind(rec(0, end, 40321)), api.ErrRange)
		checkErr(t, book.Europe(), behind(rec(0, end, end)), api.ErrSpan)
		checkErr(t, book.Europe(), behind(rec(0, end-1, end)), api.ErrOverlap)
		if end < 40319 {
			checkErr(t, book.Europe(), behind(rec(0, end+1, end+2)), api.ErrGap)
		}
	}
	for _, kind := range sample.NoKinds() {
		checkErr(t, book.Europe(), list(rec(kind, 0, 2)), api.ErrKind)
		checkErr(t, book.Europe(), list(rec(kind, 1, 2)), api.ErrKind)
		checkErr(t, book.Europe(), list(rec(0, 0, 2), rec(kind, 2, 3)), api.ErrKind)
	}
	for _, from := range sample.Minutes() {
		for _, to := range sample.Minutes() {
			l := list(rec(1, from, to))
			if _, err := record.Check(l); err != api.OK {
				checkErr(t, book.Europe(), l, err)
			} else if from != 0 {
				checkErr(t, book.Europe(), l, api.ErrGap)
			} else {
				checkFound(t, book.Europe(), l, plain(book.Europe(), l))
			}
		}
	}
}

// TestErrGap: timelines that begin with another minute than 0.
func TestErrGap(t *testing.T) {
	for _, b := range sample.May() {
		for _, l := range late() {
			checkErr(t, b, l, api.ErrGap)
		}
	}
	for _, from := range []int{1, 2, 539, 540, 1440, 10080, 40318, 40319} {
		for kind := range api.Kinds {
			checkErr(t, book.Europe(), sample.List(sample.Rec(kind, from, 40320)), api.ErrGap)
		}
	}
	for _, l := range sample.Small() {
		if len(l) > 0 && l[0].From > 0 {
			checkErr(t, sample.Tiny(), l, api.ErrGap)
		}
	}
}

// TestSet: the set of the clauses of findings.
func TestSet(t *testing.T) {
	for _, one := range []struct {
		l    []api.Finding
		want int
	}{
		{nil, 0}, {[]api.Finding{}, 0}, {[]api.Finding{{}}, 1},
		{[]api.Finding{find(api.ClBreak, 0, 271)}, 1}, {[]api.Finding{find(api.ClLabour, 0, 3601)}, 512}, {[]api.Finding{find(api.ClLoad, 0, 1)}, 32768},
		{[]api.Finding{find(0, 0, 1), find(0, 0, 1), find(0, 5, 9)}, 1}, {[]api.Finding{find(3, 0, 1), find(3, 0, 1)}, 8},
		{[]api.Finding{find(5, 0, 1), find(0, 3, 1), find(9, 0, 0)}, 1 + 32 + 512}, {[]api.Finding{find(9, 0, 1), find(5, 0, 1), find(0, 0, 1), find(5, 2, 3)}, 1 + 32 + 512},
		{[]api.Finding{find(15, math.MinInt, math.MaxInt), find(14, math.MaxInt, math.MinInt)}, 16384 + 32768},
		{[]api.Finding{find(-1, 0, 1), find(2, 0, 1), find(16, 0, 1)}, 4}, {[]api.Finding{find(16, 0, 1)}, 0}, {[]api.Finding{find(-1, 0, 1)}, 0},
	} {
		if got := duty.Set(one.l); got != one.want {
			t.Errorf("Set(%v) = %d, want %d", one.l, got, one.want)
		}
	}
	var all []api.Finding
	for c, sum := 0, 0; c < 16; c++ {
		power := int(math.Pow(2, float64(c)))
		sum += power
		all = append([]api.Finding{find(c, c, c+1)}, all...)
		checkSet(t, power, find(c, 0, 1))
		checkSet(t, power, find(c, 0, 1), find(c, 0, 1), find(c, 2, 3))
		checkSet(t, sum, all...)
		checkSet(t, sum, append(slices.Clone(all), all...)...)
	}
}

// TestSetNone: numbers that are no clause's are in no set, and change none.
func TestSetNone(t *testing.T) {
	none := []int{-1, -2, -15, -16, -17, -64, 16, 17, 18, 31, 32, 63, 64, 65, 79, 80, 127, 128, 256, 1 << 31, 1<<31 + 1, 1 << 32, 1<<32 + 5, 1 << 62, math.MinInt, math.MinInt + 1, math.MinInt + 15, math.MaxInt - 15, math.MaxInt - 1, math.MaxInt}
	var all []api.Finding
	for _, c := range none {
		checkSet(t, 0, find(c, 0, 1))
		checkSet(t, 0, find(c, 0, 1), find(c, 0, 1))
		for clause := range 16 {
			power := int(math.Pow(2, float64(clause)))
			checkSet(t, power, find(c, 0, 1), find(clause, 0, 1))
			checkSet(t, power, find(clause, 0, 1), find(c, 0, 1))
		}
		all = append(all, find(c, 0, 1))
	}
	checkSet(t, 0, all...)
}

// checkSet: what Set tells of the findings; they read as before.
func checkSet(t *testing.T, want int, l ...api.Finding) {
	t.Helper()
	if !sample.Among(l, []api.Finding{find(7, 0, 1), find(-1, 0, 1)}, func(mine []api.Finding) {
		if got := duty.Set(mine); got != want {
			t.Errorf("Set(%v) = %d, want %d", l, got, want)
		}
	}) {
		t.Errorf("behind Set(%v) what was handed in doesn't read as before", l)
	}
	if !slices.Equal(clause.All(want), sorted(l)) {
		t.Errorf("the test itself: %d is not the set of the clauses of %v", want, l)
	}
}

// sorted: the clauses of the findings, rising.
func sorted(l []api.Finding) []int {
	var clauses []int
	for _, f := range l {
		if _, err := clause.Name(f.Clause); err == api.OK {
			clauses = append(clauses, f.Clause)
		}
	}
	slices.Sort(clauses)
	return slices.Compact(clauses)
}

// seen: how often each clause was found.
type seen [10]int

// count: adds what was found.
func (s *seen) count(found []api.Finding) {
	for _, f := range found {
		s[f.Clause]++
	}
}

// check: was each clause found often enough?
func (s *seen) check(t *testing.T, least int) {
	t.Helper()
	for c, n := range s {
		if n < least {
			t.Errorf("the test itself: clause %d was found only %d times", c, n)
		}
	}
}

// short: all timelines of so many minutes, a record each.
func short(minutes int) [][]api.Record {
	l := [][]api.Record{nil}
	for m := range minutes {
		var more [][]api.Record
		for _, ahead := range l {
			for kind := range api.Kinds {
				more = append(more, append(slices.Clone(ahead), sample.Rec(kind, m, m+1)))
			}
		}
		l = more
	}
	return l
}

// TestShort: by books of small numbers all short timelines, against what looks back from each minute.
func TestShort(t *testing.T) {
	var s seen
	l := short(6)
	for _, b := range append(sample.TinyBooks(), sample.Lowest()) {
		for i, one := range l {
			want := plain(b, one)
			s.count(want)
			checkFound(t, b, one, want)
			if i%100 == 0 {
				checkAudit(t, b, one, want...)
			}
		}
	}
	s.check(t, 1)
}

// TestSmall: timelines of few short records, normal and not, and longer ones, by books of all kinds.
func TestSmall(t *testing.T) {
	from0 := func(l []api.Record) bool { return len(l) == 0 || l[0].From == 0 }
	for _, b := range []api.Book{book.Europe(), sample.Lowest(), sample.Tiny(), sample.Wide(), changed(func(b *api.Book) { b.Length = 1 })} {
		for _, l := range sample.Small() {
			if from0(l) {
				checkFound(t, b, l, plain(b, l))
			}
		}
	}
	for _, b := range sample.May() {
		for _, l := range sample.Long() {
			if from0(l) {
				checkFound(t, b, l, plain(b, l))
			}
		}
	}
}

// anyOf: how many timelines of spells at the edges are tried by the book, and how long they are.
func anyOf(b api.Book) (turns, most int) {
	if b.Reduced > 100 {
		return 2, 12000
	}
	return 10, 300
}

// TestAny: timelines of spells at the edges, by books of all kinds.
func TestAny(t *testing.T) {
	draws := chance(16)
	var s seen
	for _, b := range sample.May() {
		turns, most := anyOf(b)
		for range turns {
			l := sample.AnyTimeline(draws.Intn, b, most)
			want := plain(b, l)
			s.count(want)
			checkAudit(t, b, l, want...)
		}
	}
	s.check(t, 50)
}

// alone: for each clause, the tiny book without other limits than its own, which hangs on a number from 0 on.
func alone() [10]func(b *api.Book, n int) {
	return [10]func(b *api.Book, n int){
		api.ClBreak:     func(b *api.Book, n int) { b.Drive = 1 + n },
		api.ClLonger:    func(b *api.Book, n int) { b.Day, b.Longer = 1, 1+n },
		api.ClLongers:   func(b *api.Book, n int) { b.Day, b.Longers = 1+n%7, n/7 },
		api.ClWeek:      func(b *api.Book, n int) { b.Week = 1 + n },
		api.ClFortnight: func(b *api.Book, n int) { b.Fortnight = 1 + n },
		api.ClDaily:     func(b *api.Book, n int) { b.Round = b.Reduced + 1 + n },
		api.ClReduces:   func(b *api.Book, n int) { b.Regular, b.Short, b.Weekly, b.Reduces = 5, 9, 9, n/4 },
		api.ClWeekly:    func(b *api.Book, n int) { b.Rounds = 1 + 3*n },
		api.ClBrief:     func(b *api.Book, n int) { b.Weekly = b.Short + n/4 },
		api.ClLabour:    func(b *api.Book, n int) { b.Labour = 1 + n },
	}
}

// TestAlone: by books that limit one thing, timelines which break that early, late and not at all; each time it is told what they broke, and from where on.
func TestAlone(t *testing.T) {
	draws := chance(17)
	for c, change := range alone() {
		found, late := 0, 0
		for n := range 40 {
			for range 12 {
				b := sample.Tiny()
				b.Drive, b.Day, b.Longer, b.Week, b.Fortnight, b.Labour, b.Round, b.Rounds = 40320, 40320, 40320, 40320, 40320, 40320, 40320, 40320
				b.Longers, b.Reduces, b.Length, b.Weekly = 1000, 1000, 1+draws.Intn(90), b.Short
				change(&b, n)
				l := sample.AnyTimeline(draws.Intn, sample.Tiny(), 200)
				want := plain(b, l)
				checkAudit(t, b, l, want...)
				for _, f := range want {
					if f.Clause != c {
						t.Errorf("the test itself: by %+v %v is found, and should be of clause %d", b, f, c)
					}
					found++
					if f.From > 0 {
						late++
					}
				}
			}
		}
		if found < 50 || found > 450 || late < 20 {
			t.Errorf("the test itself: of 480 timelines %d broke clause %d, %d behind what began later than 0", found, c, late)
		}
	}
}

// TestLawful: by the European book weeks break nothing that are as full as they may be; what they break of one that is tighter by a minute.
func TestLawful(t *testing.T) {
	l := sample.Lawful()
	for _, one := range []struct {
		change func(b *api.Book)
		want   []api.Finding
	}{
		{func(*api.Book) {}, nil},
		{func(b *api.Book) { b.Drive-- }, []api.Finding{find(api.ClBreak, 0, 285)}},
		{func(b *api.Book) { b.First++ }, []api.Finding{find(api.ClBreak, 0, 316)}},
		{func(b *api.Book) { b.Second++ }, []api.Finding{find(api.ClBreak, 0, 316)}},
		{func(b *api.Book) { b.Day--; b.Longers = 5 }, nil},
		{func(b *api.Book) { b.Day--; b.Longers = 4 }, []api.Finding{find(api.ClLongers, 0, 5940)}},
		{func(b *api.Book) { b.Longer, b.Longers = 540, 0 }, nil},
		{func(b *api.Book) { b.Day, b.Longer, b.Longers = 539, 539, 5 }, []api.Finding{find(api.ClLonger, 0, 585)}},
		{func(b *api.Book) { b.Reduces-- }, []api.Finding{find(api.ClReduces, 0, 3916)}},
		{func(b *api.Book) { b.Regular++ }, []api.Finding{find(api.ClReduces, 0, 5356)}},
		{func(b *api.Book) { b.Round-- }, []api.Finding{find(api.ClReduces, 0, 5356)}},
		{func(b *api.Book) { b.Round--; b.Reduces = 4 }, nil},
		{func(b *api.Book) { b.Weekly++ }, []api.Finding{find(api.ClBrief, 10080, 20161)}},
		{func(b *api.Book) { b.Rounds = 7380 }, nil},
		{func(b *api.Book) { b.Rounds = 7379 }, []api.Finding{find(api.ClWeekly, 0, 7380)}},
		{func(b *api.Book) { b.Week = 2699 }, []api.Finding{find(api.ClWeek, 0, 5940)}},
		{func(b *api.Book) { b.Fortnight-- }, []api.Finding{find(api.ClFortnight, 0, 16020)}},
		{func(b *api.Book) { b.Labour-- }, []api.Finding{find(api.ClLabour, 0, 6120)}},
	} {
		checkAudit(t, changed(one.change), l, one.want...)
	}
}

// laxer: books that are nowhere stricter: each number that may be greater a little or much greater, and all of them.
func laxer(b api.Book) []api.Book {
	var l []api.Book
	for _, more := range []int{1, 2, 30, 1000} {
		all := b
		for i := range laxables(&b) {
			one := b
			for _, n := range []*int{laxables(&one)[i], laxables(&all)[i]} {
				*n += more
			}
			l = append(l, one)
		}
		l = append(l, all)
	}
	return slices.DeleteFunc(l, func(b api.Book) bool { return book.Check(b) != api.OK })
}

// laxables: the places of a book's numbers by which it is laxer, if they are greater.
func laxables(b *api.Book) []*int {
	return []*int{&b.Drive, &b.Longer, &b.Day, &b.Longers, &b.Reduces, &b.Round, &b.Rounds, &b.Week, &b.Fortnight, &b.Labour}
}

// checkLaxer: P16.5: a timeline that the book accepts, all of those accept.
func checkLaxer(t *testing.T, b api.Book, l []api.Record, others []api.Book) {
	t.Helper()
	if !duty.Accepts(b, l) {
		t.Errorf("the test itself: by %+v %s is not accepted", b, head(l))
	}
	for _, other := range others {
		if !book.Tighter(b, other) {
			t.Errorf("the test itself: %+v is stricter than %+v", other, b)
		}
		if found, err := duty.Audit(other, l); len(found) > 0 || err != api.OK || !duty.Accepts(other, l) {
			t.Errorf("%+v accepts %s, and of it %+v, which is nowhere stricter, finds %v, %d", b, head(l), other, found, err)
		}
	}
}

// TestLaxer: P16.5: all that can be had of a timeline ahead of what breaks something; and the lawful weeks.
func TestLaxer(t *testing.T) {
	draws := chance(18)
	long := 0
	for _, b := range sample.May() {
		others := laxer(b)
		turns, most := anyOf(b)
		for range turns {
			l := sample.AnyTimeline(draws.Intn, b, most)
			for _, f := range plain(b, l) {
				l, _ = record.Cut(l, sample.Span(0, min(f.To-1, l[len(l)-1].To)))
			}
			checkLaxer(t, b, l, others)
			long += len(l)
		}
	}
	if long < 2000 {
		t.Errorf("the test itself: what is accepted has %d records in all", long)
	}
	checkLaxer(t, book.Europe(), sample.Lawful(), laxer(book.Europe()))
}

// TestLaxerShort: P16.5: all short timelines, by each two books of small numbers of which one is nowhere stricter.
func TestLaxerShort(t *testing.T) {
	books := append(sample.TinyBooks(), sample.Lowest())
	l := short(5)
	accepted, refused := 0, 0
	for _, b := range books {
		others := slices.DeleteFunc(slices.Clone(books), func(other api.Book) bool { return !book.Tighter(b, other) })
		for _, one := range l {
			if duty.Accepts(b, one) {
				checkLaxer(t, b, one, others)
				accepted++
			} else {
				refused++
			}
		}
	}
	if min(accepted, refused) < 1000 {
		t.Errorf("the test itself: %d timelines are accepted, %d not", accepted, refused)
	}
}

// TestReadsOnly: books, records and findings read as before behind each call, and what lies beside a list is nothing to it.
func TestReadsOnly(t *testing.T) {
	rows := [][]api.Record{did("D271"), did("D270 R45 D270"), did("A901 R540 W5"), did("W4 R4 A1 R4 A1 R2 A38 D10"), did("R10 R5 D300 D1")}
	for _, l := range slices.Concat(rows, sample.All()[:200]) {
		for _, b := range []api.Book{book.Europe(), sample.Tiny(), {}} {
			same := b
			want, wantErr := duty.Audit(b, slices.Clone(l))
			if !sample.Amid(l, func(mine []api.Record) {
				if got, err := duty.Audit(b, mine); !slices.Equal(got, want) || err != wantErr {
					t.Errorf("amid other records, Audit(%+v, %s) = %v, %d, want %v, %d", b, head(l), got, err, want, wantErr)
				}
				if is := duty.Accepts(b, mine); is != (len(want) == 0 && wantErr == api.OK) {
					t.Errorf("amid other records, Accepts(%+v, %s) = %v", b, head(l), is)
				}
			}) || b != same {
				t.Errorf("behind Audit or Accepts of %s what was handed in doesn't read as before", head(l))
			}
		}
	}
	for _, w := range sample.Wrong() {
		if !sample.Amid(w.L, func(mine []api.Record) { checkErr(t, sample.Tiny(), mine, w.Err) }) {
			t.Errorf("behind Audit(%s) what was handed in doesn't read as before", head(w.L))
		}
	}
}

// TestKeepsNothing: what is asked in between changes no answer, nor does what is done to one.
func TestKeepsNothing(t *testing.T) {
	b, l := sample.Tiny(), did("W4 R5 A1 R5 A1 R3 A38 D10")
	want, err := duty.Audit(b, l)
	if len(want) < 5 || err != api.OK {
		t.Errorf("the test itself: there are found but %v, %d", want, err)
	}
	for _, other := range slices.Concat(sample.May(), sample.NoBooks()[:5]) {
		duty.Audit(other, sample.Lawful())
		duty.Accepts(other, did("D271"))
		duty.Set([]api.Finding{find(3, 0, 1)})
		got, err := duty.Audit(b, l)
		if !slices.Equal(got, want) || err != api.OK {
			t.Errorf("asked again, Audit tells %v, %d, and told %v", got, err, want)
		}
		for i := range got {
			got[i] = find(15, -1, -1)
		}
		clear(got[:cap(got)])
	}
}
