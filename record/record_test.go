package record_test

import (
	"math"
	"slices"
	"testing"

	"haulier/api"
	"haulier/record"
	"haulier/sample"
)

var rec, span, list = sample.Rec, sample.Span, sample.List

// kinds: Rest, Avail, Work, Drive.
func kinds() []int { return []int{0, 1, 2, 3} }

// plainCheck: record by record, and error by error, as the document tells them.
func plainCheck(l []api.Record) (int, api.Errno) {
	end := 0
	for i, r := range l {
		if i == 0 {
			end = r.From
		}
		for _, fault := range []struct {
			is  bool
			err api.Errno
		}{
			{!slices.Contains(kinds(), r.Kind), api.ErrKind},
			{min(r.From, r.To) < 0 || max(r.From, r.To) > 40320, api.ErrRange},
			{r.To <= r.From, api.ErrSpan},
			{r.From > end, api.ErrGap},
			{r.From < end, api.ErrOverlap},
		} {
			if fault.is {
				return i, fault.err
			}
		}
		end = r.To
	}
	return 0, api.OK
}

// plain: a timeline minute by minute: the first one, and the kind of each from that on.
type plain struct {
	from  int
	kinds []int
}

// plainOf: the minutes of a timeline.
func plainOf(l []api.Record) plain {
	var p plain
	for i, r := range l {
		if i == 0 {
			p.from = r.From
		}
		for range r.To - r.From {
			p.kinds = append(p.kinds, r.Kind)
		}
	}
	return p
}

func (p plain) kind(m int) (int, bool) {
	if m < p.from || m >= p.from+len(p.kinds) {
		return 0, false
	}
	return p.kinds[m-p.from], true
}

// cut: those of its minutes that are in the span.
func (p plain) cut(s api.Span) plain {
	var in plain
	for i, kind := range p.kinds {
		if m := p.from + i; s.From <= m && m < s.To {
			if len(in.kinds) == 0 {
				in.from = m
			}
			in.kinds = append(in.kinds, kind)
		}
	}
	return in
}

// normal: a record for as many minutes of one kind as there are side by side.
func (p plain) normal() []api.Record {
	var l []api.Record
	for i, kind := range p.kinds {
		m := p.from + i
		if i == 0 || kind != p.kinds[i-1] {
			l = append(l, rec(kind, m, m))
		}
		l[len(l)-1].To = m + 1
	}
	return l
}

func (p plain) total(kind int) int {
	n := 0
	for _, k := range p.kinds {
		if k == kind {
			n++
		}
	}
	return n
}

// joined: what Join should tell of the lists.
func joined(l ...[]api.Record) ([]api.Record, api.Errno) {
	var all []api.Record
	for _, records := range l {
		all = append(all, records...)
	}
	if _, err := plainCheck(all); err != api.OK {
		return nil, err
	}
	return plainOf(all).normal(), api.OK
}

func checkCheck(t *testing.T, l []api.Record, at int, err api.Errno) {
	t.Helper()
	if plainAt, plainErr := plainCheck(l); plainAt != at || plainErr != err {
		t.Errorf("the test itself: %v is told as %d, %d, and should be %d, %d", sample.Short(l), plainAt, plainErr, at, err)
	}
	if gotAt, got := record.Check(l); gotAt != at || got != err {
		t.Errorf("Check(%v) = %d, %d, want %d, %d", sample.Short(l), gotAt, got, at, err)
	}
}

func checkNormal(t *testing.T, l, want []api.Record, wantErr api.Errno) {
	t.Helper()
	if got, err := record.Normal(l); !slices.Equal(got, want) || err != wantErr {
		t.Errorf("Normal(%v) = %v, %d, want %v, %d", sample.Short(l), sample.Short(got), err, sample.Short(want), wantErr)
	}
	is := wantErr == api.OK && slices.Equal(l, want)
	if got := record.IsNormal(l); got != is {
		t.Errorf("IsNormal(%v) = %t, want %t", sample.Short(l), got, is)
	}
}

func checkSpan(t *testing.T, l []api.Record, want api.Span, wantOK bool) {
	t.Helper()
	if got, ok := record.Span(l); got != want || ok != wantOK {
		t.Errorf("Span(%v) = %v, %t, want %v, %t", sample.Short(l), got, ok, want, wantOK)
	}
}

func checkJoin(t *testing.T, want []api.Record, wantErr api.Errno, l ...[]api.Record) {
	t.Helper()
	if got, err := record.Join(l...); !slices.Equal(got, want) || err != wantErr {
		t.Errorf("Join(%v) = %v, %d, want %v, %d", l, sample.Short(got), err, sample.Short(want), wantErr)
	}
}

func checkCut(t *testing.T, l []api.Record, s api.Span, want []api.Record, wantErr api.Errno) {
	t.Helper()
	if got, err := record.Cut(l, s); !slices.Equal(got, want) || err != wantErr {
		t.Errorf("Cut(%v, %v) = %v, %d, want %v, %d", sample.Short(l), s, sample.Short(got), err, sample.Short(want), wantErr)
	}
}

func checkTotal(t *testing.T, l []api.Record, kind, want int, wantErr api.Errno) {
	t.Helper()
	if got, err := record.Total(l, kind); got != want || err != wantErr {
		t.Errorf("Total(%v, %d) = %d, %d, want %d, %d", sample.Short(l), kind, got, err, want, wantErr)
	}
}

func checkKind(t *testing.T, l []api.Record, m, want int, wantOK bool) {
	t.Helper()
	if got, ok := record.Kind(l, m); got != want || ok != wantOK {
		t.Errorf("Kind(%v, %d) = %d, %t, want %d, %t", sample.Short(l), m, got, ok, want, wantOK)
	}
}

// checkAll: every call, on a list that is a timeline or none, against the plain telling.
func checkAll(t *testing.T, l []api.Record) {
	t.Helper()
	at, err := plainCheck(l)
	checkCheck(t, l, at, err)
	var p plain
	if err == api.OK {
		p = plainOf(l)
	}
	checkNormal(t, l, p.normal(), err)
	checkJoin(t, p.normal(), err, l)
	checkSpan(t, l, span(p.from, p.from+len(p.kinds)), len(p.kinds) > 0)
	for _, kind := range kinds() {
		checkTotal(t, l, kind, p.total(kind), err)
	}
	for _, kind := range sample.NoKinds() {
		wantErr := err
		if err == api.OK {
			wantErr = api.ErrKind
		}
		checkTotal(t, l, kind, 0, wantErr)
	}
	for _, m := range append(sample.Minutes(), p.from-1, p.from, p.from+len(p.kinds)/2, p.from+len(p.kinds)-1, p.from+len(p.kinds)) {
		kind, ok := p.kind(m)
		checkKind(t, l, m, kind, ok)
	}
	for _, s := range []api.Span{span(0, 40320), span(1, 2), span(math.MinInt, math.MaxInt), span(0, 0), span(2, 1)} {
		wantErr := err
		if err == api.OK && s.From >= s.To {
			wantErr = api.ErrSpan
		}
		var want []api.Record
		if wantErr == api.OK {
			want = p.cut(s).normal()
		}
		checkCut(t, l, s, want, wantErr)
	}
}

// TestNone: no records, nil and empty, are a timeline, a normal one, of no minutes.
func TestNone(t *testing.T) {
	for _, l := range [][]api.Record{nil, {}, make([]api.Record, 0, 3)} {
		checkCheck(t, l, 0, api.OK)
		checkNormal(t, l, nil, api.OK)
		if !record.IsNormal(l) {
			t.Error("no records are not normal")
		}
		checkSpan(t, l, api.Span{}, false)
		checkJoin(t, nil, api.OK, l)
		checkJoin(t, nil, api.OK, l, l, nil)
		checkCut(t, l, span(0, 5), nil, api.OK)
		checkCut(t, l, span(math.MinInt, math.MaxInt), nil, api.OK)
		checkCut(t, l, span(5, 5), nil, api.ErrSpan)
		for _, kind := range kinds() {
			checkTotal(t, l, kind, 0, api.OK)
		}
		for _, kind := range sample.NoKinds() {
			checkTotal(t, l, kind, 0, api.ErrKind)
		}
		for _, m := range sample.Minutes() {
			checkKind(t, l, m, 0, false)
		}
	}
}

// TestCheckKind: the four kinds, and what is none, in the first record and behind another.
func TestCheckKind(t *testing.T) {
	for _, kind := range kinds() {
		checkCheck(t, list(rec(kind, 0, 5)), 0, api.OK)
		for _, ahead := range kinds() {
			checkCheck(t, list(rec(ahead, 0, 5), rec(kind, 5, 6)), 0, api.OK)
		}
	}
	for _, kind := range sample.NoKinds() {
		checkCheck(t, list(rec(kind, 0, 5)), 0, api.ErrKind)
		checkCheck(t, list(rec(kind, 0, 5), rec(3, 5, 6)), 0, api.ErrKind)
		checkCheck(t, list(rec(3, 0, 5), rec(kind, 5, 6)), 1, api.ErrKind)
		checkCheck(t, list(rec(3, 0, 5), rec(0, 5, 6), rec(kind, 6, 7), rec(kind, 7, 8)), 2, api.ErrKind)
	}
}

// TestCheckRange: From and To at the limits, and outside.
func TestCheckRange(t *testing.T) {
	for _, l := range [][]api.Record{
		list(rec(0, 0, 1)), list(rec(0, 0, 40320)), list(rec(0, 0, 40319)), list(rec(0, 1, 40320)), list(rec(0, 40319, 40320)),
		list(rec(0, 0, 1), rec(1, 1, 40320)), list(rec(0, 0, 40319), rec(1, 40319, 40320)),
	} {
		checkCheck(t, l, 0, api.OK)
	}
	for _, m := range []int{math.MinInt, math.MinInt + 1, -40320, -2, -1, 40321, 40322, 1 << 32, 1<<32 + 1, math.MaxInt - 1, math.MaxInt} {
		for _, other := range append(sample.Minutes(), m, 20000) {
			checkCheck(t, list(rec(1, m, other)), 0, api.ErrRange)
			checkCheck(t, list(rec(1, other, m)), 0, api.ErrRange)
			checkCheck(t, list(rec(1, 0, 1), rec(1, m, other)), 1, api.ErrRange)
			checkCheck(t, list(rec(1, 0, 1), rec(1, other, m)), 1, api.ErrRange)
		}
	}
}

// TestCheckSpan: To at From, below it and above it.
func TestCheckSpan(t *testing.T) {
	for _, from := range []int{0, 1, 2, 20000, 40318, 40319, 40320} {
		for _, to := range []int{from - 2, from - 1, from, from + 1, 0, 40320} {
			want := api.OK
			if to < 0 || to > 40320 {
				want = api.ErrRange
			} else if to <= from {
				want = api.ErrSpan
			}
			checkCheck(t, list(rec(3, from, to)), 0, want)
			at, err := 0, want
			if want == api.OK {
				at, err = 1, api.ErrKind
			}
			checkCheck(t, list(rec(3, from, to), rec(4, 0, 0)), at, err)
		}
	}
}

// TestCheckSides: a record that begins where the one ahead ends, behind it, and ahead of it.
func TestCheckSides(t *testing.T) {
	for _, ahead := range []api.Record{rec(0, 10, 20), rec(3, 0, 20), rec(3, 19, 20)} {
		for _, kind := range kinds() {
			checkCheck(t, list(ahead, rec(kind, 20, 30)), 0, api.OK)
			for _, from := range []int{21, 22, 25, 29} {
				checkCheck(t, list(ahead, rec(kind, from, 30)), 1, api.ErrGap)
			}
			for _, from := range []int{19, 18, 11, 10, 9, 1, 0} {
				checkCheck(t, list(ahead, rec(kind, from, 30)), 1, api.ErrOverlap)
			}
		}
	}
	// It is the end of the record just ahead that counts, and nothing is ahead of the first one.
	checkCheck(t, list(rec(0, 10, 20), rec(1, 20, 30), rec(2, 30, 40)), 0, api.OK)
	checkCheck(t, list(rec(0, 10, 20), rec(1, 20, 30), rec(2, 20, 40)), 2, api.ErrOverlap)
	checkCheck(t, list(rec(0, 10, 20), rec(1, 20, 30), rec(2, 10, 20)), 2, api.ErrOverlap)
	checkCheck(t, list(rec(0, 10, 20), rec(1, 20, 30), rec(2, 31, 40)), 2, api.ErrGap)
	checkCheck(t, list(rec(0, 10, 20), rec(0, 10, 20)), 1, api.ErrOverlap)
	checkCheck(t, list(rec(0, 10, 20), rec(0, 0, 10)), 1, api.ErrOverlap)
	checkCheck(t, list(rec(0, 40319, 40320)), 0, api.OK)
}

// TestCheckOrder: records that are wrong in several ways: the error that is named first.
func TestCheckOrder(t *testing.T) {
	ahead := rec(1, 10, 20)
	for _, c := range []struct {
		r    api.Record
		want api.Errno
	}{
		{rec(4, -1, 30), api.ErrKind},
		{rec(-1, 20, 40321), api.ErrKind},
		{rec(4, 20, 20), api.ErrKind},
		{rec(4, 21, 30), api.ErrKind},
		{rec(-1, 19, 30), api.ErrKind},
		{rec(math.MaxInt, math.MaxInt, math.MinInt), api.ErrKind},
		{rec(0, 20, -1), api.ErrRange},
		{rec(0, -1, -1), api.ErrRange},
		{rec(0, -1, -2), api.ErrRange},
		{rec(0, 40321, 40321), api.ErrRange},
		{rec(0, 40321, 40322), api.ErrRange},
		{rec(0, 40321, 40320), api.ErrRange},
		{rec(0, -1, 30), api.ErrRange},
		{rec(0, 21, 40321), api.ErrRange},
		{rec(0, math.MaxInt, math.MinInt), api.ErrRange},
		{rec(0, math.MinInt, math.MaxInt), api.ErrRange},
		{rec(0, 21, 21), api.ErrSpan},
		{rec(0, 21, 20), api.ErrSpan},
		{rec(0, 40320, 40320), api.ErrSpan},
		{rec(0, 19, 19), api.ErrSpan},
		{rec(0, 19, 18), api.ErrSpan},
		{rec(0, 0, 0), api.ErrSpan},
		{rec(0, 21, 22), api.ErrGap},
		{rec(0, 19, 22), api.ErrOverlap},
		{rec(0, 0, 10), api.ErrOverlap},
		{rec(0, 20, 22), api.OK},
	} {
		at := 0
		if c.want != api.OK {
			at = 1
		}
		checkCheck(t, list(ahead, c.r), at, c.want)
		checkCheck(t, list(rec(0, 9, 10), ahead, c.r), 2*at, c.want)
		alone := c.want
		if alone == api.ErrGap || alone == api.ErrOverlap {
			alone = api.OK
		}
		checkCheck(t, list(c.r), 0, alone)
	}
}

// TestCheckFirst: of several records that are wrong, the first one, whatever is wrong with the later ones.
func TestCheckFirst(t *testing.T) {
	faults := []struct {
		r   api.Record
		err api.Errno
	}{
		{rec(4, 20, 30), api.ErrKind}, {rec(0, 20, 40321), api.ErrRange}, {rec(0, 20, 20), api.ErrSpan}, {rec(0, 21, 30), api.ErrGap}, {rec(0, 19, 30), api.ErrOverlap},
	}
	for _, a := range faults {
		for _, b := range faults {
			checkCheck(t, list(rec(0, 0, 20), a.r, b.r), 1, a.err)
			checkCheck(t, list(rec(0, 0, 10), rec(1, 10, 20), a.r, b.r, b.r), 2, a.err)
			checkCheck(t, list(rec(0, 0, 20), a.r, rec(2, a.r.To, a.r.To+1), b.r), 1, a.err)
		}
	}
	for _, c := range sample.Wrong() {
		checkCheck(t, c.L, c.At, c.Err)
	}
}

// TestCheckPlaces: one record is wrong, at each place of a longer timeline.
func TestCheckPlaces(t *testing.T) {
	for i := range 20 {
		for _, c := range []struct {
			change api.Record
			err    api.Errno
		}{
			{rec(7, 0, 0), api.ErrKind}, {rec(0, -1-10*i, 0), api.ErrRange}, {rec(0, 0, -10), api.ErrSpan}, {rec(0, 1, 0), api.ErrGap}, {rec(0, -1, 0), api.ErrOverlap},
		} {
			var l []api.Record
			for j := range 20 {
				l = append(l, rec(0, 10*j, 10*j+10))
			}
			l[i].Kind += c.change.Kind
			l[i].From += c.change.From
			l[i].To += c.change.To
			at, err := i, c.err
			switch {
			case i == 0 && err == api.ErrGap:
				// Behind nothing there is no gap.
				at, err = 0, api.OK
			case i == 0 && err == api.ErrOverlap:
				err = api.ErrRange
			}
			checkCheck(t, l, at, err)
		}
	}
}

// TestCheckTwo: all lists of one and of two records at any edges, whatever their kinds, and behind a right one.
func TestCheckTwo(t *testing.T) {
	var all []api.Record
	for _, kind := range []int{math.MinInt, -1, 0, 3, 4, math.MaxInt} {
		for _, from := range []int{math.MinInt, -1, 0, 1, 2, 40319, 40320, 40321, math.MaxInt} {
			for _, to := range []int{math.MinInt, -1, 0, 1, 2, 40319, 40320, 40321, math.MaxInt} {
				all = append(all, rec(kind, from, to))
			}
		}
	}
	for _, a := range all {
		checkAll(t, list(a))
		for _, b := range all {
			l := list(a, b)
			at, err := plainCheck(l)
			checkCheck(t, l, at, err)
			if err == api.OK {
				checkNormal(t, l, plainOf(l).normal(), err)
			}
			three := list(rec(2, 0, 1), a, b)
			at, err = plainCheck(three)
			checkCheck(t, three, at, err)
		}
	}
}

// TestMany: a record for each minute that there is, and one more.
func TestMany(t *testing.T) {
	turn, same := sample.Many(true), sample.Many(false)
	checkAll(t, turn)
	checkNormal(t, turn, turn, api.OK)
	checkAll(t, same)
	checkNormal(t, same, list(rec(2, 0, 40320)), api.OK)
	checkTotal(t, same, 2, 40320, api.OK)
	checkTotal(t, same, 3, 0, api.OK)
	checkTotal(t, turn, 3, 10080, api.OK)
	for _, l := range [][]api.Record{turn, same} {
		for _, more := range []struct {
			r   api.Record
			err api.Errno
		}{
			{rec(0, 40320, 40321), api.ErrRange}, {rec(0, 40320, 40320), api.ErrSpan}, {rec(0, 40319, 40320), api.ErrOverlap}, {rec(4, 40320, 40321), api.ErrKind},
		} {
			checkCheck(t, append(slices.Clone(l), more.r), 40320, more.err)
		}
		checkCheck(t, slices.Concat(l, l), 40320, api.ErrOverlap)
		checkCheck(t, l[1:], 0, api.OK)
	}
	long := make([]api.Record, 1<<20)
	checkCheck(t, long, 0, api.ErrSpan)
}

// TestNormal: as many records as there are changes of the kind.
func TestNormal(t *testing.T) {
	for _, c := range []struct{ l, want []api.Record }{
		{list(rec(3, 0, 5), rec(3, 5, 7)), list(rec(3, 0, 7))},
		{list(rec(3, 0, 5)), list(rec(3, 0, 5))},
		{list(rec(0, 3, 4), rec(0, 4, 5), rec(0, 5, 6), rec(0, 6, 7)), list(rec(0, 3, 7))},
		{list(rec(3, 0, 5), rec(2, 5, 7)), list(rec(3, 0, 5), rec(2, 5, 7))},
		{list(rec(3, 0, 5), rec(2, 5, 7), rec(3, 7, 9)), list(rec(3, 0, 5), rec(2, 5, 7), rec(3, 7, 9))},
		{list(rec(3, 0, 5), rec(3, 5, 7), rec(2, 7, 8), rec(2, 8, 9)), list(rec(3, 0, 7), rec(2, 7, 9))},
		{list(rec(3, 0, 5), rec(2, 5, 7), rec(2, 7, 8), rec(3, 8, 9)), list(rec(3, 0, 5), rec(2, 5, 8), rec(3, 8, 9))},
		{list(rec(3, 0, 5), rec(2, 5, 7), rec(3, 7, 8), rec(3, 8, 9)), list(rec(3, 0, 5), rec(2, 5, 7), rec(3, 7, 9))},
		{list(rec(0, 0, 1), rec(1, 1, 2), rec(2, 2, 3), rec(3, 3, 4)), list(rec(0, 0, 1), rec(1, 1, 2), rec(2, 2, 3), rec(3, 3, 4))},
		{list(rec(1, 0, 40319), rec(1, 40319, 40320)), list(rec(1, 0, 40320))},
	} {
		checkNormal(t, c.l, c.want, api.OK)
		checkNormal(t, c.want, c.want, api.OK)
		if is := record.IsNormal(c.l); is != (len(c.l) == len(c.want)) {
			t.Errorf("IsNormal(%v) = %t", c.l, is)
		}
	}
	for _, c := range sample.Wrong() {
		checkNormal(t, c.L, nil, c.Err)
	}
}

// TestIsNormal: whatever two kinds stand side by side.
func TestIsNormal(t *testing.T) {
	for _, a := range kinds() {
		for _, b := range kinds() {
			for _, c := range kinds() {
				l := list(rec(a, 4, 6), rec(b, 6, 7), rec(c, 7, 9))
				if got, want := record.IsNormal(l), a != b && b != c; got != want {
					t.Errorf("IsNormal(%v) = %t, want %t", l, got, want)
				}
			}
		}
	}
	for _, c := range sample.Wrong() {
		if record.IsNormal(c.L) {
			t.Errorf("IsNormal(%v) = true", sample.Short(c.L))
		}
	}
}

func TestSpan(t *testing.T) {
	checkSpan(t, list(rec(0, 5, 9)), span(5, 9), true)
	checkSpan(t, list(rec(0, 0, 1)), span(0, 1), true)
	checkSpan(t, list(rec(0, 0, 40320)), span(0, 40320), true)
	checkSpan(t, list(rec(0, 40319, 40320)), span(40319, 40320), true)
	checkSpan(t, list(rec(0, 5, 9), rec(3, 9, 10)), span(5, 10), true)
	checkSpan(t, list(rec(3, 5, 9), rec(3, 9, 10), rec(3, 10, 40)), span(5, 40), true)
	checkSpan(t, sample.Many(true), span(0, 40320), true)
	for _, c := range sample.Wrong() {
		checkSpan(t, c.L, api.Span{}, false)
	}
}

// TestEach: every call on each timeline of few records, on longer ones, and on lists that are none.
func TestEach(t *testing.T) {
	for _, l := range sample.Right() {
		checkAll(t, l)
	}
	for _, c := range sample.Wrong() {
		checkAll(t, c.L)
	}
}

func TestJoin(t *testing.T) {
	a, b, c := list(rec(3, 0, 5)), list(rec(3, 5, 7), rec(2, 7, 9)), list(rec(2, 9, 10), rec(2, 10, 12), rec(0, 12, 13))
	var none []api.Record
	empty := []api.Record{}
	checkJoin(t, nil, api.OK)
	checkJoin(t, nil, api.OK, none)
	checkJoin(t, nil, api.OK, empty)
	checkJoin(t, nil, api.OK, none, empty, none, empty)
	checkJoin(t, a, api.OK, a)
	checkJoin(t, list(rec(3, 0, 7), rec(2, 7, 9)), api.OK, a, b)
	checkJoin(t, list(rec(3, 0, 7), rec(2, 7, 9)), api.OK, none, a, empty, none, b, empty)
	checkJoin(t, list(rec(3, 0, 7), rec(2, 7, 12), rec(0, 12, 13)), api.OK, a, b, c)
	checkJoin(t, list(rec(3, 0, 7), rec(2, 7, 12), rec(0, 12, 13)), api.OK, a, none, none, b, c, none)
	checkJoin(t, list(rec(2, 9, 12), rec(0, 12, 13)), api.OK, c)
	checkJoin(t, list(rec(3, 5, 7), rec(2, 7, 12), rec(0, 12, 13)), api.OK, b, c)
	// They don't fit together.
	checkJoin(t, nil, api.ErrGap, a, c)
	checkJoin(t, nil, api.ErrGap, a, none, c)
	checkJoin(t, nil, api.ErrOverlap, b, a)
	checkJoin(t, nil, api.ErrOverlap, a, a)
	checkJoin(t, nil, api.ErrOverlap, a, empty, a)
	checkJoin(t, nil, api.ErrOverlap, a, b, list(rec(2, 8, 10)))
	checkJoin(t, nil, api.ErrOverlap, a, b, c, a)
	checkJoin(t, nil, api.ErrGap, a, c, b)
	// One list is no timeline: the first record that is wrong, of all, tells the error.
	checkJoin(t, nil, api.ErrKind, list(rec(4, 0, 5)), b)
	checkJoin(t, nil, api.ErrKind, a, list(rec(-1, 5, 6)))
	checkJoin(t, nil, api.ErrRange, a, list(rec(0, 5, 40321)))
	checkJoin(t, nil, api.ErrSpan, a, b, list(rec(0, 9, 9)))
	checkJoin(t, nil, api.ErrOverlap, a, a, list(rec(4, 5, 6)))
	checkJoin(t, nil, api.ErrGap, a, list(rec(0, 6, 7), rec(4, 7, 8)))
	checkJoin(t, nil, api.ErrSpan, a, list(rec(0, 5, 5)), list(rec(0, 5, 6)))
	for _, w := range sample.Wrong() {
		checkJoin(t, nil, w.Err, w.L)
		checkJoin(t, nil, w.Err, none, w.L, a)
		checkJoin(t, nil, w.Err, w.L[:w.At], w.L[w.At:])
		checkJoin(t, nil, w.Err, w.L[:w.At], none, w.L[w.At:], a, w.L)
	}
}

// TestJoinParts: timelines that were taken apart, anywhere, into one list, two, three, or one a record, are whole again.
func TestJoinParts(t *testing.T) {
	for _, l := range sample.Right() {
		want := plainOf(l).normal()
		var single [][]api.Record
		for i := range len(l) {
			single = append(single, l[i:i+1], nil)
		}
		checkJoin(t, want, api.OK, single...)
		for i := range len(l) + 1 {
			checkJoin(t, want, api.OK, l[:i], l[i:])
			for j := range len(l) - i + 1 {
				checkJoin(t, want, api.OK, l[:i], l[i:i+j], l[i+j:])
			}
		}
	}
	var each [][]api.Record
	for _, r := range sample.Many(true) {
		each = append(each, list(r))
	}
	checkJoin(t, sample.Many(true), api.OK, each...)
	checkJoin(t, nil, api.ErrOverlap, append(each, list(rec(0, 40319, 40320)))...)
	checkJoin(t, nil, api.OK, make([][]api.Record, 1<<20)...)
}

// TestJoinTwo: any two and any three of some lists, whether they fit together or not.
func TestJoinTwo(t *testing.T) {
	var some [][]api.Record
	for i, l := range sample.Right() {
		if len(l) <= 1 || i%37 == 0 {
			some = append(some, l)
		}
	}
	for _, w := range sample.Wrong()[:13] {
		some = append(some, w.L)
	}
	fit := 0
	for _, a := range some {
		for _, b := range some {
			want, wantErr := joined(a, b)
			checkJoin(t, want, wantErr, a, b)
			if wantErr == api.OK && len(a) > 0 && len(b) > 0 {
				fit++
			}
			for _, c := range some[:30] {
				want, wantErr := joined(c, a, b)
				checkJoin(t, want, wantErr, c, a, b)
			}
		}
	}
	if fit == 0 {
		t.Error("the test itself: no two lists fit together")
	}
}

func TestCut(t *testing.T) {
	l := list(rec(3, 10, 15), rec(3, 15, 20), rec(2, 20, 25), rec(0, 25, 30), rec(0, 30, 31))
	whole := list(rec(3, 10, 20), rec(2, 20, 25), rec(0, 25, 31))
	for _, c := range []struct {
		s    api.Span
		want []api.Record
	}{
		// Ahead of it, behind it, and beside it.
		{span(0, 5), nil},
		{span(0, 9), nil},
		{span(0, 10), nil},
		{span(9, 10), nil},
		{span(31, 32), nil},
		{span(32, 40), nil},
		{span(31, 40320), nil},
		{span(-10, 0), nil},
		{span(40320, 40321), nil},
		{span(math.MinInt, -5), nil},
		{span(math.MinInt, 10), nil},
		{span(31, math.MaxInt), nil},
		{span(math.MaxInt-1, math.MaxInt), nil},
		{span(math.MinInt, math.MinInt+1), nil},
		// In one record.
		{span(10, 11), list(rec(3, 10, 11))},
		{span(11, 14), list(rec(3, 11, 14))},
		{span(10, 15), list(rec(3, 10, 15))},
		{span(21, 24), list(rec(2, 21, 24))},
		{span(20, 25), list(rec(2, 20, 25))},
		{span(24, 25), list(rec(2, 24, 25))},
		{span(30, 31), list(rec(0, 30, 31))},
		// Over several.
		{span(14, 16), list(rec(3, 14, 16))},
		{span(19, 21), list(rec(3, 19, 20), rec(2, 20, 21))},
		{span(12, 28), list(rec(3, 12, 20), rec(2, 20, 25), rec(0, 25, 28))},
		{span(15, 25), list(rec(3, 15, 20), rec(2, 20, 25))},
		{span(29, 31), list(rec(0, 29, 31))},
		{span(11, 30), list(rec(3, 11, 20), rec(2, 20, 25), rec(0, 25, 30))},
		// Over all of it, and beyond its ends.
		{span(10, 31), whole},
		{span(9, 32), whole},
		{span(0, 40320), whole},
		{span(-5, 40330), whole},
		{span(math.MinInt, math.MaxInt), whole},
		{span(9, 11), list(rec(3, 10, 11))},
		{span(0, 17), list(rec(3, 10, 17))},
		{span(math.MinInt, 22), list(rec(3, 10, 20), rec(2, 20, 22))},
		{span(22, math.MaxInt), list(rec(2, 22, 25), rec(0, 25, 31))},
		{span(30, 40), list(rec(0, 30, 31))},
		{span(29, 32), list(rec(0, 29, 31))},
	} {
		checkCut(t, l, c.s, c.want, api.OK)
		checkCut(t, whole, c.s, c.want, api.OK)
	}
	checkCut(t, list(rec(1, 0, 40320)), span(-1, 1), list(rec(1, 0, 1)), api.OK)
	checkCut(t, list(rec(1, 0, 40320)), span(40319, 40321), list(rec(1, 40319, 40320)), api.OK)
}

// TestCutEach: each timeline of few records, by all spans around it, minute by minute.
func TestCutEach(t *testing.T) {
	for _, l := range sample.Right() {
		p := plainOf(l)
		if len(p.kinds) > 50 {
			continue
		}
		for from := p.from - 2; from <= p.from+len(p.kinds)+2; from++ {
			for to := from; to <= p.from+len(p.kinds)+2; to++ {
				s := span(from, to)
				want := api.OK
				if from == to {
					want = api.ErrSpan
				}
				checkCut(t, l, s, p.cut(s).normal(), want)
			}
		}
	}
}

// notRight: spans that have no minute.
func notRight() []api.Span {
	return []api.Span{span(0, 0), span(5, 5), span(12, 12), span(12, 11), span(40320, 0), span(-1, -1), span(-1, -2), span(math.MaxInt, math.MinInt), span(math.MinInt, math.MinInt), span(math.MaxInt, math.MaxInt)}
}

// TestCutErrors: spans that are not right, and, ahead of that, lists that are no timelines.
func TestCutErrors(t *testing.T) {
	for _, s := range notRight() {
		for _, l := range sample.Long() {
			checkCut(t, l, s, nil, api.ErrSpan)
		}
		checkCut(t, list(rec(3, 10, 15)), s, nil, api.ErrSpan)
		for _, c := range sample.Wrong() {
			checkCut(t, c.L, s, nil, c.Err)
		}
	}
	for _, c := range sample.Wrong() {
		for _, s := range []api.Span{span(0, 1), span(0, 5), span(0, 40320), span(40320, 40321), span(-9, -5), span(math.MinInt, math.MaxInt)} {
			checkCut(t, c.L, s, nil, c.Err)
		}
	}
}

func TestTotal(t *testing.T) {
	l := list(rec(3, 10, 15), rec(3, 15, 21), rec(2, 21, 25), rec(0, 25, 30), rec(3, 30, 32))
	for kind, want := range []int{5, 0, 4, 13} {
		checkTotal(t, l, kind, want, api.OK)
	}
	for _, kind := range kinds() {
		checkTotal(t, list(rec(kind, 0, 40320)), kind, 40320, api.OK)
		checkTotal(t, list(rec(kind, 7, 8)), kind, 1, api.OK)
		checkTotal(t, list(rec(kind, 7, 9)), (kind+1)%4, 0, api.OK)
	}
	// The list's error comes ahead of the kind's.
	for _, kind := range sample.NoKinds() {
		checkTotal(t, l, kind, 0, api.ErrKind)
		for _, c := range sample.Wrong() {
			checkTotal(t, c.L, kind, 0, c.Err)
		}
	}
	for _, kind := range kinds() {
		for _, c := range sample.Wrong() {
			checkTotal(t, c.L, kind, 0, c.Err)
		}
	}
}

func TestKind(t *testing.T) {
	l := list(rec(3, 10, 15), rec(2, 15, 16), rec(0, 16, 20), rec(1, 20, 21), rec(1, 21, 30))
	for _, c := range []struct{ m, want int }{
		{10, 3}, {11, 3}, {14, 3}, {15, 2}, {16, 0}, {17, 0}, {19, 0}, {20, 1}, {21, 1}, {22, 1}, {29, 1},
	} {
		checkKind(t, l, c.m, c.want, true)
	}
	for _, m := range []int{math.MinInt, math.MinInt + 1, -10, -1, 0, 9, 30, 31, 40319, 40320, 40321, 1<<32 + 10, math.MaxInt - 1, math.MaxInt} {
		checkKind(t, l, m, 0, false)
	}
	for _, kind := range kinds() {
		checkKind(t, list(rec(kind, 0, 40320)), 0, kind, true)
		checkKind(t, list(rec(kind, 0, 40320)), 40319, kind, true)
		checkKind(t, list(rec(kind, 0, 40320)), 40320, 0, false)
		checkKind(t, list(rec(kind, 0, 40320)), -1, 0, false)
	}
	for _, c := range sample.Wrong() {
		for _, m := range append(sample.Minutes(), 4, 5, 6, 7) {
			checkKind(t, c.L, m, 0, false)
		}
	}
}

// sameKinds: each minute of the first list, and those around it, one by one, is of the kind in the second list that it is of in the first, if it is in the span; else it isn't there.
func sameKinds(t *testing.T, what string, before, behind []api.Record, s api.Span) {
	t.Helper()
	p := plainOf(before)
	for m := p.from - 2; m <= p.from+len(p.kinds)+2; m++ {
		want, wantOK := record.Kind(before, m)
		if m < s.From || m >= s.To {
			want, wantOK = 0, false
		}
		if got, ok := record.Kind(behind, m); got != want || ok != wantOK {
			t.Errorf("%s of %v: the minute %d is %d, %t, want %d, %t", what, sample.Short(before), m, got, ok, want, wantOK)
		}
	}
}

// TestMinutes: P8.5: no minute's kind changes by Normal, Join and Cut.
func TestMinutes(t *testing.T) {
	all := span(math.MinInt, math.MaxInt)
	for _, l := range sample.Right() {
		if len(plainOf(l).kinds) > 2000 {
			continue
		}
		normal, err := record.Normal(l)
		if err != api.OK {
			t.Errorf("Normal(%v): %d", l, err)
		}
		sameKinds(t, "Normal", l, normal, all)
		half := len(l) / 2
		whole, err := record.Join(l[:half], nil, l[half:])
		if err != api.OK {
			t.Errorf("Join(%v): %d", l, err)
		}
		sameKinds(t, "Join", l, whole, all)
		p := plainOf(l)
		for _, s := range []api.Span{all, span(p.from, p.from+len(p.kinds)+1), span(p.from+1, p.from+len(p.kinds)+3), span(p.from-1, p.from+2), span(p.from-9, p.from), span(p.from+2, p.from+3)} {
			cut, err := record.Cut(l, s)
			if err != api.OK {
				t.Errorf("Cut(%v, %v): %d", l, s, err)
			}
			sameKinds(t, "Cut", l, cut, s)
		}
		// What is cut in two is whole again.
		middle := p.from + len(p.kinds)/2
		left, _ := record.Cut(l, span(math.MinInt, middle))
		rest, _ := record.Cut(l, span(middle, math.MaxInt))
		checkJoin(t, normal, api.OK, left, rest)
	}
}

// TestTotals: P8.5: totals of all kinds are the whole, ahead of Normal, Join and Cut and behind them.
func TestTotals(t *testing.T) {
	for _, l := range append(sample.Right(), sample.Many(true), sample.Many(false)) {
		s, ok := record.Span(l)
		if ok != (len(l) > 0) {
			t.Errorf("Span(%v) = %v, %t", sample.Short(l), s, ok)
		}
		normal, _ := record.Normal(l)
		whole, _ := record.Join(l)
		cut, _ := record.Cut(l, span(-1, 40321))
		for _, same := range [][]api.Record{l, normal, whole, cut} {
			sum := 0
			for _, kind := range kinds() {
				n, err := record.Total(same, kind)
				ahead, _ := record.Total(l, kind)
				if err != api.OK || n != ahead {
					t.Errorf("Total(%v, %d) = %d, %d, want %d", sample.Short(same), kind, n, err, ahead)
				}
				sum += n
			}
			if got, _ := record.Span(same); sum != s.To-s.From || got != s {
				t.Errorf("the totals of %v are %d, its span is %v, want that of %v", sample.Short(same), sum, got, s)
			}
		}
		if !record.IsNormal(normal) || !record.IsNormal(whole) || !record.IsNormal(cut) {
			t.Errorf("of %v, Normal, Join or Cut isn't normal", sample.Short(l))
		}
	}
}

// callAll: every call, with all that it may be given beside the list.
func callAll(l []api.Record) {
	record.Check(l)
	record.Normal(l)
	record.IsNormal(l)
	record.Span(l)
	record.Join(l)
	record.Join(l, l)
	record.Join(nil, l, l[:len(l)/2], l[len(l)/2:])
	for _, s := range append(notRight(), span(0, 3), span(1, 12), span(0, 40320), span(math.MinInt, math.MaxInt)) {
		record.Cut(l, s)
	}
	for _, kind := range append(sample.NoKinds(), kinds()...) {
		record.Total(l, kind)
	}
	for _, m := range sample.Minutes() {
		record.Kind(l, m)
	}
}

// TestReadsOnly: a list reads as before behind each call, and so does what lies ahead of it and behind its length; that is nothing to what is told.
func TestReadsOnly(t *testing.T) {
	for _, l := range sample.All() {
		if !sample.Amid(l, func(mine []api.Record) {
			callAll(mine)
			checkOne(t, mine)
		}) {
			t.Errorf("%v, or what lies beside it, was written to", sample.Short(l))
		}
	}
}

// checkOne: what a list is told as, whatever lies beside it.
func checkOne(t *testing.T, l []api.Record) {
	t.Helper()
	at, err := plainCheck(l)
	checkCheck(t, l, at, err)
	var want []api.Record
	if err == api.OK {
		want = plainOf(l).normal()
	}
	checkNormal(t, l, want, err)
	checkJoin(t, want, err, l, nil)
}

// TestJoinReadsOnly: lists that lie in one memory, of which the first one could grow into the second, and the list of lists.
func TestJoinReadsOnly(t *testing.T) {
	before := list(rec(3, 0, 5), rec(3, 9, 11), rec(0, 5, 9), rec(7, 7, 7))
	memory := slices.Clone(before)
	lists := [][]api.Record{memory[:1], memory[2:3], memory[1:2], nil, memory[3:]}
	checkJoin(t, list(rec(3, 0, 5), rec(0, 5, 9), rec(3, 9, 11)), api.OK, lists[:4]...)
	checkJoin(t, nil, api.ErrKind, lists...)
	if !slices.Equal(memory, before) {
		t.Errorf("the memory became %v, want %v", memory, before)
	}
	if len(lists[0]) != 1 || len(lists[1]) != 1 || len(lists[2]) != 1 || lists[3] != nil || len(lists[4]) != 1 || &lists[1][0] != &memory[2] || &lists[2][0] != &memory[1] {
		t.Errorf("the list of lists became %v", lists)
	}
}

// TestNewMemory: what is written into an answer, or behind it, is neither in the argument nor in another answer.
func TestNewMemory(t *testing.T) {
	for _, l := range [][]api.Record{
		list(rec(3, 0, 5)), list(rec(3, 0, 5), rec(2, 5, 9)), list(rec(3, 0, 5), rec(3, 5, 9), rec(0, 9, 12)), sample.Chain(0, [2]int{0, 1}, [2]int{1, 1}, [2]int{2, 1}, [2]int{3, 1}, [2]int{0, 1}),
	} {
		before := slices.Clone(l)
		want := plainOf(l).normal()
		answers := []func() ([]api.Record, api.Errno){
			func() ([]api.Record, api.Errno) { return record.Normal(l) },
			func() ([]api.Record, api.Errno) { return record.Join(l) },
			func() ([]api.Record, api.Errno) { return record.Join(nil, l, nil) },
			func() ([]api.Record, api.Errno) { return record.Join(l[:1], l[1:]) },
			func() ([]api.Record, api.Errno) { return record.Cut(l, span(0, 40320)) },
		}
		for i, answer := range answers {
			kept, _ := answer()
			for _, other := range answers {
				got, err := other()
				if !slices.Equal(got, want) || err != api.OK {
					t.Errorf("the answer %d of %v is %v, %d, want %v", i, l, got, err, want)
				}
				clear(got[:cap(got)])
			}
			if !slices.Equal(kept, want) {
				t.Errorf("the answer %d of %v became %v, want %v", i, l, kept, want)
			}
		}
		if !slices.Equal(l, before) {
			t.Errorf("the list became %v, want %v", l, before)
		}
	}
}
