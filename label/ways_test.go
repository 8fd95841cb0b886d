package label_test

import (
	"slices"
	"testing"

	"haulier/api"
	"haulier/book"
	"haulier/errand"
	"haulier/label"
	"haulier/meter"
	"haulier/sample"
)

// breaks are the clauses that a minute of each kind breaks, by the kind's number.
type breaks [api.Kinds][]int

// of is a set of clauses as a number.
func of(clauses []int) int {
	set := 0
	for _, c := range clauses {
		set |= 1 << c
	}
	return set
}

// driving breaks clauses by a minute of driving alone.
func driving(clauses ...int) breaks { return breaks{api.Drive: clauses} }

// anyOf breaks clauses by a minute of any kind but rest.
func anyOf(clauses ...int) breaks {
	return breaks{api.Avail: clauses, api.Work: clauses, api.Drive: clauses}
}

// state is a meter, and what a minute more breaks by the European book.
type state struct {
	name string
	m    api.Meter
	want breaks
}

// states are, for each clause of the book, meters by which it is broken with the next minute, and such as lie just beside these.
func states() []state {
	days := func(day, longers int) api.Meter {
		return api.Meter{Now: 850, Acc: 60, Day: day, Longers: longers, Week: day, Labour: day}
	}
	return []state{
		{"fresh", api.Meter{Now: 300}, breaks{}},
		{"busy", busy(), breaks{}},
		{"a minute ahead of a break", api.Meter{Now: 300, Acc: 269, Day: 269}, breaks{}},
		{"a break is due", api.Meter{Now: 300, Acc: 270, Day: 270}, driving(api.ClBreak)},
		{"a break, too short", api.Meter{Now: 320, Acc: 270, Lie: 44}, driving(api.ClBreak)},
		{"a break", api.Meter{Now: 320, Acc: 270, Lie: 45}, breaks{}},
		{"a second part, too short", api.Meter{Now: 320, Acc: 270, Half: true, Lie: 29}, driving(api.ClBreak)},
		{"a second part", api.Meter{Now: 320, Acc: 270, Half: true, Lie: 30}, breaks{}},
		{"no first part", api.Meter{Now: 320, Acc: 270, Lie: 30}, driving(api.ClBreak)},
		{"a longer day but for a minute", days(599, 1), breaks{}},
		{"a longer day", days(600, 1), driving(api.ClLonger)},
		{"a day, with longer days left", days(540, 1), breaks{}},
		{"a day, with no longer days left", days(540, 2), driving(api.ClLongers)},
		{"a longer day that has been counted", days(541, 2), breaks{}},
		{"a week but for a minute", api.Meter{Now: 5000, Dawn: 4900, Week: 3359}, breaks{}},
		{"a week", api.Meter{Now: 5000, Dawn: 4900, Week: 3360}, driving(api.ClWeek)},
		{"a week that ends", api.Meter{Now: 10080, Dawn: 9900, Sabbath: 9900, Week: 3360}, breaks{}},
		{"a fortnight but for a minute", api.Meter{Now: 12000, Dawn: 11900, Sabbath: 9900, Week: 2000, Last: 3399}, breaks{}},
		{"a fortnight", api.Meter{Now: 12000, Dawn: 11900, Sabbath: 9900, Week: 2000, Last: 3400}, driving(api.ClFortnight)},
		{"a round but for a minute", api.Meter{Now: 899}, breaks{}},
		{"a round", api.Meter{Now: 900}, anyOf(api.ClDaily)},
		{"a daily rest, too short", api.Meter{Now: 1439, Lie: 539}, anyOf(api.ClDaily)},
		{"a daily rest", api.Meter{Now: 1440, Lie: 540, Reduces: 2}, breaks{}},
		{"no reduced ones left", api.Meter{Now: 1440, Lie: 540, Reduces: 3}, anyOf(api.ClReduces)},
		{"no reduced ones left, a rest in two parts", api.Meter{Now: 1440, Lie: 540, Reduces: 3, Split: true}, breaks{}},
		{"no reduced ones left, a regular rest but for a minute", api.Meter{Now: 1440, Lie: 659, Reduces: 3}, anyOf(api.ClReduces)},
		{"no reduced ones left, a regular rest", api.Meter{Now: 1440, Lie: 660, Reduces: 3}, breaks{}},
		{"a weekly rest is due with the next minute", api.Meter{Now: 8639, Dawn: 8600}, breaks{}},
		{"a weekly rest is due", api.Meter{Now: 8640, Dawn: 8600}, anyOf(api.ClWeekly)},
		{"a weekly rest, behind a brief one", api.Meter{Now: 6000, Dawn: 4000, Lie: 1440, Brief: true}, anyOf(api.ClBrief)},
		{"a weekly rest", api.Meter{Now: 6000, Dawn: 4000, Lie: 1440}, breaks{}},
		{"no weekly rest yet, behind a brief one", api.Meter{Now: 6000, Dawn: 4000, Lie: 1439, Brief: true}, breaks{}},
		{"a weekly rest, long enough behind a brief one but for a minute", api.Meter{Now: 8000, Dawn: 4000, Lie: 2699, Brief: true}, anyOf(api.ClBrief)},
		{"a weekly rest, long enough behind a brief one", api.Meter{Now: 8000, Dawn: 4000, Lie: 2700, Brief: true}, breaks{}},
		{"a week's labour but for a minute", api.Meter{Now: 5000, Dawn: 4900, Labour: 3599}, breaks{}},
		{"a week's labour", api.Meter{Now: 5000, Dawn: 4900, Labour: 3600}, breaks{api.Work: {api.ClLabour}, api.Drive: {api.ClLabour}}},
		{"a week's labour, with the week's end", api.Meter{Now: 20160, Dawn: 20000, Sabbath: 20000, Labour: 3600}, breaks{}},
		{"several", api.Meter{Now: 8650, Dawn: 7000, Acc: 270, Day: 600, Week: 3360, Last: 2040, Labour: 3600}, breaks{
			api.Avail: {api.ClDaily, api.ClWeekly},
			api.Work:  {api.ClDaily, api.ClWeekly, api.ClLabour},
			api.Drive: {api.ClBreak, api.ClLonger, api.ClWeek, api.ClFortnight, api.ClDaily, api.ClWeekly, api.ClLabour},
		}},
	}
}

// duty is tasks and a spot, and what a minute breaks of them.
type duty struct {
	name string
	l    []api.Task
	s    api.Spot
	want breaks
}

// duties are, for each clause of the tasks, such by which it is broken with the minute now, and such as lie beside these.
func duties(now int) []duty {
	drive := breaks{api.Work: {api.ClWork}}
	serve := breaks{api.Drive: {api.ClDrive}}
	shut := breaks{api.Drive: {api.ClDrive}, api.Work: {api.ClOpen}}
	amid := breaks{api.Drive: {api.ClDrive, api.ClServe}, api.Rest: {api.ClServe}, api.Avail: {api.ClServe}}
	none := breaks{api.Drive: {api.ClDrive}, api.Work: {api.ClWork}}
	at := func(ends ...int) []api.Task { return []api.Task{task(9, 5, ends...), task(7, 0)} }
	return []duty{
		{"a drive is due", at(now, now+1), spot(0, 0, 0), drive},
		{"amid a drive", at(now, now+1), spot(0, 5, 0), drive},
		{"a drive's last minute", at(now, now+1), spot(0, 8, 0), drive},
		{"a drive without a service", at(0, 40320), spot(1, 0, 0), drive},
		{"its last minute", at(0, 40320), spot(1, 6, 0), drive},
		{"a service is due", at(0, 40320), spot(0, 9, 0), serve},
		{"a service is due, with a window's first minute", at(0, now-1, now, now+9), spot(0, 9, 0), serve},
		{"a service is due, amid a window", at(now-1, now+2), spot(0, 9, 0), serve},
		{"a service is due, with a window's last minute", at(0, now+1), spot(0, 9, 0), serve},
		{"a service is due, with a window's only minute", at(now, now+1), spot(0, 9, 0), serve},
		{"ahead of all windows", at(now+1, 40320), spot(0, 9, 0), shut},
		{"between two windows", at(now-5, now, now+1, now+2), spot(0, 9, 0), shut},
		{"behind all windows", at(0, now), spot(0, 9, 0), shut},
		{"amid a service, amid a window", at(now-3, now+3), spot(0, 9, 1), amid},
		{"amid a service, behind the window", at(0, now), spot(0, 9, 1), amid},
		{"a service's last minute", at(0, now), spot(0, 9, 4), amid},
		{"a service without a drive", []api.Task{task(0, 0), task(0, 2, now, now+1)}, spot(1, 0, 0), serve},
		{"a service without a drive, shut", []api.Task{task(0, 0), task(0, 2, now+1, now+2)}, spot(1, 0, 0), shut},
		{"amid that", []api.Task{task(0, 0), task(0, 2, now, now+1)}, spot(1, 0, 1), amid},
		{"all done", at(0, 40320), spot(2, 0, 0), none},
		{"no tasks", nil, spot(0, 0, 0), none},
		{"nothing to do in them", make([]api.Task, 5), spot(5, 0, 0), none},
	}
}

// TestClauses: behind each of these states, with each of these duties, the kinds that would break a clause are no ways, and those that would break none are.
func TestClauses(t *testing.T) {
	b := book.Europe()
	for _, one := range states() {
		for _, two := range duties(one.m.Now) {
			t.Run(one.name+", "+two.name, func(t *testing.T) {
				x := at(one.m, two.s)
				var want []label.Next
				for _, kind := range []int{api.Drive, api.Work, api.Rest, api.Avail} {
					m, broken, err := meter.Step(b, x.M, kind)
					s, more, other := errand.Step(two.l, x.S, x.M.Now, kind)
					if broken != of(one.want[kind]) || more != of(two.want[kind]) || err != api.OK || other != api.OK {
						t.Errorf("the test itself: a minute of %d breaks %b and %b", kind, broken, more)
					}
					if len(one.want[kind]) == 0 && len(two.want[kind]) == 0 {
						want = append(want, way(kind, m, s))
					}
				}
				checkWays(t, b, two.l, x, want...)
				checkLabel(t, b, two.l, x)
			})
		}
	}
}

// TestEachClause: each clause that a minute can break is the only one that keeps a kind from being a way, somewhere above.
func TestEachClause(t *testing.T) {
	alone := 0
	note := func(l breaks) {
		for _, clauses := range l {
			if len(clauses) == 1 {
				alone |= 1 << clauses[0]
			}
		}
	}
	for _, one := range states() {
		note(one.want)
	}
	for _, one := range duties(100) {
		note(one.want)
	}
	for c := api.ClBreak; c <= api.ClServe; c++ {
		if alone&(1<<c) == 0 {
			t.Errorf("the test itself: nothing breaks clause %d alone", c)
		}
	}
}

// TestWays: the ways in their order, each with the meter and the spot behind it.
func TestWays(t *testing.T) {
	l := []api.Task{task(2, 3, 5, 7), task(0, 0), task(4, 0), task(0, 1, 10, 12), task(0, 0), task(0, 0)}
	late := api.Meter{Now: 40319, Dawn: 40000, Sabbath: 40000}
	for _, c := range []struct {
		name string
		x    label.Label
		want []label.Next
	}{
		{"fresh", label.Label{}, []label.Next{
			way(3, api.Meter{Now: 1, Acc: 1, Day: 1, Week: 1, Labour: 1}, spot(0, 1, 0)),
			way(0, api.Meter{Now: 1, Lie: 1}, spot(0, 0, 0)),
			way(1, api.Meter{Now: 1}, spot(0, 0, 0)),
		}},
		{"a service may begin", at(api.Meter{Now: 6, Acc: 2}, spot(0, 2, 0)), []label.Next{
			way(2, api.Meter{Now: 7, Acc: 2, Labour: 1}, spot(0, 2, 1)),
			way(0, api.Meter{Now: 7, Acc: 2, Lie: 1}, spot(0, 2, 0)),
			way(1, api.Meter{Now: 7, Acc: 2}, spot(0, 2, 0)),
		}},
		{"a service may not begin", at(api.Meter{Now: 7, Acc: 2}, spot(0, 2, 0)), []label.Next{
			way(0, api.Meter{Now: 8, Acc: 2, Lie: 1}, spot(0, 2, 0)),
			way(1, api.Meter{Now: 8, Acc: 2}, spot(0, 2, 0)),
		}},
		{"amid a service", at(api.Meter{Now: 7, Labour: 3}, spot(0, 2, 1)), []label.Next{
			way(2, api.Meter{Now: 8, Labour: 4}, spot(0, 2, 2)),
		}},
		{"a service's last minute, with a task behind in which there is nothing to do", at(api.Meter{Now: 8, Labour: 4}, spot(0, 2, 2)), []label.Next{
			way(2, api.Meter{Now: 9, Labour: 5}, spot(2, 0, 0)),
		}},
		{"a drive's last minute", at(api.Meter{Now: 9}, spot(2, 3, 0)), []label.Next{
			way(3, api.Meter{Now: 10, Acc: 1, Day: 1, Week: 1, Labour: 1}, spot(3, 0, 0)),
			way(0, api.Meter{Now: 10, Lie: 1}, spot(2, 3, 0)),
			way(1, api.Meter{Now: 10}, spot(2, 3, 0)),
		}},
		{"the last minute of all, with tasks behind in which there is nothing to do", at(api.Meter{Now: 10}, spot(3, 0, 0)), []label.Next{
			way(2, api.Meter{Now: 11, Labour: 1}, spot(6, 0, 0)),
			way(0, api.Meter{Now: 11, Lie: 1}, spot(3, 0, 0)),
			way(1, api.Meter{Now: 11}, spot(3, 0, 0)),
		}},
		{"all done", at(api.Meter{Now: 10}, spot(6, 0, 0)), []label.Next{
			way(0, api.Meter{Now: 11, Lie: 1}, spot(6, 0, 0)),
			way(1, api.Meter{Now: 11}, spot(6, 0, 0)),
		}},
		{"a break ends", at(api.Meter{Now: 400, Acc: 270, Half: true, Lie: 45}, spot(2, 0, 0)), []label.Next{
			way(3, api.Meter{Now: 401, Acc: 1, Day: 1, Week: 1, Labour: 1}, spot(2, 1, 0)),
			way(0, api.Meter{Now: 401, Acc: 270, Half: true, Lie: 46}, spot(2, 0, 0)),
			way(1, api.Meter{Now: 401}, spot(2, 0, 0)),
		}},
		{"a week's end", at(api.Meter{Now: 10080, Dawn: 10000, Sabbath: 9000, Week: 30, Last: 20, Labour: 50}, spot(2, 0, 0)), []label.Next{
			way(3, api.Meter{Now: 10081, Acc: 1, Dawn: 10000, Day: 1, Sabbath: 9000, Week: 1, Last: 30, Labour: 1}, spot(2, 1, 0)),
			way(0, api.Meter{Now: 10081, Lie: 1, Dawn: 10000, Sabbath: 9000, Last: 30}, spot(2, 0, 0)),
			way(1, api.Meter{Now: 10081, Dawn: 10000, Sabbath: 9000, Last: 30}, spot(2, 0, 0)),
		}},
		{"nothing but rest", at(api.Meter{Now: 900}, spot(2, 0, 0)), []label.Next{
			way(0, api.Meter{Now: 901, Lie: 1}, spot(2, 0, 0)),
		}},
		{"nothing at all", at(api.Meter{Now: 900}, spot(0, 2, 2)), nil},
		{"the last minute", at(late, spot(2, 3, 0)), []label.Next{
			way(3, with(late, func(m *api.Meter) { m.Now, m.Acc, m.Day, m.Week, m.Labour = 40320, 1, 1, 1, 1 }), spot(3, 0, 0)),
			way(0, with(late, func(m *api.Meter) { m.Now, m.Lie = 40320, 1 }), spot(2, 3, 0)),
			way(1, with(late, func(m *api.Meter) { m.Now = 40320 }), spot(2, 3, 0)),
		}},
		{"no time left", at(api.Meter{Now: 40320, Dawn: 40000, Sabbath: 40000}, spot(2, 3, 0)), nil},
		{"no time left, amid a service", at(api.Meter{Now: 40320, Dawn: 40000, Sabbath: 40000}, spot(0, 2, 1)), nil},
		{"no time left, all done", at(api.Meter{Now: 40320}, spot(6, 0, 0)), nil},
	} {
		t.Run(c.name, func(t *testing.T) {
			checkWays(t, book.Europe(), l, c.x, c.want...)
			checkLabel(t, book.Europe(), l, c.x)
		})
	}
}

// TestOtherBooks: it is the book that is handed in whose clauses count.
func TestOtherBooks(t *testing.T) {
	l := []api.Task{task(300, 0)}
	x := at(api.Meter{Now: 2, Acc: 2, Day: 2, Week: 2, Labour: 2}, spot(0, 2, 0))
	for _, c := range []struct {
		b    api.Book
		want []int
	}{
		{book.Europe(), []int{api.Drive, api.Rest, api.Avail}},
		{sample.Tiny(), []int{api.Rest, api.Avail}},
		{sample.Lowest(), []int{api.Rest}},
		{sample.Highest(), []int{api.Rest}},
		{sample.Wide(), []int{api.Drive, api.Rest, api.Avail}},
	} {
		ways, err := label.Ways(c.b, l, x)
		var kinds []int
		for _, w := range ways {
			kinds = append(kinds, w.Kind)
		}
		if !slices.Equal(kinds, c.want) || err != api.OK {
			t.Errorf("Ways(%+v, %v, %+v) tells the kinds %v, %d, want %v", c.b, l, x, kinds, err, c.want)
		}
	}
}

// TestTimes: labels at each minute around those where something ends, and their ways.
func TestTimes(t *testing.T) {
	l := []api.Task{task(2, 3, 5, 7, 890, 905, 10075, 10085, 40310, 40320), task(4, 0)}
	for _, around := range []int{0, 6, 900, 1440, 8640, 10080, 40316} {
		for now := max(0, around-5); now <= around+5 && now <= 40320; now++ {
			for _, s := range sample.Spots(l) {
				for _, m := range []api.Meter{{Now: now}, sample.Full(now), {Now: now, Lie: now}, {Now: now, Dawn: now, Sabbath: now}} {
					ways := checkLabel(t, book.Europe(), l, at(m, s))
					if now == 40320 && len(ways) > 0 || now < 40320 && s.Served == 0 && len(ways) == 0 {
						t.Errorf("behind %+v, %v there are the ways %+v", m, s, ways)
					}
				}
			}
		}
	}
}
