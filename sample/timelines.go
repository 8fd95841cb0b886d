package sample

import (
	"strconv"
	"strings"

	"haulier/api"
)

// Did is the timeline from a minute on that is written as letters of kinds, each with how many minutes: "D270 R45".
func Did(from int, text string) []api.Record {
	var l [][2]int
	for word := range strings.FieldsSeq(text) {
		kind := strings.IndexByte("RAWD", word[0])
		n, err := strconv.Atoi(word[1:])
		if kind < 0 || err != nil {
			panic("the test itself: no record: " + word)
		}
		l = append(l, [2]int{kind, n})
	}
	return Chain(from, l...)
}

// Alike are the same minutes in other records: as few as can be, each in two, one a minute.
func Alike(l []api.Record) [][]api.Record {
	var few, two, each []api.Record
	for _, r := range l {
		if end := len(few) - 1; end >= 0 && few[end].Kind == r.Kind {
			few[end].To = r.To
		} else {
			few = append(few, r)
		}
		half := (r.From + r.To) / 2
		if half > r.From {
			two = append(two, Rec(r.Kind, r.From, half))
		}
		two = append(two, Rec(r.Kind, half, r.To))
		for m := r.From; m < r.To; m++ {
			each = append(each, Rec(r.Kind, m, m+1))
		}
	}
	return [][]api.Record{few, two, each}
}

// Lawful are four weeks by the European book that break nothing, and are as full as they may be: breaks in two parts, 540 minutes of driving and 180 of work on five days, three reduced daily rests, and a regular one that ends with its round, in a row; a weekly rest of 2700 minutes that ends with the week.
func Lawful() []api.Record {
	var l [][2]int
	day := func(behind ...[2]int) {
		l = append(l, [2]int{3, 135}, [2]int{0, 15}, [2]int{3, 135}, [2]int{0, 30}, [2]int{3, 270}, [2]int{2, 180})
		l = append(l, behind...)
	}
	for range 4 {
		for range 3 {
			day([2]int{0, 540})
		}
		day([2]int{1, 15}, [2]int{0, 660})
		day([2]int{0, 700}, [2]int{1, 560}, [2]int{0, 2700})
	}
	return Chain(0, l...)
}

// AnyTimeline is a timeline from 0 up to that minute, as draws below n tell, of spells whose lengths are at the book's edges, mostly of rest and of driving.
func AnyTimeline(draw func(n int) int, b api.Book, most int) []api.Record {
	rests, ups := spells(b)
	var l []api.Record
	for at := 0; at < most; at = l[len(l)-1].To {
		kind, long := api.Rest, rests[draw(len(rests))]
		if draw(2) == 0 {
			kind, long = 1+draw(3), ups[draw(len(ups))]
			if draw(2) == 0 {
				kind = api.Drive
			}
		}
		l = append(l, Rec(kind, at, min(at+long, most)))
	}
	return l
}

// spells are how long spells of rest, and of anything else, are tried by the book: those at which it tells something else, one below and above them.
func spells(b api.Book) (rests, ups []int) {
	for off := -1; off <= 1; off++ {
		for _, n := range []int{b.First, b.Second, b.Break, b.Part, b.Reduced, b.Regular, b.Short, b.Weekly} {
			rests = append(rests, max(1, n+off))
		}
		for _, n := range []int{1, b.Drive, b.Drive / 2, b.Day / 2, b.Longer - b.Drive, b.Day - b.Drive, b.Drive / 3} {
			ups = append(ups, max(1, n+off))
		}
	}
	return rests, ups
}
