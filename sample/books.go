package sample

import (
	"math"
	"slices"

	"haulier/api"
	"haulier/book"
)

// Lowest is the book of which each number is the least that it may be in any book.
func Lowest() api.Book {
	return api.Book{
		Drive: 1, First: 1, Second: 1, Break: 1, Part: 1, Reduced: 1, Regular: 1, Short: 1, Weekly: 1, Round: 2,
		Day: 1, Longer: 1, Rounds: 1, Week: 1, Fortnight: 1, Labour: 1, Length: 1,
	}
}

// Highest is the book of which each number is the greatest that it may be in any book.
func Highest() api.Book {
	return api.Book{
		Drive: 40320, First: 40319, Second: 40319, Break: 40319, Part: 40319, Reduced: 40319, Regular: 40320, Short: 40320, Weekly: 40320, Round: 40320,
		Day: 40320, Longer: 40320, Longers: 1000, Reduces: 1000, Rounds: 40320, Week: 40320, Fortnight: 40320, Labour: 40320, Length: 40320,
	}
}

// Wide is a book whose numbers are all different, and lie far from each other where one is not above the other.
func Wide() api.Book {
	return api.Book{
		Drive: 5, First: 1, Second: 2, Break: 101, Part: 201, Reduced: 301, Regular: 401, Short: 501, Weekly: 601, Round: 1301,
		Day: 700, Longer: 900, Longers: 6, Reduces: 7, Rounds: 2000, Week: 3000, Fortnight: 3100, Labour: 3200, Length: 10000,
	}
}

// Books are books that may be.
func Books() []api.Book { return []api.Book{book.Europe(), Lowest(), Highest(), Wide()} }

// Changed is the European book, changed.
func Changed(change func(b *api.Book)) api.Book {
	b := book.Europe()
	change(&b)
	return b
}

// Others are more books that may be: the European one with numbers the same that differ in it, or the other way round.
func Others() []api.Book {
	return []api.Book{
		Changed(func(b *api.Book) { b.First, b.Second = 30, 15 }),
		Changed(func(b *api.Book) { b.First, b.Second = 20, 20 }),
		Changed(func(b *api.Book) { b.Second = 45 }),
		Changed(func(b *api.Book) { b.First = 45 }),
		Changed(func(b *api.Book) { b.First, b.Second = 45, 45 }),
		Changed(func(b *api.Book) { b.First, b.Second = 1, 1 }),
		Changed(func(b *api.Book) { b.Part = 45 }),
		Changed(func(b *api.Book) { b.Part = 540 }),
		Changed(func(b *api.Book) { b.Break, b.Part = 540, 540 }),
		Changed(func(b *api.Book) { b.Regular = 540 }),
		Changed(func(b *api.Book) { b.Regular = 1440 }),
		Changed(func(b *api.Book) { b.Weekly = 1440 }),
		Changed(func(b *api.Book) { b.Round = 541 }),
		Changed(func(b *api.Book) { b.Round = 40320 }),
		Late(),
	}
}

// Roomy is the European book without any limit but those of rests, changed.
func Roomy(change func(b *api.Book)) api.Book {
	b := Changed(func(b *api.Book) {
		b.Drive, b.Day, b.Longer, b.Week, b.Fortnight, b.Labour = 40320, 40320, 40320, 40320, 40320, 40320
		b.Round, b.Rounds, b.Longers, b.Reduces = 40320, 40320, 1000, 1000
	})
	change(&b)
	return b
}

// Late is a book in which a regular rest is longer than a round.
func Late() api.Book {
	return Changed(func(b *api.Book) { b.Reduced, b.Round, b.Regular, b.Short = 300, 400, 1500, 1600 })
}

// Tiny is a book of small numbers, by which each clause is soon broken.
func Tiny() api.Book {
	return api.Book{
		Drive: 2, First: 1, Second: 1, Break: 2, Part: 2, Reduced: 3, Regular: 4, Short: 5, Weekly: 6, Round: 7,
		Day: 3, Longer: 4, Longers: 1, Reduces: 1, Rounds: 12, Week: 5, Fortnight: 8, Labour: 6, Length: 7,
	}
}

// TinyBooks are books of small numbers that may be: the tiny one, and each in which some of its numbers are others.
func TinyBooks() []api.Book {
	l := []api.Book{Tiny()}
	for i := range book.Fields {
		for _, more := range []int{-2, -1, 1, 2} {
			numbers := book.Numbers(Tiny())
			numbers[i] += more
			if b, err := book.From(numbers); err == api.OK {
				l = append(l, b)
			}
		}
	}
	for _, change := range []func(b *api.Book){
		func(b *api.Book) { b.Longers, b.Reduces = 0, 0 },
		func(b *api.Book) { b.Length = 1 },
		func(b *api.Book) { b.Length = 3 },
		func(b *api.Book) { b.Day, b.Longer = 1, 1 },
		func(b *api.Book) { b.Day, b.Longer, b.Longers = 1, 3, 0 },
		func(b *api.Book) { b.First, b.Second, b.Break, b.Part = 2, 1, 3, 3 },
		func(b *api.Book) { b.First, b.Second, b.Break, b.Part = 1, 2, 3, 3 },
		func(b *api.Book) { b.Part, b.Break, b.First, b.Second = 1, 1, 1, 1 },
		func(b *api.Book) { b.Part, b.Break, b.First, b.Second, b.Reduced, b.Regular = 1, 1, 1, 1, 2, 3 },
		func(b *api.Book) {
			b.Part, b.Break, b.Reduced, b.Regular, b.Short, b.Weekly, b.Reduces = 1, 1, 1, 2, 2, 3, 0
		},
		func(b *api.Book) { b.Round, b.Rounds, b.Regular, b.Short, b.Weekly = 4, 3, 5, 5, 7 },
		func(b *api.Book) { b.Fortnight, b.Week = 2, 3 },
	} {
		b := Tiny()
		change(&b)
		l = append(l, b)
	}
	return l
}

// May are all these books that may be.
func May() []api.Book { return slices.Concat(Books(), Others(), TinyBooks()) }

// NoBooks are books that may not be: a wide one of which a number is beyond its limits, or above one that it may not be above, for each number and each two of them; and one of nothing but noughts.
func NoBooks() []api.Book {
	l := []api.Book{{}}
	one := Wide()
	for _, n := range BookNumbers(&one) {
		before := *n
		for _, beyond := range beyond(n == &one.Longers || n == &one.Reduces) {
			*n = beyond
			l = append(l, one)
		}
		*n = before
	}
	for _, o := range orders(&one) {
		low, high := o[0], o[1]
		before := *low
		*low = *high + 1
		l = append(l, one)
		*low = before
	}
	one.Reduced, one.Regular, one.Short, one.Weekly = one.Round, one.Round, one.Round, one.Round
	return append(l, one)
}

// beyond are numbers beyond the limits of a count, or of another number: just, and at both ends of 64 bits.
func beyond(count bool) []int {
	if count {
		return []int{math.MinInt, -1, 1001, math.MaxInt}
	}
	return []int{math.MinInt, 0, 40321, math.MaxInt}
}

// BookNumbers are the places of a book's numbers, in the order of api's fields.
func BookNumbers(b *api.Book) []*int {
	return []*int{
		&b.Drive, &b.Break, &b.First, &b.Second, &b.Day, &b.Longer, &b.Longers, &b.Regular, &b.Reduced, &b.Reduces,
		&b.Part, &b.Round, &b.Weekly, &b.Short, &b.Rounds, &b.Week, &b.Fortnight, &b.Labour, &b.Length,
	}
}

// orders are the places of each two numbers of which the first may not be above the second.
func orders(b *api.Book) [][2]*int {
	return [][2]*int{
		{&b.First, &b.Break}, {&b.Second, &b.Break}, {&b.Break, &b.Part}, {&b.Part, &b.Reduced},
		{&b.Reduced, &b.Regular}, {&b.Regular, &b.Short}, {&b.Short, &b.Weekly}, {&b.Day, &b.Longer},
	}
}
