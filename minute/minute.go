// Package minute reckons with whole minutes, and never beyond 64 bits. It is layer 1: see shared/doc/01-minute.md.
package minute

import "haulier/api"

// Add tells the sum of its parts. A sum on the way that is beyond 64 bits is ErrOver, even where a later part would bring it back.
func Add(l ...int) (int, api.Errno) {
	sum := 0
	for _, n := range l {
		next := sum + n
		// A sum that wrapped round lies on the wrong side of the one ahead.
		if n > 0 && next < sum || n < 0 && next > sum {
			return 0, api.ErrOver
		}
		sum = next
	}
	return sum, api.OK
}

// Sub tells a less b.
func Sub(a, b int) (int, api.Errno) {
	// Not by Add of a and -b: the least number has no negative.
	less := a - b
	if b > 0 && less > a || b < 0 && less < a {
		return 0, api.ErrOver
	}
	return less, api.OK
}

// Mul tells a times b.
func Mul(a, b int) (int, api.Errno) {
	switch b {
	case 0:
		return 0, api.OK
	case -1:
		// The least number by -1 wraps round to itself, so that dividing back would not tell.
		return Sub(0, a)
	}
	product := a * b
	if product/b != a {
		return 0, api.ErrOver
	}
	return product, api.OK
}

// Div tells the greatest whole number that is not above a by b, and what is left then of a.
func Div(a, b int) (int, int, api.Errno) {
	if b < 1 {
		return 0, 0, api.ErrArg
	}
	quotient, left := a/b, a%b
	// The language cuts towards 0; below 0 the next lesser number is meant.
	if left < 0 {
		quotient, left = quotient-1, left+b
	}
	return quotient, left, api.OK
}

// Clamp tells n, held between lo and hi; where these are the wrong way round, lo is asked first.
func Clamp(n, lo, hi int) int {
	if n < lo {
		return lo
	}
	if n > hi {
		return hi
	}
	return n
}

// Up tells the least multiple of step that is not below n.
func Up(n, step int) (int, api.Errno) {
	_, left, err := Div(n, step)
	if err != api.OK {
		return 0, err
	}
	if left == 0 {
		return n, api.OK
	}
	return Add(n, step-left)
}
