package minute_test

import (
	"math"
	"math/big"
	"testing"

	"haulier/api"
	"haulier/minute"
)

// numbers: small ones, some from what the limits are, and those around each power of two, up to the ends of 64 bits.
func numbers() []int {
	l := []int{math.MinInt, math.MinInt + 1, math.MaxInt - 1, math.MaxInt, 3037000499, 3037000500, -3037000499, -3037000500}
	for n := -12; n <= 12; n++ {
		l = append(l, n)
	}
	for _, n := range []int{api.Day, api.Week, api.MaxTime, api.MaxRoom} {
		l = append(l, n-1, n, n+1, -n)
	}
	for k := 4; k < 63; k += 3 {
		n := 1 << k
		l = append(l, n-1, n, n+1, -n-1, -n, 1-n)
	}
	return append(l, 1<<62, -1<<62, 1<<62-1, -1<<62-1, 1<<31, 1<<32, -1<<31, -1<<32)
}

// within: the number, and OK, or 0, and ErrOver, if it is beyond 64 bits with a sign.
func within(n *big.Int) (int, api.Errno) {
	if !n.IsInt64() {
		return 0, api.ErrOver
	}
	return int(n.Int64()), api.OK
}

func exact(n int) *big.Int { return big.NewInt(int64(n)) }

func TestAddTables(t *testing.T) {
	for _, c := range []struct {
		l    []int
		want int
		err  api.Errno
	}{
		{nil, 0, api.OK},
		{[]int{}, 0, api.OK},
		{[]int{0}, 0, api.OK},
		{[]int{7}, 7, api.OK},
		{[]int{-7}, -7, api.OK},
		{[]int{1, 2, 3, 4}, 10, api.OK},
		{[]int{5, -9, 1}, -3, api.OK},
		{[]int{math.MaxInt}, math.MaxInt, api.OK},
		{[]int{math.MinInt}, math.MinInt, api.OK},
		{[]int{math.MaxInt, math.MinInt}, -1, api.OK},
		{[]int{math.MaxInt - 1, 1}, math.MaxInt, api.OK},
		{[]int{math.MinInt + 1, -1}, math.MinInt, api.OK},
		{[]int{math.MaxInt, 1}, 0, api.ErrOver},
		{[]int{math.MinInt, -1}, 0, api.ErrOver},
		{[]int{1, math.MaxInt}, 0, api.ErrOver},
		{[]int{math.MinInt, math.MinInt}, 0, api.ErrOver},
		{[]int{math.MaxInt, math.MaxInt, 2}, 0, api.ErrOver},
		// Only a sum on the way is beyond 64 bits.
		{[]int{math.MaxInt, 1, -1}, 0, api.ErrOver},
		{[]int{math.MinInt, -1, 1}, 0, api.ErrOver},
		{[]int{1 << 62, 1 << 62, -1 << 62}, 0, api.ErrOver},
		{[]int{5, math.MaxInt, math.MinInt}, 0, api.ErrOver},
		// The same parts in another order stay within.
		{[]int{math.MaxInt, -1, 1}, math.MaxInt, api.OK},
		{[]int{1 << 62, -1 << 62, 1 << 62}, 1 << 62, api.OK},
	} {
		if got, err := minute.Add(c.l...); got != c.want || err != c.err {
			t.Errorf("Add(%v) = %d, %d, want %d, %d", c.l, got, err, c.want, c.err)
		}
	}
}

func TestAddLeavesItsParts(t *testing.T) {
	l := []int{3, -4, 5, 99}[:3]
	minute.Add(l...)
	for i, n := range []int{3, -4, 5, 99} {
		if l[:4][i] != n {
			t.Errorf("part %d became %d", i, l[:4][i])
		}
	}
}

func TestAddSubMulExact(t *testing.T) {
	for _, a := range numbers() {
		for _, b := range numbers() {
			want, wantErr := within(new(big.Int).Add(exact(a), exact(b)))
			if got, err := minute.Add(a, b); got != want || err != wantErr {
				t.Errorf("Add(%d, %d) = %d, %d, want %d, %d", a, b, got, err, want, wantErr)
			}
			want, wantErr = within(new(big.Int).Sub(exact(a), exact(b)))
			if got, err := minute.Sub(a, b); got != want || err != wantErr {
				t.Errorf("Sub(%d, %d) = %d, %d, want %d, %d", a, b, got, err, want, wantErr)
			}
			want, wantErr = within(new(big.Int).Mul(exact(a), exact(b)))
			if got, err := minute.Mul(a, b); got != want || err != wantErr {
				t.Errorf("Mul(%d, %d) = %d, %d, want %d, %d", a, b, got, err, want, wantErr)
			}
		}
	}
}

// TestAddOnTheWay: three parts, of which each sum on the way counts.
func TestAddOnTheWay(t *testing.T) {
	ends := []int{math.MinInt, math.MinInt + 1, -1 << 62, -1, 0, 1, 1 << 62, math.MaxInt - 1, math.MaxInt}
	for _, a := range ends {
		for _, b := range ends {
			for _, c := range ends {
				sum := new(big.Int).Add(exact(a), exact(b))
				want, wantErr := within(sum)
				if wantErr == api.OK {
					want, wantErr = within(sum.Add(sum, exact(c)))
				}
				if got, err := minute.Add(a, b, c); got != want || err != wantErr {
					t.Errorf("Add(%d, %d, %d) = %d, %d, want %d, %d", a, b, c, got, err, want, wantErr)
				}
			}
		}
	}
}

func TestSubMulTables(t *testing.T) {
	for _, c := range []struct {
		name    string
		do      func(a, b int) (int, api.Errno)
		a, b    int
		want    int
		wantErr api.Errno
	}{
		{"Sub", minute.Sub, 7, 5, 2, api.OK},
		{"Sub", minute.Sub, 5, 7, -2, api.OK},
		{"Sub", minute.Sub, -1, math.MinInt, math.MaxInt, api.OK},
		{"Sub", minute.Sub, math.MinInt, math.MinInt, 0, api.OK},
		{"Sub", minute.Sub, 0, math.MaxInt, -math.MaxInt, api.OK},
		{"Sub", minute.Sub, 0, math.MinInt, 0, api.ErrOver},
		{"Sub", minute.Sub, math.MinInt, 1, 0, api.ErrOver},
		{"Sub", minute.Sub, math.MaxInt, -1, 0, api.ErrOver},
		{"Mul", minute.Mul, 6, -7, -42, api.OK},
		{"Mul", minute.Mul, -6, -7, 42, api.OK},
		{"Mul", minute.Mul, 0, math.MinInt, 0, api.OK},
		{"Mul", minute.Mul, math.MinInt, 0, 0, api.OK},
		{"Mul", minute.Mul, math.MinInt, 1, math.MinInt, api.OK},
		{"Mul", minute.Mul, 1 << 32, -1 << 31, math.MinInt, api.OK},
		{"Mul", minute.Mul, math.MaxInt, -1, -math.MaxInt, api.OK},
		{"Mul", minute.Mul, math.MinInt, -1, 0, api.ErrOver},
		{"Mul", minute.Mul, -1, math.MinInt, 0, api.ErrOver},
		{"Mul", minute.Mul, 1 << 32, 1 << 31, 0, api.ErrOver},
		{"Mul", minute.Mul, 1 << 32, 1 << 32, 0, api.ErrOver},
		{"Mul", minute.Mul, math.MinInt, math.MinInt, 0, api.ErrOver},
	} {
		if got, err := c.do(c.a, c.b); got != c.want || err != c.wantErr {
			t.Errorf("%s(%d, %d) = %d, %d, want %d, %d", c.name, c.a, c.b, got, err, c.want, c.wantErr)
		}
	}
}

func TestDivTables(t *testing.T) {
	for _, c := range []struct {
		a, b, quotient, left int
		err                  api.Errno
	}{
		{7, 5, 1, 2, api.OK},
		{-7, 5, -2, 3, api.OK},
		{-5, 5, -1, 0, api.OK},
		{5, 5, 1, 0, api.OK},
		{0, 5, 0, 0, api.OK},
		{-1, 5, -1, 4, api.OK},
		{4, 5, 0, 4, api.OK},
		{math.MinInt, 1, math.MinInt, 0, api.OK},
		{math.MaxInt, 1, math.MaxInt, 0, api.OK},
		{math.MinInt, math.MaxInt, -2, math.MaxInt - 1, api.OK},
		{math.MaxInt, math.MaxInt, 1, 0, api.OK},
		{-1, math.MaxInt, -1, math.MaxInt - 1, api.OK},
		{7, 0, 0, 0, api.ErrArg},
		{0, 0, 0, 0, api.ErrArg},
		{7, -1, 0, 0, api.ErrArg},
		{-7, -5, 0, 0, api.ErrArg},
		{math.MinInt, -1, 0, 0, api.ErrArg},
		{math.MaxInt, math.MinInt, 0, 0, api.ErrArg},
	} {
		quotient, left, err := minute.Div(c.a, c.b)
		if quotient != c.quotient || left != c.left || err != c.err {
			t.Errorf("Div(%d, %d) = %d, %d, %d, want %d, %d, %d", c.a, c.b, quotient, left, err, c.quotient, c.left, c.err)
		}
	}
}

func TestDivExact(t *testing.T) {
	for _, a := range numbers() {
		for _, b := range numbers() {
			quotient, left, err := minute.Div(a, b)
			if b < 1 {
				if quotient != 0 || left != 0 || err != api.ErrArg {
					t.Errorf("Div(%d, %d) = %d, %d, %d, want ErrArg", a, b, quotient, left, err)
				}
				continue
			}
			// Euclid's division is the one meant, as b is above 0.
			rest := new(big.Int)
			whole, _ := new(big.Int).DivMod(exact(a), exact(b), rest)
			if err != api.OK || exact(quotient).Cmp(whole) != 0 || exact(left).Cmp(rest) != 0 {
				t.Errorf("Div(%d, %d) = %d, %d, %d, want %v, %v", a, b, quotient, left, err, whole, rest)
			}
		}
	}
}

func TestClamp(t *testing.T) {
	for _, c := range []struct{ n, lo, hi, want int }{
		{5, 0, 9, 5},
		{0, 0, 9, 0},
		{9, 0, 9, 9},
		{-1, 0, 9, 0},
		{10, 0, 9, 9},
		{-8, -9, -3, -8},
		{-10, -9, -3, -9},
		{0, -9, -3, -3},
		{4, 4, 4, 4},
		{3, 4, 4, 4},
		{5, 4, 4, 4},
		{math.MinInt, math.MinInt, math.MaxInt, math.MinInt},
		{math.MaxInt, math.MinInt, math.MaxInt, math.MaxInt},
		{math.MinInt, 0, math.MaxInt, 0},
		{math.MaxInt, math.MinInt, 0, 0},
		// lo above hi: lo is asked first.
		{5, 7, 3, 7},
		{2, 7, 3, 7},
		{7, 7, 3, 3},
		{8, 7, 3, 3},
	} {
		if got := minute.Clamp(c.n, c.lo, c.hi); got != c.want {
			t.Errorf("Clamp(%d, %d, %d) = %d, want %d", c.n, c.lo, c.hi, got, c.want)
		}
	}
}

func TestUpTables(t *testing.T) {
	for _, c := range []struct {
		n, step, want int
		err           api.Errno
	}{
		{7, 5, 10, api.OK},
		{10, 5, 10, api.OK},
		{11, 5, 15, api.OK},
		{0, 5, 0, api.OK},
		{1, 5, 5, api.OK},
		{-1, 5, 0, api.OK},
		{-5, 5, -5, api.OK},
		{-7, 5, -5, api.OK},
		{7, 1, 7, api.OK},
		{math.MinInt, 1, math.MinInt, api.OK},
		{math.MaxInt, 1, math.MaxInt, api.OK},
		{math.MinInt, 2, math.MinInt, api.OK},
		{math.MinInt, math.MaxInt, -math.MaxInt, api.OK},
		{math.MaxInt, math.MaxInt, math.MaxInt, api.OK},
		{1, math.MaxInt, math.MaxInt, api.OK},
		{math.MaxInt - 1, 2, math.MaxInt - 1, api.OK},
		{math.MaxInt, 2, 0, api.ErrOver},
		{math.MaxInt, 1 << 62, 0, api.ErrOver},
		{math.MaxInt, math.MaxInt - 1, 0, api.ErrOver},
		{1<<62 + 1, 1 << 62, 0, api.ErrOver},
		{7, 0, 0, api.ErrArg},
		{0, 0, 0, api.ErrArg},
		{7, -5, 0, api.ErrArg},
		{math.MaxInt, math.MinInt, 0, api.ErrArg},
		{math.MinInt, -1, 0, api.ErrArg},
	} {
		if got, err := minute.Up(c.n, c.step); got != c.want || err != c.err {
			t.Errorf("Up(%d, %d) = %d, %d, want %d, %d", c.n, c.step, got, err, c.want, c.err)
		}
	}
}

func TestUpExact(t *testing.T) {
	for _, n := range numbers() {
		for _, step := range numbers() {
			want, wantErr := 0, api.ErrArg
			if step > 0 {
				// The negative of the greatest multiple that is not above -n.
				down, _ := new(big.Int).DivMod(new(big.Int).Neg(exact(n)), exact(step), new(big.Int))
				want, wantErr = within(down.Mul(down.Neg(down), exact(step)))
			}
			if got, err := minute.Up(n, step); got != want || err != wantErr {
				t.Errorf("Up(%d, %d) = %d, %d, want %d, %d", n, step, got, err, want, wantErr)
			}
		}
	}
}

// TestBack: P1.4, wherever nothing is beyond 64 bits.
func TestBack(t *testing.T) {
	for _, a := range numbers() {
		for _, b := range numbers() {
			if sum, err := minute.Add(a, b); err == api.OK {
				if got, err := minute.Sub(sum, b); got != a || err != api.OK {
					t.Errorf("Add(%d, %d) less %d = %d, %d", a, b, b, got, err)
				}
				if got, err := minute.Sub(sum, a); got != b || err != api.OK {
					t.Errorf("Add(%d, %d) less %d = %d, %d", a, b, a, got, err)
				}
			}
			checkDivBack(t, a, b)
		}
	}
}

func checkDivBack(t *testing.T, a, b int) {
	quotient, left, err := minute.Div(a, b)
	if err != api.OK {
		return
	}
	if left < 0 || left >= b {
		t.Errorf("Div(%d, %d) leaves %d", a, b, left)
	}
	// Near the least number the quotient times b alone may be beyond 64 bits.
	back := new(big.Int).Mul(exact(quotient), exact(b))
	if back.Add(back, exact(left)).Cmp(exact(a)) != 0 {
		t.Errorf("Div(%d, %d) = %d, %d, which is %v", a, b, quotient, left, back)
	}
	product, err := minute.Mul(quotient, b)
	if err != api.OK {
		return
	}
	if got, err := minute.Add(product, left); got != a || err != api.OK {
		t.Errorf("%d by %d, and back, is %d, %d", a, b, got, err)
	}
}
