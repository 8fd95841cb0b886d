package heap_test

import (
	"math"
	"slices"
	"testing"

	"haulier/heap"
	"haulier/sample"
)

// cube is all items of those numbers.
func cube(l ...int) []heap.Item {
	var items []heap.Item
	for _, key := range l {
		for _, tie := range l {
			for _, value := range l {
				items = append(items, item(key, tie, value))
			}
		}
	}
	return items
}

// ends are numbers at both ends of 64 bits, and around 0.
func ends() []int {
	return []int{math.MinInt, math.MinInt + 1, -1, 0, 1, 1 << 32, math.MaxInt - 1, math.MaxInt}
}

// TestLessOfAll: any two items, of numbers at both ends of 64 bits and of small ones.
func TestLessOfAll(t *testing.T) {
	all := cube(ends()...)
	for _, a := range all {
		for _, b := range all {
			checkLess(t, a, b, compare(a, b) < 0)
		}
	}
}

// TestShortRows: all rows of up to six steps: a Push of one of few items, of which any two differ in another number, a Pop, a Drain of two.
func TestShortRows(t *testing.T) {
	few := []heap.Item{item(1, 1, 1), item(1, 1, 2), item(1, 2, 0), item(2, 0, 0)}
	steps := len(few) + 2
	for long, rows := 0, 1; long <= 6; long, rows = long+1, rows*steps {
		for row := range rows {
			p := both(t)
			for range long {
				switch step := row % steps; step {
				case len(few):
					p.pop()
				case len(few) + 1:
					p.drain(2)
				default:
					p.push(few[step])
				}
				row /= steps
			}
			p.drain(long)
			checkNone(t, p.heap)
		}
	}
}

// TestShortLists: all lists of up to six items of four, handed to New, or pushed one by one, and taken one by one.
func TestShortLists(t *testing.T) {
	few := []heap.Item{item(0, 0, 0), item(0, 0, 1), item(0, 1, -1), item(1, -1, -1)}
	for long, lists := 0, 1; long <= 6; long, lists = long+1, lists*len(few) {
		for number := range lists {
			var l []heap.Item
			for range long {
				l = append(l, few[number%len(few)])
				number /= len(few)
			}
			p := both(t, l...)
			for range long + 1 {
				p.pop()
			}
			h := heap.New()
			for _, x := range l {
				h.Push(x)
			}
			checkOut(t, h, l)
		}
	}
}

// TestOrders: eight items in each order, handed to New, or pushed one by one.
func TestOrders(t *testing.T) {
	sample.Orders(cube(0, 1), func(l []heap.Item) {
		checkOut(t, heap.New(l...), l)
		h := heap.New(l[:3]...)
		for _, x := range l[3:] {
			h.Push(x)
		}
		checkOut(t, h, l)
	})
}

// TestDrawn: long rows of steps, over few items or many, small ones or at the ends of 64 bits.
func TestDrawn(t *testing.T) {
	draws := chance(23)
	same, most, emptied := 0, 0, 0
	for row := range 600 {
		all := [][]heap.Item{cube(0, 1), cube(0, 1, 2, 3, 4), cube(ends()...)}[row%3]
		draw := func() heap.Item { return all[draws.Intn(len(all))] }
		var l []heap.Item
		for range draws.Intn(40) {
			l = append(l, draw())
		}
		p := both(t, l...)
		pushes := 2 + draws.Intn(5)
		for range 150 {
			switch step := draws.Intn(9); {
			case step < pushes:
				x := draw()
				if slices.Contains(p.plain, x) {
					same++
				}
				p.push(x)
			case step < 8:
				p.pop()
			default:
				p.drain(draws.Intn(8) - 2)
			}
			most = max(most, len(p.plain))
			if len(p.plain) == 0 {
				emptied++
			}
		}
		p.drain(1000)
		checkNone(t, p.heap)
	}
	if same < 1000 || most < 60 || emptied < 1000 {
		t.Errorf("the test itself: %d items were there already, %d are the most, %d times there are none", same, most, emptied)
	}
}

// TestMany: as many items as a long search may lay: in order, against it, all the same, and mixed.
func TestMany(t *testing.T) {
	const many = 100000
	draws := chance(32)
	for _, number := range []func(i int) int{
		func(i int) int { return i },
		func(i int) int { return -i },
		func(i int) int { return 7 },
		func(i int) int { return draws.Intn(1000) },
	} {
		var l []heap.Item
		pushed := heap.New()
		for i := range many {
			x := item(number(i), number(i), number(i))
			l = append(l, x)
			pushed.Push(x)
		}
		checkOut(t, heap.New(l...), l)
		checkOut(t, pushed, l)
	}
}

// TestArguments: what is handed in reads as before behind each call, amid other memory, too.
func TestArguments(t *testing.T) {
	for _, l := range [][]heap.Item{nil, keys(1), keys(3, 2, 1), keys(9, 8, 7, 6, 5, 4, 3, 2, 1, 0), keys(2, 2, 1, 1)} {
		whole := sample.Among(l, []heap.Item{item(-9, -9, -9), item(9, 9, 9)}, func(mine []heap.Item) {
			h := heap.New(mine...)
			for range 4 {
				h.Push(item(0, 0, 0))
				h.Pop()
				h.Push(item(5, 0, 0))
			}
			h.Peek()
			h.Drain(3)
			h.Push(item(-1, 0, 0))
			h.Drain(99)
			h.Push(item(1, 0, 0))
		})
		if !whole {
			t.Errorf("New(%v) and what comes behind it write to what was handed in, or beside it", l)
		}
	}
}

// TestNothingIsShared: a change of what was handed in, or of what was handed out, changes nothing in the heap, nor in another one.
func TestNothingIsShared(t *testing.T) {
	mine := keys(4, 2, 6)
	h, other := heap.New(mine...), heap.New(mine...)
	for i := range mine {
		mine[i] = item(-1, -1, -1)
	}
	other.Push(item(0, 0, 0))
	other.Pop()
	other.Pop()
	checkPeek(t, h, item(2, 0, 0))
	first := h.Drain(2)
	for i := range first {
		first[i] = item(-2, 0, 0)
	}
	h.Push(item(5, 0, 0))
	h.Push(item(7, 0, 0))
	if want := keys(-2, -2); !slices.Equal(first, want) {
		t.Errorf("what Drain has handed out reads as %v behind a Push", first)
	}
	second := h.Drain(2)
	h.Push(item(1, 0, 0))
	h.Push(item(1, 0, 0))
	if want := keys(5, 6); !slices.Equal(second, want) {
		t.Errorf("what Drain has handed out reads as %v behind a Push", second)
	}
	_ = append(first, item(-3, 0, 0))
	_ = append(second, item(-3, 0, 0))
	checkOut(t, h, keys(1, 1, 7))
	checkOut(t, other, keys(4, 6))
}

// TestAlike: the same that is asked of heaps that were made apart, or in another order, is told the same.
func TestAlike(t *testing.T) {
	sample.Orders(keys(1, 1, 2, 3, 3, 4), func(l []heap.Item) {
		a, b := heap.New(l...), heap.New()
		for _, x := range slices.Backward(l) {
			b.Push(x)
		}
		for range l {
			x, more := a.Pop()
			if y, ok := b.Pop(); x != y || !more || !ok {
				t.Fatalf("of %v: %v, %v, and %v, %v", l, x, more, y, ok)
			}
		}
	})
}

// TestDrainedStays: what Drain has handed out stays as it is, however many items come behind it, and what is put behind it doesn't get into the heap.
func TestDrainedStays(t *testing.T) {
	for many := range 40 {
		for most := range many + 2 {
			h := heap.New()
			for i := range many {
				h.Push(item(i, 0, 0))
			}
			out := h.Drain(most)
			for i := range 2 * many {
				h.Push(item(100+i, 0, 0))
			}
			_ = append(out, keys(-1, -1, -1)...)
			h.Drain(many)
			h.Push(item(-5, 0, 0))
			for i, x := range out {
				if x != item(i, 0, 0) {
					t.Fatalf("of %d items, %d were drained, and read as %v behind other calls", many, most, out)
				}
			}
			checkPeek(t, h, item(-5, 0, 0))
			checkLen(t, h, 2*many-len(out)+1)
		}
	}
}
