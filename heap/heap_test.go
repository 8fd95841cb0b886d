package heap_test

import (
	"math"
	"slices"
	"testing"

	"haulier/heap"
)

func item(key, tie, value int) heap.Item { return heap.Item{Key: key, Tie: tie, Value: value} }

// keys are items that have these keys, and nothing else.
func keys(l ...int) []heap.Item {
	var items []heap.Item
	for _, k := range l {
		items = append(items, item(k, 0, 0))
	}
	return items
}

// TestExample: the chapter's one.
func TestExample(t *testing.T) {
	h := heap.New(keys(5, 2, 9)...)
	checkPeek(t, h, item(2, 0, 0))
	checkPop(t, h, item(2, 0, 0))
}

// TestLess: keys that differ, ties that differ, values that differ, and none; of each, whatever stands behind.
func TestLess(t *testing.T) {
	for _, c := range []struct {
		a, b          heap.Item
		ahead, behind bool
	}{
		{item(1, 0, 0), item(2, 0, 0), true, false},
		{item(1, 9, 9), item(2, 0, 0), true, false},
		{item(-2, 0, 9), item(-1, 0, 0), true, false},
		{item(-1, 9, 0), item(0, -9, 0), true, false},
		{item(5, 1, 0), item(5, 2, 0), true, false},
		{item(5, 1, 9), item(5, 2, 0), true, false},
		{item(5, -2, 9), item(5, -1, -9), true, false},
		{item(5, 5, 1), item(5, 5, 2), true, false},
		{item(5, 5, -2), item(5, 5, -1), true, false},
		{item(0, 0, -1), item(0, 0, 0), true, false},
		{item(0, 0, 0), item(0, 0, 0), false, false},
		{item(5, 6, 7), item(5, 6, 7), false, false},
		{item(-5, -6, -7), item(-5, -6, -7), false, false},
		{item(math.MinInt, 0, 0), item(math.MaxInt, 0, 0), true, false},
		{item(0, math.MinInt, 0), item(0, math.MaxInt, 0), true, false},
		{item(0, 0, math.MinInt), item(0, 0, math.MaxInt), true, false},
		{item(math.MaxInt-1, math.MaxInt, math.MaxInt), item(math.MaxInt, math.MinInt, math.MinInt), true, false},
		{item(math.MinInt, math.MaxInt, math.MaxInt), item(math.MinInt+1, math.MinInt, math.MinInt), true, false},
	} {
		checkLess(t, c.a, c.b, c.ahead)
		checkLess(t, c.b, c.a, c.behind)
		checkLess(t, c.a, c.a, false)
		checkLess(t, c.b, c.b, false)
	}
}

// TestNew: of no items, of one, of many; of the same ones; rising, falling and mixed.
func TestNew(t *testing.T) {
	for _, l := range [][]heap.Item{
		nil,
		{},
		keys(0),
		{item(3, -1, 7)},
		keys(1, 2),
		keys(2, 1),
		keys(4, 4),
		keys(7, 7, 7, 7, 7, 7),
		keys(1, 2, 3, 4, 5, 6, 7, 8, 9, 10),
		keys(10, 9, 8, 7, 6, 5, 4, 3, 2, 1),
		keys(3, 9, 1, 7, 5, 10, 2, 8, 4, 6),
		keys(3, 9, 3, 1, 9, 9, 1, 3),
		{item(1, 2, 3), item(1, 2, 2), item(1, 1, 9), item(0, 9, 9), item(1, 2, 3), item(0, 9, 8)},
	} {
		h := heap.New(l...)
		if h == nil {
			t.Fatalf("New(%v) tells nil", l)
		}
		checkOut(t, h, l)
	}
	checkLen(t, heap.New(), 0)
	checkLen(t, heap.New(keys(5, 5, 5, 1, 1)...), 5)
}

// TestPush: onto none; ahead of all, behind all, amid them, and what is there already.
func TestPush(t *testing.T) {
	h := heap.New()
	for i, c := range []struct{ x, first heap.Item }{
		{item(5, 5, 5), item(5, 5, 5)},
		{item(9, 0, 0), item(5, 5, 5)},
		{item(7, 0, 0), item(5, 5, 5)},
		{item(1, 9, 9), item(1, 9, 9)},
		{item(1, 9, 9), item(1, 9, 9)},
		{item(1, 9, 8), item(1, 9, 8)},
		{item(1, 8, 9), item(1, 8, 9)},
		{item(7, 0, 0), item(1, 8, 9)},
		{item(0, 0, 0), item(0, 0, 0)},
		{item(9, 0, 0), item(0, 0, 0)},
		{item(99, 0, 0), item(0, 0, 0)},
	} {
		h.Push(c.x)
		checkLen(t, h, i+1)
		checkPeek(t, h, c.first)
	}
	want := []heap.Item{
		item(0, 0, 0), item(1, 8, 9), item(1, 9, 8), item(1, 9, 9), item(1, 9, 9), item(5, 5, 5),
		item(7, 0, 0), item(7, 0, 0), item(9, 0, 0), item(9, 0, 0), item(99, 0, 0),
	}
	if got := h.Drain(99); !slices.Equal(got, want) {
		t.Errorf("what was pushed comes out as %v", got)
	}
}

// TestPeekAndPop: Peek leaves what it tells, and Pop takes just one, also of several that are the same; behind the last one there is none.
func TestPeekAndPop(t *testing.T) {
	h := heap.New(item(3, 0, 0), item(1, 0, 0), item(1, 0, 0), item(2, 0, 0), item(1, 0, 0))
	for left, want := range keys(1, 1, 1, 2, 3) {
		for range 3 {
			checkPeek(t, h, want)
			checkLen(t, h, 5-left)
		}
		checkPop(t, h, want)
		checkLen(t, h, 4-left)
	}
	checkNone(t, h)
	checkNone(t, heap.New())
	h.Push(item(0, 0, 0))
	checkPeek(t, h, heap.Item{})
	checkPop(t, h, heap.Item{})
	checkNone(t, h)
}

// TestDrain: numbers below 1, fewer than there are, as many, and more; and what is left.
func TestDrain(t *testing.T) {
	for _, c := range []struct {
		most       int
		want, left []heap.Item
	}{
		{0, nil, keys(1, 2, 3, 3)},
		{-1, nil, keys(1, 2, 3, 3)},
		{-4, nil, keys(1, 2, 3, 3)},
		{math.MinInt, nil, keys(1, 2, 3, 3)},
		{math.MinInt + 1, nil, keys(1, 2, 3, 3)},
		{1, keys(1), keys(2, 3, 3)},
		{2, keys(1, 2), keys(3, 3)},
		{3, keys(1, 2, 3), keys(3)},
		{4, keys(1, 2, 3, 3), nil},
		{5, keys(1, 2, 3, 3), nil},
		{1 << 32, keys(1, 2, 3, 3), nil},
		{math.MaxInt - 1, keys(1, 2, 3, 3), nil},
		{math.MaxInt, keys(1, 2, 3, 3), nil},
	} {
		h := heap.New(keys(3, 1, 3, 2)...)
		if got := h.Drain(c.most); !slices.Equal(got, c.want) {
			t.Errorf("Drain(%d) = %v, want %v", c.most, got, c.want)
		}
		checkOut(t, h, c.left)
		if got := h.Drain(c.most); len(got) != 0 {
			t.Errorf("Drain(%d) of none = %v", c.most, got)
		}
	}
}

// TestPushBehindDrain: a heap that was drained takes items as a new one does.
func TestPushBehindDrain(t *testing.T) {
	h := heap.New(keys(5, 6, 7)...)
	for range 3 {
		h.Drain(9)
		checkNone(t, h)
		for _, x := range keys(4, 8, 2, 8) {
			h.Push(x)
		}
		checkLen(t, h, 4)
		if got := h.Drain(3); !slices.Equal(got, keys(2, 4, 8)) {
			t.Errorf("Drain of 3 behind a Drain: %v", got)
		}
		h.Push(item(1, 0, 0))
		checkPeek(t, h, item(1, 0, 0))
		checkLen(t, h, 2)
	}
}

// TestNil: it has no items, and takes none.
func TestNil(t *testing.T) {
	var h *heap.Heap
	checkNone(t, h)
	h.Push(item(1, 2, 3))
	checkNone(t, h)
	for _, most := range []int{math.MinInt, -1, 0, 1, 2, math.MaxInt} {
		if l := h.Drain(most); len(l) != 0 {
			t.Errorf("Drain(%d) of nil: %v", most, l)
		}
	}
	if h != nil {
		t.Error("nil is none any more")
	}
}

// TestZero: a heap that New has not made has no items, and takes them.
func TestZero(t *testing.T) {
	var h heap.Heap
	checkNone(t, &h)
	for _, x := range keys(3, 1, 2) {
		h.Push(x)
	}
	checkOut(t, &h, keys(1, 2, 3))
}
