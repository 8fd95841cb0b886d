package heap_test

import (
	"math/rand"
	"slices"
	"testing"

	"haulier/heap"
)

// chance is a source of draws that is the same each time.
func chance(seed int64) *rand.Rand { return rand.New(rand.NewSource(seed)) }

// numbers are an item's ones, in the order in which they are compared.
func numbers(x heap.Item) []int { return []int{x.Key, x.Tie, x.Value} }

// compare tells how items are ordered, by the chapter's words: below 0 where a comes ahead, above 0 where b does.
func compare(a, b heap.Item) int { return slices.Compare(numbers(a), numbers(b)) }

// rising is the items in order.
func rising(l []heap.Item) []heap.Item { return slices.SortedFunc(slices.Values(l), compare) }

// list is items that lie in no order; the first one is looked for each time.
type list []heap.Item

func (l *list) peek() (heap.Item, bool) {
	if len(*l) == 0 {
		return heap.Item{}, false
	}
	return slices.MinFunc(*l, compare), true
}

func (l *list) pop() (heap.Item, bool) {
	x, ok := l.peek()
	if ok {
		at := slices.Index(*l, x)
		*l = slices.Delete(*l, at, at+1)
	}
	return x, ok
}

func (l *list) drain(most int) []heap.Item {
	var out []heap.Item
	for len(out) < most && len(*l) > 0 {
		x, _ := l.pop()
		out = append(out, x)
	}
	return out
}

// pair is a heap, and a list that has to have the same items.
type pair struct {
	t     *testing.T
	heap  *heap.Heap
	plain list
	did   []any
}

// both begins a heap and a list of the items.
func both(t *testing.T, l ...heap.Item) *pair {
	t.Helper()
	p := &pair{t: t, heap: heap.New(l...), plain: slices.Clone(l), did: []any{"New", l}}
	p.same()
	return p
}

// fail tells what was done up to now, and ends the test.
func (p *pair) fail(what string, got, want any) {
	p.t.Helper()
	p.t.Fatalf("%v: %s tells %v, want %v", p.did, what, got, want)
}

// same: the heap has as many items, and the same one first.
func (p *pair) same() {
	p.t.Helper()
	if got, want := p.heap.Len(), len(p.plain); got != want {
		p.fail("Len", got, want)
	}
	want, some := p.plain.peek()
	if got, ok := p.heap.Peek(); got != want || ok != some {
		p.fail("Peek", []any{got, ok}, []any{want, some})
	}
}

func (p *pair) push(x heap.Item) {
	p.t.Helper()
	p.did = append(p.did, "Push", x)
	p.heap.Push(x)
	p.plain = append(p.plain, x)
	p.same()
}

func (p *pair) pop() {
	p.t.Helper()
	p.did = append(p.did, "Pop")
	want, some := p.plain.pop()
	if got, ok := p.heap.Pop(); got != want || ok != some {
		p.fail("Pop", []any{got, ok}, []any{want, some})
	}
	p.same()
}

func (p *pair) drain(most int) []heap.Item {
	p.t.Helper()
	p.did = append(p.did, "Drain", most)
	want := p.plain.drain(most)
	got := p.heap.Drain(most)
	if !slices.Equal(got, want) {
		p.fail("Drain", got, want)
	}
	p.same()
	return got
}

// checkOut: what is drained of these items is all of them, in order, each as often, and none is left.
func checkOut(t *testing.T, h *heap.Heap, l []heap.Item) {
	t.Helper()
	if got := h.Len(); got != len(l) {
		t.Fatalf("Len of %v: %d", l, got)
	}
	out := h.Drain(len(l) + 1)
	if !slices.Equal(out, rising(l)) {
		t.Fatalf("of %v came out %v", l, out)
	}
	for i := 1; i < len(out); i++ {
		if heap.Less(out[i], out[i-1]) {
			t.Fatalf("what is drained of %v falls at %d: %v", l, i, out)
		}
	}
	checkNone(t, h)
}

// checkNone: the heap has no items, and tells so again.
func checkNone(t *testing.T, h *heap.Heap) {
	t.Helper()
	for range 2 {
		if got := h.Len(); got != 0 {
			t.Fatalf("Len of none: %d", got)
		}
		if x, ok := h.Peek(); x != (heap.Item{}) || ok {
			t.Fatalf("Peek of none: %v, %v", x, ok)
		}
		if x, ok := h.Pop(); x != (heap.Item{}) || ok {
			t.Fatalf("Pop of none: %v, %v", x, ok)
		}
		if l := h.Drain(1); len(l) != 0 {
			t.Fatalf("Drain of none: %v", l)
		}
	}
}

func checkPeek(t *testing.T, h *heap.Heap, want heap.Item) {
	t.Helper()
	if x, ok := h.Peek(); x != want || !ok {
		t.Errorf("Peek: %v, %v, want %v", x, ok, want)
	}
}

func checkPop(t *testing.T, h *heap.Heap, want heap.Item) {
	t.Helper()
	if x, ok := h.Pop(); x != want || !ok {
		t.Errorf("Pop: %v, %v, want %v", x, ok, want)
	}
}

func checkLen(t *testing.T, h *heap.Heap, want int) {
	t.Helper()
	if got := h.Len(); got != want {
		t.Errorf("Len: %d, want %d", got, want)
	}
}

func checkLess(t *testing.T, a, b heap.Item, want bool) {
	t.Helper()
	if got := heap.Less(a, b); got != want {
		t.Errorf("Less(%v, %v) = %v, want %v", a, b, got, want)
	}
}
