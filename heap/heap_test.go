package heap

import (
	"cmp"
	"fmt"
	"slices"
	"strings"
	"testing"
)

// pair is ordered by its key only; its mark tells equivalent pairs apart.
type pair struct {
	key, mark int
}

type lessPairs = func(a, b pair) bool

func ascending[T cmp.Ordered](a, b T) bool  { return a < b }
func descending[T cmp.Ordered](a, b T) bool { return b < a }
func byKey(a, b pair) bool                  { return a.key < b.key }
func byKeyDown(a, b pair) bool              { return b.key < a.key }
func byHalf(a, b pair) bool                 { return a.key/2 < b.key/2 }
func byRemainder(a, b pair) bool            { return a.key%3 < b.key%3 }
func byBoth(a, b pair) bool                 { return a.key < b.key || a.key == b.key && b.mark < a.mark }
func byNothing(a, b pair) bool              { return false }

// orders returns strict weak orderings of pairs.
func orders() map[string]lessPairs {
	return map[string]lessPairs{"by key": byKey, "by key, reverse": byKeyDown, "by half the key": byHalf, "by the remainder": byRemainder, "by both": byBoth, "by nothing": byNothing}
}

// others returns functions that are no orders.
func others() map[string]lessPairs {
	return map[string]lessPairs{
		"always true":       func(a, b pair) bool { return true },
		"not greater":       func(a, b pair) bool { return a.key <= b.key },
		"not less":          func(a, b pair) bool { return a.key >= b.key },
		"different":         func(a, b pair) bool { return a.key != b.key },
		"equal":             func(a, b pair) bool { return a.key == b.key },
		"in a circle":       func(a, b pair) bool { return (b.key-a.key+300)%3 == 1 },
		"in a large circle": func(a, b pair) bool { return (b.key-a.key+700)%7 < 4 && a.key != b.key },
		"less by two":       func(a, b pair) bool { return a.key+1 < b.key },
		"by the first":      func(a, b pair) bool { return a.key%2 == 0 },
		"by the second":     func(a, b pair) bool { return b.key%2 == 0 },
		"scattered":         func(a, b pair) bool { return (uint32(a.mark*31+b.mark+7)*2654435761)>>31 == 1 },
	}
}

// firstIndex returns the index of the first one of the elements, which are in the order in which they were pushed, as the chapter defines it.
func firstIndex[T any](l []T, less func(a, b T) bool) int {
	for i := range l {
		if !slices.ContainsFunc(l, func(x T) bool { return less(x, l[i]) }) {
			return i
		}
	}
	panic("the function is no order")
}

// wantDrain returns the elements in the order in which Pop must return them.
func wantDrain[T any](l []T, less func(a, b T) bool) []T {
	var sorted []T
	rest := slices.Clone(l)
	for len(rest) > 0 {
		i := firstIndex(rest, less)
		sorted = append(sorted, rest[i])
		rest = slices.Delete(rest, i, i+1)
	}
	return sorted
}

// filled returns a heap with the elements of l.
func filled[T any](l []T, less func(a, b T) bool) *Heap[T] {
	h := New(less)
	for _, x := range l {
		h.Push(x)
	}
	return h
}

// pops returns the elements that Pop returns until it returns false.
func pops[T any](h *Heap[T]) []T {
	var l []T
	for {
		x, ok := h.Pop()
		if !ok {
			return l
		}
		l = append(l, x)
	}
}

// pairsOf returns pairs with these keys; each mark is the index of the pair.
func pairsOf(keys ...int) []pair {
	var l []pair
	for i, key := range keys {
		l = append(l, pair{key, i})
	}
	return l
}

// lists returns all lists of up to length integers that are less than n.
func lists(n, length int) [][]int {
	all := [][]int{nil}
	for from := 0; length > 0; length-- {
		to := len(all)
		for _, l := range all[from:to] {
			for i := range n {
				all = append(all, append(slices.Clone(l), i))
			}
		}
		from = to
	}
	return all
}

// permutations returns all orders of the integers that are less than n.
func permutations(n int) [][]int {
	if n == 0 {
		return [][]int{nil}
	}
	var all [][]int
	for _, l := range permutations(n - 1) {
		for i := range n {
			all = append(all, slices.Insert(slices.Clone(l), i, n-1))
		}
	}
	return all
}

// scattered returns n integers that are less than limit, in an order without a pattern.
func scattered(n, limit int) []int {
	var l []int
	state := uint64(n*1000 + limit)
	for range n {
		state = state*6364136223846793005 + 1442695040888963407
		l = append(l, int(state>>33)%limit)
	}
	return l
}

// longLists returns lists of n integers: equal, ascending, descending and of other kinds.
func longLists(n int) map[string][]int {
	all := map[string][]int{"equal": make([]int, n), "few": scattered(n, 5), "many": scattered(n, 10*n)}
	for i := range n {
		all["ascending"] = append(all["ascending"], i)
		all["descending"] = append(all["descending"], n-i)
		all["up and down"] = append(all["up and down"], min(i, n-i))
		all["down and up"] = append(all["down and up"], max(i, n-i))
		all["in stairs"] = append(all["in stairs"], i/10)
		all["by turns"] = append(all["by turns"], i%2*n+i/2)
	}
	return all
}

// checkSorted checks that the elements of l come out of Sort, Drain, Pop and Peek as the document requires for an order.
func checkSorted[T comparable](t *testing.T, name string, l []T, less func(a, b T) bool) {
	t.Helper()
	want := wantDrain(l, less)
	if got := Sort(l, less); !slices.Equal(got, want) {
		t.Errorf("%s: Sort(%v) = %v; want %v", name, l, got, want)
	}
	if got := filled(l, less).Drain(); !slices.Equal(got, want) {
		t.Errorf("%s: Drain() after %v = %v; want %v", name, l, got, want)
	}
	h := filled(l, less)
	for i, w := range want {
		first, some := h.Peek()
		got, ok := h.Pop()
		if first != w || !some || got != w || !ok || h.Len() != len(l)-i-1 {
			t.Errorf("%s: %v after %v: Peek() = %v, %v; Pop() = %v, %v; then Len() = %d", name, w, l, first, some, got, ok, h.Len())
		}
	}
	checkEmpty(t, name, h)
}

// checkEmpty checks that Pop, Peek, Len and Drain find no element.
func checkEmpty[T comparable](t *testing.T, name string, h *Heap[T]) {
	t.Helper()
	if x, ok := h.Peek(); x != *new(T) || ok {
		t.Errorf("%s, without elements: Peek() = %v, %v", name, x, ok)
	}
	if x, ok := h.Pop(); x != *new(T) || ok {
		t.Errorf("%s, without elements: Pop() = %v, %v", name, x, ok)
	}
	if l := h.Drain(); len(l) != 0 {
		t.Errorf("%s, without elements: Drain() = %v", name, l)
	}
	if n := h.Len(); n != 0 {
		t.Errorf("%s, without elements: Len() = %d", name, n)
	}
}

// checkOnce checks that got contains each element of l exactly once; the elements of l are different.
func checkOnce(t *testing.T, name string, got, l []pair) {
	t.Helper()
	left := map[pair]bool{}
	for _, x := range l {
		left[x] = true
	}
	for _, x := range got {
		if !left[x] {
			t.Errorf("%s: %v is too much in %v of %v", name, x, got, l)
		}
		delete(left, x)
	}
	if len(left) > 0 {
		t.Errorf("%s: %v misses %d elements of %v", name, got, len(left), l)
	}
}

// checkAll checks what holds for all functions, orders or not.
func checkAll(t *testing.T, name string, l []pair, less lessPairs) {
	t.Helper()
	checkOnce(t, name+", Sort", Sort(l, less), l)
	drained := filled(l, less).Drain()
	checkOnce(t, name+", Drain", drained, l)
	h := filled(l, less)
	var popped []pair
	for i := range l {
		if h.Len() != len(l)-i {
			t.Errorf("%s: after %d of %d elements Len() = %d", name, i, len(l), h.Len())
		}
		first, some := h.Peek()
		again, still := h.Peek()
		got, ok := h.Pop()
		if !some || !still || !ok || first != got || again != got {
			t.Errorf("%s: Peek() = %v, %v and %v, %v; Pop() = %v, %v", name, first, some, again, still, got, ok)
		}
		popped = append(popped, got)
	}
	if !slices.Equal(popped, drained) {
		t.Errorf("%s: Pop returns %v, Drain %v", name, popped, drained)
	}
	checkOnce(t, name+", Pop", popped, l)
	checkEmpty(t, name, h)
}

// What the steps of a sequence do; smaller numbers are keys of pairs that are pushed.
const (
	stepPop = 100 + iota
	stepPeek
	stepDrain
)

// checkSteps performs the steps on a new heap, and checks them with a list of what the heap must contain, in the order in which it was pushed.
func checkSteps(t *testing.T, name string, steps []int, less lessPairs, isOrder bool) {
	t.Helper()
	h := New(less)
	var inside []pair
	for mark, step := range steps {
		first, some := h.Peek()
		if some != (len(inside) > 0) || h.Len() != len(inside) || some && isOrder && first != inside[firstIndex(inside, less)] {
			t.Fatalf("%s, steps %v: before step %d Peek() = %v, %v and Len() = %d with %v", name, steps, mark, first, some, h.Len(), inside)
		}
		switch step {
		case stepPop:
			x, ok := h.Pop()
			i := slices.Index(inside, x)
			if x != first || ok != some || ok && i < 0 {
				t.Fatalf("%s, steps %v: Peek() = %v, %v, but Pop() = %v, %v with %v", name, steps, first, some, x, ok, inside)
			}
			if ok {
				inside = slices.Delete(inside, i, i+1)
			}
		case stepPeek:
		case stepDrain:
			l := h.Drain()
			checkOnce(t, name, l, inside)
			if len(l) > 0 && l[0] != first || isOrder && !slices.Equal(l, wantDrain(inside, less)) {
				t.Fatalf("%s, steps %v: Peek() = %v, but Drain() = %v with %v", name, steps, first, l, inside)
			}
			inside = nil
		default:
			h.Push(pair{step, mark})
			inside = append(inside, pair{step, mark})
		}
	}
	checkOnce(t, name, pops(h), inside)
	checkEmpty(t, name, h)
}

// P7.1 (New, Push, Len)

func TestNew(t *testing.T) {
	checkEmpty(t, "ints", New(ascending[int]))
	checkEmpty(t, "strings", New(descending[string]))
	checkEmpty(t, "pairs", New(byKey))
	checkEmpty(t, "pointers", New(func(a, b *int) bool { return *a < *b }))
}

func TestNewWithoutFunction(t *testing.T) {
	if New[int](nil) != nil || New[string](nil) != nil || New[pair](nil) != nil || New[*pair](nil) != nil || New[any](nil) != nil {
		t.Error("New(nil) is not nil")
	}
	var none lessPairs
	if New(none) != nil {
		t.Error("New is not nil for a variable that is nil")
	}
}

func TestLen(t *testing.T) {
	h := New(ascending[int])
	for i, x := range []int{5, 5, -1, 0, 9, 5} {
		h.Push(x)
		if h.Len() != i+1 {
			t.Errorf("Len() = %d after %d elements", h.Len(), i+1)
		}
	}
	for i := 5; i >= 0; i-- {
		h.Peek()
		h.Pop()
		if h.Len() != i {
			t.Errorf("Len() = %d; want %d", h.Len(), i)
		}
	}
	h.Pop()
	h.Drain()
	h.Push(0)
	if h.Len() != 1 {
		t.Errorf("Len() = %d after one more element", h.Len())
	}
	h.Drain()
	if h.Len() != 0 {
		t.Errorf("Len() = %d after Drain", h.Len())
	}
}

// P7.2 (Pop, Peek)

func TestPopAndPeek(t *testing.T) {
	h := New(ascending[int])
	h.Push(3)
	h.Push(1)
	h.Push(2)
	for _, want := range []int{1, 2, 3} {
		for range 3 {
			if x, ok := h.Peek(); x != want || !ok {
				t.Errorf("Peek() = %d, %v; want %d", x, ok, want)
			}
		}
		if x, ok := h.Pop(); x != want || !ok {
			t.Errorf("Pop() = %d, %v; want %d", x, ok, want)
		}
	}
	checkEmpty(t, "after all elements", h)
}

func TestOneElement(t *testing.T) {
	for _, x := range []int{-1, 0, 1} {
		checkSorted(t, "one int", []int{x}, ascending[int])
	}
	checkSorted(t, "one empty string", []string{""}, ascending[string])
	checkSorted(t, "one string", []string{"a"}, descending[string])
	checkSorted(t, "one pair", []pair{{0, 0}}, byKey)
}

// Of equivalent elements, the one that was pushed earliest is first, also if others were removed in between.
func TestEquivalentElements(t *testing.T) {
	h := New(byKey)
	for _, x := range []pair{{1, 0}, {1, 1}, {0, 2}, {1, 3}, {0, 4}} {
		h.Push(x)
	}
	for i, want := range []pair{{0, 2}, {0, 4}, {1, 0}, {1, 1}, {1, 3}, {1, 5}, {1, 6}} {
		if x, ok := h.Pop(); x != want || !ok {
			t.Errorf("Pop() = %v, %v; want %v", x, ok, want)
		}
		if i < 2 {
			h.Push(pair{1, 5 + i})
		}
	}
}

// An element that was removed and is pushed again comes after the equivalent ones that are in the heap.
func TestPushedAgain(t *testing.T) {
	h := filled([]pair{{1, 0}, {1, 1}, {1, 2}}, byKey)
	for i := range 12 {
		x, ok := h.Pop()
		if want := (pair{1, i % 3}); x != want || !ok {
			t.Errorf("Pop() = %v, %v; want %v", x, ok, want)
		}
		h.Push(x)
	}
	h.Push(pair{1, 0})
	if got, want := h.Drain(), []pair{{1, 0}, {1, 1}, {1, 2}, {1, 0}}; !slices.Equal(got, want) {
		t.Errorf("Drain() = %v; want %v", got, want)
	}
	h.Push(pair{1, 7})
	h.Push(pair{1, 0})
	h.Push(pair{0, 7})
	if got, want := h.Drain(), []pair{{0, 7}, {1, 7}, {1, 0}}; !slices.Equal(got, want) {
		t.Errorf("Drain() = %v; want %v", got, want)
	}
}

func TestAllSequencesOfSteps(t *testing.T) {
	meaning := []int{0, 1, 2, stepPop, stepDrain}
	for _, l := range lists(len(meaning), 7) {
		var steps []int
		for _, i := range l {
			steps = append(steps, meaning[i])
		}
		checkSteps(t, "by key", steps, byKey, true)
		checkSteps(t, "by key, reverse", steps, byKeyDown, true)
		checkSteps(t, "by half the key", steps, byHalf, true)
	}
}

func TestLongSequencesOfSteps(t *testing.T) {
	for length := 10; length <= 600; length += 59 {
		for _, keys := range []int{1, 3, 50} {
			var steps []int
			for _, i := range scattered(length, keys*3) {
				switch {
				case i < keys*2:
					steps = append(steps, i/2)
				case i < keys*3-1:
					steps = append(steps, stepPop, stepPeek)
				default:
					steps = append(steps, stepPop, stepPop)
				}
			}
			steps = append(slices.Insert(steps, length/3, stepDrain), stepPop, stepDrain, stepPeek)
			for name, less := range orders() {
				checkSteps(t, name, steps, less, true)
			}
			for name, less := range others() {
				checkSteps(t, name, steps, less, false)
			}
		}
	}
}

// P7.3 (Drain)

func TestDrain(t *testing.T) {
	h := filled([]int{3, 1, 2, 1}, ascending[int])
	if got := h.Drain(); !slices.Equal(got, []int{1, 1, 2, 3}) {
		t.Errorf("Drain() = %v", got)
	}
	checkEmpty(t, "after Drain", h)
	for _, l := range [][]int{{9, 8}, {0}, {4, 4, 4}, nil, {-1, 7, -1}} {
		for _, x := range l {
			h.Push(x)
		}
		if h.Len() != len(l) {
			t.Errorf("Len() = %d with %v", h.Len(), l)
		}
		if got, want := h.Drain(), wantDrain(l, ascending[int]); !slices.Equal(got, want) {
			t.Errorf("used again, Drain() = %v; want %v", got, want)
		}
		checkEmpty(t, "after Drain", h)
	}
}

func TestDrainAfterPop(t *testing.T) {
	for taken := range 8 {
		h := filled(pairsOf(2, 0, 1, 2, 0, 1, 2), byKey)
		for range taken {
			h.Pop()
		}
		want := []pair{{0, 1}, {0, 4}, {1, 2}, {1, 5}, {2, 0}, {2, 3}, {2, 6}}[taken:]
		if got := h.Drain(); !slices.Equal(got, want) {
			t.Errorf("Drain() after %d elements = %v; want %v", taken, got, want)
		}
	}
}

// P7.4 (Sort)

func TestSort(t *testing.T) {
	marked := []pair{{1, 'a'}, {0, 'b'}, {1, 'c'}, {0, 'd'}}
	if got, want := Sort(marked, byKey), []pair{{0, 'b'}, {0, 'd'}, {1, 'a'}, {1, 'c'}}; !slices.Equal(got, want) {
		t.Errorf("Sort(%v) = %v", marked, got)
	}
	if got, want := Sort(marked, byKeyDown), []pair{{1, 'a'}, {1, 'c'}, {0, 'b'}, {0, 'd'}}; !slices.Equal(got, want) {
		t.Errorf("Sort(%v) in reverse order = %v", marked, got)
	}
	if got := Sort(marked, byNothing); !slices.Equal(got, marked) {
		t.Errorf("Sort(%v) by nothing = %v", marked, got)
	}
	words := []string{"bb", "a", "", "ccc", "aa", "b", "Z"}
	if got, want := Sort(words, ascending[string]), []string{"", "Z", "a", "aa", "b", "bb", "ccc"}; !slices.Equal(got, want) {
		t.Errorf("Sort(%q) = %q", words, got)
	}
	byLength := func(a, b string) bool { return len(a) < len(b) }
	if got, want := Sort(words, byLength), []string{"", "a", "b", "Z", "bb", "aa", "ccc"}; !slices.Equal(got, want) {
		t.Errorf("Sort(%q) by length = %q", words, got)
	}
}

func TestSortOfNothing(t *testing.T) {
	for _, l := range [][]int{nil, {}, make([]int, 0, 5)} {
		if got := Sort(l, ascending[int]); len(got) != 0 {
			t.Errorf("Sort(%v) = %v", l, got)
		}
		if got := Sort(l, nil); len(got) != 0 {
			t.Errorf("Sort(%v) without a function = %v", l, got)
		}
		checkSorted(t, "no elements", l, descending[int])
	}
}

func TestSortWithoutFunction(t *testing.T) {
	for _, l := range lists(3, 5) {
		if got := Sort(l, nil); !slices.Equal(got, l) {
			t.Errorf("Sort(%v) without a function = %v", l, got)
		}
	}
	for name, l := range longLists(5000) {
		if got := Sort(l, nil); !slices.Equal(got, l) {
			t.Errorf("%s: Sort without a function changed the order", name)
		}
	}
}

func TestAllLists(t *testing.T) {
	for _, l := range lists(4, 6) {
		for name, less := range orders() {
			checkSorted(t, name, pairsOf(l...), less)
		}
	}
}

func TestAllPermutations(t *testing.T) {
	for n := range 9 {
		for _, l := range permutations(n) {
			checkSorted(t, "ints", l, ascending[int])
			checkSorted(t, "pairs", pairsOf(l...), byHalf)
		}
	}
}

func TestLongLists(t *testing.T) {
	for n := 7; n <= 200; n += 17 {
		for kind, l := range longLists(n) {
			for name, less := range orders() {
				checkSorted(t, kind+", "+name, pairsOf(l...), less)
			}
		}
	}
	for kind, keys := range longLists(30000) {
		l := pairsOf(keys...)
		for name, less := range map[string]lessPairs{"by key": byKey, "by key, reverse": byKeyDown, "by half the key": byHalf} {
			want := slices.Clone(l)
			slices.SortStableFunc(want, func(a, b pair) int {
				switch {
				case less(a, b):
					return -1
				case less(b, a):
					return 1
				}
				return 0
			})
			if !slices.Equal(Sort(l, less), want) || !slices.Equal(filled(l, less).Drain(), want) || !slices.Equal(pops(filled(l, less)), want) {
				t.Errorf("%d elements, %s, are not sorted %s", len(l), kind, name)
			}
		}
	}
}

// Elements of other kinds than numbers, strings and pairs.

func TestKindsOfElements(t *testing.T) {
	checkSorted(t, "strings", []string{"b", "a", "", "ab", "a", "B", "\xff", "é", "10", "9"}, ascending[string])
	checkSorted(t, "strings in reverse order", []string{"b", "a", "", "ab", "a", "B"}, descending[string])
	checkSorted(t, "bytes", []byte("a sentence of some length"), ascending[byte])
	checkSorted(t, "floats", []float64{2.5, -1, 0, 1e300, -1e300, 0.5}, ascending[float64])
	checkSorted(t, "arrays", [][3]int{{1, 9, 0}, {0, 5, 1}, {1, 2, 2}, {0, 7, 3}}, func(a, b [3]int) bool { return a[0] < b[0] })
	checkSorted(t, "booleans", []bool{true, false, true, false, false}, func(a, b bool) bool { return !a && b })
	checkSorted(t, "empty structs", make([]struct{}, 5), func(a, b struct{}) bool { return false })
	length := func(x any) int { return len(fmt.Sprint(x)) }
	checkSorted(t, "interfaces", []any{"abc", 12, 5, true, pair{1, 2}, "x", nil}, func(a, b any) bool { return length(a) < length(b) })
}

// The function gets the elements only: a zero value that is no element would stop this test.
func TestPointers(t *testing.T) {
	var l []*pair
	for _, x := range pairsOf(scattered(50, 7)...) {
		l = append(l, &x)
	}
	checkSorted(t, "pointers", l, func(a, b *pair) bool { return a.key < b.key })
	checkSorted(t, "pointers in reverse order", l, func(a, b *pair) bool { return a.key > b.key })
}

func TestElementsWithoutEquality(t *testing.T) {
	l := [][]int{{3, 1}, {1}, {2, 5, 5}, {1, 7}, {3}}
	less := func(a, b []int) bool { return a[0] < b[0] }
	want := [][]int{{1}, {1, 7}, {2, 5, 5}, {3, 1}, {3}}
	if got := Sort(l, less); !slices.EqualFunc(got, want, slices.Equal) {
		t.Errorf("Sort(%v) = %v", l, got)
	}
	functions := []func() int{func() int { return 2 }, func() int { return 1 }}
	h := filled(functions, func(a, b func() int) bool { return a() < b() })
	if f, ok := h.Pop(); !ok || f() != 1 {
		t.Error("Pop of functions does not return the first one")
	}
	h.Pop()
	if f, ok := h.Pop(); ok || f != nil {
		t.Error("Pop of functions does not return nil at the end")
	}
}

// P7.5 (other functions, and a nil heap)

func TestOtherFunctions(t *testing.T) {
	for name, less := range others() {
		for _, l := range lists(4, 5) {
			checkAll(t, name, pairsOf(l...), less)
		}
		for n := 10; n <= 100; n += 13 {
			for kind, l := range longLists(n) {
				checkAll(t, name+", "+kind, pairsOf(l...), less)
			}
		}
		checkAll(t, name+", very long", pairsOf(scattered(20000, 300)...), less)
	}
}

func TestOtherFunctionsWithSteps(t *testing.T) {
	meaning := []int{0, 1, 2, stepPop, stepDrain}
	for _, l := range lists(len(meaning), 5) {
		var steps []int
		for _, i := range l {
			steps = append(steps, meaning[i])
		}
		for name, less := range others() {
			checkSteps(t, name, steps, less, false)
		}
	}
}

// isOrder reports whether the relation of three keys is a strict weak ordering, as the chapter defines it.
func isOrder(less func(a, b int) bool) bool {
	equivalent := func(a, b int) bool { return !less(a, b) && !less(b, a) }
	for _, l := range lists(3, 3) {
		if len(l) != 3 {
			continue
		}
		a, b, c := l[0], l[1], l[2]
		if less(a, a) || less(a, b) && less(b, a) || less(a, b) && less(b, c) && !less(a, c) || equivalent(a, b) && equivalent(b, c) && !equivalent(a, c) {
			return false
		}
	}
	return true
}

// All functions of three keys, of which 13 are orders.
func TestAllFunctions(t *testing.T) {
	count := 0
	for table := range 1 << 9 {
		less := func(a, b int) bool { return table>>(a*3+b)&1 == 1 }
		lessKeys := func(a, b pair) bool { return less(a.key, b.key) }
		name := fmt.Sprintf("function %09b", table)
		order := isOrder(less)
		if order {
			count++
		}
		for _, l := range lists(3, 5) {
			checkAll(t, name, pairsOf(l...), lessKeys)
			if order {
				checkSorted(t, name, pairsOf(l...), lessKeys)
			}
		}
	}
	if count != 13 {
		t.Errorf("%d orders were found", count)
	}
}

// checkNil checks all methods of a nil heap; x is an element.
func checkNil[T comparable](t *testing.T, name string, x T) {
	t.Helper()
	for _, h := range []*Heap[T]{nil, New[T](nil)} {
		for range 2 {
			h.Push(x)
			h.Push(x)
			if h.Len() != 0 {
				t.Errorf("%s: Len() = %d of a nil heap", name, h.Len())
			}
			if got, ok := h.Peek(); got != *new(T) || ok {
				t.Errorf("%s: Peek() = %v, %v of a nil heap", name, got, ok)
			}
			if got, ok := h.Pop(); got != *new(T) || ok {
				t.Errorf("%s: Pop() = %v, %v of a nil heap", name, got, ok)
			}
			if l := h.Drain(); l != nil {
				t.Errorf("%s: Drain() = %v of a nil heap", name, l)
			}
		}
	}
}

func TestNilHeap(t *testing.T) {
	checkNil(t, "ints", 5)
	checkNil(t, "strings", "a")
	checkNil(t, "pairs", pair{1, 2})
	checkNil(t, "pointers", &pair{1, 2})
}

// P7.6

func TestDrainAndSort(t *testing.T) {
	used := map[string]*Heap[pair]{}
	for _, keys := range append(lists(3, 6), scattered(1000, 30), scattered(1000, 3000)) {
		l := pairsOf(keys...)
		for name, less := range orders() {
			if used[name] == nil {
				used[name] = New(less)
			}
			for _, x := range l {
				used[name].Push(x)
			}
			if got, want := used[name].Drain(), Sort(l, less); !slices.Equal(got, want) {
				t.Errorf("%s: Drain() = %v; Sort(%v) = %v", name, got, l, want)
			}
		}
	}
}

// P7.7

func TestPopsDoNotDecrease(t *testing.T) {
	for _, keys := range append(permutations(6), scattered(300, 40), scattered(300, 4000)) {
		for name, less := range orders() {
			h := filled(pairsOf(keys...), less)
			// What is pushed between two series of calls may be less than all results of the first one.
			for h.Len() > 0 {
				var results []pair
				for range (h.Len() + 1) / 2 {
					x, _ := h.Pop()
					results = append(results, x)
				}
				for i, x := range results {
					if slices.ContainsFunc(results[:i], func(earlier pair) bool { return less(x, earlier) }) {
						t.Errorf("%s: consecutive calls of Pop returned %v", name, results)
					}
				}
				if h.Len()%4 == 3 {
					h.Push(pair{-1, h.Len()})
				}
			}
		}
	}
}

// Rules: arguments are not changed, results share no memory, and heaps do not depend on each other.

func TestSortDoesNotChangeList(t *testing.T) {
	l := append(make([]int, 0, 12), 9, 3, 5, 3, 0)
	before := slices.Clone(l[:12])
	for _, less := range []func(a, b int) bool{ascending[int], descending[int], nil, func(a, b int) bool { return true }} {
		got := Sort(l, less)
		if !slices.Equal(l[:12], before) {
			t.Fatalf("Sort changed its list to %v", l[:12])
		}
		// Whatever is behind the elements belongs to the result as well.
		for i := range got[:cap(got)] {
			got[:cap(got)][i] = -1
		}
		if !slices.Equal(l[:12], before) {
			t.Fatal("the result of Sort shares memory with its list")
		}
	}
}

func TestSortDoesNotKeepList(t *testing.T) {
	for _, less := range []func(a, b int) bool{ascending[int], nil} {
		l := []int{1, 2, 3}
		first, second := Sort(l, less), Sort(l, less)
		clear(l)
		first[0] = 7
		if !slices.Equal(first, []int{7, 2, 3}) || !slices.Equal(second, []int{1, 2, 3}) {
			t.Errorf("after the list changed: %v and %v", first, second)
		}
	}
}

func TestDrainSharesNoMemory(t *testing.T) {
	h := filled([]int{4, 2, 3, 1}, ascending[int])
	first := h.Drain()
	for _, x := range []int{30, 10, 20, 40} {
		h.Push(x)
	}
	if !slices.Equal(first, []int{1, 2, 3, 4}) {
		t.Errorf("later elements changed the result of Drain to %v", first)
	}
	for i := range first[:cap(first)] {
		first[:cap(first)][i] = -1
	}
	if got := h.Drain(); !slices.Equal(got, []int{10, 20, 30, 40}) {
		t.Errorf("with the first result changed, Drain() = %v", got)
	}
}

func TestHeapsAreIndependent(t *testing.T) {
	up, down, other := New(ascending[int]), New(descending[int]), New(ascending[int])
	for _, x := range []int{5, 1, 4, 2, 3} {
		up.Push(x)
		down.Push(x)
		other.Push(-x)
	}
	up.Pop()
	if x, ok := down.Peek(); x != 5 || !ok || down.Len() != 5 {
		t.Errorf("Peek() = %d, %v and Len() = %d", x, ok, down.Len())
	}
	if got := up.Drain(); !slices.Equal(got, []int{2, 3, 4, 5}) {
		t.Errorf("Drain() = %v", got)
	}
	if got := down.Drain(); !slices.Equal(got, []int{5, 4, 3, 2, 1}) {
		t.Errorf("Drain() in reverse order = %v", got)
	}
	if got := other.Drain(); !slices.Equal(got, []int{-5, -4, -3, -2, -1}) {
		t.Errorf("Drain() of another heap = %v", got)
	}
}

// A heap does not keep what it does not contain, though it keeps the memory for it.
func TestRemovedElementsAreNotKept(t *testing.T) {
	h := New(ascending[string])
	for _, n := range []int{10, 3} {
		for i := range n {
			h.Push(strings.Repeat("a", i+1))
		}
		for h.Len() > 2 {
			h.Pop()
		}
		for _, x := range h.elements[h.Len():cap(h.elements)] {
			if x.value != "" {
				t.Errorf("%q is kept", x.value)
			}
		}
		h.Drain()
		for _, x := range h.elements[:cap(h.elements)] {
			if x.value != "" {
				t.Errorf("%q is kept after Drain", x.value)
			}
		}
	}
}

// P1: every function terminates and does not panic.

func FuzzSteps(f *testing.F) {
	f.Add([]byte{3, 1, 2, 251, 1, 1, 250, 0, 255}, uint8(0))
	f.Add([]byte{9, 8, 7, 6, 5, 4, 3, 2, 1, 251, 252, 253, 254, 255, 0}, uint8(1))
	f.Add([]byte{0, 0, 0, 251, 0, 0, 255, 0, 251}, uint8(2))
	f.Fuzz(func(t *testing.T, data []byte, choice uint8) {
		choose := func(functions map[string]lessPairs) (string, lessPairs) {
			names := []string{}
			for name := range functions {
				names = append(names, name)
			}
			slices.Sort(names)
			name := names[int(choice)%len(names)]
			return name, functions[name]
		}
		var keys, steps []int
		for _, b := range data[:min(len(data), 300)] {
			keys = append(keys, int(b))
			switch {
			case b == 255:
				steps = append(steps, stepDrain)
			case b > 170:
				steps = append(steps, stepPop)
			default:
				steps = append(steps, int(b)%50)
			}
		}
		name, less := choose(orders())
		checkSteps(t, name, steps, less, true)
		checkSorted(t, name, pairsOf(keys...), less)
		checkAll(t, name, pairsOf(keys...), less)
		name, less = choose(others())
		checkSteps(t, name, steps, less, false)
		checkAll(t, name, pairsOf(keys...), less)
	})
}
