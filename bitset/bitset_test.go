package bitset

import (
	"math"
	"slices"
	"testing"
)

// full is the value of the set of all elements, as the document states it.
const full Set = 18446744073709551615

// power returns 2^i for an element i.
func power(i int) uint64 {
	p := uint64(1)
	for range i {
		p *= 2
	}
	return p
}

// contains reports whether the set with the value s contains i, as the chapter defines it.
func contains(s Set, i int) bool {
	return i >= 0 && i <= 63 && uint64(s)/power(i)%2 == 1
}

// elements returns the elements of s in ascending order.
func elements(s Set) []int {
	var l []int
	for i := range 64 {
		if uint64(s)%2 == 1 {
			l = append(l, i)
		}
		s /= 2
	}
	return l
}

// setWhere returns the set of the elements that fulfil the condition.
func setWhere(condition func(i int) bool) Set {
	s, p := uint64(0), uint64(1)
	for i := range 64 {
		if condition(i) {
			s += p
		}
		p *= 2
	}
	return Set(s)
}

// integers returns the integers from -70 to 140 and others that are near to powers of 2, in ascending order.
func integers() []int {
	var all []int
	for i := -70; i <= 140; i++ {
		all = append(all, i)
	}
	for k := 7; k < 63; k++ {
		for near := -1; near <= 1; near++ {
			all = append(all, 1<<k+near, -(1<<k)+near, 1<<k+5, 1<<k+63, -(1<<k)+5)
		}
	}
	all = append(all, math.MinInt, math.MinInt+1, math.MinInt+5, math.MinInt+63, math.MinInt+64, math.MaxInt, math.MaxInt-1, math.MaxInt-63, math.MaxInt-64)
	slices.Sort(all)
	return slices.Compact(all)
}

// edges returns the integers at the ends of the elements and of the ints, and a few between them.
func edges() []int {
	return []int{math.MinInt, math.MinInt + 1, math.MinInt + 64, -1 << 32, -65, -64, -63, -2, -1, 0, 1, 2, 5, 31, 32, 33, 61, 62, 63, 64, 65, 66, 70, 127, 128, 1 << 32, 1<<32 + 5, math.MaxInt - 64, math.MaxInt - 63, math.MaxInt - 1, math.MaxInt}
}

// sets returns sets of all sizes, with elements at both ends and between them.
func sets() []Set {
	all := []Set{0, full, 9, 1 << 63, 3 << 62, 1<<63 + 1, 0xaaaaaaaaaaaaaaaa, 0x5555555555555555, 0xff00ff00ff00ff00, 0x00000000ffffffff, 0xffffffff00000000, 0x0000000100000000, 0x0000000080000000, 0x8000000180000001}
	for i := range 64 {
		p := Set(power(i))
		all = append(all, p, full-p, p-1, full-(p-1))
	}
	// Values of any kind, with the middle bits of a product that mixes the bits of its factor.
	for i := range Set(60) {
		all = append(all, (i+1)*0x9e3779b97f4a7c15, (i+1)*0x9e3779b97f4a7c15&((i+7)*0xc2b2ae3d27d4eb4f))
	}
	slices.Sort(all)
	return slices.Compact(all)
}

// smallSets returns all sets of up to five elements that are next to each other, at both ends and in the middle.
func smallSets() []Set {
	var all []Set
	for s := range Set(32) {
		all = append(all, s, s<<30, s<<59)
	}
	return all
}

// pairs calls f with pairs of sets: equal, disjoint, one within the other and all others.
func pairs(f func(s, t Set)) {
	for _, all := range [][]Set{sets(), smallSets()} {
		for _, s := range all {
			for _, t := range all {
				f(s, t)
			}
			f(s, full-s)
		}
	}
}

// lists returns all lists of up to length of the integers.
func lists(integers []int, length int) [][]int {
	all := [][]int{nil}
	for from := 0; length > 0; length-- {
		to := len(all)
		for _, l := range all[from:to] {
			for _, i := range integers {
				all = append(all, append(slices.Clone(l), i))
			}
		}
		from = to
	}
	return all
}

func checkSet(t *testing.T, name string, got, want Set) {
	t.Helper()
	if got != want {
		t.Errorf("%s = %d %v; want %d %v", name, got, elements(got), want, elements(want))
	}
}

func checkOf(t *testing.T, l []int) {
	t.Helper()
	if got, want := Of(l...), setWhere(func(i int) bool { return slices.Contains(l, i) }); got != want {
		t.Errorf("Of(%.20v of %d) = %v; want %v", l[:min(len(l), 20)], len(l), elements(got), elements(want))
	}
}

func checkRange(t *testing.T, from, to int) {
	t.Helper()
	if got, want := Range(from, to), setWhere(func(i int) bool { return from <= i && i < to }); got != want {
		t.Errorf("Range(%d, %d) = %v; want %v", from, to, elements(got), elements(want))
	}
}

// checkElement checks Has, With and Without.
func checkElement(t *testing.T, s Set, i int) {
	t.Helper()
	if got := s.Has(i); got != contains(s, i) {
		t.Errorf("%v.Has(%d) = %v", elements(s), i, got)
	}
	if got, want := s.With(i), setWhere(func(j int) bool { return j == i || contains(s, j) }); got != want {
		t.Errorf("%v.With(%d) = %v; want %v", elements(s), i, elements(got), elements(want))
	}
	if got, want := s.Without(i), setWhere(func(j int) bool { return j != i && contains(s, j) }); got != want {
		t.Errorf("%v.Without(%d) = %v; want %v", elements(s), i, elements(got), elements(want))
	}
}

// checkPair checks Union, Intersect, Minus and Within.
func checkPair(t *testing.T, s, u Set) {
	t.Helper()
	// The bits of s and u with the values 1, 2 and so on, from the lowest one.
	var union, both, minus, p uint64 = 0, 0, 0, 1
	for a, b := uint64(s), uint64(u); a > 0 || b > 0; a, b, p = a/2, b/2, p*2 {
		switch {
		case a%2 == 1 && b%2 == 1:
			both += p
			union += p
		case a%2 == 1:
			minus += p
			union += p
		case b%2 == 1:
			union += p
		}
	}
	if s.Union(u) != Set(union) || s.Intersect(u) != Set(both) || s.Minus(u) != Set(minus) {
		t.Errorf("%v and %v: union %v, intersection %v, difference %v", elements(s), elements(u), elements(s.Union(u)), elements(s.Intersect(u)), elements(s.Minus(u)))
	}
	if got := s.Within(u); got != (minus == 0) {
		t.Errorf("%v.Within(%v) = %v", elements(s), elements(u), got)
	}
}

// checkLists checks Len, Min, List and All.
func checkLists(t *testing.T, s Set) {
	t.Helper()
	want := elements(s)
	if got := s.Len(); got != len(want) {
		t.Errorf("%v.Len() = %d", want, got)
	}
	least := 0
	if len(want) > 0 {
		least = want[0]
	}
	if got, ok := s.Min(); got != least || ok != (len(want) > 0) {
		t.Errorf("%v.Min() = %d, %v", want, got, ok)
	}
	if got := s.List(); !slices.Equal(got, want) {
		t.Errorf("List() = %v; want %v", got, want)
	}
	var got []int
	for i := range s.All() {
		got = append(got, i)
	}
	if !slices.Equal(got, want) {
		t.Errorf("All() yields %v; want %v", got, want)
	}
}

// P6.1 (Of, Range, Has, With, Without)

func TestOf(t *testing.T) {
	for _, c := range []struct {
		l    []int
		want Set
	}{
		{nil, 0}, {[]int{}, 0}, {[]int{0}, 1}, {[]int{1}, 2}, {[]int{62}, 1 << 62}, {[]int{63}, 1 << 63}, {[]int{64}, 0}, {[]int{-1}, 0}, {[]int{65}, 0}, {[]int{128}, 0}, {[]int{-64}, 0}, {[]int{math.MinInt}, 0}, {[]int{math.MaxInt}, 0}, {[]int{1 << 32}, 0}, {[]int{1<<32 + 3}, 0},
		{[]int{3, 64, -1, 0, 3}, 9}, {[]int{5, 2}, 36}, {[]int{2, 5}, 36}, {[]int{0, 63}, 1<<63 + 1}, {[]int{63, 0}, 1<<63 + 1}, {[]int{63, 64}, 1 << 63}, {[]int{64, 63}, 1 << 63}, {[]int{-1, 0}, 1}, {[]int{0, -1}, 1},
		{[]int{7, 7}, 128}, {[]int{7, 7, 7}, 128}, {[]int{7, 8, 7}, 384}, {[]int{0, 0}, 1}, {[]int{63, 63}, 1 << 63}, {[]int{64, 64}, 0}, {[]int{-1, -1, math.MinInt, math.MaxInt}, 0},
	} {
		if got := Of(c.l...); got != c.want {
			t.Errorf("Of(%v) = %d; want %d", c.l, got, c.want)
		}
	}
	checkSet(t, "Of()", Of(), 0)
	checkSet(t, "Of(0, 1, 2)", Of(0, 1, 2), 7)
}

func TestOfAgainstDefinition(t *testing.T) {
	for _, l := range lists([]int{0, 1, 5, 62, 63, 64, -1, math.MinInt, math.MaxInt}, 4) {
		checkOf(t, l)
	}
	for _, i := range integers() {
		checkOf(t, []int{i})
		checkOf(t, []int{i, 7})
		checkOf(t, []int{7, i, i})
	}
	checkOf(t, integers())
	checkOf(t, edges())
	for _, s := range sets() {
		checkOf(t, elements(s))
	}
}

func TestOfLong(t *testing.T) {
	checkOf(t, slices.Repeat([]int{7}, 1000000))
	checkOf(t, slices.Repeat([]int{-1, 64}, 1000000))
	checkOf(t, slices.Repeat(integers(), 1000))
	checkOf(t, append(make([]int, 1000000), 63))
}

func TestRange(t *testing.T) {
	for _, c := range []struct {
		from, to int
		want     Set
	}{
		{62, 70, 3 << 62}, {62, 64, 3 << 62}, {63, 64, 1 << 63}, {62, 63, 1 << 62}, {0, 1, 1}, {0, 2, 3}, {1, 2, 2}, {2, 5, 28}, {0, 63, full >> 1}, {0, 64, full}, {1, 64, full - 1}, {1, 63, 1<<63 - 2},
		// Empty ones.
		{0, 0, 0}, {4, 4, 0}, {63, 63, 0}, {64, 64, 0}, {-1, -1, 0}, {math.MinInt, math.MinInt, 0}, {math.MaxInt, math.MaxInt, 0}, {64, 70, 0}, {-5, 0, 0}, {-5, -1, 0}, {math.MinInt, 0, 0}, {64, math.MaxInt, 0}, {math.MinInt, -1, 0},
		// Those that are turned round.
		{9, 2, 0}, {1, 0, 0}, {64, 0, 0}, {63, 62, 0}, {70, 62, 0}, {2, -5, 0}, {math.MaxInt, math.MinInt, 0}, {math.MaxInt, 0, 0}, {63, math.MinInt, 0}, {0, -1, 0},
		// Those that begin below 0 or end beyond 63.
		{-5, 2, 3}, {-1, 1, 1}, {-1, 64, full}, {-64, 64, full}, {0, 65, full}, {-1, 65, full}, {60, 128, 15 << 60}, {math.MinInt, 1, 1}, {63, math.MaxInt, 1 << 63}, {math.MinInt, math.MaxInt, full}, {math.MinInt, 64, full}, {0, math.MaxInt, full}, {math.MinInt, 63, full >> 1},
	} {
		if got := Range(c.from, c.to); got != c.want {
			t.Errorf("Range(%d, %d) = %d; want %d", c.from, c.to, got, c.want)
		}
	}
}

func TestRangeAgainstDefinition(t *testing.T) {
	for from := -3; from <= 67; from++ {
		for to := -3; to <= 67; to++ {
			checkRange(t, from, to)
		}
	}
	for _, i := range integers() {
		for _, edge := range edges() {
			checkRange(t, i, edge)
			checkRange(t, edge, i)
		}
	}
}

func TestHasWithWithout(t *testing.T) {
	s := Set(38) // 1, 2, 5
	for _, c := range []struct {
		i             int
		has           bool
		with, without Set
	}{
		{1, true, 38, 36}, {2, true, 38, 34}, {5, true, 38, 6}, {0, false, 39, 38}, {3, false, 46, 38}, {63, false, 1<<63 + 38, 38},
		{64, false, 38, 38}, {65, false, 38, 38}, {66, false, 38, 38}, {69, false, 38, 38}, {-1, false, 38, 38}, {-2, false, 38, 38}, {-63, false, 38, 38}, {-59, false, 38, 38}, {1<<32 + 1, false, 38, 38}, {math.MinInt, false, 38, 38}, {math.MinInt + 1, false, 38, 38}, {math.MaxInt, false, 38, 38},
	} {
		if s.Has(c.i) != c.has || s.With(c.i) != c.with || s.Without(c.i) != c.without {
			t.Errorf("%d: %v, %d, %d", c.i, s.Has(c.i), s.With(c.i), s.Without(c.i))
		}
	}
	checkSet(t, "the empty set with 63", Set(0).With(63), 1<<63)
	checkSet(t, "the empty set with 0", Set(0).With(0), 1)
	checkSet(t, "the empty set without 0", Set(0).Without(0), 0)
	checkSet(t, "the full set with 63", full.With(63), full)
	checkSet(t, "the full set without 63", full.Without(63), full>>1)
	checkSet(t, "the full set without 0", full.Without(0), full-1)
	checkSet(t, "the full set without 64", full.Without(64), full)
	checkSet(t, "the full set without -1", full.Without(-1), full)
}

func TestElementsAgainstDefinition(t *testing.T) {
	for _, s := range sets() {
		for i := -2; i <= 66; i++ {
			checkElement(t, s, i)
		}
		for _, i := range edges() {
			checkElement(t, s, i)
		}
	}
	for _, s := range []Set{0, full, 9, 1 << 63, 0xaaaaaaaaaaaaaaaa} {
		for _, i := range integers() {
			checkElement(t, s, i)
		}
	}
}

// P6.2 (Union, Intersect, Minus, Within)

func TestOperations(t *testing.T) {
	for _, c := range []struct {
		s, u, union, both, minus Set
		within                   bool
	}{
		{0, 0, 0, 0, 0, true}, {0, 6, 6, 0, 0, true}, {6, 0, 6, 0, 6, false}, {full, full, full, full, 0, true}, {0, full, full, 0, 0, true}, {full, 0, full, 0, full, false},
		// Equal, disjoint, one within the other, and neither.
		{38, 38, 38, 38, 0, true}, {5, 10, 15, 0, 5, false}, {10, 5, 15, 0, 10, false}, {4, 6, 6, 4, 0, true}, {6, 4, 6, 4, 2, false}, {38, 548, 550, 36, 2, false}, {548, 38, 550, 36, 512, false},
		{38, full, full, 38, 0, true}, {full, 38, full, 38, full - 38, false}, {1 << 63, 1, 1<<63 + 1, 0, 1 << 63, false}, {1, 1 << 63, 1<<63 + 1, 0, 1, false}, {1 << 63, full, full, 1 << 63, 0, true}, {1 << 63, 1 << 63, 1 << 63, 1 << 63, 0, true}, {full, full >> 1, full, full >> 1, 1 << 63, false},
	} {
		checkSet(t, "the union", c.s.Union(c.u), c.union)
		checkSet(t, "the intersection", c.s.Intersect(c.u), c.both)
		checkSet(t, "the difference", c.s.Minus(c.u), c.minus)
		if got := c.s.Within(c.u); got != c.within {
			t.Errorf("%v.Within(%v) = %v", elements(c.s), elements(c.u), got)
		}
	}
}

func TestOperationsAgainstDefinition(t *testing.T) {
	pairs(func(s, u Set) {
		checkPair(t, s, u)
	})
}

// P6.3 (Len, Min, List, All)

func TestLists(t *testing.T) {
	for _, c := range []struct {
		s    Set
		list []int
	}{{0, nil}, {1, []int{0}}, {2, []int{1}}, {3, []int{0, 1}}, {36, []int{2, 5}}, {548, []int{2, 5, 9}}, {1 << 63, []int{63}}, {1<<63 + 1, []int{0, 63}}, {3 << 62, []int{62, 63}}, {1 << 32, []int{32}}, {1<<32 + 1<<31, []int{31, 32}}} {
		if got := c.s.List(); !slices.Equal(got, c.list) {
			t.Errorf("List() of %d = %v", c.s, got)
		}
		if got := c.s.Len(); got != len(c.list) {
			t.Errorf("Len() of %d = %d", c.s, got)
		}
		if got := slices.Collect(c.s.All()); !slices.Equal(got, c.list) {
			t.Errorf("All() of %d yields %v", c.s, got)
		}
	}
	if full.Len() != 64 || (full-1).Len() != 63 || (full>>1).Len() != 63 {
		t.Errorf("Len() = %d, %d, %d", full.Len(), (full - 1).Len(), (full >> 1).Len())
	}
}

func TestMin(t *testing.T) {
	for _, c := range []struct {
		s     Set
		least int
		ok    bool
	}{{0, 0, false}, {1, 0, true}, {3, 0, true}, {full, 0, true}, {36, 2, true}, {548, 2, true}, {32, 5, true}, {1 << 32, 32, true}, {1 << 62, 62, true}, {3 << 62, 62, true}, {1 << 63, 63, true}, {1<<63 + 1, 0, true}, {full - 1, 1, true}} {
		if got, ok := c.s.Min(); got != c.least || ok != c.ok {
			t.Errorf("Min() of %d = %d, %v; want %d, %v", c.s, got, ok, c.least, c.ok)
		}
	}
}

func TestListsAgainstDefinition(t *testing.T) {
	for _, s := range append(sets(), smallSets()...) {
		checkLists(t, s)
	}
	for s := range Set(1 << 12) {
		checkLists(t, s)
		checkLists(t, s<<26)
		checkLists(t, s<<52)
	}
}

// The consumer is called once for each element up to the one at which it returns false, and no more.
func TestAllStops(t *testing.T) {
	for _, s := range append(sets(), smallSets()...) {
		want := elements(s)
		for last := range want {
			var got []int
			s.All()(func(i int) bool {
				got = append(got, i)
				return len(got) != last+1
			})
			if !slices.Equal(got, want[:last+1]) {
				t.Errorf("stopped after %d elements of %v: the consumer got %v", last+1, want, got)
			}
		}
	}
	Set(0).All()(func(i int) bool {
		t.Errorf("an element of the empty set: %d", i)
		return true
	})
}

func TestAllBreak(t *testing.T) {
	for _, last := range []int{1, 2, 3} {
		var got []int
		for i := range Of(1, 2, 3).All() {
			got = append(got, i)
			if i == last {
				break
			}
		}
		if want := []int{1, 2, 3}[:last]; !slices.Equal(got, want) {
			t.Errorf("left at %d: seen %v", last, got)
		}
	}
}

// An iterator begins anew each time it is used, also within a use of itself, and wherever it was left.
func TestAllTwice(t *testing.T) {
	for _, s := range append(smallSets(), full, 0x8000000180000001) {
		all, want := s.All(), elements(s)
		for _, last := range append(want, 64) {
			for i := range all {
				if i == last {
					break
				}
			}
			if got := slices.Collect(all); !slices.Equal(got, want) {
				t.Errorf("left at %d, the iterator of %v yields %v", last, want, got)
			}
		}
		var outer []int
		for i := range all {
			outer = append(outer, i)
			if got := slices.Collect(all); !slices.Equal(got, want) {
				t.Errorf("within a use at %d, the iterator of %v yields %v", i, want, got)
			}
		}
		if !slices.Equal(outer, want) {
			t.Errorf("around other uses, the iterator of %v yields %v", want, outer)
		}
	}
}

// An iterator is over the elements that the set had when All was called.
func TestAllKeepsSet(t *testing.T) {
	s := Of(1, 2, 3)
	all := s.All()
	s = s.With(0).Without(2)
	if got := slices.Collect(all); !slices.Equal(got, []int{1, 2, 3}) {
		t.Errorf("the iterator yields %v", got)
	}
	var got []int
	for i := range s.All() {
		got = append(got, i)
		s = 0
	}
	if !slices.Equal(got, []int{0, 1, 3}) {
		t.Errorf("while the variable changed, the iterator yielded %v", got)
	}
}

// P6.4

func TestOfList(t *testing.T) {
	for _, s := range append(sets(), smallSets()...) {
		checkSet(t, "Of(s.List()...)", Of(s.List()...), s)
	}
}

func TestConsequences(t *testing.T) {
	pairs(func(s, u Set) {
		if got := s.Minus(u).Union(s.Intersect(u)); got != s {
			t.Errorf("%v and %v: the difference and the intersection together are %v", elements(s), elements(u), elements(got))
		}
		if got := s.Union(u).Minus(s.Minus(u)); got != u {
			t.Errorf("%v and %v: the union and the difference differ by %v", elements(s), elements(u), elements(got))
		}
		if s.Within(u) != (s.Minus(u) == 0) {
			t.Errorf("%v.Within(%v) = %v", elements(s), elements(u), s.Within(u))
		}
		if s.Len()+u.Len() != s.Union(u).Len()+s.Intersect(u).Len() {
			t.Errorf("%v and %v: lengths %d and %d, of the union %d, of the intersection %d", elements(s), elements(u), s.Len(), u.Len(), s.Union(u).Len(), s.Intersect(u).Len())
		}
	})
}

// Rules: arguments are not changed, and results share no memory.

func TestArgumentsAreNotChanged(t *testing.T) {
	l := append(make([]int, 0, 10), 9, 3, 64, -1, 3, 0)
	want := slices.Clone(l[:10])
	Of(l...)
	if !slices.Equal(l[:10], want) {
		t.Errorf("%v was changed to %v", want, l[:10])
	}
}

func TestResultsShareNoMemory(t *testing.T) {
	for _, s := range []Set{1, 9, full, 3 << 62} {
		first, second := s.List(), s.List()
		// Whatever is behind the elements belongs to the result as well.
		for i := range first[:cap(first)] {
			first[:cap(first)][i] = -1
		}
		if want := elements(s); !slices.Equal(second, want) || !slices.Equal(s.List(), want) {
			t.Errorf("lists of %v share memory", want)
		}
	}
}

// P1: every function terminates and does not panic.

func FuzzAll(f *testing.F) {
	for _, i := range edges() {
		f.Add(uint64(9), uint64(full), i, 64-i)
		f.Add(uint64(full), uint64(1)<<63, i, i)
		f.Add(uint64(0), uint64(i), 5, i)
	}
	f.Fuzz(func(t *testing.T, a, b uint64, i, j int) {
		s, u := Set(a), Set(b)
		checkOf(t, []int{i, j, i})
		checkRange(t, i, j)
		checkElement(t, s, i)
		checkElement(t, u, j)
		checkPair(t, s, u)
		checkLists(t, s)
		checkSet(t, "Of(s.List()...)", Of(s.List()...), s)
	})
}
