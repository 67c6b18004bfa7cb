package pareto

import (
	"math"
	"slices"
	"testing"
)

const (
	least    = math.MinInt
	greatest = math.MaxInt
)

// The chapter's definitions.

// dominates reports whether none of the components of a is greater, and at least one is smaller.
func dominates(a, b Vector) bool {
	smaller := false
	for i := range 4 {
		if a[i] > b[i] {
			return false
		}
		if a[i] < b[i] {
			smaller = true
		}
	}
	return smaller
}

// precedes reports whether a is less than b in the first component in which they differ.
func precedes(a, b Vector) bool {
	for i := range 4 {
		if a[i] != b[i] {
			return a[i] < b[i]
		}
	}
	return false
}

// wantedFront returns the vectors of l that no vector of l dominates, each once, in ascending order.
func wantedFront(l []Vector) []Vector {
	var front []Vector
	for _, v := range l {
		best := true
		for _, w := range l {
			best = best && !dominates(w, v)
		}
		at := 0
		for at < len(front) && precedes(front[at], v) {
			at++
		}
		if best && (at == len(front) || front[at] != v) {
			front = slices.Insert(front, at, v)
		}
	}
	return front
}

// wantedCovers reports whether l contains v or a vector that dominates v.
func wantedCovers(l []Vector, v Vector) bool {
	for _, w := range l {
		if w == v || dominates(w, v) {
			return true
		}
	}
	return false
}

// wantedWithin returns the vectors of l of which no component is greater than that of limit.
func wantedWithin(l []Vector, limit Vector) []Vector {
	var within []Vector
	for _, v := range l {
		if v[0] <= limit[0] && v[1] <= limit[1] && v[2] <= limit[2] && v[3] <= limit[3] {
			within = append(within, v)
		}
	}
	return within
}

// Checks of the functions against the definitions.

// checkPair checks Dominates and Compare.
func checkPair(t *testing.T, a, b Vector) {
	t.Helper()
	if got, want := Dominates(a, b), dominates(a, b); got != want {
		t.Fatalf("Dominates(%v, %v) = %v", a, b, got)
	}
	want := 0
	if a != b {
		want = 1
	}
	if precedes(a, b) {
		want = -1
	}
	if got := Compare(a, b); got != want {
		t.Fatalf("Compare(%v, %v) = %d; want %d", a, b, got, want)
	}
}

// checkFront checks Front and IsFront.
func checkFront(t *testing.T, l []Vector) {
	t.Helper()
	want := wantedFront(l)
	if got := Front(l); !slices.Equal(got, want) {
		t.Fatalf("Front(%v) = %v; want %v", l, got, want)
	}
	if got := IsFront(l); got != slices.Equal(l, want) {
		t.Fatalf("IsFront(%v) = %v", l, got)
	}
}

// checkInsert checks Insert and Covers.
func checkInsert(t *testing.T, l []Vector, v Vector) {
	t.Helper()
	covered := wantedCovers(l, v)
	if got := Covers(l, v); got != covered {
		t.Fatalf("Covers(%v, %v) = %v", l, v, got)
	}
	want := wantedFront(append(slices.Clone(l), v))
	if got, ok := Insert(l, v); !slices.Equal(got, want) || ok == covered {
		t.Fatalf("Insert(%v, %v) = %v, %v; want %v, %v", l, v, got, ok, want, !covered)
	}
}

// checkMerge checks Merge.
func checkMerge(t *testing.T, a, b []Vector) {
	t.Helper()
	want := wantedFront(append(slices.Clone(a), b...))
	if got := Merge(a, b); !slices.Equal(got, want) {
		t.Fatalf("Merge(%v, %v) = %v; want %v", a, b, got, want)
	}
}

// checkWithin checks Within.
func checkWithin(t *testing.T, l []Vector, limit Vector) {
	t.Helper()
	if got, want := Within(l, limit), wantedWithin(l, limit); !slices.Equal(got, want) {
		t.Fatalf("Within(%v, %v) = %v; want %v", l, limit, got, want)
	}
}

// checkList checks all functions with l and one of the vectors.
func checkList(t *testing.T, l []Vector, vectors []Vector) {
	t.Helper()
	checkFront(t, l)
	for _, v := range vectors {
		checkInsert(t, l, v)
		checkWithin(t, l, v)
	}
}

// Vectors and lists.

// cube returns all vectors with components that are less than n.
func cube(n int) []Vector {
	var all []Vector
	for a := range n {
		for b := range n {
			for c := range n {
				for d := range n {
					all = append(all, Vector{a, b, c, d})
				}
			}
		}
	}
	return all
}

// plane returns all vectors whose components i and j are less than n, and whose other components are 1.
func plane(n, i, j int) []Vector {
	var all []Vector
	for a := range n {
		for b := range n {
			v := Vector{1, 1, 1, 1}
			v[i], v[j] = a, b
			all = append(all, v)
		}
	}
	return all
}

// planes returns plane(n, i, j) for all pairs of components.
func planes(n int) [][]Vector {
	var all [][]Vector
	for i := range 4 {
		for j := range i {
			all = append(all, plane(n, j, i))
		}
	}
	return all
}

// lists returns all lists of up to length of the vectors.
func lists(vectors []Vector, length int) [][]Vector {
	all := [][]Vector{nil}
	for from := 0; length > 0; length-- {
		to := len(all)
		for _, l := range all[from:to] {
			for _, v := range vectors {
				all = append(all, append(slices.Clone(l), v))
			}
		}
		from = to
	}
	return all
}

// orders returns l in all orders.
func orders(l []Vector) [][]Vector {
	if len(l) == 0 {
		return [][]Vector{nil}
	}
	var all [][]Vector
	for _, o := range orders(l[1:]) {
		for i := range l {
			all = append(all, slices.Insert(slices.Clone(o), i, l[0]))
		}
	}
	return all
}

// number returns the next of some non-negative integers without a pattern that are less than limit.
func number(state *uint64, limit int) int {
	*state = *state*6364136223846793005 + 1442695040888963407
	return int(*state>>33) % limit
}

// scattered returns n vectors in an order without a pattern, with components that are less than limit.
func scattered(seed, n, limit int) []Vector {
	state := uint64(seed)
	l := make([]Vector, n)
	for i := range l {
		for j := range 4 {
			l[i][j] = number(&state, limit)
		}
	}
	return l
}

// slope returns n vectors in an order without a pattern, of which many are on the front: their components have nearly the same sum.
func slope(seed, n, limit int) []Vector {
	state := uint64(seed)
	l := scattered(seed+1, n, limit)
	for i := range l {
		l[i][3] = 3*limit - l[i][0] - l[i][1] - l[i][2] + number(&state, 3)
	}
	return l
}

// placements returns integers that replace the components 0, 1 and 2 in the same order.
func placements() [][]int {
	return [][]int{
		{0, 1, 2},
		{-2, -1, 0},
		{-1, 0, 1},
		{least, 0, greatest},
		{least, least + 1, least + 2},
		{greatest - 2, greatest - 1, greatest},
		{least, -1, greatest},
		{least, 1, greatest},
		{least, least + 1, greatest},
		{least, greatest - 1, greatest},
		{-1 << 62, 0, 1 << 62},
		{1, 256, 65536},
		{1, 1 << 31, 1 << 32},
	}
}

// placed returns l with the component i replaced by that of the placement shift + i.
func placed(l []Vector, shift int) []Vector {
	places := placements()
	moved := slices.Clone(l)
	for k := range moved {
		for i := range 4 {
			moved[k][i] = places[(shift+i)%len(places)][l[k][i]]
		}
	}
	return moved
}

// P9.1 (Dominates, Compare)

func TestDominatesAndCompare(t *testing.T) {
	tests := []struct {
		a, b          Vector
		first, second bool // a dominates b, and b dominates a
		order         int
	}{
		{Vector{1, 2, 3, 4}, Vector{1, 2, 3, 5}, true, false, -1},
		{Vector{1, 2, 3, 4}, Vector{1, 2, 4, 4}, true, false, -1},
		{Vector{1, 2, 3, 4}, Vector{1, 3, 3, 4}, true, false, -1},
		{Vector{1, 2, 3, 4}, Vector{2, 2, 3, 4}, true, false, -1},
		{Vector{1, 2, 3, 4}, Vector{2, 3, 4, 5}, true, false, -1},
		{Vector{1, 2, 3, 4}, Vector{1, 2, 3, 4}, false, false, 0},
		{Vector{}, Vector{}, false, false, 0},
		{Vector{0, 9, 0, 0}, Vector{1, 8, 1, 1}, false, false, -1},
		{Vector{9, 0, 0, 0}, Vector{8, 1, 1, 1}, false, false, 1},
		{Vector{0, 0, 9, 0}, Vector{1, 1, 8, 1}, false, false, -1},
		{Vector{0, 0, 0, 9}, Vector{1, 1, 1, 8}, false, false, -1},
		{Vector{5, 5, 5, 1}, Vector{5, 5, 4, 2}, false, false, 1},
		{Vector{5, 1, 9, 9}, Vector{5, 2, 0, 0}, false, false, -1},
		{Vector{2, 0, 0, 0}, Vector{10, 0, 0, 0}, true, false, -1},
		{Vector{-2, -10, 0, 0}, Vector{-2, -9, 0, 0}, true, false, -1},
		{Vector{0, 0, 0, -1}, Vector{}, true, false, -1},
		{Vector{least, least, least, least}, Vector{greatest, greatest, greatest, greatest}, true, false, -1},
	}
	for _, c := range tests {
		if got := Dominates(c.a, c.b); got != c.first {
			t.Errorf("Dominates(%v, %v) = %v", c.a, c.b, got)
		}
		if got := Dominates(c.b, c.a); got != c.second {
			t.Errorf("Dominates(%v, %v) = %v", c.b, c.a, got)
		}
		if got := Compare(c.a, c.b); got != c.order {
			t.Errorf("Compare(%v, %v) = %d; want %d", c.a, c.b, got, c.order)
		}
		if got := Compare(c.b, c.a); got != -c.order {
			t.Errorf("Compare(%v, %v) = %d; want %d", c.b, c.a, got, -c.order)
		}
	}
}

func TestDominatesAndCompareInOneComponent(t *testing.T) {
	values := []int{least, least + 1, -1 << 62, -2, -1, 0, 1, 2, 255, 256, 1 << 62, greatest - 1, greatest}
	for i := range 4 {
		for x, small := range values {
			for _, great := range values[x+1:] {
				a, b := Vector{7, -7, 0, 1}, Vector{7, -7, 0, 1}
				a[i], b[i] = small, great
				if !Dominates(a, b) || Dominates(b, a) || Dominates(a, a) || Compare(a, b) != -1 || Compare(b, a) != 1 || Compare(b, b) != 0 {
					t.Errorf("wrong order or dominance of %v and %v", a, b)
				}
				// Another component is greater, so that neither vector dominates the other.
				j := (i + 1) % 4
				a[j] = greatest
				if Dominates(a, b) || Dominates(b, a) || (Compare(a, b) == -1) != (i < j) || Compare(a, b) != -Compare(b, a) {
					t.Errorf("wrong order or dominance of %v and %v", a, b)
				}
			}
		}
	}
}

func TestAllPairs(t *testing.T) {
	vectors := cube(3)
	for shift := range placements() {
		moved := placed(vectors, shift)
		for _, a := range moved {
			for _, b := range moved {
				checkPair(t, a, b)
			}
		}
	}
}

// P9.2 (Front, IsFront)

func TestFront(t *testing.T) {
	tests := []struct {
		l, want []Vector
	}{
		{nil, nil},
		{[]Vector{}, nil},
		{[]Vector{{}}, []Vector{{}}},
		{[]Vector{{3, -1, 2, 0}}, []Vector{{3, -1, 2, 0}}},
		{[]Vector{{1, 2, 3, 4}, {1, 2, 3, 4}, {1, 2, 3, 4}}, []Vector{{1, 2, 3, 4}}},
		{[]Vector{{2, 1, 0, 0}, {1, 2, 0, 0}, {2, 2, 0, 0}, {1, 2, 0, 0}}, []Vector{{1, 2, 0, 0}, {2, 1, 0, 0}}},
		{[]Vector{{1, 2, 0, 0}, {0, 9, 0, 0}, {1, 2, 0, 0}, {2, 1, 0, 0}, {0, 9, 0, 0}}, []Vector{{0, 9, 0, 0}, {1, 2, 0, 0}, {2, 1, 0, 0}}},
		// One vector dominates all others: the first one, one in the middle, the last one.
		{[]Vector{{0, 0, 0, 0}, {0, 1, 0, 0}, {1, 0, 0, 0}, {0, 0, 9, 0}}, []Vector{{}}},
		{[]Vector{{0, 1, 0, 0}, {1, 0, 0, 0}, {0, 0, 0, 0}, {0, 0, 9, 0}}, []Vector{{}}},
		{[]Vector{{0, 1, 0, 0}, {0, 0, 9, 0}, {1, 0, 0, 0}, {0, 0, 0, 0}}, []Vector{{}}},
		// The vectors differ in one component only.
		{[]Vector{{3, 1, 1, 1}, {1, 1, 1, 1}, {2, 1, 1, 1}}, []Vector{{1, 1, 1, 1}}},
		{[]Vector{{1, 3, 1, 1}, {1, 2, 1, 1}, {1, 1, 1, 1}}, []Vector{{1, 1, 1, 1}}},
		{[]Vector{{1, 1, 1, 1}, {1, 1, 2, 1}, {1, 1, 3, 1}}, []Vector{{1, 1, 1, 1}}},
		{[]Vector{{1, 1, 1, 2}, {1, 1, 1, 1}, {1, 1, 1, 2}}, []Vector{{1, 1, 1, 1}}},
		// No vector dominates another one, and each component decides once.
		{[]Vector{{1, 0, 0, 0}, {0, 1, 0, 0}, {0, 0, 1, 0}, {0, 0, 0, 1}}, []Vector{{0, 0, 0, 1}, {0, 0, 1, 0}, {0, 1, 0, 0}, {1, 0, 0, 0}}},
		{[]Vector{{5, 1, 2, 3}, {5, 1, 1, 4}, {5, 0, 9, 9}, {4, 9, 9, 9}}, []Vector{{4, 9, 9, 9}, {5, 0, 9, 9}, {5, 1, 1, 4}, {5, 1, 2, 3}}},
		// A vector is dominated by one that is itself dominated.
		{[]Vector{{3, 3, 3, 3}, {2, 2, 2, 2}, {1, 1, 1, 1}, {0, 5, 5, 5}}, []Vector{{0, 5, 5, 5}, {1, 1, 1, 1}}},
		// The ends of int.
		{[]Vector{{greatest, least, 0, 0}, {least, greatest, 0, 0}, {greatest, greatest, 0, 0}}, []Vector{{least, greatest, 0, 0}, {greatest, least, 0, 0}}},
		{[]Vector{{0, 0, greatest, least}, {0, 0, least, greatest}, {0, 0, greatest, least + 1}}, []Vector{{0, 0, least, greatest}, {0, 0, greatest, least}}},
		{[]Vector{{greatest, greatest, greatest, greatest}, {least, least, least, least}}, []Vector{{least, least, least, least}}},
	}
	for _, c := range tests {
		if got := Front(c.l); !slices.Equal(got, c.want) {
			t.Errorf("Front(%v) = %v; want %v", c.l, got, c.want)
		}
		if !IsFront(c.want) {
			t.Errorf("IsFront(%v) = false", c.want)
		}
		checkFront(t, c.l)
	}
}

func TestIsFront(t *testing.T) {
	front := []Vector{{0, 9, 0, 0}, {1, 2, -1, 1}, {1, 2, 0, 0}, {2, 1, 0, 0}, {3, 0, 0, 0}}
	if !IsFront(front) || !IsFront(front[:1]) || !IsFront(front[2:]) || !IsFront(nil) || !IsFront([]Vector{}) {
		t.Error("IsFront of fronts is false")
	}
	for _, l := range orders(front) {
		if got := IsFront(l); got != slices.Equal(l, front) {
			t.Errorf("IsFront(%v) = %v", l, got)
		}
	}
	for i, v := range front {
		for at := range len(front) + 1 {
			if l := slices.Insert(slices.Clone(front), at, v); IsFront(l) {
				t.Errorf("IsFront(%v) = true, and a vector occurs twice", l)
			}
		}
		for component := range 4 {
			worse := v
			worse[component]++
			for at := range len(front) + 1 {
				if l := slices.Insert(slices.Clone(front), at, worse); IsFront(l) {
					t.Errorf("IsFront(%v) = true, and %v dominates %v", l, v, worse)
				}
			}
		}
		if l := slices.Delete(slices.Clone(front), i, i+1); !IsFront(l) {
			t.Errorf("IsFront(%v) = false", l)
		}
	}
}

// P9.3 (Insert, Merge, Covers)

func TestInsert(t *testing.T) {
	front := []Vector{{0, 9, 0, 0}, {2, 7, 0, 0}, {4, 5, 0, 0}, {6, 3, 0, 0}, {8, 1, 0, 0}}
	tests := []struct {
		v        Vector
		from, to int // the vectors of the front that v replaces, if it is inserted
		inserted bool
	}{
		// The front contains the vector.
		{Vector{0, 9, 0, 0}, 0, 0, false}, {Vector{4, 5, 0, 0}, 0, 0, false}, {Vector{8, 1, 0, 0}, 0, 0, false},
		// The first vector, one in the middle, or the last one dominates it.
		{Vector{0, 10, 0, 0}, 0, 0, false}, {Vector{1, 9, 0, 0}, 0, 0, false}, {Vector{0, 9, 0, 1}, 0, 0, false},
		{Vector{5, 5, 0, 0}, 0, 0, false}, {Vector{4, 6, 0, 0}, 0, 0, false}, {Vector{4, 5, 1, 0}, 0, 0, false},
		{Vector{9, 1, 0, 0}, 0, 0, false}, {Vector{8, 2, 0, 0}, 0, 0, false}, {Vector{8, 1, 0, 2}, 0, 0, false},
		// Several vectors, or all of them, dominate it.
		{Vector{6, 6, 0, 0}, 0, 0, false}, {Vector{9, 9, 9, 9}, 0, 0, false}, {Vector{greatest, greatest, greatest, greatest}, 0, 0, false},
		// It dominates no vector.
		{Vector{-1, 10, 0, 0}, 0, 0, true}, {Vector{3, 6, 0, 0}, 2, 2, true}, {Vector{9, 0, 0, 0}, 5, 5, true},
		{Vector{least, greatest, greatest, greatest}, 0, 0, true}, {Vector{5, 5, -1, 0}, 3, 3, true}, {Vector{greatest, greatest, greatest, least}, 5, 5, true},
		// It dominates one vector.
		{Vector{0, 8, 0, 0}, 0, 1, true}, {Vector{-1, 9, 0, 0}, 0, 1, true}, {Vector{0, 9, -1, 0}, 0, 1, true},
		{Vector{4, 4, 0, 0}, 2, 3, true}, {Vector{3, 5, 0, 0}, 2, 3, true}, {Vector{4, 5, 0, -1}, 2, 3, true},
		{Vector{7, 1, 0, 0}, 4, 5, true}, {Vector{8, 0, 0, 0}, 4, 5, true}, {Vector{8, 1, -1, -1}, 4, 5, true},
		// It dominates several vectors.
		{Vector{0, 7, 0, 0}, 0, 2, true}, {Vector{-5, 5, 0, 0}, 0, 3, true}, {Vector{2, 3, 0, 0}, 1, 4, true},
		{Vector{3, 2, 0, 0}, 2, 4, true}, {Vector{5, 1, 0, 0}, 3, 5, true}, {Vector{4, -9, 0, 0}, 2, 5, true},
		// It dominates all vectors.
		{Vector{0, 1, 0, 0}, 0, 5, true}, {Vector{0, 0, 0, -1}, 0, 5, true}, {Vector{least, least, least, least}, 0, 5, true},
	}
	for _, c := range tests {
		want := slices.Clone(front)
		if c.inserted {
			want = slices.Replace(want, c.from, c.to, c.v)
		}
		if got, ok := Insert(front, c.v); !slices.Equal(got, want) || ok != c.inserted {
			t.Errorf("Insert(%v, %v) = %v, %v; want %v, %v", front, c.v, got, ok, want, c.inserted)
		}
		if Covers(front, c.v) == c.inserted {
			t.Errorf("Covers(%v, %v) = %v", front, c.v, !c.inserted)
		}
		checkInsert(t, front, c.v)
	}
}

func TestInsertIntoOthers(t *testing.T) {
	v, w := Vector{1, 2, 3, 4}, Vector{2, 1, 3, 4}
	for _, empty := range [][]Vector{nil, {}} {
		if got, ok := Insert(empty, v); !ok || !slices.Equal(got, []Vector{v}) {
			t.Errorf("Insert(nil, %v) = %v, %v", v, got, ok)
		}
		if Covers(empty, v) || Covers(empty, Vector{greatest, greatest, greatest, greatest}) {
			t.Error("an empty list covers a vector")
		}
	}
	// The dominated vectors are not next to each other.
	front := []Vector{{0, 0, 9, 9}, {1, 2, 3, 5}, {2, 0, 9, 8}, {3, 1, 2, 4}, {4, 0, 9, 7}, {5, 1, 1, 1}}
	if got, ok := Insert(front, Vector{1, 1, 1, 1}); !ok || !slices.Equal(got, []Vector{{0, 0, 9, 9}, {1, 1, 1, 1}, {2, 0, 9, 8}, {4, 0, 9, 7}}) {
		t.Errorf("Insert into %v = %v, %v", front, got, ok)
	}
	// The examples of the chapter.
	got, ok := Insert([]Vector{{1, 2, 0, 0}, {2, 1, 0, 0}}, Vector{1, 1, 0, 0})
	if !ok || !slices.Equal(got, []Vector{{1, 1, 0, 0}}) {
		t.Errorf("Insert = %v, %v", got, ok)
	}
	if got, ok = Insert(got, Vector{1, 1, 0, 0}); ok || !slices.Equal(got, []Vector{{1, 1, 0, 0}}) {
		t.Errorf("Insert = %v, %v", got, ok)
	}
	// These lists are not fronts.
	lists := [][]Vector{{w, v}, {v, v}, {v, {1, 2, 3, 5}}, {{9, 9, 9, 9}, w, {2, 2, 3, 4}, v, {8, 8, 8, 8}, w, v}}
	for _, l := range lists {
		for _, x := range []Vector{v, w, {}, {1, 2, 3, 5}, {9, 9, 9, 9}, {2, 2, 2, 9}, {0, 9, 9, 9}, {2, 1, 3, 3}, {2, 1, 3, 5}, {9, 9, 9, -9}} {
			checkInsert(t, l, x)
		}
	}
}

func TestMerge(t *testing.T) {
	f := []Vector{{1, 2, 0, 0}, {2, 1, 0, 0}}
	tests := []struct {
		a, b, want []Vector
	}{
		{nil, nil, nil},
		{[]Vector{}, nil, nil},
		{f, nil, f},
		{[]Vector{}, f, f},
		{f, f, f},
		{f, []Vector{{0, 3, 0, 0}, {2, 1, 0, 1}}, []Vector{{0, 3, 0, 0}, {1, 2, 0, 0}, {2, 1, 0, 0}}},
		{f, []Vector{{1, 1, 0, 0}}, []Vector{{1, 1, 0, 0}}},
		{f, []Vector{{2, 2, 0, 0}}, f},
		{[]Vector{{0, 9, 0, 0}, {4, 5, 0, 0}}, []Vector{{2, 7, 0, 0}, {6, 3, 0, 0}}, []Vector{{0, 9, 0, 0}, {2, 7, 0, 0}, {4, 5, 0, 0}, {6, 3, 0, 0}}},
		{[]Vector{{0, 9, 0, 0}, {4, 5, 0, 0}}, []Vector{{0, 8, 0, 0}, {5, 5, 0, 0}}, []Vector{{0, 8, 0, 0}, {4, 5, 0, 0}}},
		{[]Vector{{greatest, 0, 0, least}}, []Vector{{least, 0, 0, greatest}}, []Vector{{least, 0, 0, greatest}, {greatest, 0, 0, least}}},
		// These arguments are not fronts.
		{[]Vector{{2, 1, 0, 0}, {1, 2, 0, 0}}, []Vector{{3, 0, 0, 0}, {0, 3, 0, 0}}, []Vector{{0, 3, 0, 0}, {1, 2, 0, 0}, {2, 1, 0, 0}, {3, 0, 0, 0}}},
		{[]Vector{{2, 1, 0, 0}, {2, 1, 0, 0}}, nil, []Vector{{2, 1, 0, 0}}},
		{nil, []Vector{{2, 1, 0, 0}, {3, 1, 0, 0}, {1, 1, 0, 0}}, []Vector{{1, 1, 0, 0}}},
		{[]Vector{{2, 1, 0, 0}, {3, 1, 0, 0}, {1, 2, 0, 0}}, []Vector{{5, 5, 5, 5}, {4, 5, 5, 5}, {1, 2, 0, 0}}, f},
	}
	for _, c := range tests {
		if got := Merge(c.a, c.b); !slices.Equal(got, c.want) {
			t.Errorf("Merge(%v, %v) = %v; want %v", c.a, c.b, got, c.want)
		}
		checkMerge(t, c.b, c.a)
	}
}

func TestCovers(t *testing.T) {
	l := []Vector{{2, 1, 0, 0}, {1, 2, 0, 0}, {5, 5, -1, 5}, {1, 2, 0, 0}, {3, 3, 0, 0}, {6, 6, 0, -1}}
	tests := []struct {
		v    Vector
		want bool
	}{
		{Vector{2, 1, 0, 0}, true}, {Vector{1, 2, 0, 0}, true}, {Vector{3, 3, 0, 0}, true}, {Vector{6, 6, 0, -1}, true},
		{Vector{2, 1, 0, 1}, true}, {Vector{2, 1, 1, 0}, true}, {Vector{2, 2, 0, 0}, true}, {Vector{3, 1, 0, 0}, true},
		{Vector{1, 9, 0, 0}, true}, {Vector{6, 5, -1, 5}, true}, {Vector{6, 6, 1, -1}, true}, {Vector{7, 6, 0, -1}, true},
		{Vector{1, 1, 0, 0}, false}, {Vector{0, 2, 0, 0}, false}, {Vector{2, 1, 0, -1}, false}, {Vector{2, 1, -1, 0}, false},
		{Vector{5, 5, -1, 4}, false}, {Vector{5, 6, 0, -1}, false}, {Vector{6, 6, -1, -1}, false}, {Vector{least, greatest, greatest, greatest}, false},
		{Vector{greatest, least, greatest, greatest}, false}, {Vector{greatest, greatest, least, greatest}, false}, {Vector{greatest, greatest, greatest, least}, false},
		{Vector{greatest, greatest, greatest, greatest}, true},
	}
	for _, c := range tests {
		for i := range l {
			m := slices.Concat(l[i:], l[:i])
			if got := Covers(m, c.v); got != c.want {
				t.Errorf("Covers(%v, %v) = %v", m, c.v, got)
			}
		}
	}
}

// P9.4 (Within)

func TestWithin(t *testing.T) {
	l := []Vector{{2, 1, 0, 0}, {1, 2, 0, 0}, {2, 2, 0, 0}, {1, 2, 0, 0}, {0, 0, 9, 0}, {0, 0, 0, 9}, {2, 1, 0, 0}}
	tests := []struct {
		limit Vector
		want  []Vector
	}{
		{Vector{1, 2, 9, 9}, []Vector{{1, 2, 0, 0}, {1, 2, 0, 0}, {0, 0, 9, 0}, {0, 0, 0, 9}}},
		{Vector{2, 1, 0, 0}, []Vector{{2, 1, 0, 0}, {2, 1, 0, 0}}},
		{Vector{2, 2, 0, 0}, []Vector{{2, 1, 0, 0}, {1, 2, 0, 0}, {2, 2, 0, 0}, {1, 2, 0, 0}, {2, 1, 0, 0}}},
		{Vector{2, 2, 8, 9}, []Vector{{2, 1, 0, 0}, {1, 2, 0, 0}, {2, 2, 0, 0}, {1, 2, 0, 0}, {0, 0, 0, 9}, {2, 1, 0, 0}}},
		{Vector{2, 2, 9, 8}, []Vector{{2, 1, 0, 0}, {1, 2, 0, 0}, {2, 2, 0, 0}, {1, 2, 0, 0}, {0, 0, 9, 0}, {2, 1, 0, 0}}},
		{Vector{2, 2, 9, 9}, l},
		{Vector{greatest, greatest, greatest, greatest}, l},
		{Vector{}, nil},
		{Vector{1, 1, 1, 1}, nil},
		{Vector{least, greatest, greatest, greatest}, nil},
		{Vector{greatest, -1, greatest, greatest}, nil},
		{Vector{greatest, greatest, -1, greatest}, nil},
		{Vector{greatest, greatest, greatest, least}, nil},
	}
	for _, c := range tests {
		if got := Within(l, c.limit); !slices.Equal(got, c.want) {
			t.Errorf("Within(%v, %v) = %v; want %v", l, c.limit, got, c.want)
		}
	}
	for _, empty := range [][]Vector{nil, {}} {
		if got := Within(empty, Vector{greatest, greatest, greatest, greatest}); len(got) != 0 {
			t.Errorf("Within(nil) = %v", got)
		}
	}
	ends := []Vector{{greatest, least, greatest, least}, {least, greatest, least, greatest}, {least, least, least, least}}
	for i := range ends {
		checkWithin(t, ends, ends[i])
	}
	if got := Within(ends, ends[2]); !slices.Equal(got, ends[2:]) {
		t.Errorf("Within(%v, %v) = %v", ends, ends[2], got)
	}
}

// P9.2, P9.3 and P9.4 for all short lists of small vectors

func TestShortLists(t *testing.T) {
	vectors := cube(2)
	for _, l := range lists(vectors, 3) {
		checkList(t, l, vectors)
	}
	few := lists(vectors, 2)
	for _, a := range few {
		for _, b := range few {
			checkMerge(t, a, b)
		}
	}
	vectors = cube(3)
	for _, l := range lists(vectors, 2) {
		checkFront(t, l)
	}
	for _, v := range vectors {
		checkList(t, []Vector{v}, vectors)
	}
}

func TestShortListsInPlanes(t *testing.T) {
	for k, vectors := range planes(3) {
		for _, l := range lists(vectors, 3) {
			checkList(t, l, vectors)
		}
		for i, l := range lists(vectors, 4) {
			checkFront(t, l)
			checkInsert(t, l, vectors[(i+k)%len(vectors)])
		}
		few := lists(vectors, 2)
		for _, a := range few {
			for _, b := range few {
				checkMerge(t, a, b)
			}
		}
	}
}

func TestShortListsAtTheEndsOfInt(t *testing.T) {
	for shift := range placements() {
		vectors := placed(cube(2), shift)
		for i, l := range lists(vectors, 2) {
			checkList(t, l, vectors)
			checkMerge(t, l, vectors[i%5:i%5+3])
		}
		for _, vectors := range planes(3) {
			moved := placed(vectors, shift)
			for _, l := range lists(moved, 2) {
				checkList(t, l, moved)
			}
		}
	}
}

func TestLongLists(t *testing.T) {
	sizes := map[int]bool{}
	for seed := range 30 {
		for _, l := range [][]Vector{scattered(seed, 100, 4), scattered(seed, 300, 1000), slope(seed, 150, 5), slope(seed, 150, 1<<40)} {
			n := len(l) / 3
			checkFront(t, l)
			checkMerge(t, l[:n], l[n:])
			for _, v := range l[:5] {
				checkInsert(t, l[5:], v)
				checkInsert(t, Front(l[5:]), v)
				checkWithin(t, l, v)
			}
			sizes[len(Front(l))/20] = true
		}
	}
	if len(sizes) < 4 {
		t.Errorf("the fronts have only the sizes %v", sizes)
	}
	state := uint64(1)
	var front []Vector
	for i := range 3000 {
		front = append(front, Vector{i, 3000 - i, 5, 5})
	}
	mixed := slices.Clone(front)
	for i := range mixed {
		j := number(&state, i+1)
		mixed[i], mixed[j] = mixed[j], mixed[i]
	}
	if !IsFront(front) || IsFront(mixed) || !slices.Equal(Front(mixed), front) || !slices.Equal(Merge(mixed, front), front) {
		t.Error("wrong front of 3000 vectors")
	}
	got, ok := Insert(mixed, Vector{1000, 1000, 5, 5})
	if want := slices.Replace(slices.Clone(front), 1000, 2001, Vector{1000, 1000, 5, 5}); !ok || !slices.Equal(got, want) {
		t.Errorf("the front has %d vectors, and %v", len(got), ok)
	}
}

// P9.5 (order and number of vectors)

// checkConsequences checks P9.5 for l and the same vectors in another order.
func checkConsequences(t *testing.T, l, other []Vector) {
	t.Helper()
	front := Front(l)
	if got := Front(other); !slices.Equal(got, front) {
		t.Fatalf("Front(%v) = %v; Front(%v) = %v", l, front, other, got)
	}
	if got := Front(front); !slices.Equal(got, front) || !IsFront(front) {
		t.Fatalf("Front(%v) = %v", front, got)
	}
	for _, v := range l {
		if !Covers(front, v) {
			t.Fatalf("%v does not cover %v", front, v)
		}
	}
}

func TestFrontDependsOnTheSetOnly(t *testing.T) {
	l := []Vector{{1, 2, 0, 0}, {2, 1, 0, 0}, {2, 2, 0, 0}, {1, 2, 0, 0}, {0, 9, 9, 9}, {1, 2, 0, -1}, {9, 9, 9, -2}}
	for _, o := range orders(l) {
		checkConsequences(t, l, o)
	}
	for i, l := range lists(cube(2), 3) {
		other := slices.Clone(l)
		slices.Reverse(other)
		checkConsequences(t, l, other)
		for j, v := range l {
			checkConsequences(t, l, append(other, v, l[(i+j)%len(l)]))
		}
	}
	for seed := range 20 {
		l := slope(seed, 80, 6)
		other := slices.Concat(l[50:], l[20:70], l[:50])
		checkConsequences(t, l, other)
	}
}

// P9.6 (one by one)

// oneByOne returns the front into which the vectors of l are inserted one after another.
func oneByOne(t *testing.T, l []Vector) []Vector {
	t.Helper()
	var front []Vector
	for i, v := range l {
		changed, ok := Insert(front, v)
		if ok == wantedCovers(l[:i], v) || !ok && !slices.Equal(changed, front) {
			t.Fatalf("Insert(%v, %v) = %v, %v", front, v, changed, ok)
		}
		front = changed
	}
	return front
}

func TestInsertOneByOne(t *testing.T) {
	l := []Vector{{1, 2, 0, 0}, {2, 1, 0, 0}, {2, 2, 0, 0}, {1, 2, 0, 0}, {0, 9, 9, 9}, {1, 2, 0, -1}, {9, 9, 9, -2}}
	want := wantedFront(l)
	for _, o := range orders(l) {
		if got := oneByOne(t, o); !slices.Equal(got, want) {
			t.Fatalf("the vectors of %v have the front %v; want %v", o, got, want)
		}
	}
	all := lists(cube(2), 3)
	for _, vectors := range planes(3) {
		all = append(all, lists(vectors, 4)...)
	}
	for seed := range 20 {
		all = append(all, slope(seed, 80, 6), scattered(seed, 80, 9))
	}
	for _, l := range all {
		if got := oneByOne(t, l); !slices.Equal(got, wantedFront(l)) {
			t.Fatalf("the vectors of %v have the front %v", l, got)
		}
	}
}

// checkMergeLaws checks that Merge is commutative and associative.
func checkMergeLaws(t *testing.T, a, b, c []Vector) {
	t.Helper()
	if left, right := Merge(a, b), Merge(b, a); !slices.Equal(left, right) {
		t.Fatalf("Merge(%v, %v) is %v, and in the other order %v", a, b, left, right)
	}
	left, right := Merge(Merge(a, b), c), Merge(a, Merge(b, c))
	if !slices.Equal(left, right) || !slices.Equal(left, wantedFront(slices.Concat(a, b, c))) {
		t.Fatalf("merging %v, %v and %v gives %v or %v", a, b, c, left, right)
	}
}

func TestMergeLaws(t *testing.T) {
	few := lists(cube(2), 1)
	for _, a := range few {
		for _, b := range few {
			for _, c := range few {
				checkMergeLaws(t, a, b, c)
			}
		}
	}
	for k, vectors := range planes(3) {
		all := lists(vectors, 2)
		for i, a := range all {
			for j, b := range all {
				checkMergeLaws(t, a, b, all[(7*i+11*j+k)%len(all)])
			}
		}
	}
	for seed := range 20 {
		l := slope(seed, 90, 6)
		checkMergeLaws(t, l[:20], l[20:60], l[60:])
	}
}

// Rules: arguments are unchanged, and results are new memory.

// roomy returns l with memory behind it, and a function that reports whether all of it is unchanged.
func roomy(l []Vector) ([]Vector, func() bool) {
	all := slices.Clone(l)
	for i := range 8 {
		all = append(all, Vector{70 - i, 7, i, 7})
	}
	before := slices.Clone(all)
	return all[:len(l)], func() bool { return slices.Equal(all, before) }
}

// results returns the results of all functions that return lists.
func results(a, b []Vector) map[string][]Vector {
	all := map[string][]Vector{
		"Front": Front(a), "Front of the second": Front(b), "Merge": Merge(a, b), "Merge with nil": Merge(a, nil), "Merge of nil": Merge(nil, b),
		"Merge with itself": Merge(a, a), "Within": Within(a, Vector{3, 3, 3, 3}), "Within all": Within(b, Vector{greatest, greatest, greatest, greatest}),
	}
	for name, v := range map[string]Vector{
		"best": {-9, -9, -9, -9}, "worst": {90, 90, 90, 90}, "first": {-9, 5, 5, 5}, "middle": {1, 9, -9, 9}, "last": {90, 9, 9, -9}, "equal": {1, 2, 0, 0},
	} {
		all["Insert of the "+name], _ = Insert(a, v)
	}
	return all
}

// overwrite changes all vectors of l, and those for which it has room.
func overwrite(l []Vector) {
	for i := range l[:cap(l)] {
		l[:cap(l)][i] = Vector{-1000, -1000, -1000, -1000}
	}
}

func TestArgumentsAreUnchanged(t *testing.T) {
	lists := [][]Vector{
		nil, {}, {{}}, {{1, 2, 0, 0}, {2, 1, 0, 0}}, {{2, 1, 0, 0}, {1, 2, 0, 0}}, {{1, 2, 0, 0}, {1, 2, 0, 0}}, {{5, 5, 5, 5}, {4, 4, 4, 4}, {1, 2, 0, 0}},
		{{0, 9, 0, 0}, {2, 7, 0, 0}, {4, 5, 0, 0}}, {{3, 0, 0, 0}, {0, 3, 0, 0}, {0, 0, 0, 3}, {3, 0, 0, 1}}, {{least, greatest, 0, 0}, {greatest, least, 0, 0}},
	}
	for _, one := range lists {
		for _, other := range lists {
			a, sameA := roomy(one)
			b, sameB := roomy(other)
			want := results(slices.Clone(one), slices.Clone(other))
			got := results(a, b)
			Covers(a, Vector{1, 2, 0, 1})
			IsFront(a)
			if !sameA() || !sameB() {
				t.Errorf("%v or %v was changed", one, other)
			}
			for name, l := range got {
				if !slices.Equal(l, want[name]) {
					t.Errorf("%s of %v and %v = %v; want %v", name, one, other, l, want[name])
				}
				overwrite(l)
			}
			if !sameA() || !sameB() {
				t.Errorf("a result shares memory with %v or %v", one, other)
			}
		}
	}
}

func TestResultsShareNoMemory(t *testing.T) {
	a, b := []Vector{{0, 9, 0, 0}, {1, 2, 0, 0}, {2, 1, 0, 0}}, []Vector{{5, 0, 0, 0}, {0, 1, 3, 0}}
	first, second := results(a, b), results(a, b)
	for _, l := range first {
		overwrite(l)
	}
	third := results(a, b)
	for name, l := range second {
		if len(l) == 0 || !slices.Equal(l, third[name]) {
			t.Errorf("%s = %v after another result was changed; want %v", name, l, third[name])
		}
	}
	// Results of one call are the arguments of the next one.
	for _, v := range []Vector{{9, 9, 9, 9}, {1, 1, 1, 1}, {-1, 9, 9, 9}, {9, 9, -9, -9}} {
		front := Front(a)
		next, _ := Insert(front, v)
		again := slices.Clone(next)
		overwrite(front)
		if !slices.Equal(next, again) {
			t.Errorf("Insert of %v keeps the front", v)
		}
		overwrite(next)
	}
}

func TestArgumentsAreNotKept(t *testing.T) {
	a, b := []Vector{{0, 9, 0, 0}, {1, 2, 0, 0}, {2, 1, 0, 0}}, []Vector{{5, 0, 0, 0}, {0, 1, 3, 0}}
	got, want := results(a, b), results(slices.Clone(a), slices.Clone(b))
	a[0], a[1], b[0] = Vector{50, 60, 70, 80}, Vector{}, Vector{-5, -5, -5, -5}
	for name, l := range got {
		if !slices.Equal(l, want[name]) {
			t.Errorf("%s = %v after its arguments were changed; want %v", name, l, want[name])
		}
	}
	if !Covers(a, Vector{1, 1, 0, 0}) || IsFront(a) {
		t.Error("Covers or IsFront remembers an earlier list")
	}
}

// P1: every function terminates and does not panic.

func FuzzPareto(f *testing.F) {
	f.Add([]byte{}, 3, 3)
	f.Add([]byte{2, 1, 0, 0, 1, 2, 0, 0, 2, 2, 0, 0, 1, 2, 0, 0}, 1, 2)
	f.Add([]byte{128, 127, 127, 128, 255, 0, 130, 125, 64, 65, 0, 1, 128, 127, 127, 128}, 1<<40, 1)
	f.Fuzz(func(t *testing.T, bytes []byte, scale, cut int) {
		var l []Vector
		for len(bytes) >= 4 && len(l) < 60 {
			var v Vector
			for i := range v {
				// Beyond some distance, bytes stand for integers at the ends of int.
				switch x := int(int8(bytes[i])); {
				case x > 100:
					v[i] = greatest - 127 + x
				case x < -100:
					v[i] = least + 128 + x
				default:
					v[i] = x * scale
				}
			}
			l, bytes = append(l, v), bytes[4:]
		}
		n := int(uint(cut) % uint(len(l)+1))
		a, b := l[:n], l[n:]
		checkFront(t, l)
		checkMerge(t, a, b)
		checkMergeLaws(t, b, l, a)
		checkConsequences(t, l, slices.Concat(b, a, b))
		if got := oneByOne(t, l); !slices.Equal(got, Front(l)) {
			t.Errorf("the vectors of %v have the front %v", l, got)
		}
		for i, v := range append(slices.Clone(l), Vector{scale, cut, scale - cut, scale + cut}) {
			checkInsert(t, a, v)
			checkWithin(t, l, v)
			if i < len(b) {
				checkPair(t, v, b[i])
			}
		}
	})
}
