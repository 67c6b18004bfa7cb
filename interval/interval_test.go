package interval

import (
	"math"
	"math/big"
	"slices"
	"testing"
)

const (
	least    = math.MinInt
	greatest = math.MaxInt
)

// spans returns spans with these ends, two for each span.
func spans(ends ...int) []Span {
	var l []Span
	for i := 0; i < len(ends); i += 2 {
		l = append(l, Span{From: ends[i], To: ends[i+1]})
	}
	return l
}

// isMember reports whether x is in the set of l, as the chapter defines it.
func isMember(l []Span, x int) bool {
	for _, s := range l {
		if s.From <= x && x < s.To {
			return true
		}
	}
	return false
}

// isNormalized reports whether l is a normalized list, as the chapter defines it.
func isNormalized(l []Span) bool {
	for i, s := range l {
		if s.From >= s.To || i > 0 && s.From <= l[i-1].To {
			return false
		}
	}
	return true
}

// operation is a set operation with its definition for an integer that is in the first and in the second set or not.
type operation struct {
	name   string
	apply  func(a, b []Span) []Span
	wanted func(inA, inB bool) bool
}

// operations returns all set operations.
func operations() []operation {
	return []operation{
		{"Union", Union, func(inA, inB bool) bool { return inA || inB }},
		{"Intersect", Intersect, func(inA, inB bool) bool { return inA && inB }},
		{"Subtract", Subtract, func(inA, inB bool) bool { return inA && !inB }},
	}
}

// smallSpans returns all spans with ends from 0 to n, also those that are not valid.
func smallSpans(n int) []Span {
	var l []Span
	for from := range n + 1 {
		for to := range n + 1 {
			l = append(l, Span{From: from, To: to})
		}
	}
	return l
}

// smallLists returns all lists of up to length spans with ends from 0 to n.
func smallLists(n, length int) [][]Span {
	all := [][]Span{nil}
	for from := 0; length > 0; length-- {
		to := len(all)
		for _, l := range all[from:to] {
			for _, s := range smallSpans(n) {
				all = append(all, append(slices.Clone(l), s))
			}
		}
		from = to
	}
	return all
}

// permutations returns all orders of the integers that are less than n.
func permutations(n int) [][]int {
	if n == 0 {
		return [][]int{nil}
	}
	var all [][]int
	for _, l := range permutations(n - 1) {
		for i := range n {
			all = append(all, slices.Insert(slices.Clone(l), i, n-1))
		}
	}
	return all
}

// scattered returns n spans with ends from 0 to limit, in an order without a pattern; some are not valid.
func scattered(seed, n, limit, longest int) []Span {
	var l []Span
	state := uint64(seed)
	next := func(below int) int {
		state = state*6364136223846793005 + 1442695040888963407
		return int(state>>33) % below
	}
	for range n {
		from := next(limit)
		l = append(l, Span{From: from, To: max(0, min(limit, from+next(longest)-longest/8))})
	}
	return l
}

// marked returns for each integer from 0 to limit whether it is in the set of l, whose ends must be from 0 to limit.
func marked(l []Span, limit int) []bool {
	in := make([]bool, limit+1)
	for _, s := range l {
		for x := s.From; x < s.To; x++ {
			in[x] = true
		}
	}
	return in
}

// placements returns functions that keep the order of the integers from 0 to 4: they move small spans elsewhere.
func placements() map[string][]int {
	return map[string][]int{
		"in place":               {0, 1, 2, 3, 4},
		"below 0":                {-7, -5, -4, -2, -1},
		"around 0":               {-2, -1, 0, 1, 2},
		"at both ends":           {least, least + 1, 0, greatest - 1, greatest},
		"at the least int":       {least, least + 1, least + 2, least + 3, least + 4},
		"at the greatest int":    {greatest - 4, greatest - 3, greatest - 2, greatest - 1, greatest},
		"far from each other":    {least, -1 << 62, 0, 1 << 62, greatest},
		"half of all and more":   {least, -2, -1, 1, greatest},
		"from the end to nearly": {least + 1, -1, 0, 1, greatest - 1},
	}
}

// placed returns l with each end from 0 to 4 replaced by that of the placement.
func placed(l []Span, place []int) []Span {
	var moved []Span
	for _, s := range l {
		moved = append(moved, Span{From: place[s.From], To: place[s.To]})
	}
	return moved
}

// near returns the integers at the ends of all spans, and those next to them.
func near(lists ...[]Span) []int {
	all := []int{least, least + 1, -1, 0, 1, greatest - 1, greatest}
	for _, l := range lists {
		for _, s := range l {
			for _, x := range []int{s.From, s.To} {
				all = append(all, max(x, least+1)-1, x, min(x, greatest-1)+1)
			}
		}
	}
	return all
}

// checkOperation checks the result of the operation: its form, and each of the integers xs.
func checkOperation(t *testing.T, o operation, a, b []Span, xs []int) {
	t.Helper()
	got := o.apply(a, b)
	if !isNormalized(got) {
		t.Errorf("%s(%v, %v) = %v, which is not normalized", o.name, a, b, got)
	}
	for _, x := range xs {
		if isMember(got, x) != o.wanted(isMember(a, x), isMember(b, x)) {
			t.Errorf("%s(%v, %v) = %v, which is wrong for %d", o.name, a, b, got, x)
			return
		}
	}
}

// checkNormalize checks the result of Normalize: its form, and each of the integers xs.
func checkNormalize(t *testing.T, l []Span, xs []int) {
	t.Helper()
	got := Normalize(l)
	if !isNormalized(got) {
		t.Errorf("Normalize(%v) = %v, which is not normalized", l, got)
	}
	for _, x := range xs {
		if isMember(got, x) != isMember(l, x) {
			t.Errorf("Normalize(%v) = %v, which is wrong for %d", l, got, x)
			return
		}
	}
}

// checkGaps checks the result of Gaps: its form, and each of the integers xs.
func checkGaps(t *testing.T, l []Span, within Span, xs []int) {
	t.Helper()
	got := Gaps(l, within)
	if !isNormalized(got) {
		t.Errorf("Gaps(%v, %v) = %v, which is not normalized", l, within, got)
	}
	for _, x := range xs {
		if isMember(got, x) != (within.From <= x && x < within.To && !isMember(l, x)) {
			t.Errorf("Gaps(%v, %v) = %v, which is wrong for %d", l, within, got, x)
			return
		}
	}
}

// exactLength returns the number of integers in the set of l, counted between neighbouring ends.
func exactLength(l []Span) *big.Int {
	var ends []int
	for _, s := range l {
		ends = append(ends, s.From, s.To)
	}
	slices.Sort(ends)
	sum := new(big.Int)
	for i := 1; i < len(ends); i++ {
		if isMember(l, ends[i-1]) {
			sum.Add(sum, big.NewInt(int64(ends[i])))
			sum.Sub(sum, big.NewInt(int64(ends[i-1])))
		}
	}
	return sum
}

// checkLength checks the result of Length.
func checkLength(t *testing.T, l []Span) {
	t.Helper()
	want, wantOk := exactLength(l), true
	if want.Cmp(big.NewInt(greatest)) > 0 {
		want, wantOk = new(big.Int), false
	}
	if n, ok := Length(l); big.NewInt(int64(n)).Cmp(want) != 0 || ok != wantOk {
		t.Errorf("Length(%v) = %d, %v; want %v, %v", l, n, ok, want, wantOk)
	}
}

// smallIntegers are those that spans with ends from 0 to 4 can contain, and others.
func smallIntegers() []int {
	return []int{least, -2, -1, 0, 1, 2, 3, 4, 5, 6, greatest - 1, greatest}
}

// P8.1 (Valid, Contains)

func TestValid(t *testing.T) {
	for _, s := range spans(0, 1, -1, 0, -1, 1, 5, 7, least, greatest, least, least+1, greatest-1, greatest, least, 0, 0, greatest) {
		if !Valid(s) {
			t.Errorf("Valid(%v) = false", s)
		}
	}
	for _, s := range spans(0, 0, 1, 0, 0, -1, 6, 6, 7, 5, least, least, greatest, greatest, greatest, least, least+1, least, greatest, greatest-1, 0, least, greatest, 0) {
		if Valid(s) {
			t.Errorf("Valid(%v) = true", s)
		}
	}
	for _, s := range smallSpans(6) {
		if Valid(s) != (s.To-s.From > 0) {
			t.Errorf("Valid(%v) = %v", s, Valid(s))
		}
	}
}

func TestContains(t *testing.T) {
	for _, c := range []struct {
		l    []Span
		in   []int
		outs []int
	}{
		{nil, nil, []int{least, -1, 0, 1, greatest}},
		{[]Span{}, nil, []int{least, -1, 0, 1, greatest}},
		{spans(2, 3), []int{2}, []int{least, -2, 0, 1, 3, 4, greatest}},
		{spans(-3, 3), []int{-3, -2, 0, 2}, []int{-4, 3, 4}},
		{spans(6, 6), nil, []int{5, 6, 7}},
		{spans(7, 5), nil, []int{4, 5, 6, 7, 8}},
		{spans(5, 7, 1, 3), []int{1, 2, 5, 6}, []int{0, 3, 4, 7}},
		{spans(1, 3, 3, 4), []int{1, 2, 3}, []int{0, 4}},
		{spans(1, 3, 4, 5), []int{1, 2, 4}, []int{0, 3, 5}},
		{spans(1, 9, 3, 4), []int{1, 2, 3, 4, 8}, []int{0, 9}},
		{spans(3, 4, 1, 9), []int{1, 2, 3, 4, 8}, []int{0, 9}},
		{spans(1, 5, 3, 8, 3, 8), []int{1, 4, 5, 7}, []int{0, 8}},
		{spans(9, 1, 2, 3, 4, 4), []int{2}, []int{1, 3, 4, 5, 8, 9}},
		{spans(least, greatest), []int{least, -1, 0, 1, greatest - 1}, []int{greatest}},
		{spans(least, least+1), []int{least}, []int{least + 1, greatest}},
		{spans(greatest-1, greatest), []int{greatest - 1}, []int{greatest - 2, greatest, least}},
		{spans(greatest, greatest, greatest, least, 0, greatest), []int{0, greatest - 1}, []int{greatest, least, -1}},
	} {
		for _, x := range c.in {
			if !Contains(c.l, x) {
				t.Errorf("Contains(%v, %d) = false", c.l, x)
			}
		}
		for _, x := range c.outs {
			if Contains(c.l, x) {
				t.Errorf("Contains(%v, %d) = true", c.l, x)
			}
		}
	}
}

func TestContainsOfAllLists(t *testing.T) {
	for _, l := range smallLists(4, 3) {
		in := marked(l, 4)
		for x := -2; x < 7; x++ {
			if want := x >= 0 && x <= 4 && in[x]; Contains(l, x) != want {
				t.Errorf("Contains(%v, %d) = %v", l, x, !want)
			}
		}
	}
}

// P8.2 (Normalize)

func TestNormalize(t *testing.T) {
	for _, c := range []struct{ l, want []Span }{
		{spans(5, 7, 1, 3, 3, 4, 6, 6), spans(1, 4, 5, 7)},
		{nil, nil},
		{[]Span{}, nil},
		{spans(1, 2), spans(1, 2)},
		{spans(6, 6), nil},
		{spans(7, 5), nil},
		{spans(6, 6, 7, 5, 0, 0), nil},
		{spans(1, 2, 9, 2, 5, 5), spans(1, 2)},
		{spans(2, 2, 1, 3), spans(1, 3)},
		{spans(1, 3, 3, 3, 3, 1, 4, 5), spans(1, 3, 4, 5)},
		{spans(1, 3, 9, 0, 3, 5), spans(1, 5)},
		{spans(1, 3, 3, 5), spans(1, 5)},
		{spans(3, 5, 1, 3), spans(1, 5)},
		{spans(1, 3, 4, 5), spans(1, 3, 4, 5)},
		{spans(4, 5, 1, 3), spans(1, 3, 4, 5)},
		{spans(1, 4, 2, 6), spans(1, 6)},
		{spans(2, 6, 1, 4), spans(1, 6)},
		{spans(1, 9, 3, 4), spans(1, 9)},
		{spans(3, 4, 1, 9), spans(1, 9)},
		{spans(1, 9, 3, 4, 5, 6, 10, 11), spans(1, 9, 10, 11)},
		{spans(1, 9, 1, 4, 4, 9), spans(1, 9)},
		{spans(1, 4, 1, 9), spans(1, 9)},
		{spans(1, 9, 4, 9), spans(1, 9)},
		{spans(2, 3, 2, 3, 2, 3), spans(2, 3)},
		{spans(-3, -1, -1, 0, 1, 2), spans(-3, 0, 1, 2)},
		{spans(8, 9, 6, 7, 4, 5, 2, 3, 0, 1), spans(0, 1, 2, 3, 4, 5, 6, 7, 8, 9)},
		{spans(8, 9, 6, 7, 4, 5, 2, 3, 0, 1, 1, 2, 7, 8), spans(0, 3, 4, 5, 6, 9)},
		{spans(0, greatest, least, 0), spans(least, greatest)},
		{spans(0, greatest, least, -1), spans(least, -1, 0, greatest)},
		{spans(greatest-1, greatest, least, least+1), spans(least, least+1, greatest-1, greatest)},
		{spans(greatest, least, greatest, greatest, least, least), nil},
		{spans(least, greatest, least, greatest, 5, 5), spans(least, greatest)},
	} {
		if got := Normalize(c.l); !slices.Equal(got, c.want) {
			t.Errorf("Normalize(%v) = %v; want %v", c.l, got, c.want)
		}
	}
}

func TestNormalizeAllLists(t *testing.T) {
	for _, l := range smallLists(4, 3) {
		checkNormalize(t, l, smallIntegers())
	}
	for _, l := range smallLists(3, 4) {
		checkNormalize(t, l, smallIntegers())
	}
}

// P8.3 (Union, Intersect, Subtract)

func TestSetOperations(t *testing.T) {
	for _, c := range []struct{ a, b, union, intersection, difference []Span }{
		{nil, nil, nil, nil, nil},
		{[]Span{}, []Span{}, nil, nil, nil},
		{spans(6, 6), spans(7, 5), nil, nil, nil},
		{spans(1, 2), nil, spans(1, 2), nil, spans(1, 2)},
		{nil, spans(1, 2), spans(1, 2), nil, nil},
		{spans(1, 2), spans(9, 0), spans(1, 2), nil, spans(1, 2)},
		{spans(9, 0), spans(1, 2), spans(1, 2), nil, nil},
		{spans(1, 10), spans(3, 5), spans(1, 10), spans(3, 5), spans(1, 3, 5, 10)},
		{spans(3, 5), spans(1, 10), spans(1, 10), spans(3, 5), nil},
		{spans(1, 10), spans(0, 2, 9, 12), spans(0, 12), spans(1, 2, 9, 10), spans(2, 9)},
		{spans(0, 2, 9, 12), spans(1, 10), spans(0, 12), spans(1, 2, 9, 10), spans(0, 1, 10, 12)},
		{spans(1, 2), spans(2, 3), spans(1, 3), nil, spans(1, 2)},
		{spans(2, 3), spans(1, 2), spans(1, 3), nil, spans(2, 3)},
		{spans(1, 2), spans(3, 4), spans(1, 2, 3, 4), nil, spans(1, 2)},
		{spans(1, 4), spans(2, 6), spans(1, 6), spans(2, 4), spans(1, 2)},
		{spans(2, 6), spans(1, 4), spans(1, 6), spans(2, 4), spans(4, 6)},
		{spans(2, 6), spans(2, 6), spans(2, 6), spans(2, 6), nil},
		{spans(2, 6), spans(2, 4, 4, 6), spans(2, 6), spans(2, 6), nil},
		{spans(2, 4, 4, 6), spans(3, 5), spans(2, 6), spans(3, 5), spans(2, 3, 5, 6)},
		{spans(5, 7, 1, 3), spans(6, 6, 3, 5), spans(1, 7), nil, spans(1, 3, 5, 7)},
		{spans(1, 9, 2, 3), spans(2, 3), spans(1, 9), spans(2, 3), spans(1, 2, 3, 9)},
		{spans(1, 9), spans(1, 3), spans(1, 9), spans(1, 3), spans(3, 9)},
		{spans(1, 9), spans(7, 9), spans(1, 9), spans(7, 9), spans(1, 7)},
		{spans(1, 3, 5, 7, 9, 11), spans(2, 10), spans(1, 11), spans(2, 3, 5, 7, 9, 10), spans(1, 2, 10, 11)},
		{spans(9, 11, 5, 7, 1, 3), spans(6, 10, 4, 4, 2, 6), spans(1, 11), spans(2, 3, 5, 7, 9, 10), spans(1, 2, 10, 11)},
		{spans(least, greatest), spans(0, 1), spans(least, greatest), spans(0, 1), spans(least, 0, 1, greatest)},
		{spans(least, 0), spans(0, greatest), spans(least, greatest), nil, spans(least, 0)},
		{spans(least, greatest), spans(least, greatest), spans(least, greatest), spans(least, greatest), nil},
		{spans(least, greatest), spans(least, least+1, greatest-1, greatest), spans(least, greatest), spans(least, least+1, greatest-1, greatest), spans(least+1, greatest-1)},
		{spans(greatest, greatest, greatest, least), spans(greatest-1, greatest), spans(greatest-1, greatest), nil, nil},
	} {
		if got := Union(c.a, c.b); !slices.Equal(got, c.union) {
			t.Errorf("Union(%v, %v) = %v; want %v", c.a, c.b, got, c.union)
		}
		if got := Intersect(c.a, c.b); !slices.Equal(got, c.intersection) {
			t.Errorf("Intersect(%v, %v) = %v; want %v", c.a, c.b, got, c.intersection)
		}
		if got := Subtract(c.a, c.b); !slices.Equal(got, c.difference) {
			t.Errorf("Subtract(%v, %v) = %v; want %v", c.a, c.b, got, c.difference)
		}
	}
}

// The examples of small spans at other places, among them the ends of int: their order alone decides.
func TestSetOperationsAtOtherPlaces(t *testing.T) {
	lists := smallLists(4, 1)
	for _, l := range smallLists(4, 2) {
		if len(l) == 2 && Valid(l[0]) && Valid(l[1]) {
			lists = append(lists, l)
		}
	}
	for _, a := range lists {
		for _, b := range lists {
			for _, o := range operations() {
				result := o.apply(a, b)
				for name, place := range placements() {
					if got := o.apply(placed(a, place), placed(b, place)); !slices.Equal(got, placed(result, place)) {
						t.Errorf("%s: %s(%v, %v) = %v", name, o.name, placed(a, place), placed(b, place), got)
					}
				}
			}
		}
	}
}

func TestOtherFunctionsAtOtherPlaces(t *testing.T) {
	for name, place := range placements() {
		for _, small := range smallLists(4, 2) {
			l := placed(small, place)
			if got := Normalize(l); !slices.Equal(got, placed(Normalize(small), place)) {
				t.Errorf("%s: Normalize(%v) = %v", name, l, got)
			}
			for x, y := range place {
				if Contains(l, y) != Contains(small, x) {
					t.Errorf("%s: Contains(%v, %d) = %v", name, l, y, Contains(l, y))
				}
			}
			for _, within := range smallSpans(4) {
				moved := Span{From: place[within.From], To: place[within.To]}
				if got := Gaps(l, moved); !slices.Equal(got, placed(Gaps(small, within), place)) {
					t.Errorf("%s: Gaps(%v, %v) = %v", name, l, moved, got)
				}
			}
		}
	}
}

// P8.4 (Length)

func TestLength(t *testing.T) {
	for _, c := range []struct {
		l    []Span
		want int
	}{
		{nil, 0},
		{[]Span{}, 0},
		{spans(1, 4, 2, 6), 5},
		{spans(2, 6, 1, 4), 5},
		{spans(6, 6), 0},
		{spans(7, 5), 0},
		{spans(7, 5, 1, 2), 1},
		{spans(1, 3, 3, 4), 3},
		{spans(1, 3, 4, 5), 3},
		{spans(1, 9, 3, 4), 8},
		{spans(2, 5, 2, 5), 3},
		{spans(-3, -1, -1, 2), 5},
		{spans(greatest, least), 0},
		{spans(least, least, greatest, greatest), 0},
		{spans(least, least+1, greatest-1, greatest), 2},
		{spans(0, greatest), greatest},
		{spans(0, greatest, 0, greatest, 5, 9, 9, 5), greatest},
		{spans(least, -1), greatest},
		{spans(-1, greatest-1), greatest},
		{spans(1, greatest), greatest - 1},
		{spans(least, least+1, 1, greatest), greatest},
		{spans(-5, -3, 2, greatest), greatest},
		{spans(2, greatest, -3, -2, -5, -4), greatest},
		{spans(least, -1<<62, 1, 1<<62), greatest},
	} {
		if n, ok := Length(c.l); n != c.want || !ok {
			t.Errorf("Length(%v) = %d, %v; want %d", c.l, n, ok, c.want)
		}
	}
}

func TestLengthAboveTheGreatestInt(t *testing.T) {
	for _, l := range [][]Span{
		spans(-1, greatest),
		spans(least, 0),
		spans(least, 1),
		spans(least, greatest),
		spans(least, greatest-1),
		spans(-1<<62, 1<<62),
		spans(least, -1<<62, 0, 1<<62),
		spans(least, least+1, 0, greatest),
		spans(0, greatest, least, least+1),
		spans(-5, -3, 1, greatest),
		spans(least, -1, 1, greatest),
		spans(least, -1, 0, greatest),
		spans(0, greatest, -1, 0),
		spans(-1, 5, 2, greatest),
		spans(least, -1<<62, -1<<62+1, -1, 0, 1<<62, 1<<62+1, greatest),
		spans(1<<62+1, greatest, 0, 1<<62, -1<<62+1, -1, least, -1<<62, 9, 3),
	} {
		if n, ok := Length(l); n != 0 || ok {
			t.Errorf("Length(%v) = %d, %v", l, n, ok)
		}
	}
}

func TestLengthOfAllLists(t *testing.T) {
	for _, l := range smallLists(4, 3) {
		checkLength(t, l)
	}
	for _, place := range placements() {
		for _, l := range smallLists(4, 2) {
			checkLength(t, placed(l, place))
		}
	}
	for at := range 70 {
		for _, l := range [][]Span{spans(-at, greatest-10, 0, 5), spans(-at, -2, 0, greatest-40), spans(least, -at, 5, 20), spans(0, greatest-30, greatest-29, greatest, -at, -1)} {
			checkLength(t, l)
		}
	}
}

// P8.5 (Gaps)

func TestGaps(t *testing.T) {
	for _, c := range []struct {
		l      []Span
		within Span
		want   []Span
	}{
		{spans(1, 3, 5, 6), Span{0, 8}, spans(0, 1, 3, 5, 6, 8)},
		{spans(5, 6, 1, 3), Span{0, 8}, spans(0, 1, 3, 5, 6, 8)},
		{nil, Span{0, 8}, spans(0, 8)},
		{[]Span{}, Span{0, 8}, spans(0, 8)},
		{spans(5, 5, 7, 2), Span{0, 8}, spans(0, 8)},
		{nil, Span{3, 3}, nil},
		{nil, Span{3, 2}, nil},
		{nil, Span{}, nil},
		{spans(1, 3, 5, 6), Span{4, 4}, nil},
		{spans(1, 3, 5, 6), Span{8, 0}, nil},
		{spans(0, 9), Span{0, 9}, nil},
		{spans(0, 9), Span{2, 4}, nil},
		{spans(0, 4, 4, 9), Span{2, 7}, nil},
		{spans(0, 4, 5, 9), Span{2, 7}, spans(4, 5)},
		{spans(0, 3, 7, 9), Span{3, 7}, spans(3, 7)},
		{spans(0, 3, 7, 9), Span{2, 8}, spans(3, 7)},
		{spans(0, 1, 10, 12), Span{3, 7}, spans(3, 7)},
		{spans(3, 4), Span{3, 7}, spans(4, 7)},
		{spans(6, 7), Span{3, 7}, spans(3, 6)},
		{spans(4, 6, 4, 6, 5, 6), Span{3, 7}, spans(3, 4, 6, 7)},
		{nil, Span{least, greatest}, spans(least, greatest)},
		{spans(0, 1), Span{least, greatest}, spans(least, 0, 1, greatest)},
		{spans(least, greatest), Span{least, greatest}, nil},
		{spans(least+1, greatest-1), Span{least, greatest}, spans(least, least+1, greatest-1, greatest)},
		{spans(least, greatest), Span{greatest, least}, nil},
		{nil, Span{greatest, greatest}, nil},
	} {
		if got := Gaps(c.l, c.within); !slices.Equal(got, c.want) {
			t.Errorf("Gaps(%v, %v) = %v; want %v", c.l, c.within, got, c.want)
		}
	}
}

func TestGapsOfAllLists(t *testing.T) {
	for _, l := range smallLists(4, 2) {
		for _, within := range smallSpans(4) {
			checkGaps(t, l, within, smallIntegers())
		}
	}
	for _, l := range smallLists(3, 3) {
		for _, within := range smallSpans(3) {
			checkGaps(t, l, within, smallIntegers())
		}
	}
}

// P8.6 (algebra)

func TestSetOperationsOfAllLists(t *testing.T) {
	lists := smallLists(3, 2)
	for _, a := range lists {
		for _, b := range lists {
			for _, o := range operations() {
				checkOperation(t, o, a, b, smallIntegers())
			}
		}
	}
	long, short := smallLists(2, 3), smallLists(2, 2)
	for _, a := range long {
		for _, b := range short {
			for _, o := range operations() {
				checkOperation(t, o, a, b, smallIntegers())
				checkOperation(t, o, b, a, smallIntegers())
			}
		}
	}
}

// Two spans in each list, all with ends of their own, in all orders of these ends.
func TestSetOperationsInAllOrdersOfEnds(t *testing.T) {
	xs := []int{-1, 0, 1, 2, 3, 4, 5, 6, 7, 8}
	for _, ends := range permutations(8) {
		for _, o := range operations() {
			checkOperation(t, o, spans(ends[:4]...), spans(ends[4:]...), xs)
		}
	}
}

func TestContainsAgreesWithSetOperations(t *testing.T) {
	lists := [][]Span{nil, spans(1, 3, 5, 6), spans(5, 9, 2, 6), spans(4, 4, 8, 1), spans(least, 2), spans(3, greatest), spans(least, greatest), spans(greatest-2, greatest, least, least+2)}
	for _, a := range lists {
		for _, b := range lists {
			for _, o := range operations() {
				result := o.apply(a, b)
				for _, x := range near(a, b) {
					if Contains(result, x) != o.wanted(Contains(a, x), Contains(b, x)) {
						t.Errorf("Contains(%v, %d) = %v after %s of %v and %v", result, x, Contains(result, x), o.name, a, b)
					}
				}
			}
		}
	}
}

func TestLongLists(t *testing.T) {
	const limit = 20000
	for seed, n := range []int{10, 100, 700, 3000, 30000} {
		a, b := scattered(seed, n, limit, limit/n+3), scattered(seed+100, n, limit, 2*limit/n+2)
		inA, inB := marked(a, limit), marked(b, limit)
		check := func(name string, got []Span, wanted func(x int) bool) {
			if !isNormalized(got) {
				t.Errorf("%s of %d spans is not normalized", name, n)
			}
			in := marked(got, limit)
			for x := range limit + 1 {
				if in[x] != wanted(x) {
					t.Errorf("%s of %d spans is wrong for %d", name, n, x)
					return
				}
			}
		}
		check("Normalize", Normalize(a), func(x int) bool { return inA[x] })
		check("Normalize", Normalize(b), func(x int) bool { return inB[x] })
		check("Gaps", Gaps(a, Span{From: 50, To: limit - 60}), func(x int) bool { return x >= 50 && x < limit-60 && !inA[x] })
		for _, o := range operations() {
			check(o.name, o.apply(a, b), func(x int) bool { return o.wanted(inA[x], inB[x]) })
		}
		count := 0
		for x := range limit + 1 {
			if inA[x] {
				count++
			}
		}
		if got, ok := Length(a); got != count || !ok {
			t.Errorf("Length of %d spans = %d, %v; want %d", n, got, ok, count)
		}
	}
}

// Lists whose spans stay apart, so that results are long too.
func TestManySpans(t *testing.T) {
	const n = 100000
	var even, odd []Span
	for i := n - 1; i >= 0; i-- {
		even = append(even, Span{From: 4 * i, To: 4*i + 2})
		odd = append(odd, Span{From: 4*i + 2, To: 4*i + 4})
	}
	if got := Union(even, odd); !slices.Equal(got, spans(0, 4*n)) {
		t.Errorf("Union of many spans has %d spans", len(got))
	}
	if got := Intersect(even, odd); len(got) != 0 {
		t.Errorf("Intersect of many spans has %d spans", len(got))
	}
	slices.Reverse(even)
	if got := Subtract(even, odd); !slices.Equal(got, even) {
		t.Errorf("Subtract of many spans has %d spans", len(got))
	}
	if got := Gaps(odd, Span{From: 0, To: 4 * n}); !slices.Equal(got, even) {
		t.Errorf("Gaps of many spans has %d spans", len(got))
	}
	if got, ok := Length(odd); got != 2*n || !ok {
		t.Errorf("Length of many spans = %d, %v", got, ok)
	}
}

// P8.7 (normal form)

func TestNormalizedListsStay(t *testing.T) {
	count := 0
	for _, l := range smallLists(6, 3) {
		if !isNormalized(l) {
			continue
		}
		count++
		if got := Normalize(l); !slices.Equal(got, l) {
			t.Errorf("Normalize(%v) = %v", l, got)
		}
		for _, got := range [][]Span{Union(l, l), Union(l, nil), Union(nil, l), Intersect(l, l), Subtract(l, nil)} {
			if !slices.Equal(got, l) {
				t.Errorf("%v became %v", l, got)
			}
		}
	}
	// Each set of the integers from 0 to 5 that has up to three runs; all 64 have.
	if count != 64 {
		t.Errorf("%d lists are normalized", count)
	}
	for _, l := range [][]Span{spans(least, greatest), spans(least, -1, 0, greatest), spans(least, least+1, least+2, 0, greatest-1, greatest)} {
		if got := Normalize(l); !slices.Equal(got, l) {
			t.Errorf("Normalize(%v) = %v", l, got)
		}
	}
}

// Lists with the same set have the same normalized list, which is one of them.
func TestOneNormalizedListForEachSet(t *testing.T) {
	found := map[[5]bool][]Span{}
	for _, l := range smallLists(4, 3) {
		set, got := [5]bool(marked(l, 4)), Normalize(l)
		if other, ok := found[set]; ok && !slices.Equal(got, other) {
			t.Errorf("Normalize(%v) = %v; want %v", l, got, other)
		}
		found[set] = got
		if again := Normalize(got); !slices.Equal(again, got) {
			t.Errorf("Normalize(%v) = %v", got, again)
		}
	}
	if len(found) != 16 {
		t.Errorf("%d sets were found", len(found))
	}
}

func TestOrderOfArguments(t *testing.T) {
	lists := smallLists(3, 2)
	for _, a := range lists {
		for _, b := range lists {
			if got, other := Union(a, b), Union(b, a); !slices.Equal(got, other) {
				t.Errorf("Union(%v, %v) = %v, but %v in the other order", a, b, got, other)
			}
			if got, other := Intersect(a, b), Intersect(b, a); !slices.Equal(got, other) {
				t.Errorf("Intersect(%v, %v) = %v, but %v in the other order", a, b, got, other)
			}
		}
	}
}

func TestOrderOfSpans(t *testing.T) {
	l := spans(5, 7, 1, 3, 3, 4, 6, 6, 9, 8)
	for range len(l) {
		l = append(l[1:], l[0])
		for i := range l {
			m := slices.Clone(l)
			m[0], m[i] = m[i], m[0]
			if got := Normalize(m); !slices.Equal(got, spans(1, 4, 5, 7)) {
				t.Errorf("Normalize(%v) = %v", m, got)
			}
			if got := Subtract(spans(0, 9), m); !slices.Equal(got, spans(0, 1, 4, 5, 7, 9)) {
				t.Errorf("Subtract(%v, %v) = %v", spans(0, 9), m, got)
			}
			if n, ok := Length(m); n != 5 || !ok {
				t.Errorf("Length(%v) = %d, %v", m, n, ok)
			}
		}
	}
}

// P8.8 (measure)

// checkMeasure checks both equations for the lengths of a and b, if they exist.
func checkMeasure(t *testing.T, a, b []Span) bool {
	t.Helper()
	var lengths []int
	for _, l := range [][]Span{a, b, Union(a, b), Intersect(a, b), Subtract(a, b)} {
		n, ok := Length(l)
		if !ok {
			return false
		}
		lengths = append(lengths, n)
	}
	sum := func(i, j int) *big.Int {
		return new(big.Int).Add(big.NewInt(int64(lengths[i])), big.NewInt(int64(lengths[j])))
	}
	if sum(2, 3).Cmp(sum(0, 1)) != 0 || sum(3, 4).Cmp(big.NewInt(int64(lengths[0]))) != 0 {
		t.Errorf("%v and %v have the lengths %v of the lists, the union, the intersection and the difference", a, b, lengths)
	}
	return true
}

func TestMeasure(t *testing.T) {
	lists := smallLists(4, 2)
	for i, a := range lists {
		for j, b := range lists {
			if (i+j)%7 == 0 && !checkMeasure(t, a, b) {
				t.Errorf("%v or %v has no length", a, b)
			}
		}
	}
	counts := map[bool]int{}
	few := smallLists(4, 1)
	for _, place := range placements() {
		for _, a := range few {
			for _, b := range few {
				counts[checkMeasure(t, placed(a, place), placed(b, place))]++
			}
		}
	}
	if counts[true] < 1000 || counts[false] < 100 {
		t.Errorf("%v pairs have lengths or none", counts)
	}
}

// Rules: arguments are unchanged, and results are new memory.

// roomy returns l with memory behind it, and a function that reports whether all of it is unchanged.
func roomy(l []Span) ([]Span, func() bool) {
	all := append(slices.Clone(l), spans(77, 78, 3, 99, 0, 5, 20, 10, 77, 76, 30, 31)...)
	before := slices.Clone(all)
	return all[:len(l)], func() bool { return slices.Equal(all, before) }
}

// results returns the results of all functions that return lists.
func results(a, b []Span) map[string][]Span {
	return map[string][]Span{
		"Normalize": Normalize(a), "Union": Union(a, b), "Intersect": Intersect(a, b), "Subtract": Subtract(a, b),
		"Gaps": Gaps(a, Span{From: 0, To: 9}), "Union with nil": Union(a, nil), "Union of nil": Union(nil, b),
		"Intersect with itself": Intersect(a, a), "Subtract nil": Subtract(a, nil), "Normalize the second": Normalize(b),
	}
}

func TestArgumentsAreUnchanged(t *testing.T) {
	lists := [][]Span{nil, spans(1, 2), spans(5, 7, 1, 3, 3, 4, 6, 6), spans(1, 3, 5, 7), spans(9, 2, 2, 4, 1, 8), spans(least, greatest), spans(8, 9, 4, 4, 1, 2)}
	for _, one := range lists {
		for _, other := range lists {
			a, sameA := roomy(one)
			b, sameB := roomy(other)
			want := results(slices.Clone(one), slices.Clone(other))
			got := results(a, b)
			Contains(a, 3)
			Length(a)
			if !sameA() || !sameB() {
				t.Errorf("%v or %v was changed", one, other)
			}
			for name, l := range got {
				if !slices.Equal(l, want[name]) {
					t.Errorf("%s of %v and %v = %v; want %v", name, one, other, l, want[name])
				}
				// What a result has room for must not be the memory of an argument either.
				for i := range l[:cap(l)] {
					l[:cap(l)][i] = Span{From: -1000, To: -999}
				}
			}
			if !sameA() || !sameB() {
				t.Errorf("a result shares memory with %v or %v", one, other)
			}
		}
	}
}

func TestResultsShareNoMemory(t *testing.T) {
	a, b := spans(1, 3, 5, 7, 10, 12), spans(2, 6, 8, 9)
	first, second := results(a, b), results(a, b)
	for _, l := range first {
		for i := range l[:cap(l)] {
			l[:cap(l)][i] = Span{From: -1000, To: -999}
		}
	}
	third := results(a, b)
	for name, l := range second {
		if len(l) == 0 || !slices.Equal(l, third[name]) {
			t.Errorf("%s = %v after another result was changed; want %v", name, l, third[name])
		}
	}
}

func TestArgumentsAreNotKept(t *testing.T) {
	a, b := spans(1, 3, 5, 7), spans(2, 6)
	got, want := results(a, b), results(slices.Clone(a), slices.Clone(b))
	a[0], a[1], b[0] = Span{From: 50, To: 60}, Span{}, Span{From: 0, To: 99}
	for name, l := range got {
		if !slices.Equal(l, want[name]) {
			t.Errorf("%s = %v after its arguments were changed; want %v", name, l, want[name])
		}
	}
	if Contains(a, 2) || !Contains(a, 55) {
		t.Error("Contains remembers an earlier list")
	}
}

// P1: every function terminates and does not panic.

func FuzzInterval(f *testing.F) {
	f.Add([]byte{}, 3, 3)
	f.Add([]byte{5, 7, 1, 3, 3, 4, 6, 6}, 4, 2)
	f.Add([]byte{128, 127, 127, 128, 255, 0, 130, 125, 64, 65}, 2, 1)
	f.Fuzz(func(t *testing.T, bytes []byte, scale, cut int) {
		var l []Span
		for i := 0; i+1 < len(bytes) && i < 200; i += 2 {
			// Beyond some distance, bytes stand for integers at the ends of int.
			end := func(c byte) int {
				switch x := int(int8(c)); {
				case x > 100:
					return greatest - 127 + x
				case x < -100:
					return least + 128 + x
				default:
					return x * scale
				}
			}
			l = append(l, Span{From: end(bytes[i]), To: end(bytes[i+1])})
		}
		n := 0
		if len(l) > 0 {
			n = int(uint(cut) % uint(len(l)+1))
		}
		a, b := l[:n], l[n:]
		xs := near(l)
		for _, o := range operations() {
			checkOperation(t, o, a, b, xs)
		}
		checkNormalize(t, l, xs)
		checkLength(t, l)
		checkMeasure(t, a, b)
		for _, x := range xs {
			if Contains(l, x) != isMember(l, x) {
				t.Errorf("Contains(%v, %d) = %v", l, x, Contains(l, x))
			}
		}
		within := Span{From: scale, To: cut}
		checkGaps(t, l, within, append(near([]Span{within}), xs...))
		if len(b) > 0 {
			checkGaps(t, l, b[0], xs)
			checkGaps(t, a, b[0], xs)
		}
	})
}
