package footpath

import (
	"fmt"
	"math"
	"slices"
	"strconv"
	"strings"
	"testing"

	"transit/api"
)

// The limits as the document states them.
const (
	mostPaths = 512
	mostStops = 64
	mostWalk  = 14400
)

const (
	least    = math.MinInt
	greatest = math.MaxInt
)

// The chapter's definitions.

// exists reports whether stop is from 0 to stops - 1.
func exists(stop, stops int) bool {
	return stops > 0 && stop >= 0 && stop <= stops-1
}

// wantedError returns the error of the footpath i.
func wantedError(l []api.Footpath, i int, stops int) api.Errno {
	p := l[i]
	if !exists(p.From, stops) || !exists(p.To, stops) || p.From == p.To {
		return api.ErrReference
	}
	if p.Seconds <= 0 || p.Seconds > mostWalk {
		return api.ErrRange
	}
	for _, earlier := range l[:i] {
		if earlier.From == p.From && earlier.To == p.To && earlier.StepFree == p.StepFree {
			return api.ErrDuplicate
		}
	}
	return api.OK
}

// wantedFirst returns the index and the error of the first footpath that is not valid.
func wantedFirst(l []api.Footpath, stops int) (int, api.Errno) {
	for i := range l {
		if e := wantedError(l, i, stops); e != api.OK {
			return i, e
		}
	}
	return 0, api.OK
}

// wantedCheck returns what Check must return.
func wantedCheck(l []api.Footpath, stops int) (int, api.Errno) {
	if len(l) > mostPaths {
		return 0, api.ErrLimit
	}
	return wantedFirst(l, stops)
}

// table has the times of walks from one stop to another, 0 where there is none.
type table [][]int

// newTable returns a table without walks for the stops of the footpaths.
func newTable(l []api.Footpath) table {
	stops := 0
	for _, p := range l {
		stops = max(stops, p.From+1, p.To+1)
	}
	times := make(table, stops)
	for i := range times {
		times[i] = make([]int, stops)
	}
	return times
}

// shortestWalks returns the times of the shortest walks over valid footpaths, or over those that are StepFree, however long they take. A walk is made longer by a footpath at its end, until none is shorter than what is known.
func shortestWalks(l []api.Footpath, stepFree bool) table {
	times := newTable(l)
	for start := range times {
		reached := times[start]
		for changed := true; changed; {
			changed = false
			for _, p := range l {
				if stepFree && !p.StepFree {
					continue
				}
				before := reached[p.From]
				if p.From == start {
					// The walk may begin with this footpath.
					before = 0
				} else if before == 0 {
					continue
				}
				if now := reached[p.To]; now == 0 || before+p.Seconds < now {
					reached[p.To] = before + p.Seconds
					changed = true
				}
			}
		}
	}
	return times
}

// closureOf returns the entries of a closure, given the times of the shortest walks and of the shortest step-free walks.
func closureOf(quick, free table) []api.Footpath {
	var l []api.Footpath
	for from := range quick {
		for to, time := range quick[from] {
			if from == to {
				continue
			}
			freeTime := free[from][to]
			if time > 0 && time <= mostWalk {
				l = append(l, api.Footpath{From: from, To: to, Seconds: time, StepFree: freeTime == time})
			}
			if freeTime > time && freeTime <= mostWalk {
				l = append(l, api.Footpath{From: from, To: to, Seconds: freeTime, StepFree: true})
			}
		}
	}
	return l
}

// wantedClosure returns the closure of valid footpaths; stops that no footpath touches have no entries.
func wantedClosure(l []api.Footpath) []api.Footpath {
	return closureOf(shortestWalks(l, false), shortestWalks(l, true))
}

// allWalks returns the times of the shortest of all walks that use no footpath twice; only short lists have few of them.
func allWalks(l []api.Footpath, stepFree bool) table {
	times := newTable(l)
	used := make([]bool, len(l))
	var walk func(start, at, time int)
	walk = func(start, at, time int) {
		for i, p := range l {
			if used[i] || p.From != at || stepFree && !p.StepFree {
				continue
			}
			if known := times[start][p.To]; known == 0 || time+p.Seconds < known {
				times[start][p.To] = time + p.Seconds
			}
			used[i] = true
			walk(start, p.To, time+p.Seconds)
			used[i] = false
		}
	}
	for start := range times {
		walk(start, start, 0)
	}
	return times
}

// wantedClose returns what Close must return.
func wantedClose(l []api.Footpath, stops int) ([]api.Footpath, api.Errno) {
	if stops > mostStops {
		return nil, api.ErrLimit
	}
	if _, e := wantedCheck(l, stops); e != api.OK {
		return nil, e
	}
	return wantedClosure(l), api.OK
}

// wantedTime returns what Time must return.
func wantedTime(l []api.Footpath, from, to int, stepFree bool) (int, bool) {
	var times []int
	for _, p := range l {
		if p.From == from && p.To == to && (!stepFree || p.StepFree) {
			times = append(times, p.Seconds)
		}
	}
	if len(times) == 0 {
		return 0, false
	}
	return slices.Min(times), true
}

// wantedAround returns what Around must return.
func wantedAround(l []api.Footpath, stop, most int, stepFree bool) []int {
	var candidates, near []int
	for _, p := range l {
		if p.From == stop {
			candidates = append(candidates, p.To)
		}
	}
	slices.Sort(candidates)
	for _, to := range slices.Compact(candidates) {
		if time, ok := wantedTime(l, stop, to, stepFree); ok && time <= most {
			near = append(near, to)
		}
	}
	return near
}

// wantedClosed returns what IsClosed must return.
func wantedClosed(l []api.Footpath, stops int) bool {
	if stops > mostStops {
		return false
	}
	if _, e := wantedFirst(l, stops); e != api.OK {
		return false
	}
	c := wantedClosure(l)
	if len(c) != len(l) {
		return false
	}
	for i := range c {
		if c[i].From != l[i].From || c[i].To != l[i].To || c[i].Seconds != l[i].Seconds || c[i].StepFree != l[i].StepFree {
			return false
		}
	}
	return true
}

// Inputs.

// paths returns the footpaths that the text gives: each one is the two stops and the seconds, and s if it is step-free, as in 0>1:60s.
func paths(text string) []api.Footpath {
	var l []api.Footpath
	number := func(text string) int {
		n, err := strconv.Atoi(text)
		if err != nil {
			panic(err)
		}
		return n
	}
	for _, word := range strings.Fields(text) {
		from, rest, _ := strings.Cut(word, ">")
		to, seconds, _ := strings.Cut(rest, ":")
		seconds, stepFree := strings.CutSuffix(seconds, "s")
		l = append(l, api.Footpath{From: number(from), To: number(to), Seconds: number(seconds), StepFree: stepFree})
	}
	return l
}

// given returns the footpaths of the chapter's examples.
func given() []api.Footpath {
	return paths("0>1:60s 1>2:60 0>2:200s")
}

// valid returns n valid footpaths between up to 64 stops, in no order; up to 512 of them have different ends.
func valid(n int) []api.Footpath {
	var l []api.Footpath
	for i := range n {
		from := i * 7 % mostStops
		l = append(l, api.Footpath{From: from, To: (from + 1 + i/mostStops*5%63) % mostStops, Seconds: 1 + i*29%mostWalk, StepFree: i%3 == 0})
	}
	return l
}

// complete returns footpaths from each of the stops to each other one, a step-free one and another one, in the order of a closure if the step-free ones take longer.
func complete(stops, seconds, stepFree int) []api.Footpath {
	var l []api.Footpath
	for from := range stops {
		for to := range stops {
			if from != to {
				l = append(l, api.Footpath{From: from, To: to, Seconds: seconds}, api.Footpath{From: from, To: to, Seconds: stepFree, StepFree: true})
			}
		}
	}
	return l
}

// ring returns footpaths round the stops, a step-free one and another one from each of them to the next one.
func ring(stops, seconds, stepFree int) []api.Footpath {
	var l []api.Footpath
	for from := range stops {
		to := (from + 1) % stops
		l = append(l, api.Footpath{From: from, To: to, Seconds: seconds}, api.Footpath{From: from, To: to, Seconds: stepFree, StepFree: true})
	}
	return l
}

// chain returns footpaths with those times, the first one from stop 0 to stop 1, each from the stop at which the one before it ends.
func chain(stepFree bool, times ...int) []api.Footpath {
	var l []api.Footpath
	for i, seconds := range times {
		l = append(l, api.Footpath{From: i, To: i + 1, Seconds: seconds, StepFree: stepFree})
	}
	return l
}

// split returns n times, none of which is 0, whose sum is total.
func split(total, n int) []int {
	times := slices.Repeat([]int{total / n}, n)
	for i := range total % n {
		times[n-1-i]++
	}
	return times
}

// moved returns the footpaths between other stops.
func moved(l []api.Footpath, place func(stop int) int) []api.Footpath {
	l = slices.Clone(l)
	for i, p := range l {
		l[i].From, l[i].To = place(p.From), place(p.To)
	}
	return l
}

// kinds returns footpaths between three stops, some of which are not valid.
func kinds() []api.Footpath {
	return paths("0>1:60s 0>1:50 1>2:60s 1>2:61 0>2:120 0>2:110s 2>0:7 1>0:14400s 2>1:14394 1>1:5 2>3:9s 0>1:0 2>1:14401s")
}

// strange returns footpaths that cannot be in one valid list: several between the same stops, from a stop to itself, of stops and with times that do not exist.
func strange() []api.Footpath {
	l := paths("0>1:60s 0>1:50 0>1:50s 0>1:70 0>2:-5 0>2:3s 0>0:4s 0>0:0 1>1:-9 1>1:-9s 1>0:0s 2>0:14401 2>0:20000s 2>64:9 2>-1:9s -1>2:8s -1>-1:8 64>65:1s 65>64:2")
	for _, stop := range []int{least, greatest, 1 << 32, -1 << 32} {
		l = append(l, api.Footpath{From: stop, To: 0, Seconds: 5}, api.Footpath{From: 0, To: stop, Seconds: 6, StepFree: true}, api.Footpath{From: stop, To: stop, Seconds: -7})
	}
	for _, seconds := range []int{least, least + 1, -1, 0, 1, greatest - 1, greatest} {
		l = append(l, api.Footpath{From: 3, To: 4, Seconds: seconds, StepFree: seconds > 0}, api.Footpath{From: 3, To: seconds, Seconds: seconds, StepFree: seconds < 0})
	}
	return l
}

// integers returns different integers at the limits of this chapter and at those of the integer types.
func integers() []int {
	list := []int{least, least + 1, greatest, greatest - 1}
	for _, n := range []int{0, 60, 100, mostStops, mostPaths, mostWalk} {
		list = append(list, n-1, n, n+1, -n-1, -n, -n+1)
	}
	for shift := range 63 {
		n := 1 << shift
		list = append(list, n-1, n, n+1, -n-1, -n, -n+1)
	}
	slices.Sort(list)
	return slices.Compact(list)
}

// edgesOfInts returns the integers at the ends of the ints and around 0, and a few between them.
func edgesOfInts() []int {
	return []int{least, least + 1, -1 << 62, -1 << 32, -100, -2, -1, 0, 1, 2, 3, 63, 64, 65, 100, 1 << 32, 1 << 62, greatest - 1, greatest}
}

// lists returns all lists of up to length of the elements.
func lists[T any](elements []T, length int) [][]T {
	all := [][]T{nil}
	for from := 0; length > 0; length-- {
		to := len(all)
		for _, l := range all[from:to] {
			for _, x := range elements {
				all = append(all, append(slices.Clone(l), x))
			}
		}
		from = to
	}
	return all
}

// orders returns all orders of the elements.
func orders[T any](elements []T) [][]T {
	if len(elements) == 0 {
		return [][]T{nil}
	}
	var all [][]T
	for i, x := range elements {
		for _, rest := range orders(slices.Concat(elements[:i], elements[i+1:])) {
			all = append(all, append([]T{x}, rest...))
		}
	}
	return all
}

// source returns a function that returns integers from 0, up to the one before below, without a pattern.
func source(seed int) func(below int) int {
	state := uint64(seed)
	return func(below int) int {
		state = state*6364136223846793005 + 1442695040888963407
		return int(state>>33) % below
	}
}

// shuffled returns the elements in another order.
func shuffled[T any](elements []T, next func(below int) int) []T {
	l := slices.Clone(elements)
	for i := range l {
		j := next(i + 1)
		l[i], l[j] = l[j], l[i]
	}
	return l
}

// with returns the list with another element at the index i.
func with[T any](l []T, i int, x T) []T {
	l = slices.Clone(l)
	l[i] = x
	return l
}

// without returns the list without the element at the index i.
func without[T any](l []T, i int) []T {
	return slices.Concat(l[:i], l[i+1:])
}

// scattered returns up to n footpaths without a pattern; all of them are valid but for one in rare. The times are of a size that most walks of one list take less than MaxWalk seconds, and those of several footpaths of another one more.
func scattered(next func(below int) int, stops, n, rare int) []api.Footpath {
	var l []api.Footpath
	size := []int{3, 10, 500, 5000, 7300, 10000, mostWalk}[next(7)]
	smallest := next(2) * size * 2 / 3
	for range n {
		p := api.Footpath{From: next(stops), To: next(stops), Seconds: 1 + smallest + next(size-smallest), StepFree: next(3) > 0}
		if next(rare) == 0 {
			p.From = next(stops+2) - 1
		}
		if next(rare) == 0 {
			p.Seconds = next(2) * (mostWalk + 1)
		}
		l = append(l, p)
		if wantedError(l, len(l)-1, stops) != api.OK && next(rare) > 0 {
			l = l[:len(l)-1]
		}
	}
	return l
}

// never is a rarity with which nothing is wrong.
const never = 1 << 30

// text returns a list, or its beginning, for a report.
func text[T any](l []T) string {
	return fmt.Sprintf("%.500s of %d", fmt.Sprint(l), len(l))
}

// Checks.

func checkCheck(t *testing.T, l []api.Footpath, stops int, index int, e api.Errno) {
	t.Helper()
	if i, got := Check(l, stops); i != index || got != e {
		t.Errorf("Check(%s, %d) = %d, %d; want %d, %d", text(l), stops, i, got, index, e)
	}
}

func checkClose(t *testing.T, l []api.Footpath, stops int, want []api.Footpath, e api.Errno) {
	t.Helper()
	if c, got := Close(l, stops); !slices.Equal(c, want) || got != e {
		t.Errorf("Close(%s, %d) = %s, %d; want %s, %d", text(l), stops, text(c), got, text(want), e)
	}
}

func checkTime(t *testing.T, l []api.Footpath, from, to int, stepFree bool, time int, ok bool) {
	t.Helper()
	if n, found := Time(l, from, to, stepFree); n != time || found != ok {
		t.Errorf("Time(%s, %d, %d, %v) = %d, %v; want %d, %v", text(l), from, to, stepFree, n, found, time, ok)
	}
}

func checkAround(t *testing.T, l []api.Footpath, stop, most int, stepFree bool, want ...int) {
	t.Helper()
	if got := Around(l, stop, most, stepFree); !slices.Equal(got, want) {
		t.Errorf("Around(%s, %d, %d, %v) = %s; want %s", text(l), stop, most, stepFree, text(got), text(want))
	}
}

func checkClosed(t *testing.T, l []api.Footpath, stops int, want bool) {
	t.Helper()
	if got := IsClosed(l, stops); got != want {
		t.Errorf("IsClosed(%s, %d) = %v; want %v", text(l), stops, got, want)
	}
}

// at returns the index that Check returns with an error at index, or without an error.
func at(index int, e api.Errno) int {
	if e == api.OK {
		return 0
	}
	return index
}

// checkList compares Check, Close and IsClosed with the definitions.
func checkList(t *testing.T, l []api.Footpath, stops int) {
	t.Helper()
	index, e := wantedCheck(l, stops)
	checkCheck(t, l, stops, index, e)
	want, e := wantedClose(l, stops)
	checkClose(t, l, stops, want, e)
	checkClosed(t, l, stops, wantedClosed(l, stops))
	if e == api.OK {
		checkClosed(t, want, stops, true)
	}
}

// checkEnds compares Time with the definition, with stepFree and without.
func checkEnds(t *testing.T, l []api.Footpath, from, to int) {
	t.Helper()
	for _, stepFree := range []bool{false, true} {
		time, ok := wantedTime(l, from, to, stepFree)
		checkTime(t, l, from, to, stepFree, time, ok)
	}
}

// checkMost compares Around with the definition, with stepFree and without.
func checkMost(t *testing.T, l []api.Footpath, stop, most int) {
	t.Helper()
	for _, stepFree := range []bool{false, true} {
		checkAround(t, l, stop, most, stepFree, wantedAround(l, stop, most, stepFree)...)
	}
}

// P20.1 (Check)

func TestCheckExamples(t *testing.T) {
	checkCheck(t, given(), 3, 0, api.OK)
	checkCheck(t, given(), 2, 1, api.ErrReference)
	checkCheck(t, given()[:1], 2, 0, api.OK)
	c, _ := Close(given(), 3)
	checkCheck(t, c, 3, 0, api.OK)
}

// No footpath, one, MaxPaths and one more.
func TestCheckLimit(t *testing.T) {
	for _, stops := range edgesOfInts() {
		checkCheck(t, nil, stops, 0, api.OK)
		checkCheck(t, []api.Footpath{}, stops, 0, api.OK)
		checkCheck(t, given()[:0], stops, 0, api.OK)
	}
	for n := range mostPaths + 1 {
		checkCheck(t, valid(n), mostStops, 0, api.OK)
	}
	all := shuffled(complete(mostStops, 5, 6), source(1))
	for _, n := range []int{mostPaths + 1, mostPaths + 2, 2 * mostPaths, 256 + mostPaths, 4095, 4096, 4097, 8063, 8064} {
		checkCheck(t, all[:n], mostStops, 0, api.ErrLimit)
		checkCheck(t, all[:n][n-mostPaths:], mostStops, 0, api.OK)
	}
	for _, n := range []int{mostPaths + 1, 2 * mostPaths, 65535, 65536, 65536 + mostPaths} {
		// No footpath of a list that is too long is valid, or all of them are the same.
		checkCheck(t, make([]api.Footpath, n), mostStops, 0, api.ErrLimit)
		checkCheck(t, slices.Repeat(given()[:1], n), mostStops, 0, api.ErrLimit)
		for _, stops := range edgesOfInts() {
			checkCheck(t, make([]api.Footpath, n), stops, 0, api.ErrLimit)
		}
	}
}

// Stops from 0 to stops - 1 exist, whatever the number of stops is: Check does not limit it.
func TestCheckReference(t *testing.T) {
	for _, stops := range append(edgesOfInts(), 4, 5, 255, 256, 257, 1000) {
		for _, n := range append(integers(), stops-2, stops-1, stops, stops+1) {
			for _, other := range []int{0, 1, 2, stops - 1, stops - 2, stops} {
				e := api.ErrReference
				if exists(n, stops) && exists(other, stops) && n != other {
					e = api.OK
				}
				for _, p := range []api.Footpath{{From: n, To: other, Seconds: 60}, {From: other, To: n, Seconds: 60, StepFree: true}} {
					checkCheck(t, []api.Footpath{p}, stops, 0, e)
					if stops > 5 {
						checkCheck(t, append(paths("3>4:5s 4>3:5"), p), stops, at(2, e), e)
					}
				}
			}
			checkCheck(t, []api.Footpath{{From: n, To: n, Seconds: 60}}, stops, 0, api.ErrReference)
			checkCheck(t, []api.Footpath{{From: n, To: -1, Seconds: 60}}, stops, 0, api.ErrReference)
			checkCheck(t, []api.Footpath{{From: stops, To: n, Seconds: 60}}, stops, 0, api.ErrReference)
		}
	}
	for _, n := range edgesOfInts() {
		for _, m := range edgesOfInts() {
			for _, stops := range edgesOfInts() {
				index, e := wantedCheck([]api.Footpath{{From: n, To: m, Seconds: 60}}, stops)
				checkCheck(t, []api.Footpath{{From: n, To: m, Seconds: 60}}, stops, index, e)
			}
		}
	}
}

// Between no stops, and at one stop, there is no footpath.
func TestCheckOfFewStops(t *testing.T) {
	for stops := -2; stops <= 3; stops++ {
		count := 0
		for from := -2; from <= 4; from++ {
			for to := -2; to <= 4; to++ {
				if _, e := Check([]api.Footpath{{From: from, To: to, Seconds: 1}}, stops); e == api.OK {
					count++
				} else if e != api.ErrReference {
					t.Errorf("Check of %d to %d of %d stops = %d", from, to, stops, e)
				}
			}
		}
		if want := max(0, stops) * max(0, stops-1); count != want {
			t.Errorf("%d footpaths are valid for %d stops; want %d", count, stops, want)
		}
	}
}

func TestCheckRange(t *testing.T) {
	for _, n := range integers() {
		e := api.ErrRange
		if n >= 1 && n <= mostWalk {
			e = api.OK
		}
		for _, stepFree := range []bool{false, true} {
			checkCheck(t, []api.Footpath{{From: 0, To: 1, Seconds: n, StepFree: stepFree}}, 2, 0, e)
			checkCheck(t, append(given(), api.Footpath{From: 2, To: 0, Seconds: n, StepFree: stepFree}), 3, at(3, e), e)
			checkCheck(t, append([]api.Footpath{{From: 2, To: 0, Seconds: n, StepFree: stepFree}}, given()...), 3, 0, e)
		}
	}
	for n := range mostWalk + 2 {
		e := api.OK
		if n == 0 || n == mostWalk+1 {
			e = api.ErrRange
		}
		checkCheck(t, []api.Footpath{{From: 1, To: 0, Seconds: n}}, 2, 0, e)
	}
}

// Earlier footpaths with the same ends and StepFree, with another StepFree, with another number of seconds, and the way back.
func TestCheckDuplicate(t *testing.T) {
	for _, c := range []struct {
		l     string
		index int
		e     api.Errno
	}{
		{"0>1:60 0>1:60", 1, api.ErrDuplicate}, {"0>1:60s 0>1:60s", 1, api.ErrDuplicate}, {"0>1:60 0>1:61", 1, api.ErrDuplicate}, {"0>1:61s 0>1:60s", 1, api.ErrDuplicate}, {"0>1:60 0>1:60s", 0, api.OK}, {"0>1:60s 0>1:60", 0, api.OK}, {"0>1:60s 0>1:61", 0, api.OK}, {"0>1:60 0>1:59s", 0, api.OK},
		{"0>1:60 1>0:60", 0, api.OK}, {"0>1:60s 1>0:60s", 0, api.OK}, {"0>1:60 0>1:60s 1>0:60 1>0:60s", 0, api.OK}, {"0>1:60 0>1:60s 1>0:60 0>1:50s", 3, api.ErrDuplicate}, {"0>1:60 0>1:60s 1>0:60 0>1:50", 3, api.ErrDuplicate}, {"0>1:60 0>1:60s 1>0:60 1>0:50", 3, api.ErrDuplicate}, {"0>1:60 0>1:60s 1>0:60 1>0:50s", 0, api.OK},
		{"0>1:60 0>2:60", 0, api.OK}, {"0>1:60 2>1:60", 0, api.OK}, {"0>1:60 1>2:60", 0, api.OK}, {"0>1:60 1>2:60 2>0:60 0>1:60", 3, api.ErrDuplicate}, {"0>1:60 1>2:60 2>0:60 1>2:14400", 3, api.ErrDuplicate}, {"0>1:60 1>2:60 2>0:60 2>0:1", 3, api.ErrDuplicate},
		{"0>1:60 0>1:60 0>1:60", 1, api.ErrDuplicate}, {"0>1:60 0>1:60s 0>1:60", 2, api.ErrDuplicate}, {"0>1:60 1>2:9 1>2:9 0>1:60", 2, api.ErrDuplicate},
	} {
		checkCheck(t, paths(c.l), 3, c.index, c.e)
		checkCheck(t, moved(paths(c.l), func(stop int) int { return 63 - stop }), mostStops, c.index, c.e)
		checkCheck(t, moved(paths(c.l), func(stop int) int { return stop * 1 << 40 }), 1<<42, c.index, c.e)
	}
}

// Each pair of places of a full list.
func TestCheckDuplicateOfEachPairOfPlaces(t *testing.T) {
	l := valid(mostPaths)
	for j := range l {
		for i := range j {
			if (i+j)%61 != 0 && j-i > 3 {
				continue
			}
			p := l[i]
			p.Seconds = l[j].Seconds
			checkCheck(t, with(l, j, l[i]), mostStops, j, api.ErrDuplicate)
			checkCheck(t, with(l, j, p), mostStops, j, api.ErrDuplicate)
			p.StepFree = !p.StepFree
			checkCheck(t, with(l, j, p), mostStops, 0, api.OK)
		}
	}
}

// An earlier footpath that is not valid is found first, so that it has no duplicate.
func TestCheckDuplicateOfInvalid(t *testing.T) {
	checkCheck(t, paths("0>1:0 0>1:5"), 2, 0, api.ErrRange)
	checkCheck(t, paths("0>1:5 0>1:0"), 2, 1, api.ErrRange)
	checkCheck(t, paths("0>0:5 0>0:5"), 2, 0, api.ErrReference)
	checkCheck(t, paths("0>1:5 0>2:5 0>2:5"), 2, 1, api.ErrReference)
}

// wrong changes the footpath at an index of a list so that it is not valid; of two that apply, the one with the lower rank comes first.
type wrong struct {
	e      api.Errno
	rank   int
	change func(l []api.Footpath, i int)
}

// wrongs returns changes for each error of a footpath between 64 stops; those with a lower rank are applied last.
func wrongs() []wrong {
	return []wrong{
		{api.ErrReference, 0, func(l []api.Footpath, i int) { l[i].From = -1 }},
		{api.ErrReference, 0, func(l []api.Footpath, i int) { l[i].From = mostStops }},
		{api.ErrReference, 0, func(l []api.Footpath, i int) { l[i].From = greatest }},
		{api.ErrReference, 0, func(l []api.Footpath, i int) { l[i].From = least }},
		{api.ErrReference, 0, func(l []api.Footpath, i int) { l[i].To = -1 }},
		{api.ErrReference, 0, func(l []api.Footpath, i int) { l[i].To = mostStops }},
		{api.ErrReference, 0, func(l []api.Footpath, i int) { l[i].To = greatest }},
		{api.ErrReference, 0, func(l []api.Footpath, i int) { l[i].To = least }},
		{api.ErrReference, 0, func(l []api.Footpath, i int) { l[i].To = l[i].From }},
		{api.ErrReference, 0, func(l []api.Footpath, i int) { l[i].From = l[i].To }},
		{api.ErrRange, 1, func(l []api.Footpath, i int) { l[i].Seconds = 0 }},
		{api.ErrRange, 1, func(l []api.Footpath, i int) { l[i].Seconds = -1 }},
		{api.ErrRange, 1, func(l []api.Footpath, i int) { l[i].Seconds = mostWalk + 1 }},
		{api.ErrRange, 1, func(l []api.Footpath, i int) { l[i].Seconds = greatest }},
		{api.ErrRange, 1, func(l []api.Footpath, i int) { l[i].Seconds = least }},
		{api.ErrDuplicate, 2, func(l []api.Footpath, i int) { l[i] = l[0] }},
		{api.ErrDuplicate, 2, func(l []api.Footpath, i int) {
			l[i].From, l[i].To, l[i].StepFree = l[0].From, l[0].To, l[0].StepFree
		}},
	}
}

// needsEarlier reports whether the change is about an earlier footpath.
func (w wrong) needsEarlier() bool {
	return w.e == api.ErrDuplicate
}

// places returns the indices of some footpaths of a full list.
func places() []int {
	return []int{0, 1, 2, 3, 62, 63, 64, 65, 127, 255, 256, 300, mostPaths - 2, mostPaths - 1}
}

// checkScene checks what Check and Close return for a full list with those changes, and for its beginning up to the last one.
func checkScene(t *testing.T, index int, e api.Errno, last int, change func(l []api.Footpath)) {
	t.Helper()
	l := valid(mostPaths)
	change(l)
	for _, list := range [][]api.Footpath{l, l[:last+1]} {
		checkCheck(t, list, mostStops, index, e)
		checkClose(t, list, mostStops, nil, e)
		checkClose(t, list, mostStops+1, nil, api.ErrLimit)
		checkClosed(t, list, mostStops, false)
	}
	checkCheck(t, l[:index], mostStops, 0, api.OK)
}

// Each change is an error on its own, and gives nothing but the index and the error.
func TestCheckEachError(t *testing.T) {
	for _, w := range wrongs() {
		for i := range mostPaths {
			if i == 0 && w.needsEarlier() {
				continue
			}
			l := valid(mostPaths)
			w.change(l, i)
			checkCheck(t, l, mostStops, i, w.e)
			if slices.Contains(places(), i) {
				checkScene(t, i, w.e, i, func(l []api.Footpath) { w.change(l, i) })
			}
		}
	}
}

// Of several errors of one footpath, the one that the promise names first is returned.
func TestCheckErrorsOfOneFootpath(t *testing.T) {
	for _, first := range wrongs() {
		for _, second := range wrongs() {
			if first.rank >= second.rank {
				continue
			}
			for _, i := range places()[1:] {
				checkScene(t, i, first.e, i, func(l []api.Footpath) {
					second.change(l, i)
					first.change(l, i)
				})
			}
			for _, third := range wrongs() {
				if second.rank < third.rank {
					checkScene(t, 9, first.e, 9, func(l []api.Footpath) {
						third.change(l, 9)
						second.change(l, 9)
						first.change(l, 9)
					})
				}
			}
		}
	}
	// All of them, in short lists.
	for _, c := range []struct {
		l     string
		index int
		e     api.Errno
	}{
		{"0>0:0", 0, api.ErrReference}, {"0>2:0", 0, api.ErrReference}, {"-1>0:14401", 0, api.ErrReference}, {"0>1:5 0>1:0", 1, api.ErrRange}, {"0>1:5 0>1:14401", 1, api.ErrRange}, {"0>1:5 0>1:-1s", 1, api.ErrRange}, {"0>1:5 0>1:5 2>2:0", 1, api.ErrDuplicate},
	} {
		checkCheck(t, paths(c.l), 2, c.index, c.e)
	}
}

// Of the errors of several footpaths, the one of the first footpath comes first, whatever the errors are.
func TestCheckErrorsOfTwoFootpaths(t *testing.T) {
	few := []int{0, 1, 2, 63, 64, 300, mostPaths - 1}
	for _, j := range few {
		for _, i := range few {
			if i >= j {
				continue
			}
			for _, first := range wrongs() {
				if first.needsEarlier() && i == 0 {
					continue
				}
				for _, second := range wrongs() {
					checkScene(t, i, first.e, j, func(l []api.Footpath) {
						second.change(l, j)
						first.change(l, i)
					})
				}
			}
		}
	}
}

// The length of the list comes before all other errors.
func TestCheckLimitFirst(t *testing.T) {
	for _, w := range wrongs() {
		for _, i := range append(places(), mostPaths) {
			if i == 0 && w.needsEarlier() {
				continue
			}
			l := complete(mostStops, 7, 8)[:mostPaths+1]
			w.change(l, i)
			checkCheck(t, l, mostStops, 0, api.ErrLimit)
			checkClose(t, l, mostStops, nil, api.ErrLimit)
			checkClosed(t, l, mostStops, false)
		}
	}
}

// All lists of some footpaths, for different numbers of stops.
func TestOfAllShortLists(t *testing.T) {
	count, closed := map[api.Errno]int{}, 0
	for _, l := range lists(kinds(), 3) {
		for stops := range 5 {
			checkList(t, l, stops)
			_, e := Check(l, stops)
			count[e]++
			if len(l) > 0 && IsClosed(l, stops) {
				closed++
			}
		}
	}
	for _, e := range []api.Errno{api.OK, api.ErrReference, api.ErrRange, api.ErrDuplicate} {
		if count[e] < 100 {
			t.Errorf("Check returned %d only %d times", e, count[e])
		}
	}
	if closed < 50 {
		t.Errorf("only %d lists were closed", closed)
	}
}

// P20.2 (Close)

func TestCloseExamples(t *testing.T) {
	checkClose(t, given(), 3, paths("0>1:60s 0>2:120 0>2:200s 1>2:60"), api.OK)
	checkClose(t, paths("0>1:60 1>2:60"), 3, paths("0>1:60 0>2:120 1>2:60"), api.OK)
	checkClose(t, paths("0>1:14400 1>2:1"), 3, paths("0>1:14400 1>2:1"), api.OK)
}

// The number of stops comes first, then the errors of Check; nothing is returned beside an error.
func TestCloseErrors(t *testing.T) {
	for _, l := range [][]api.Footpath{nil, given(), kinds(), strange(), valid(mostPaths), make([]api.Footpath, mostPaths+1), paths("64>0:5")} {
		for _, stops := range []int{mostStops + 1, mostStops + 2, 100, 128, 256, 1 << 16, 1 << 32, 1<<32 + 3, greatest} {
			checkClose(t, l, stops, nil, api.ErrLimit)
		}
	}
	for _, stops := range edgesOfInts() {
		checkClose(t, complete(mostStops, 5, 6)[:mostPaths+1], stops, nil, api.ErrLimit)
		for _, l := range [][]api.Footpath{given(), kinds(), strange(), valid(mostPaths)} {
			want, e := wantedClose(l, stops)
			checkClose(t, l, stops, want, e)
		}
	}
	checkClose(t, valid(mostPaths), mostStops-1, nil, api.ErrReference)
	checkClose(t, paths("0>1:5 1>0:0"), 2, nil, api.ErrRange)
	checkClose(t, paths("0>1:5 0>1:6"), 2, nil, api.ErrDuplicate)
}

// Without footpaths the closure is empty, also without stops and below them.
func TestCloseOfNothing(t *testing.T) {
	for stops := -3; stops <= mostStops; stops++ {
		for _, l := range [][]api.Footpath{nil, {}, given()[:0]} {
			checkClose(t, l, stops, nil, api.OK)
			checkClosed(t, l, stops, true)
		}
	}
	for _, stops := range integers() {
		e := api.OK
		if stops > mostStops {
			e = api.ErrLimit
		}
		checkClose(t, nil, stops, nil, e)
		checkClosed(t, nil, stops, e == api.OK)
	}
}

// One footpath is its own closure, between any two stops.
func TestCloseOfOneFootpath(t *testing.T) {
	for _, seconds := range []int{1, 2, 7200, mostWalk - 1, mostWalk} {
		for stops := range mostStops + 1 {
			for _, l := range [][]api.Footpath{{{From: 3, To: 1, Seconds: seconds}}, {{From: 0, To: stops - 1, Seconds: seconds, StepFree: true}}} {
				want, e := wantedClose(l, stops)
				checkClose(t, l, stops, want, e)
			}
		}
	}
	for from := range mostStops {
		for to := range mostStops {
			if from == to {
				continue
			}
			for _, seconds := range []int{1, mostWalk} {
				l := []api.Footpath{{From: from, To: to, Seconds: seconds, StepFree: (from+seconds)%3 > 0}}
				checkClose(t, l, max(from, to)+1, l, api.OK)
				checkClose(t, l, max(from, to), nil, api.ErrReference)
			}
		}
	}
}

// Walks of each number of footpaths that take MaxWalk seconds, one less and one more, in different places of the list and between different stops.
func TestCloseOfLongWalks(t *testing.T) {
	for n := 1; n < mostStops; n++ {
		for _, total := range []int{n, 1000 + n, mostWalk - 1, mostWalk, mostWalk + 1, 2*mostWalk - 63} {
			if n == 1 && total > mostWalk {
				continue
			}
			next := source(n)
			places := shuffled(slices.Collect(func(yield func(int) bool) {
				for i := range mostStops {
					if !yield(i) {
						return
					}
				}
			}), next)
			for _, stepFree := range []bool{false, true} {
				l := chain(stepFree, split(total, n)...)
				for _, place := range []func(stop int) int{
					func(stop int) int { return stop },
					func(stop int) int { return n - stop },
					func(stop int) int { return places[stop] },
				} {
					list := shuffled(moved(l, place), next)
					c, e := Close(list, mostStops)
					if e != api.OK {
						t.Fatalf("Close(%s) = %d", text(list), e)
					}
					time, ok := wantedTime(c, place(0), place(n), stepFree)
					if ok != (total <= mostWalk) || ok && time != total {
						t.Errorf("Close(%s): the walk of %d seconds is %d, %v", text(list), total, time, ok)
					}
					if _, ok := wantedTime(c, place(n), place(0), false); ok {
						t.Errorf("Close(%s) has a walk back", text(list))
					}
					if n < 20 {
						checkList(t, list, mostStops)
					}
				}
			}
		}
	}
	checkClose(t, paths("0>1:7200 1>2:7200"), 3, paths("0>1:7200 0>2:14400 1>2:7200"), api.OK)
	checkClose(t, paths("0>1:7200 1>2:7201"), 3, paths("0>1:7200 1>2:7201"), api.OK)
	checkClose(t, paths("0>1:14400 1>2:14400 2>0:14400"), 3, paths("0>1:14400 1>2:14400 2>0:14400"), api.OK)
	checkClose(t, paths("0>1:4800s 1>2:4800s 2>3:4800s"), 4, paths("0>1:4800s 0>2:9600s 0>3:14400s 1>2:4800s 1>3:9600s 2>3:4800s"), api.OK)
	checkClose(t, paths("0>1:4800s 1>2:4801s 2>3:4800s"), 4, paths("0>1:4800s 0>2:9601s 1>2:4801s 1>3:9601s 2>3:4800s"), api.OK)
}

// A walk of several footpaths is shorter than a footpath between the same stops, equal to it or longer, and each of them is step-free or not.
func TestCloseOfFootpathAndWalk(t *testing.T) {
	for n := 2; n <= 5; n++ {
		for _, walk := range []int{10, 100, mostWalk, mostWalk + 1, 20000} {
			for _, direct := range []int{1, walk - 1, walk, walk + 1, mostWalk} {
				if direct > mostWalk {
					continue
				}
				for flags := range 8 {
					l := chain(flags&1 > 0, split(walk, n)...)
					if flags&4 > 0 {
						// Only one footpath of the walk is not step-free, or only one is.
						l[n/2].StepFree = !l[n/2].StepFree
					}
					l = append(l, api.Footpath{From: 0, To: n, Seconds: direct, StepFree: flags&2 > 0})
					for _, list := range orders(l) {
						checkList(t, list, n+1)
						if n > 3 {
							break
						}
					}
				}
			}
		}
	}
	for _, c := range []struct{ l, entries string }{
		// Both are step-free: only the shorter one counts.
		{"0>1:5s 1>2:5s 0>2:9s", "0>2:9s"}, {"0>1:5s 1>2:5s 0>2:10s", "0>2:10s"}, {"0>1:5s 1>2:5s 0>2:11s", "0>2:10s"},
		// None is.
		{"0>1:5 1>2:5 0>2:9", "0>2:9"}, {"0>1:5 1>2:5 0>2:10", "0>2:10"}, {"0>1:5 1>2:5 0>2:11", "0>2:10"}, {"0>1:5s 1>2:5 0>2:11", "0>2:10"}, {"0>1:5 1>2:5s 0>2:11", "0>2:10"},
		// Only the footpath is.
		{"0>1:5 1>2:5 0>2:9s", "0>2:9s"}, {"0>1:5 1>2:5 0>2:10s", "0>2:10s"}, {"0>1:5 1>2:5 0>2:11s", "0>2:10 0>2:11s"}, {"0>1:5s 1>2:5 0>2:11s", "0>2:10 0>2:11s"}, {"0>1:5 1>2:5s 0>2:14400s", "0>2:10 0>2:14400s"},
		// Only the walk is.
		{"0>1:5s 1>2:5s 0>2:9", "0>2:9 0>2:10s"}, {"0>1:5s 1>2:5s 0>2:10", "0>2:10s"}, {"0>1:5s 1>2:5s 0>2:11", "0>2:10s"}, {"0>1:7200s 1>2:7200s 0>2:14399", "0>2:14399 0>2:14400s"}, {"0>1:7200s 1>2:7201s 0>2:14399", "0>2:14399"}, {"0>1:7200s 1>2:7201s 0>2:14400", "0>2:14400"},
	} {
		for _, l := range orders(paths(c.l)) {
			got, e := Close(l, 3)
			between := slices.DeleteFunc(got, func(p api.Footpath) bool { return p.From != 0 || p.To != 2 })
			if e != api.OK || !slices.Equal(between, paths(c.entries)) {
				t.Errorf("Close(%s) = %s, %d; want %s", text(l), text(between), e, c.entries)
			}
		}
	}
}

// Two stops with a step-free footpath and another one, of which one takes less time, or both take the same.
func TestCloseOfTwoFootpathsWithTheSameEnds(t *testing.T) {
	for _, seconds := range []int{1, 2, 100, 7200, mostWalk - 1, mostWalk} {
		for _, stepFree := range []int{1, 2, 99, 100, 101, 7199, 7201, mostWalk - 1, mostWalk} {
			l := []api.Footpath{{From: 1, To: 0, Seconds: seconds}, {From: 1, To: 0, Seconds: stepFree, StepFree: true}}
			want := l
			if stepFree <= seconds {
				want = l[1:]
			}
			checkClose(t, l, 2, want, api.OK)
			checkClose(t, []api.Footpath{l[1], l[0]}, 2, want, api.OK)
			checkClosed(t, l, 2, seconds < stepFree)
			checkClosed(t, []api.Footpath{l[1], l[0]}, 2, false)
			checkClosed(t, want, 2, true)
		}
	}
}

// A step-free walk and another one share some of their footpaths.
func TestCloseOfWalksThatShareFootpaths(t *testing.T) {
	l := paths("0>1:10s 1>2:10 1>2:30s 2>3:10s")
	checkClose(t, l, 4, paths("0>1:10s 0>2:20 0>2:40s 0>3:30 0>3:50s 1>2:10 1>2:30s 1>3:20 1>3:40s 2>3:10s"), api.OK)
	// A step-free way round takes as long as the way with steps, or one second more, or one less.
	checkClose(t, paths("0>1:10s 1>2:10 2>3:10s 1>4:5s 4>2:5s"), 5, paths("0>1:10s 0>2:20s 0>3:30s 0>4:15s 1>2:10s 1>3:20s 1>4:5s 2>3:10s 4>2:5s 4>3:15s"), api.OK)
	checkClose(t, paths("0>1:10s 1>2:10 2>3:10s 1>4:5s 4>2:6s"), 5, paths("0>1:10s 0>2:20 0>2:21s 0>3:30 0>3:31s 0>4:15s 1>2:10 1>2:11s 1>3:20 1>3:21s 1>4:5s 2>3:10s 4>2:6s 4>3:16s"), api.OK)
	checkClose(t, paths("0>1:10s 1>2:10 2>3:10s 1>4:5s 4>2:4s"), 5, paths("0>1:10s 0>2:19s 0>3:29s 0>4:15s 1>2:9s 1>3:19s 1>4:5s 2>3:10s 4>2:4s 4>3:14s"), api.OK)
	// The step-free way is too long as a whole, but not its parts.
	checkClose(t, paths("0>1:10s 1>2:10 1>2:14391s"), 3, paths("0>1:10s 0>2:20 1>2:10 1>2:14391s"), api.OK)
	checkClose(t, paths("0>1:10s 1>2:10 1>2:14390s"), 3, paths("0>1:10s 0>2:20 0>2:14400s 1>2:10 1>2:14390s"), api.OK)
}

// Circles: each stop is reached from each other one, and none from itself.
func TestCloseOfCircles(t *testing.T) {
	checkClose(t, paths("0>1:5 1>0:6"), 2, paths("0>1:5 1>0:6"), api.OK)
	checkClose(t, paths("0>1:5s 1>0:6"), 2, paths("0>1:5s 1>0:6"), api.OK)
	checkClose(t, paths("0>1:5s 1>2:6s 2>0:7s"), 3, paths("0>1:5s 0>2:11s 1>0:13s 1>2:6s 2>0:7s 2>1:12s"), api.OK)
	checkClose(t, paths("0>1:5s 1>2:6 2>0:7s"), 3, paths("0>1:5s 0>2:11 1>0:13 1>2:6 2>0:7s 2>1:12s"), api.OK)
	checkClose(t, paths("0>1:7200 1>2:7200 2>0:7200"), 3, paths("0>1:7200 0>2:14400 1>0:14400 1>2:7200 2>0:7200 2>1:14400"), api.OK)
	for n := 2; n <= mostStops; n++ {
		c, e := Close(ring(n, 50, 100), n)
		if e != api.OK || len(c) != 2*n*(n-1) {
			t.Fatalf("Close of a circle of %d = %d entries, %d", n, len(c), e)
		}
		for i, p := range c {
			steps := (p.To - p.From + n) % n
			if want := (api.Footpath{From: i / 2 / (n - 1), To: p.To, Seconds: steps * (50 + i%2*50), StepFree: i%2 == 1}); p != want || steps == 0 {
				t.Errorf("entry %d of a circle of %d is %v; want %v", i, n, p, want)
			}
		}
		checkClosed(t, c, n, true)
	}
}

// Stops that no footpath touches, and parts between which there is no walk.
func TestCloseOfParts(t *testing.T) {
	checkClose(t, paths("5>7:3 7>9:4s"), 12, paths("5>7:3 5>9:7 7>9:4s"), api.OK)
	checkClose(t, paths("63>0:3 0>63:4s"), 64, paths("0>63:4s 63>0:3"), api.OK)
	checkClose(t, paths("3>2:1 1>0:1"), 4, paths("1>0:1 3>2:1"), api.OK)
	// Walks that only begin, or only end, at the same stop.
	checkClose(t, paths("1>0:1 1>2:1 1>3:1"), 4, paths("1>0:1 1>2:1 1>3:1"), api.OK)
	checkClose(t, paths("0>1:1 2>1:1 3>1:1"), 4, paths("0>1:1 2>1:1 3>1:1"), api.OK)
	checkClose(t, paths("0>1:1 2>1:1 1>3:1s 1>4:2"), 5, paths("0>1:1 0>3:2 0>4:3 1>3:1s 1>4:2 2>1:1 2>3:2 2>4:3"), api.OK)
	for stops := range mostStops + 1 {
		for _, l := range [][]api.Footpath{given(), kinds()[:9], ring(5, 3, 4), ring(30, 300, 400)} {
			want, e := wantedClose(l, stops)
			checkClose(t, l, stops, want, e)
		}
	}
}

// The order of the entries is that of their stops and times, not that of the list.
func TestCloseOrder(t *testing.T) {
	for _, list := range orders(paths("1>0:9 0>1:60s 0>1:50 1>2:61 2>0:5s")) {
		checkClose(t, list, 3, paths("0>1:50 0>1:60s 0>2:111 1>0:9 1>2:61 2>0:5s 2>1:55 2>1:65s"), api.OK)
	}
	for seed := range 100 {
		next := source(seed)
		stops := 2 + next(20)
		l := scattered(next, stops, 5+next(100), never)
		want := wantedClosure(l)
		for range 4 {
			checkClose(t, shuffled(l, next), stops, want, api.OK)
		}
		for i := 1; i < len(want); i++ {
			a, b := want[i-1], want[i]
			if a.From > b.From || a.From == b.From && (a.To > b.To || a.To == b.To && a.Seconds >= b.Seconds) {
				t.Errorf("%v is before %v", a, b)
			}
		}
	}
}

// All footpaths between the stops, as many as there may be.
func TestCloseOfFullLists(t *testing.T) {
	for _, l := range [][]api.Footpath{valid(mostPaths), valid(mostPaths - 1), complete(16, 14400, 14400), complete(16, 1, 2), complete(16, 14399, 14400), ring(64, 225, 226), ring(64, 228, 229), ring(64, 229, 1), ring(64, 7200, 7201)} {
		checkList(t, l, mostStops)
		checkList(t, shuffled(l, source(len(l))), mostStops)
	}
	for seed := range 60 {
		next := source(seed)
		stops := []int{23, 30, 50, 63, 64}[seed%5]
		l := scattered(next, stops, 700, never)
		checkList(t, l[:min(len(l), mostPaths)], stops)
	}
}

// shortLists returns valid lists of footpaths between three stops with few times, of at most one footpath from each stop to another one of each kind.
func shortLists(use func(l []api.Footpath)) {
	var between [][]api.Footpath
	for from := range 3 {
		for to := range 3 {
			if from == to {
				continue
			}
			var some []api.Footpath
			for _, seconds := range []int{1, 2, 3} {
				some = append(some, api.Footpath{From: from, To: to, Seconds: seconds * 4800}, api.Footpath{From: from, To: to, Seconds: seconds * 4800, StepFree: true})
			}
			between = append(between, some)
		}
	}
	var add func(l []api.Footpath, place int)
	add = func(l []api.Footpath, place int) {
		if place == len(between) {
			use(l)
			return
		}
		add(l, place+1)
		for _, p := range between[place] {
			add(append(slices.Clone(l), p), place+1)
		}
	}
	add(nil, 0)
}

// All lists with at most one footpath from each of three stops to each other one, compared with all walks.
func TestCloseOfAllListsOfThreeStops(t *testing.T) {
	total := 0
	shortLists(func(l []api.Footpath) {
		total++
		c, e := Close(l, 3)
		if e != api.OK || !slices.Equal(c, closureOf(allWalks(l, false), allWalks(l, true))) {
			t.Errorf("Close(%s) = %s, %d", text(l), text(c), e)
		}
	})
	if total != 7*7*7*7*7*7 {
		t.Errorf("%d lists", total)
	}
}

// Short lists between a few stops, compared with all walks that there are.
func TestCloseAgainstAllWalks(t *testing.T) {
	entries := 0
	for seed := range 4000 {
		next := source(seed)
		stops := 2 + next(6)
		l := scattered(next, stops, 1+next(11), never)
		want := closureOf(allWalks(l, false), allWalks(l, true))
		entries += len(want)
		checkClose(t, l, stops, want, api.OK)
		if !slices.Equal(want, wantedClosure(l)) {
			t.Errorf("the closures of %s differ", text(l))
		}
	}
	if entries < 20000 {
		t.Errorf("only %d entries", entries)
	}
}

// P20.3 (Time)

func TestTimeExamples(t *testing.T) {
	c, _ := Close(given(), 3)
	checkTime(t, c, 0, 2, false, 120, true)
	checkTime(t, c, 0, 2, true, 200, true)
	checkTime(t, given(), 0, 2, false, 200, true)
	checkTime(t, given(), 0, 2, true, 200, true)
	checkTime(t, c, 1, 2, false, 60, true)
	checkTime(t, c, 1, 2, true, 0, false)
	checkTime(t, c, 2, 0, false, 0, false)
	checkTime(t, c, 0, 0, false, 0, false)
}

func TestTimeOfNothing(t *testing.T) {
	for _, from := range edgesOfInts() {
		for _, to := range edgesOfInts() {
			for _, stepFree := range []bool{false, true} {
				checkTime(t, nil, from, to, stepFree, 0, false)
				checkTime(t, []api.Footpath{}, from, to, stepFree, 0, false)
				checkTime(t, given()[:0], from, to, stepFree, 0, false)
			}
		}
	}
}

// Several footpaths between the same stops: the smallest time counts, wherever it is.
func TestTimeOfSeveralFootpaths(t *testing.T) {
	for _, times := range orders([]int{40, 5, 90, 6}) {
		for flags := range 16 {
			var l []api.Footpath
			smallest, smallestFree := greatest, greatest
			for i, seconds := range times {
				stepFree := flags>>i&1 > 0
				l = append(l, api.Footpath{From: 3, To: 1, Seconds: seconds, StepFree: stepFree}, api.Footpath{From: 1, To: 3, Seconds: 1, StepFree: true}, api.Footpath{From: 3, To: 2, Seconds: 2, StepFree: true}, api.Footpath{From: 2, To: 1, Seconds: 2, StepFree: true})
				smallest = min(smallest, seconds)
				if stepFree {
					smallestFree = min(smallestFree, seconds)
				}
			}
			checkTime(t, l, 3, 1, false, smallest, true)
			if flags == 0 {
				smallestFree = 0
			}
			checkTime(t, l, 3, 1, true, smallestFree, flags > 0)
		}
	}
}

// Times of 0, below it and at the ends of the integers are times as well, and so are those from a stop to itself.
func TestTimeOfInvalidLists(t *testing.T) {
	for _, seconds := range integers() {
		for _, other := range edgesOfInts() {
			l := []api.Footpath{{From: 4, To: 4, Seconds: seconds, StepFree: true}, {From: 4, To: 4, Seconds: other}}
			checkTime(t, l, 4, 4, false, min(seconds, other), true)
			checkTime(t, l, 4, 4, true, seconds, true)
			checkTime(t, l[1:], 4, 4, true, 0, false)
			checkTime(t, l[1:], 4, 4, false, other, true)
			l[0], l[1] = l[1], l[0]
			checkTime(t, l, 4, 4, false, min(seconds, other), true)
			checkTime(t, l, 4, 4, true, seconds, true)
		}
	}
	for _, from := range integers() {
		for _, to := range append(edgesOfInts(), from-1, from, from+1) {
			l := []api.Footpath{{From: from, To: to, Seconds: 7}}
			checkTime(t, l, from, to, false, 7, true)
			checkTime(t, l, from, to, true, 0, false)
			checkTime(t, l, from^1, to, false, 0, false)
			checkTime(t, l, from, to^1, false, 0, false)
			checkTime(t, l, from^1<<32, to, false, 0, false)
			checkTime(t, l, from, to^least, false, 0, false)
			checkTime(t, l, to, from, false, 7*one(from == to), from == to)
		}
	}
	for _, from := range append(edgesOfInts(), 4) {
		for _, to := range append(edgesOfInts(), 4) {
			checkEnds(t, strange(), from, to)
			checkEnds(t, shuffled(strange(), source(from^to)), from, to)
		}
	}
}

// one returns 1 if is is true, and 0 otherwise.
func one(is bool) int {
	if is {
		return 1
	}
	return 0
}

// Time finds footpaths in lists of any length, at each place.
func TestTimeOfLongLists(t *testing.T) {
	l := complete(mostStops, 9, 10)
	for i, p := range l {
		for _, stepFree := range []bool{false, true} {
			checkTime(t, l, p.From, p.To, stepFree, 9+one(stepFree), true)
		}
		checkTime(t, with(l[:i+1], i, api.Footpath{From: p.From, To: p.To, Seconds: 8, StepFree: p.StepFree}), p.From, p.To, p.StepFree, 8, true)
		if i > 300 {
			break
		}
	}
	long := slices.Repeat(paths("0>1:60 1>0:50s"), 100000)
	checkTime(t, long, 0, 1, false, 60, true)
	checkTime(t, long, 0, 1, true, 0, false)
	checkTime(t, with(long, 199999, api.Footpath{From: 0, To: 1, Seconds: 59, StepFree: true}), 0, 1, false, 59, true)
	checkTime(t, with(long, 199999, api.Footpath{From: 0, To: 1, Seconds: 61, StepFree: true}), 0, 1, true, 61, true)
}

// P20.4 (Around)

func TestAroundExamples(t *testing.T) {
	c, _ := Close(given(), 3)
	checkAround(t, c, 0, 150, false, 1, 2)
	checkAround(t, c, 0, 150, true, 1)
	checkAround(t, c, 0, 200, true, 1, 2)
	checkAround(t, c, 0, 199, true, 1)
	checkAround(t, c, 0, 119, false, 1)
	checkAround(t, c, 0, 59, false)
	checkAround(t, c, 2, 14400, false)
	checkAround(t, given(), 0, 199, false, 1)
	checkAround(t, given(), 0, 200, false, 1, 2)
}

func TestAroundOfNothing(t *testing.T) {
	for _, stop := range edgesOfInts() {
		for _, most := range edgesOfInts() {
			for _, stepFree := range []bool{false, true} {
				checkAround(t, nil, stop, most, stepFree)
				checkAround(t, []api.Footpath{}, stop, most, stepFree)
			}
			if stop < 0 || stop > 2 {
				checkAround(t, given(), stop, most, false)
			}
		}
	}
}

// A time that is equal to most, one less and one more, and both at the ends of the integers.
func TestAroundMost(t *testing.T) {
	for _, seconds := range integers() {
		for _, most := range append(edgesOfInts(), seconds-1, seconds, seconds+1, -seconds, seconds^1<<32, seconds^least) {
			l := []api.Footpath{{From: 5, To: 3, Seconds: seconds}, {From: 5, To: 9, Seconds: seconds, StepFree: true}, {From: 3, To: 5, Seconds: least, StepFree: true}}
			if seconds <= most {
				checkAround(t, l, 5, most, false, 3, 9)
				checkAround(t, l, 5, most, true, 9)
			} else {
				checkAround(t, l, 5, most, false)
				checkAround(t, l, 5, most, true)
			}
		}
	}
}

// The stops are in increasing order, each once, whatever the order of the footpaths is and however many lead there.
func TestAroundOrder(t *testing.T) {
	for _, l := range orders(paths("1>5:10s 1>3:20 1>9:30s 1>3:25s 1>1:15")) {
		checkAround(t, l, 1, 9, false)
		checkAround(t, l, 1, 10, false, 5)
		checkAround(t, l, 1, 15, false, 1, 5)
		checkAround(t, l, 1, 20, false, 1, 3, 5)
		checkAround(t, l, 1, 24, true, 5)
		checkAround(t, l, 1, 25, true, 3, 5)
		checkAround(t, l, 1, 30, true, 3, 5, 9)
		checkAround(t, l, 1, 30, false, 1, 3, 5, 9)
	}
	for n := range 20 {
		l := slices.Repeat(paths("0>7:5 0>-7:5s 0>0:5 0>7:6s 0>-9:9 0>7:1"), n)
		if n > 0 {
			checkAround(t, l, 0, 5, false, -7, 0, 7)
			checkAround(t, l, 0, 6, true, -7, 7)
			checkAround(t, l, 0, 9, false, -9, -7, 0, 7)
			checkAround(t, l, 0, 0, false)
		}
	}
	// All other stops of a full table, in every place.
	l := shuffled(complete(mostStops, 9, 10), source(5))
	for stop := range mostStops {
		var others []int
		for other := range mostStops {
			if other != stop {
				others = append(others, other)
			}
		}
		checkAround(t, l, stop, 8, false)
		checkAround(t, l, stop, 9, false, others...)
		checkAround(t, l, stop, 9, true)
		checkAround(t, l, stop, 10, true, others...)
	}
}

func TestAroundOfInvalidLists(t *testing.T) {
	for seed, stop := range append(edgesOfInts(), 4, -1<<32) {
		for _, most := range append(integers(), 4, 5, 6, 49, 50, 59, 20000) {
			checkMost(t, strange(), stop, most)
			checkMost(t, shuffled(strange(), source(seed)), stop, most)
		}
	}
	// The stops may be any integers.
	var l []api.Footpath
	for i, stop := range integers() {
		l = append(l, api.Footpath{From: 0, To: stop, Seconds: 5}, api.Footpath{From: stop, To: 0, Seconds: i, StepFree: true})
	}
	checkAround(t, shuffled(l, source(1)), 0, 5, false, integers()...)
	for i, stop := range integers() {
		if stop != 0 {
			checkAround(t, l, stop, i, true, 0)
			checkAround(t, l, stop, i-1, false)
		}
	}
	long := slices.Repeat(paths("0>1:60 1>0:50s 0>2:70s"), 100000)
	checkAround(t, long, 0, 70, false, 1, 2)
	checkAround(t, long, 0, 69, false, 1)
	checkAround(t, long, 1, 60, true, 0)
}

// P20.5 (IsClosed)

func TestIsClosedExamples(t *testing.T) {
	c, _ := Close(given(), 3)
	checkClosed(t, c, 3, true)
	checkClosed(t, given(), 3, false)
	checkClosed(t, c, 2, false)
	checkClosed(t, paths("0>1:60 0>2:120 1>2:60"), 3, true)
	checkClosed(t, paths("0>1:60 1>2:60"), 3, false)
}

// closures calls use with closures of many kinds and their numbers of stops.
func closures(use func(c []api.Footpath, stops int)) {
	for _, l := range [][]api.Footpath{given(), kinds()[1:2], kinds()[:2], paths("0>1:5s 1>2:6 2>0:7s"), paths("0>1:10s 1>2:10 1>2:30s 2>3:10s"), ring(5, 3, 4), ring(6, 4000, 2000), ring(7, 2000, 4000), complete(4, 14400, 14400), chain(true, split(14400, 9)...), chain(false, split(14401, 10)...)} {
		use(wantedClosure(l), 11)
	}
	for seed := range 60 {
		next := source(seed)
		stops := 2 + next(9)
		use(wantedClosure(scattered(next, stops, 2+next(12), never)), stops)
	}
}

// A closure with an entry left out, changed, doubled or moved is not closed, unless what is left is a closure again.
func TestIsClosedOfChangedClosures(t *testing.T) {
	not := 0
	check := func(l []api.Footpath, stops int) {
		t.Helper()
		checkClosed(t, l, stops, wantedClosed(l, stops))
		if !wantedClosed(l, stops) {
			not++
		}
	}
	closures(func(c []api.Footpath, stops int) {
		checkClosed(t, c, stops, true)
		for i, p := range c {
			check(without(c, i), stops)
			for _, change := range []func(p *api.Footpath){
				func(p *api.Footpath) { p.Seconds-- }, func(p *api.Footpath) { p.Seconds++ }, func(p *api.Footpath) { p.Seconds = 1 }, func(p *api.Footpath) { p.Seconds = mostWalk }, func(p *api.Footpath) { p.StepFree = !p.StepFree },
				func(p *api.Footpath) { p.From, p.To = p.To, p.From }, func(p *api.Footpath) { p.To = (p.To + 1) % stops }, func(p *api.Footpath) { p.From = (p.From + 1) % stops },
			} {
				changed := p
				change(&changed)
				check(with(c, i, changed), stops)
				check(slices.Insert(slices.Clone(c), i+1, changed), stops)
			}
			checkClosed(t, slices.Insert(slices.Clone(c), i, p), stops, false)
			checkClosed(t, append(slices.Clone(c), p), stops, false)
			for k := range i {
				swapped := slices.Clone(c)
				swapped[i], swapped[k] = swapped[k], swapped[i]
				checkClosed(t, swapped, stops, false)
				if i-k > 1 {
					checkClosed(t, slices.Insert(without(c, i), k, p), stops, false)
				}
			}
			// With an error the list is not closed.
			for _, wrong := range []api.Footpath{{From: p.From, To: p.From, Seconds: 5}, {From: stops, To: p.To, Seconds: 5}, {From: p.From, To: -1, Seconds: 5}, {From: p.From, To: p.To, Seconds: 0}, {From: p.From, To: p.To, Seconds: mostWalk + 1, StepFree: true}} {
				checkClosed(t, with(c, i, wrong), stops, false)
				checkClosed(t, slices.Insert(slices.Clone(c), i, wrong), stops, false)
				checkClosed(t, append(slices.Clone(c), wrong), stops, false)
			}
		}
	})
	if not < 5000 {
		t.Errorf("only %d changed lists were not closed", not)
	}
}

// Closed footpaths are closed for each number of stops from the greatest of their stops to MaxStops.
func TestIsClosedStops(t *testing.T) {
	closures(func(c []api.Footpath, stops int) {
		last := -1
		for _, p := range c {
			last = max(last, p.From, p.To)
		}
		for _, n := range append(integers(), stops-1, stops, stops+1, last, last+1, last+2, mostStops-1, mostStops, mostStops+1) {
			checkClosed(t, c, n, (n > last || len(c) == 0) && n <= mostStops)
		}
	})
	for _, stops := range []int{mostStops + 1, mostStops + 2, 128, 1 << 32, 1<<32 + 3, greatest} {
		for _, l := range [][]api.Footpath{nil, given(), kinds(), strange(), wantedClosure(ring(64, 50, 100))} {
			checkClosed(t, l, stops, false)
		}
	}
}

// Each error of Check but ErrLimit makes a list that would be closed without that entry not closed.
func TestIsClosedErrors(t *testing.T) {
	for _, l := range []string{"0>0:5", "0>2:5", "2>0:5", "-1>0:5", "0>-1:5", "0>1:0", "0>1:-1", "0>1:14401", "0>1:5 0>1:5", "0>1:5s 0>1:5s", "0>1:5 0>1:6", "0>1:5 1>1:9", "0>1:5 1>0:0", "0>1:5 1>0:14401"} {
		checkClosed(t, paths(l), 2, false)
	}
	for _, l := range []string{"", "0>1:5", "0>1:1s", "0>1:14400", "0>1:5 0>1:6s", "0>1:5 1>0:9", "0>1:5 0>1:14400s 1>0:1s"} {
		checkClosed(t, paths(l), 2, true)
	}
}

// Closed footpaths may be more than MaxPaths, up to two from each of 64 stops to each other one.
func TestIsClosedOfLongLists(t *testing.T) {
	for _, stops := range []int{16, 17, 46, 64} {
		for _, c := range [][]api.Footpath{complete(stops, 60, 61), complete(stops, 1, mostWalk), complete(stops, mostWalk-1, mostWalk)} {
			checkClosed(t, c, stops, true)
			for _, i := range []int{0, len(c) / 2, len(c) - 1} {
				short := c[i]
				short.Seconds = 1
				checkClosed(t, with(c, i, short), stops, wantedClosed(with(c, i, short), stops))
				checkClosed(t, without(c, i), stops, wantedClosed(without(c, i), stops))
				checkClosed(t, append(slices.Clone(c), c[i]), stops, false)
			}
			checkClosed(t, shuffled(c, source(stops)), stops, false)
			checkClosed(t, c, stops-1, false)
		}
		// Footpaths that take longer than two others.
		for _, c := range [][]api.Footpath{complete(stops, 5, 4), complete(stops, 4, 4)} {
			checkClosed(t, c, stops, false)
		}
	}
	// Closures with two entries from each stop to each other one, whose times differ.
	for _, times := range [][2]int{{50, 100}, {1, 2}, {228, 229}, {7200, 7201}, {100, 50}, {50, 50}} {
		c, e := Close(ring(mostStops, times[0], times[1]), mostStops)
		if e != api.OK {
			t.Fatalf("Close of a circle = %d", e)
		}
		checkClosed(t, c, mostStops, true)
		for i := 0; i < len(c); i += 2997 {
			longer := c[i]
			longer.Seconds++
			checkClosed(t, with(c, i, longer), mostStops, wantedClosed(with(c, i, longer), mostStops))
			checkClosed(t, without(c, i), mostStops, wantedClosed(without(c, i), mostStops))
		}
	}
	// Errors behind the place at which Check looks no more.
	c := complete(mostStops, 60, 61)
	for _, w := range wrongs() {
		for _, i := range []int{mostPaths, mostPaths + 1, 4096, len(c) - 1} {
			l := slices.Clone(c)
			w.change(l, i)
			checkClosed(t, l, mostStops, false)
		}
	}
	// Very long lists have duplicates.
	checkClosed(t, slices.Repeat(complete(mostStops, 60, 61), 20), mostStops, false)
	checkClosed(t, slices.Repeat(given(), 100000), mostStops, false)
}

// Valid lists that are as long as a closure can be, in which nearly each shortest walk has several footpaths.
func TestIsClosedOfLongListsWithoutPattern(t *testing.T) {
	for seed := range 4 {
		next := source(seed)
		l := complete(mostStops, 1, 1)
		for i := range l {
			l[i].Seconds = 1 + next([]int{100, 14400}[seed%2])
		}
		checkClosed(t, l, mostStops, false)
		c := wantedClosure(l)
		checkClosed(t, c, mostStops, true)
		for range 4 {
			i := next(len(c))
			for _, by := range []int{-1, 1} {
				other := c[i]
				other.Seconds += by
				checkClosed(t, with(c, i, other), mostStops, wantedClosed(with(c, i, other), mostStops))
			}
		}
	}
}

// P20.6 (closure)

func TestClosuresAreClosed(t *testing.T) {
	total, longer := 0, 0
	for seed := range 1500 {
		next := source(seed)
		stops := 1 + next(24)
		l := scattered(next, stops, next(60), never)
		c, e := Close(l, stops)
		if e != api.OK {
			t.Fatalf("Close(%s, %d) = %d", text(l), stops, e)
		}
		checkClosed(t, c, stops, true)
		if len(c) <= mostPaths {
			checkClose(t, c, stops, c, api.OK)
		}
		for _, p := range l {
			total++
			time, ok := Time(c, p.From, p.To, false)
			if !ok || p.Seconds < time {
				t.Errorf("%v of %s is shorter than %d, %v in the closure", p, text(l), time, ok)
			}
			if p.Seconds > time {
				longer++
			}
			if !p.StepFree {
				continue
			}
			if time, ok := Time(c, p.From, p.To, true); !ok || p.Seconds < time {
				t.Errorf("%v of %s is shorter than %d, %v in the closure, with stepFree", p, text(l), time, ok)
			}
		}
	}
	if total < 10000 || longer < 1000 {
		t.Errorf("only %d footpaths, %d of which are longer than a walk", total, longer)
	}
}

// P20.7 (triangle)

// checkTriangles checks what P20.7 says about closed footpaths, and returns how often it says something.
func checkTriangles(t *testing.T, c []api.Footpath, stops int, stepFree bool) int {
	t.Helper()
	count := 0
	times := make([][]int, stops)
	for from := range stops {
		for to := range stops {
			time, ok := Time(c, from, to, stepFree)
			if !ok {
				time = greatest / 2
			}
			times[from] = append(times[from], time)
		}
	}
	for from := range stops {
		for to := range stops {
			for third := range stops {
				if from == to || third == from || third == to || times[from][third]+times[third][to] > mostWalk {
					continue
				}
				count++
				if times[from][to] > times[from][third]+times[third][to] {
					t.Errorf("from %d to %d by %d, %v: %s", from, to, third, stepFree, text(c))
				}
			}
		}
	}
	return count
}

func TestTriangles(t *testing.T) {
	count, free := 0, 0
	for seed := range 800 {
		next := source(seed)
		stops := 3 + next(14)
		c, e := Close(scattered(next, stops, next(50), never), stops)
		if e != api.OK {
			t.Fatalf("Close = %d", e)
		}
		count += checkTriangles(t, c, stops, false)
		free += checkTriangles(t, c, stops, true)
	}
	if count < 100000 || free < 50000 || count == free {
		t.Errorf("only %d triangles, %d step-free", count, free)
	}
	// In all lists that are closed, not only in those that Close returns.
	closed := 0
	shortLists(func(l []api.Footpath) {
		if IsClosed(l, 3) {
			closed++
			checkTriangles(t, l, 3, false)
			checkTriangles(t, l, 3, true)
		}
	})
	if closed < 1000 {
		t.Errorf("only %d lists are closed", closed)
	}
}

// P20.8 (step-free walks)

// checkStepFree checks what P20.8 says about any list of footpaths.
func checkStepFree(t *testing.T, l []api.Footpath, stops, mosts []int) {
	t.Helper()
	for _, from := range stops {
		for _, to := range stops {
			time, ok := Time(l, from, to, false)
			freeTime, isFree := Time(l, from, to, true)
			if isFree && (!ok || freeTime < time) {
				t.Errorf("Time(%s, %d, %d) = %d, %v; with stepFree %d, %v", text(l), from, to, time, ok, freeTime, isFree)
			}
		}
		for _, most := range mosts {
			near, free := Around(l, from, most, false), Around(l, from, most, true)
			for _, stop := range free {
				if !slices.Contains(near, stop) {
					t.Errorf("Around(%s, %d, %d) = %s; with stepFree %s", text(l), from, most, text(near), text(free))
				}
			}
		}
	}
}

func TestStepFree(t *testing.T) {
	stops := []int{-1, 0, 1, 2, 3, 4, 5, 6, 7, 8, 9, least, greatest}
	for seed := range 300 {
		next := source(seed)
		l := scattered(next, 2+next(9), next(50), 1+seed%20)
		checkStepFree(t, l, stops, []int{least, -1, 0, 1, 5, 100, 3000, mostWalk, greatest})
		if c, e := Close(l, 10); e == api.OK {
			checkStepFree(t, c, stops, []int{-1, 0, 1, 5, 100, 3000, mostWalk, greatest})
		}
	}
	checkStepFree(t, strange(), append(integers(), stops...), edgesOfInts())
}

// All functions, compared with the definitions.

func TestAgainstDefinitions(t *testing.T) {
	count := map[api.Errno]int{}
	for seed := range 1600 {
		next := source(seed)
		stops := 1 + next(30)
		l := scattered(next, stops, next(80), 1+seed%200)
		checkList(t, l, stops)
		checkList(t, l[len(l)/2:], stops)
		checkList(t, l, stops+next(3)-1)
		_, e := Check(l, stops)
		count[e]++
		for from := -1; from <= stops; from += 1 + next(5) {
			for to := -1; to <= stops; to += 1 + next(5) {
				checkEnds(t, l, from, to)
			}
			for _, most := range []int{0, 1, next(10), next(100), next(mostWalk), mostWalk, mostWalk + 1} {
				checkMost(t, l, from, most)
			}
			for _, p := range l[:min(len(l), 5)] {
				checkMost(t, l, p.From, p.Seconds)
				checkMost(t, l, p.From, p.Seconds-1)
			}
		}
	}
	for _, e := range []api.Errno{api.OK, api.ErrReference, api.ErrRange, api.ErrDuplicate} {
		if count[e] < 50 {
			t.Errorf("Check returned %d only %d times", e, count[e])
		}
	}
}

// The entries before the index are valid, and those up to the index are not.
func TestBeginningsOfInvalidLists(t *testing.T) {
	for seed := range 1000 {
		next := source(seed)
		stops := 1 + next(30)
		l := scattered(next, stops, next(80), 1+seed%100)
		i, e := Check(l, stops)
		checkCheck(t, l[:i], stops, 0, api.OK)
		if e != api.OK {
			checkCheck(t, l[:i+1], stops, i, e)
		} else {
			for n := range l {
				checkCheck(t, l[:n], stops, 0, api.OK)
			}
		}
	}
}

// Rules: arguments are neither changed nor retained, and results share no memory.

// spare returns a copy of a list with spare capacity, whose elements are zero values.
func spare[T any](l []T) []T {
	return append(make([]T, 0, 2*len(l)+3), l...)
}

// isKept reports whether a copy that spare has made is unchanged, also behind its end.
func isKept[T comparable](l, original []T) bool {
	return slices.Equal(l, original) && slices.Equal(l[len(l):cap(l)], make([]T, cap(l)-len(l)))
}

func TestArgumentsAreNotChanged(t *testing.T) {
	for seed := range 300 {
		next := source(seed)
		stops := 1 + next(30)
		l := scattered(next, stops, next(80), 1+seed*seed)
		switch seed {
		case 0:
			l = strange()
		case 1:
			l = shuffled(complete(mostStops, 5, 6), next)
		case 2:
			l, stops = wantedClosure(ring(9, 50, 70)), 9
		}
		kept := spare(l)
		Check(kept, stops)
		Close(kept, stops)
		IsClosed(kept, stops)
		Check(kept[:len(l)/2], stops)
		Close(kept[:len(l)/2], stops)
		IsClosed(kept[:len(l)/2], stops)
		for stop := range 5 {
			Time(kept, stop, next(stops), seed%2 == 0)
			Around(kept, stop, next(mostWalk), seed%2 == 0)
		}
		if !isKept(kept, l) {
			t.Errorf("%s was changed to %s", text(l), text(kept))
		}
	}
}

// spoil changes all elements of a list, and whatever is behind them, which belongs to the list as well.
func spoil[T any](l []T, x T) {
	l = l[:cap(l)]
	for i := range l {
		l[i] = x
	}
}

func TestResultsShareNoMemory(t *testing.T) {
	for seed := range 200 {
		next := source(seed)
		stops := 2 + next(10)
		l := scattered(next, stops, 1+next(30), never)
		if seed%2 == 0 {
			// A closure of a closure has the same entries.
			l = wantedClosure(l)
		}
		want, near := wantedClosure(l), wantedAround(l, 0, 5000, false)
		given := spare(l)
		first, _ := Close(given, stops)
		second, _ := Close(given, stops)
		firstNear, secondNear := Around(given, 0, 5000, false), Around(given, 0, 5000, false)
		spoil(first, api.Footpath{From: -7, To: -7})
		spoil(firstNear, -7)
		if !slices.Equal(second, want) || !slices.Equal(secondNear, near) || !isKept(given, l) {
			t.Errorf("results share memory: %s, %s, %s", text(second), text(secondNear), text(given))
		}
		spoil(given, api.Footpath{From: -7, To: -7})
		if !slices.Equal(second, want) || !slices.Equal(secondNear, near) {
			t.Errorf("the results changed with the list to %s, %s", text(second), text(secondNear))
		}
		checkClose(t, l, stops, want, api.OK)
		checkAround(t, l, 0, 5000, false, near...)
	}
}

// The results of a call depend only on its arguments.
func TestCallsDoNotAffectEachOther(t *testing.T) {
	c := paths("0>1:60s 0>2:120 0>2:200s 1>2:60")
	for range 3 {
		checkCheck(t, given(), 3, 0, api.OK)
		checkCheck(t, append(given(), given()[0]), 3, 3, api.ErrDuplicate)
		checkCheck(t, given()[1:], 3, 0, api.OK)
		checkCheck(t, given(), 2, 1, api.ErrReference)
		checkClose(t, given(), 3, c, api.OK)
		checkClose(t, given()[:2], 3, paths("0>1:60s 0>2:120 1>2:60"), api.OK)
		checkClose(t, nil, 3, nil, api.OK)
		checkClose(t, given(), 65, nil, api.ErrLimit)
		checkClosed(t, c, 3, true)
		checkClosed(t, given(), 3, false)
		checkTime(t, c, 0, 2, true, 200, true)
		checkTime(t, c, 0, 2, false, 120, true)
		checkTime(t, c, 2, 0, false, 0, false)
		checkAround(t, c, 0, 150, false, 1, 2)
		checkAround(t, c, 0, 150, true, 1)
	}
}

// P1: every function terminates and does not panic.

func TestAnyArguments(t *testing.T) {
	for _, n := range edgesOfInts() {
		for _, m := range edgesOfInts() {
			l := []api.Footpath{{From: n, To: m, Seconds: 5}, {From: m, To: n, Seconds: m}, {From: n, To: m, Seconds: n, StepFree: true}, {From: 0, To: 1, Seconds: m}, {From: n, To: n, Seconds: 7}, {From: 1, To: m, Seconds: n, StepFree: true}}
			for _, stops := range edgesOfInts() {
				for i := range l {
					checkList(t, l[i:], stops)
					checkList(t, l[i:i+1], stops)
				}
			}
			for i := range l {
				checkEnds(t, l[i:], n, m)
				checkEnds(t, l[i:], m, n)
				checkEnds(t, l[i:], n, n)
				checkMost(t, l[i:], n, m)
				checkMost(t, l[i:], 0, m)
				checkMost(t, l[i:], 1, n)
			}
		}
	}
}

// pathsOf makes footpaths of three bytes for each.
func pathsOf(data []byte, n, m int) []api.Footpath {
	var l []api.Footpath
	for ; len(data) >= 3; data = data[3:] {
		p := api.Footpath{From: int(data[0] & 7), To: int(data[0] >> 3 & 7), Seconds: 1 + int(data[1]), StepFree: data[2]&1 > 0}
		switch data[2] >> 1 {
		case 1, 2, 3, 4, 5, 6:
			p.Seconds *= 50
		case 7, 8:
			p.Seconds *= 57
		case 9:
			p.From = n
		case 10:
			p.To = n
		case 11:
			p.Seconds = m
		case 12:
			p.Seconds = mostWalk + int(data[1])
		case 13:
			p.From, p.To = int(data[0]&63), int(data[1]&63)
		}
		l = append(l, p)
	}
	return l
}

func FuzzFootpath(f *testing.F) {
	for i, data := range []string{"", "\x08\x3b\x01\x11\x3b\x00\x10\xc7\x01", "\x08\x77\x03\x11\x77\x02\x02\x77\x03", "\x08\xff\x0f\x11\x00\x01", "0123456789abcdef@ABC", "\x08\x01\x00\x08\x02\x01\x11\x01\x01\x01\x01\x01\x0a\x01\x00", "\x08\x01\x12\x08\x02\x14\x11\x01\x16\x01\x01\x18\x0a\x01\x1a"} {
		f.Add([]byte(data), 3+i, i, i)
		f.Add([]byte(data), mostStops+i%2, greatest-i, least+i)
		f.Add([]byte(data), i-3, least+i, greatest-i)
	}
	f.Fuzz(func(t *testing.T, data []byte, stops, n, m int) {
		// Longer lists show nothing that these do not.
		l := pathsOf(data[:min(len(data), 90)], n, m)
		for _, stops := range []int{stops, 8, mostStops} {
			checkList(t, l, stops)
		}
		// With only those that are valid together, there is more often a closure.
		var sound []api.Footpath
		for _, p := range l {
			if i := len(sound); wantedError(append(sound, p), i, mostStops) == api.OK {
				sound = append(sound, p)
			}
		}
		checkList(t, sound, 8)
		checkList(t, sound, mostStops)
		for _, stop := range []int{n, m, stops, 0, 1, 2, 3} {
			for _, other := range []int{n, m, stops, 0, 1, 2, 3} {
				checkEnds(t, l, stop, other)
				checkMost(t, l, stop, other)
				checkMost(t, l, stop, other*50)
			}
		}
	})
}
