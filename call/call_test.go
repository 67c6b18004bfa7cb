package call

import (
	"fmt"
	"iter"
	"math"
	"math/big"
	"slices"
	"strings"
	"testing"

	"transit/api"
)

// The limits as the document states them.
const (
	mostCalls  = 32
	mostStops  = 64
	mostTime   = 172800
	mostMoment = 3155932800
)

const (
	least    = math.MinInt
	greatest = math.MaxInt
)

// The chapter's definitions.

// exact returns n as an integer without limits.
func exact(n int) *big.Int {
	return big.NewInt(int64(n))
}

// wrapped returns the int that is equal to n but for a multiple of 2^64.
func wrapped(n *big.Int) int {
	m := new(big.Int).Mod(n, new(big.Int).Lsh(big.NewInt(1), 64))
	return int(m.Uint64())
}

// sum returns a + b, which wraps around, and whether the sum fits into an int.
func sum(a, b int) (int, bool) {
	s := new(big.Int).Add(exact(a), exact(b))
	return wrapped(s), s.IsInt64()
}

// wantedError returns the error of the call i.
func wantedError(calls []api.Call, i, stops, low, high int) api.Errno {
	c := calls[i]
	last := new(big.Int).Sub(exact(stops), exact(1))
	if exact(c.Stop).Sign() < 0 || exact(c.Stop).Cmp(last) > 0 {
		return api.ErrReference
	}
	if i >= 1 {
		if previous := calls[i-1]; previous.Stop == c.Stop {
			return api.ErrStop
		}
	}
	times := []int{low, c.Arrive, c.Depart, high}
	if i >= 1 {
		// The times must ascend from the previous Depart as well.
		times = []int{max(low, calls[i-1].Depart), c.Arrive, c.Depart, high}
	}
	if !slices.IsSorted(times) {
		return api.ErrTime
	}
	return api.OK
}

// wantedCheck returns what Check must return.
func wantedCheck(calls []api.Call, stops, low, high int) (int, api.Errno) {
	if len(calls) < 2 || len(calls) > mostCalls {
		return 0, api.ErrLimit
	}
	for i := range calls {
		if e := wantedError(calls, i, stops, low, high); e != api.OK {
			return i, e
		}
	}
	return 0, api.OK
}

// wantedShift returns what Shift must return.
func wantedShift(calls []api.Call, by int) []api.Call {
	var l []api.Call
	for _, c := range calls {
		arrive, _ := sum(c.Arrive, by)
		depart, _ := sum(c.Depart, by)
		l = append(l, api.Call{Stop: c.Stop, Arrive: arrive, Depart: depart, Board: c.Board, Alight: c.Alight})
	}
	return l
}

// isRide reports whether a pair of indices is a ride.
func isRide(calls []api.Call, board, alight int) bool {
	for _, i := range []int{board, alight} {
		if i < 0 || i >= len(calls) {
			return false
		}
	}
	return alight > board && calls[board].Board && calls[alight].Alight
}

// wantedRides returns the rides in the order of the iterator.
func wantedRides(calls []api.Call) [][2]int {
	list := [][2]int{}
	for board := range calls {
		for alight := range calls {
			if isRide(calls, board, alight) {
				list = append(list, [2]int{board, alight})
			}
		}
	}
	return list
}

// wantedAt returns what At must return.
func wantedAt(calls []api.Call, stop int) []int {
	list := []int{}
	for i := range len(calls) {
		if calls[i].Stop == stop {
			list = append(list, i)
		}
	}
	return list
}

// wantedDuration returns what Duration must return.
func wantedDuration(calls []api.Call) int {
	n := len(calls)
	if n == 0 || n == 1 {
		return 0
	}
	return wrapped(new(big.Int).Sub(exact(calls[n-1].Arrive), exact(calls[0].Depart)))
}

// same reports whether all parts of two calls are the same.
func same(a, b api.Call) bool {
	return a.Stop == b.Stop && a.Arrive == b.Arrive && a.Depart == b.Depart && a.Board == b.Board && a.Alight == b.Alight
}

// wantedEqual returns what Equal must return.
func wantedEqual(a, b []api.Call) bool {
	if len(a) != len(b) {
		return false
	}
	for i := range a {
		if !same(a[i], b[i]) {
			return false
		}
	}
	return true
}

// Inputs.

// sample returns the calls of the chapter's examples.
func sample() []api.Call {
	return []api.Call{{Stop: 0, Arrive: 100, Depart: 110, Board: true}, {Stop: 1, Arrive: 200, Depart: 200, Board: true, Alight: true}, {Stop: 0, Arrive: 300, Depart: 300, Alight: true}}
}

// integers returns different integers at the limits of this chapter and at those of the integer types.
func integers() []int {
	list := []int{least, least + 1, greatest, greatest - 1}
	for _, n := range []int{0, mostCalls, mostStops, 100, 300, mostTime, mostMoment} {
		list = append(list, n-1, n, n+1, -n-1, -n, -n+1)
	}
	for shift := range 63 {
		n := 1 << shift
		list = append(list, n-1, n, n+1, -n-1, -n, -n+1)
	}
	slices.Sort(list)
	return slices.Compact(list)
}

// edges returns the integers at the ends of the ints and around 0, and a few between them.
func edges() []int {
	return []int{least, least + 1, -1 << 62, -1 << 32, -mostTime, -101, -100, -1, 0, 1, 2, 99, 100, 101, 300, mostTime, mostMoment, 1 << 32, 1 << 62, greatest - 1, greatest}
}

// chain returns n calls, valid if they are not too few or too many, for mostStops stops and the times from 0 on; some last, some do not, and some follow at once.
func chain(n int) []api.Call {
	var l []api.Call
	time := 0
	for i := range n {
		arrive := time + i%4*50
		time = arrive + i%3*20
		l = append(l, api.Call{Stop: (i*5 + i/3) % mostStops, Arrive: arrive, Depart: time, Board: i%5 != 3, Alight: i%4 != 1})
	}
	return l
}

// end returns the last time of the calls.
func end(calls []api.Call) int {
	return calls[len(calls)-1].Depart
}

// ofStops returns calls at those stops, one a minute.
func ofStops(stops ...int) []api.Call {
	var l []api.Call
	for i, stop := range stops {
		l = append(l, api.Call{Stop: stop, Arrive: i * 60, Depart: i*60 + 20, Board: true, Alight: true})
	}
	return l
}

// ofTimes returns calls with those times, the arrival and the departure of each call, at two stops in turn.
func ofTimes(times ...int) []api.Call {
	var l []api.Call
	for i := 0; i+1 < len(times); i += 2 {
		l = append(l, api.Call{Stop: i / 2 % 2, Arrive: times[i], Depart: times[i+1]})
	}
	return l
}

// ofFlags returns calls of which each letter gives Board and Alight: b, a, x for both, and any other for none.
func ofFlags(flags string) []api.Call {
	l := chain(len(flags))
	for i := range l {
		l[i].Board = flags[i] == 'b' || flags[i] == 'x'
		l[i].Alight = flags[i] == 'a' || flags[i] == 'x'
	}
	return l
}

// kinds returns calls that are valid for two stops and times from 0 to 100, and calls that are not; which of them can follow each other differs.
func kinds() []api.Call {
	return []api.Call{
		{Stop: 0, Arrive: 0, Depart: 0, Board: true},
		{Stop: 1, Arrive: 0, Depart: 50, Alight: true},
		{Stop: 0, Arrive: 50, Depart: 60, Board: true, Alight: true},
		{Stop: 1, Arrive: 60, Depart: 100},
		{Stop: 0, Arrive: 100, Depart: 100, Alight: true},
		{Stop: 2, Arrive: 100, Depart: 101, Board: true},
		{Stop: 1, Arrive: 70, Depart: 69, Board: true, Alight: true},
		{Stop: -1, Arrive: -1, Depart: 0},
	}
}

// lists returns all lists of up to length of the elements.
func lists[T any](elements []T, length int) [][]T {
	all := [][]T{nil}
	for from := 0; length > 0; length-- {
		to := len(all)
		for _, l := range all[from:to] {
			for _, x := range elements {
				all = append(all, append(slices.Clone(l), x))
			}
		}
		from = to
	}
	return all
}

// flagLists returns calls with all combinations of Board and Alight, for up to length calls.
func flagLists(length int) [][]api.Call {
	var all [][]api.Call
	for _, flags := range lists([]byte("bax-"), length) {
		all = append(all, ofFlags(string(flags)))
	}
	return all
}

// source returns a function that returns integers from 0, up to the one before below, without a pattern.
func source(seed int) func(below int) int {
	state := uint64(seed)
	return func(below int) int {
		state = state*6364136223846793005 + 1442695040888963407
		return int(state>>33) % below
	}
}

// scattered returns n calls without a pattern, at up to mostStops stops and from the time 0 on; all of them are valid but for one in rare.
func scattered(seed, n, rare int) []api.Call {
	next := source(seed)
	wrong := integers()
	stops := 2 + next(mostStops-1)
	var l []api.Call
	stop, time := next(stops), 0
	for range n {
		c := api.Call{Stop: stop, Arrive: time + next(3)*next(300), Board: next(3) > 0, Alight: next(3) > 0}
		c.Depart = c.Arrive + next(2)*next(300)
		stop, time = (stop+1+next(stops-1))%stops, c.Depart
		if next(rare) == 0 {
			switch next(5) {
			case 0:
				c.Stop = wrong[next(len(wrong))]
			case 1:
				c.Arrive = wrong[next(len(wrong))]
			case 2:
				c.Depart = wrong[next(len(wrong))]
			case 3:
				c.Arrive, c.Depart = c.Depart+1, c.Arrive
			case 4:
				stop = c.Stop
			}
		}
		l = append(l, c)
	}
	return l
}

// tables returns lists of calls that are valid for mostStops stops and the times from 0 to mostTime, and lists that are not.
func tables() [][]api.Call {
	all := append(lists(kinds(), 4), flagLists(4)...)
	all = append(all, sample(), ofStops(0, 1, 0, 1, 2, 0), ofStops(3, 3), ofTimes(least, 0, 0, greatest), ofTimes(greatest, greatest, least, least))
	for n := range mostCalls + 3 {
		all = append(all, chain(n), scattered(n, n, 1000000), scattered(n, n, 100), scattered(n, n, 10), scattered(n, n, 2))
	}
	for _, n := range []int{mostStops, 65, 100, 127, 128, 129} {
		all = append(all, chain(n), scattered(n, n, 50))
	}
	return all
}

// bounds has a number of stops and the bounds of the times.
type bounds struct {
	stops, low, high int
}

// someBounds returns bounds for which the lists of tables are valid or not.
func someBounds() []bounds {
	return []bounds{{mostStops, 0, mostTime}, {2, 0, 100}, {3, 0, 101}, {1, 0, mostTime}, {mostStops, 1, mostTime}, {mostStops, 0, 99}, {mostStops, -1, 300}, {0, 0, mostTime}, {-1, 0, 100}, {2, 100, 0}, {greatest, least, greatest}, {least, least, greatest}, {mostStops, greatest, least}}
}

// with returns the list with another call at the index i.
func with(calls []api.Call, i int, c api.Call) []api.Call {
	l := slices.Clone(calls)
	l[i] = c
	return l
}

// changes returns the calls that differ from c in one part.
func changes(c api.Call) []api.Call {
	list := slices.Repeat([]api.Call{c}, 9)
	list[0].Stop++
	list[1].Stop--
	list[2].Arrive++
	list[3].Arrive--
	list[4].Depart++
	list[5].Depart--
	list[6].Board = !c.Board
	list[7].Alight = !c.Alight
	list[8].Stop ^= 1 << 62
	return list
}

// text returns a list, or its beginning, for a report.
func text(calls []api.Call) string {
	return fmt.Sprintf("%.200s of %d calls", fmt.Sprint(calls), len(calls))
}

// collect returns the pairs that an iterator yields.
func collect(rides iter.Seq2[int, int]) [][2]int {
	list := [][2]int{}
	for board, alight := range rides {
		list = append(list, [2]int{board, alight})
	}
	return list
}

// Checks.

func checkCheck(t *testing.T, calls []api.Call, stops, low, high, index int, e api.Errno) {
	t.Helper()
	if i, got := Check(calls, stops, low, high); i != index || got != e {
		t.Errorf("Check(%s, %d, %d, %d) = %d, %d; want %d, %d", text(calls), stops, low, high, i, got, index, e)
	}
}

func checkShift(t *testing.T, calls []api.Call, by int, want []api.Call) {
	t.Helper()
	if got := Shift(calls, by); !wantedEqual(got, want) {
		t.Errorf("Shift(%s, %d) = %s; want %s", text(calls), by, text(got), text(want))
	}
}

func checkRidable(t *testing.T, calls []api.Call, board, alight int, want bool) {
	t.Helper()
	if got := Ridable(calls, board, alight); got != want {
		t.Errorf("Ridable(%s, %d, %d) = %v", text(calls), board, alight, got)
	}
}

func checkRides(t *testing.T, calls []api.Call, want ...[2]int) {
	t.Helper()
	rides := Rides(calls)
	if rides == nil {
		t.Fatalf("Rides(%s) is nil", text(calls))
	}
	if got := collect(rides); !slices.Equal(got, want) {
		t.Errorf("Rides(%s) yields %v; want %v", text(calls), got, want)
	}
}

func checkAt(t *testing.T, calls []api.Call, stop int, want ...int) {
	t.Helper()
	if got := At(calls, stop); !slices.Equal(got, want) {
		t.Errorf("At(%s, %d) = %v; want %v", text(calls), stop, got, want)
	}
}

func checkDuration(t *testing.T, calls []api.Call, want int) {
	t.Helper()
	if got := Duration(calls); got != want {
		t.Errorf("Duration(%s) = %d; want %d", text(calls), got, want)
	}
}

func checkEqual(t *testing.T, a, b []api.Call, want bool) {
	t.Helper()
	if got := Equal(a, b); got != want {
		t.Errorf("Equal(%s, %s) = %v", text(a), text(b), got)
	}
	if got := Equal(b, a); got != want {
		t.Errorf("Equal(%s, %s) = %v", text(b), text(a), got)
	}
}

// checkBounds compares Check with the definition.
func checkBounds(t *testing.T, calls []api.Call, stops, low, high int) {
	t.Helper()
	index, e := wantedCheck(calls, stops, low, high)
	checkCheck(t, calls, stops, low, high, index, e)
}

// checkRidables compares Ridable and Rides with the definition.
func checkRidables(t *testing.T, calls []api.Call) {
	t.Helper()
	checkRides(t, calls, wantedRides(calls)...)
	for board := -2; board <= len(calls)+2; board++ {
		for alight := -2; alight <= len(calls)+2; alight++ {
			checkRidable(t, calls, board, alight, isRide(calls, board, alight))
		}
	}
}

// checkList compares all functions of a list with the definitions.
func checkList(t *testing.T, calls []api.Call) {
	t.Helper()
	for _, b := range someBounds() {
		checkBounds(t, calls, b.stops, b.low, b.high)
	}
	for _, by := range []int{0, 1, -1, 60, -100, mostTime, 1 << 62, least, greatest} {
		checkShift(t, calls, by, wantedShift(calls, by))
	}
	checkRidables(t, calls)
	for _, stop := range []int{-1, 0, 1, 2, 3, mostStops - 1, mostStops, least, greatest} {
		checkAt(t, calls, stop, wantedAt(calls, stop)...)
	}
	for _, c := range calls {
		checkAt(t, calls, c.Stop, wantedAt(calls, c.Stop)...)
	}
	checkDuration(t, calls, wantedDuration(calls))
	checkEqual(t, calls, slices.Clone(calls), true)
}

// P16.1 (Check)

func TestCheckExamples(t *testing.T) {
	checkCheck(t, sample(), 2, 100, 300, 0, api.OK)
	checkCheck(t, sample(), 2, 101, 300, 0, api.ErrTime)
	checkCheck(t, sample(), 1, 100, 300, 1, api.ErrReference)
	checkCheck(t, sample(), 2, 100, 299, 2, api.ErrTime)
	checkCheck(t, sample(), 2, 0, mostTime, 0, api.OK)
	checkCheck(t, sample(), 0, 100, 300, 0, api.ErrReference)
}

func TestCheckLimit(t *testing.T) {
	checkCheck(t, nil, mostStops, 0, mostTime, 0, api.ErrLimit)
	checkCheck(t, []api.Call{}, mostStops, 0, mostTime, 0, api.ErrLimit)
	checkCheck(t, sample()[:0], mostStops, 0, mostTime, 0, api.ErrLimit)
	checkCheck(t, sample()[:1], mostStops, 0, mostTime, 0, api.ErrLimit)
	checkCheck(t, sample()[:2], mostStops, 0, mostTime, 0, api.OK)
	for n := range mostCalls + 1 {
		if n < 2 {
			checkCheck(t, chain(n), mostStops, 0, mostTime, 0, api.ErrLimit)
		} else {
			checkCheck(t, chain(n), mostStops, 0, mostTime, 0, api.OK)
		}
	}
	for _, n := range []int{mostCalls + 1, mostCalls + 2, 2 * mostCalls, 63, 64, 65, 255, 256, 257, 258, 256 + mostCalls, 65536, 65538, 65536 + mostCalls, 100000} {
		checkCheck(t, chain(n), mostStops, 0, greatest, 0, api.ErrLimit)
		checkCheck(t, chain(n)[:mostCalls], mostStops, 0, greatest, 0, api.OK)
	}
}

// The number of calls comes before all other errors.
func TestCheckLimitFirst(t *testing.T) {
	for _, n := range []int{0, 1, mostCalls + 1, 100} {
		for _, stops := range []int{least, -1, 0, 1, greatest} {
			checkCheck(t, chain(n), stops, 0, mostTime, 0, api.ErrLimit)
			// Equal stops next to each other, and times that are too early.
			checkCheck(t, make([]api.Call, n), stops, 1, mostTime, 0, api.ErrLimit)
		}
		checkCheck(t, chain(n), mostStops, greatest, least, 0, api.ErrLimit)
		for i := range n {
			for _, c := range []api.Call{{Stop: -1}, {Stop: mostStops}, {Stop: 1, Arrive: -1}, {Stop: 1, Depart: -1}, {Stop: 1, Arrive: greatest, Depart: greatest}} {
				checkCheck(t, with(chain(n), i, c), mostStops, 0, mostTime, 0, api.ErrLimit)
			}
		}
	}
}

func TestCheckReference(t *testing.T) {
	for _, c := range []struct {
		stop, stops int
		e           api.Errno
	}{
		{-1, 2, api.ErrReference}, {0, 2, api.OK}, {1, 2, api.OK}, {2, 2, api.ErrReference}, {3, 2, api.ErrReference},
		{mostStops - 1, mostStops, api.OK}, {mostStops, mostStops, api.ErrReference}, {mostStops, mostStops + 1, api.OK}, {1 << 32, mostStops, api.ErrReference}, {256, mostStops, api.ErrReference},
		{least, 2, api.ErrReference}, {greatest, 2, api.ErrReference}, {greatest - 2, greatest, api.OK}, {greatest - 1, greatest, api.OK}, {greatest, greatest, api.ErrReference}, {least, greatest, api.ErrReference}, {-1, greatest, api.ErrReference},
	} {
		// At another stop that exists.
		other := 1
		if c.stop == 1 {
			other = 0
		}
		if c.e == api.OK {
			checkCheck(t, ofStops(c.stop, other), c.stops, 0, 1000, 0, api.OK)
			checkCheck(t, ofStops(other, c.stop), c.stops, 0, 1000, 0, api.OK)
		} else {
			checkCheck(t, ofStops(c.stop, other), c.stops, 0, 1000, 0, c.e)
			checkCheck(t, ofStops(other, c.stop), c.stops, 0, 1000, 1, c.e)
			checkCheck(t, ofStops(0, 1, 0, c.stop, 0), c.stops, 0, 1000, 3, c.e)
		}
	}
}

// With one stop, the second call is at the wrong one; with none, the first call is already.
func TestCheckReferenceOfFewStops(t *testing.T) {
	checkCheck(t, ofStops(0, 1), 1, 0, 1000, 1, api.ErrReference)
	checkCheck(t, ofStops(1, 0), 1, 0, 1000, 0, api.ErrReference)
	checkCheck(t, ofStops(0, -1), 1, 0, 1000, 1, api.ErrReference)
	for _, stops := range []int{0, -1, -2, -mostStops, least, least + 1} {
		for _, stop := range append(edges(), stops, stops+1, least) {
			checkCheck(t, ofStops(stop, 0), stops, 0, 1000, 0, api.ErrReference)
			checkCheck(t, ofStops(stop, stop), stops, 0, 1000, 0, api.ErrReference)
		}
	}
}

// All numbers of stops at the limits.
func TestCheckReferenceOfAllIntegers(t *testing.T) {
	for _, stops := range integers() {
		for _, stop := range append(integers(), stops-1, stops+1) {
			if stops > 1 && stop != 1 {
				index, e := 1, api.ErrReference
				if stop >= 0 && stop < stops {
					index, e = 0, api.OK
				}
				checkCheck(t, ofStops(1, stop), stops, 0, 1000, index, e)
			}
			checkBounds(t, ofStops(stop, 1), stops, 0, 1000)
			checkBounds(t, ofStops(stop, stop), stops, 0, 1000)
		}
	}
}

// Equal stops are an error only next to each other.
func TestCheckStop(t *testing.T) {
	for _, stop := range []int{0, 1, 5, mostStops - 1} {
		checkCheck(t, ofStops(stop, stop), mostStops, 0, 1000, 1, api.ErrStop)
		checkCheck(t, ofStops(stop, 2, stop), mostStops, 0, 1000, 0, api.OK)
		checkCheck(t, ofStops(stop, 2, 3, stop), mostStops, 0, 1000, 0, api.OK)
		checkCheck(t, ofStops(2, stop, stop), mostStops, 0, 1000, 2, api.ErrStop)
		checkCheck(t, ofStops(stop, stop, 2), mostStops, 0, 1000, 1, api.ErrStop)
		checkCheck(t, ofStops(2, stop, stop, stop), mostStops, 0, 1000, 2, api.ErrStop)
		checkCheck(t, ofStops(2, stop, 3, stop, stop), mostStops, 0, 1000, 4, api.ErrStop)
	}
	checkCheck(t, ofStops(0, 0), 1, 0, 1000, 1, api.ErrStop)
	checkCheck(t, ofStops(greatest-1, greatest-1), greatest, 0, 1000, 1, api.ErrStop)
	// All other parts of the calls may be the same.
	checkCheck(t, []api.Call{{Stop: 3}, {Stop: 4}}, mostStops, 0, 1000, 0, api.OK)
	checkCheck(t, []api.Call{{Stop: 3}, {Stop: 3}}, mostStops, 0, 1000, 1, api.ErrStop)
	checkCheck(t, []api.Call{{Stop: 3, Board: true}, {Stop: 3, Arrive: 5, Depart: 9, Alight: true}}, mostStops, 0, 1000, 1, api.ErrStop)
	// At each place of a full list, and between all pairs of places.
	for j := range mostCalls {
		for i := range j {
			l := chain(mostCalls)
			for k := range l {
				l[k].Stop = k
			}
			l[j].Stop = l[i].Stop
			if i == j-1 {
				checkCheck(t, l, mostStops, 0, mostTime, j, api.ErrStop)
			} else {
				checkCheck(t, l, mostStops, 0, mostTime, 0, api.OK)
			}
		}
	}
}

// The times from low over Arrive and Depart to high may be equal, but must not descend.
func TestCheckTime(t *testing.T) {
	for _, c := range []struct {
		arrive, depart, low, high int
		e                         api.Errno
	}{
		{100, 200, 100, 200, api.OK}, {100, 200, 99, 201, api.OK}, {100, 200, 101, 200, api.ErrTime}, {100, 200, 100, 199, api.ErrTime},
		{99, 200, 100, 200, api.ErrTime}, {101, 200, 100, 200, api.OK}, {100, 199, 100, 200, api.OK}, {100, 201, 100, 200, api.ErrTime},
		{150, 150, 100, 200, api.OK}, {150, 151, 100, 200, api.OK}, {151, 150, 100, 200, api.ErrTime}, {100, 100, 100, 200, api.OK}, {200, 200, 100, 200, api.OK}, {201, 201, 100, 200, api.ErrTime}, {99, 99, 100, 200, api.ErrTime}, {99, 100, 100, 200, api.ErrTime}, {200, 201, 100, 200, api.ErrTime},
		{100, 99, 100, 200, api.ErrTime}, {201, 200, 100, 200, api.ErrTime}, {200, 100, 100, 200, api.ErrTime}, {201, 99, 100, 200, api.ErrTime},
		{100, 100, 100, 100, api.OK}, {100, 101, 100, 100, api.ErrTime}, {99, 100, 100, 100, api.ErrTime}, {100, 100, 101, 100, api.ErrTime}, {100, 101, 101, 100, api.ErrTime}, {100, 100, 101, 99, api.ErrTime}, {150, 150, 200, 100, api.ErrTime},
		{-1, 0, 0, 100, api.ErrTime}, {0, 0, 0, 100, api.OK}, {0, 0, 0, 0, api.OK}, {-1, -1, -1, -1, api.OK}, {0, 1, 0, 0, api.ErrTime}, {-2, -1, -2, -1, api.OK}, {-1, -2, -2, -1, api.ErrTime}, {-5, 5, -5, 5, api.OK}, {-5, 5, -4, 5, api.ErrTime}, {-5, 5, -5, 4, api.ErrTime},
		{0, mostTime, 0, mostTime, api.OK}, {0, mostTime + 1, 0, mostTime, api.ErrTime}, {0, mostTime + 1, 0, mostTime + 1, api.OK}, {0, mostMoment, 0, mostMoment, api.OK}, {0, mostMoment + 1, 0, mostMoment, api.ErrTime}, {mostMoment + 1, mostMoment + 1, 0, greatest, api.OK},
		{least, greatest, least, greatest, api.OK}, {greatest, least, least, greatest, api.ErrTime}, {least, least, least, greatest, api.OK}, {greatest, greatest, least, greatest, api.OK}, {least, 0, least + 1, 0, api.ErrTime}, {0, greatest, 0, greatest - 1, api.ErrTime}, {0, 0, greatest, least, api.ErrTime}, {least, greatest, greatest, least, api.ErrTime}, {least, least, least, least, api.OK}, {greatest, greatest, greatest, greatest, api.OK}, {0, least, least, greatest, api.ErrTime}, {greatest, 0, least, greatest, api.ErrTime},
	} {
		call := api.Call{Stop: 5, Arrive: c.arrive, Depart: c.depart, Alight: true}
		first := []api.Call{call, {Stop: 6, Arrive: c.depart, Depart: c.depart}}
		second := []api.Call{{Stop: 6, Arrive: c.low, Depart: c.low}, call}
		if c.low > c.high {
			checkCheck(t, second, mostStops, c.low, c.high, 0, api.ErrTime)
		} else if c.e == api.OK {
			checkCheck(t, second, mostStops, c.low, c.high, 0, api.OK)
		} else {
			checkCheck(t, second, mostStops, c.low, c.high, 1, c.e)
		}
		checkCheck(t, first, mostStops, c.low, c.high, 0, c.e)
	}
}

// A call may begin when the previous one ends, but not earlier.
func TestCheckTimeOfPreviousCall(t *testing.T) {
	for _, depart := range edges() {
		for _, difference := range []int{-2, -1, 0, 1, 2} {
			arrive, fits := sum(depart, difference)
			if !fits {
				continue
			}
			l := ofTimes(least, depart, arrive, greatest)
			if difference < 0 {
				checkCheck(t, l, 2, least, greatest, 1, api.ErrTime)
			} else {
				checkCheck(t, l, 2, least, greatest, 0, api.OK)
			}
		}
	}
	checkCheck(t, ofTimes(0, 10, 10, 10, 10, 20), 2, 0, 20, 0, api.OK)
	checkCheck(t, ofTimes(0, 10, 9, 10, 10, 20), 2, 0, 20, 1, api.ErrTime)
	checkCheck(t, ofTimes(0, 10, 10, 10, 9, 20), 2, 0, 20, 2, api.ErrTime)
	// Between the Arrive and the Depart of the previous call is too early.
	checkCheck(t, ofTimes(0, 10, 5, 20), 2, 0, 20, 1, api.ErrTime)
	checkCheck(t, ofTimes(0, 10, 0, 20), 2, 0, 20, 1, api.ErrTime)
	checkCheck(t, ofTimes(5, 10, 0, 20), 2, 0, 20, 1, api.ErrTime)
	// Calls that take no time can all be at the same moment.
	checkCheck(t, ofTimes(make([]int, 2*mostCalls)...), 2, 0, 0, 0, api.OK)
	for i := range mostCalls {
		for _, by := range []int{-1, 1} {
			l := chain(mostCalls)
			// All calls from i on are a second after or before the end of the previous one.
			if i > 0 {
				l = append(l[:i], wantedShift(l[i:], l[i-1].Depart-l[i].Arrive+by)...)
			}
			if i > 0 && by < 0 {
				checkCheck(t, l, mostStops, -1, mostTime, i, api.ErrTime)
			} else {
				checkCheck(t, l, mostStops, -1, mostTime, 0, api.OK)
			}
		}
	}
}

// The first call has no previous one: neither an empty call, nor the last one, nor one of an earlier list.
func TestCheckFirstCall(t *testing.T) {
	for _, c := range []api.Call{{}, {Arrive: -5}, {Arrive: -5, Depart: -5}, {Arrive: least, Depart: least}, {Stop: 1, Arrive: -1}, {Stop: mostStops - 1, Arrive: -100, Depart: -50}} {
		l := []api.Call{c, {Stop: 7, Arrive: 10, Depart: 20}, {Stop: c.Stop, Arrive: 30, Depart: 40}}
		checkCheck(t, l, mostStops, least, 40, 0, api.OK)
		checkCheck(t, l, mostStops, c.Arrive, 40, 0, api.OK)
		checkCheck(t, l[:2], mostStops, c.Arrive, 20, 0, api.OK)
		checkCheck(t, l[1:], mostStops, 10, 40, 0, api.OK)
		if c.Arrive > least {
			checkCheck(t, append(wantedShift(l, -1), api.Call{}), mostStops, c.Arrive, 40, 0, api.ErrTime)
		}
	}
}

// Boarding and alighting have no influence.
func TestCheckIgnoresFlags(t *testing.T) {
	for _, l := range flagLists(5) {
		if len(l) < 2 {
			checkCheck(t, l, mostStops, 0, mostTime, 0, api.ErrLimit)
			continue
		}
		checkCheck(t, l, mostStops, 0, mostTime, 0, api.OK)
		l[1].Depart = l[1].Arrive - 1
		checkCheck(t, l, mostStops, 0, mostTime, 1, api.ErrTime)
	}
}

// wrongCalls returns, for a call and the call before it, calls with each error, and with several of which the first one counts.
func wrongCalls(previous, c api.Call) map[api.Call]api.Errno {
	wrong := map[api.Call]api.Errno{}
	add := func(e api.Errno, stop, arrive, depart int) {
		wrong[api.Call{Stop: stop, Arrive: arrive, Depart: depart, Board: c.Board, Alight: c.Alight}] = e
	}
	times := [][2]int{{-1, c.Depart}, {c.Depart + 1, c.Depart}, {c.Arrive, mostTime + 1}, {previous.Depart - 1, c.Depart}, {least, greatest}, {greatest, least}}
	for _, stop := range []int{-1, mostStops, least, greatest} {
		add(api.ErrReference, stop, c.Arrive, c.Depart)
		for _, time := range times {
			add(api.ErrReference, stop, time[0], time[1])
		}
	}
	add(api.ErrStop, previous.Stop, c.Arrive, c.Depart)
	for _, time := range times {
		add(api.ErrStop, previous.Stop, time[0], time[1])
		add(api.ErrTime, c.Stop, time[0], time[1])
	}
	return wrong
}

// Of several errors of one call, ErrReference comes first, then ErrStop.
func TestCheckErrorsOfOneCall(t *testing.T) {
	full := chain(mostCalls)
	for i := 1; i < mostCalls; i++ {
		for c, e := range wrongCalls(full[i-1], full[i]) {
			checkCheck(t, with(full, i, c), mostStops, 0, mostTime, i, e)
			checkCheck(t, append(slices.Clone(full[:i]), c), mostStops, 0, mostTime, i, e)
		}
	}
	// An equal stop that does not exist: the first of the two is wrong already.
	checkCheck(t, ofStops(0, 9, 9), 9, 0, 1000, 1, api.ErrReference)
	checkCheck(t, ofStops(-1, -1), 9, 0, 1000, 0, api.ErrReference)
	// The first call has no ErrStop.
	for _, c := range []api.Call{{Stop: -1, Arrive: -1}, {Stop: 9, Depart: 1001}, {Stop: least, Arrive: 5, Depart: 4}} {
		checkCheck(t, []api.Call{c, {Stop: 1, Arrive: 1000, Depart: 1000}}, 9, 0, 1000, 0, api.ErrReference)
		c.Stop = 0
		checkCheck(t, []api.Call{c, {Stop: 1, Arrive: 1000, Depart: 1000}}, 9, 0, 1000, 0, api.ErrTime)
		checkCheck(t, []api.Call{c, {Stop: 0, Arrive: 1000, Depart: 1000}}, 9, 0, 1000, 0, api.ErrTime)
	}
}

// Of the errors of several calls, the one of the first call comes first, whatever the errors are.
func TestCheckErrorsOfTwoCalls(t *testing.T) {
	full := chain(mostCalls)
	// Wrong whatever the call before is like, but for the second one.
	wrong := []struct {
		c api.Call
		e api.Errno
	}{
		{api.Call{Stop: -1, Arrive: mostTime, Depart: mostTime}, api.ErrReference}, {api.Call{Stop: mostStops, Arrive: -1}, api.ErrReference},
		{api.Call{Stop: mostStops - 1, Arrive: -1, Depart: mostTime}, api.ErrTime}, {api.Call{Stop: mostStops - 1, Arrive: mostTime, Depart: mostTime + 1}, api.ErrTime}, {api.Call{Stop: mostStops - 1, Arrive: mostTime, Depart: 0}, api.ErrTime},
		{api.Call{Stop: -2}, api.ErrStop},
	}
	for j := range mostCalls {
		for i := range j {
			for _, first := range wrong {
				for _, second := range wrong {
					if i == 0 && first.e == api.ErrStop {
						continue
					}
					l := with(with(full, i, first.c), j, second.c)
					for _, k := range []int{i, j} {
						if l[k].Stop == -2 {
							l[k] = full[k]
							l[k].Stop = l[k-1].Stop
						}
					}
					checkCheck(t, l, mostStops, 0, mostTime, i, first.e)
				}
			}
		}
	}
}

// The calls before the index are valid, and the error is that of the first call that is not.
func TestCheckFirstError(t *testing.T) {
	count := map[api.Errno]int{}
	for _, l := range tables() {
		for _, b := range someBounds() {
			index, e := Check(l, b.stops, b.low, b.high)
			count[e]++
			if e == api.OK || e == api.ErrLimit {
				if index != 0 {
					t.Errorf("Check(%s, %v) = %d, %d", text(l), b, index, e)
				}
			} else if index < 0 || index >= len(l) {
				t.Errorf("Check(%s, %v) = %d, %d", text(l), b, index, e)
			} else {
				if index >= 2 {
					checkCheck(t, l[:index], b.stops, b.low, b.high, 0, api.OK)
				}
				if index >= 1 {
					checkCheck(t, l[:index+1], b.stops, b.low, b.high, index, e)
				}
			}
		}
	}
	for _, e := range []api.Errno{api.OK, api.ErrLimit, api.ErrReference, api.ErrStop, api.ErrTime} {
		if count[e] < 100 {
			t.Errorf("Check returned %d only %d times", e, count[e])
		}
	}
	if len(count) != 5 {
		t.Errorf("Check returned other errors: %v", count)
	}
}

// All pairs of calls with small numbers, and all small bounds.
func TestCheckOfAllSmallPairs(t *testing.T) {
	var calls []api.Call
	for stop := -1; stop <= 2; stop++ {
		for arrive := range 4 {
			for depart := range 4 {
				calls = append(calls, api.Call{Stop: stop, Arrive: arrive, Depart: depart})
			}
		}
	}
	for _, first := range calls {
		for _, second := range calls {
			l := []api.Call{first, second}
			for stops := range 4 {
				checkBounds(t, l, stops, 0, 3)
				checkBounds(t, l, stops, 1, 2)
			}
			for low := range 4 {
				for high := range 4 {
					checkBounds(t, l, 2, low, high)
				}
			}
		}
	}
}

// All lists of three calls with small numbers.
func TestCheckOfAllSmallTriples(t *testing.T) {
	var calls []api.Call
	for stop := range 3 {
		for arrive := range 3 {
			for depart := range 3 {
				calls = append(calls, api.Call{Stop: stop, Arrive: arrive, Depart: depart})
			}
		}
	}
	for _, l := range lists(calls, 3) {
		checkBounds(t, l, 3, 0, 2)
		checkBounds(t, l, 2, 0, 2)
		checkBounds(t, l, 3, 1, 1)
	}
}

// Each part of a call and each bound at all integers at the limits.
func TestCheckOfAllIntegers(t *testing.T) {
	for _, n := range integers() {
		for i := range 3 {
			for _, b := range []bounds{{2, 100, 300}, {mostStops, 0, mostTime}, {greatest, least, greatest}} {
				l := sample()
				l[i].Stop = n
				checkBounds(t, l, b.stops, b.low, b.high)
				l = sample()
				l[i].Arrive = n
				checkBounds(t, l, b.stops, b.low, b.high)
				l[i].Depart = n
				checkBounds(t, l, b.stops, b.low, b.high)
				l[i].Arrive = sample()[i].Arrive
				checkBounds(t, l, b.stops, b.low, b.high)
			}
		}
		checkBounds(t, sample(), n, 100, 300)
		checkBounds(t, sample(), 2, n, 300)
		checkBounds(t, sample(), 2, 100, n)
		checkBounds(t, sample(), 2, n, n)
		checkBounds(t, ofTimes(n, n, n, n), 2, n, n)
		for _, m := range edges() {
			checkBounds(t, ofTimes(n, m, n, m), 2, least, greatest)
			checkBounds(t, ofTimes(m, m, n, n), 2, m, n)
			checkBounds(t, ofTimes(n, n, n, n), 2, m, greatest)
			checkBounds(t, ofTimes(n, n, n, n), 2, least, m)
			checkBounds(t, ofStops(m, n), mostStops, 0, 1000)
			checkBounds(t, ofStops(0, n), m, 0, 1000)
		}
	}
}

// P16.2 (Shift)

func TestShift(t *testing.T) {
	for _, by := range []int{0, 1, -1, 60, -60, -100, 86400, -86400, mostMoment, -mostMoment} {
		checkShift(t, sample(), by, []api.Call{{Stop: 0, Arrive: 100 + by, Depart: 110 + by, Board: true}, {Stop: 1, Arrive: 200 + by, Depart: 200 + by, Board: true, Alight: true}, {Stop: 0, Arrive: 300 + by, Depart: 300 + by, Alight: true}})
	}
	for _, by := range integers() {
		checkShift(t, nil, by, nil)
		checkShift(t, []api.Call{}, by, nil)
		checkShift(t, sample()[:0], by, nil)
	}
	for _, n := range []int{1, 2, mostCalls, mostCalls + 1, 1000, 100000} {
		checkShift(t, chain(n), 3600, wantedShift(chain(n), 3600))
		checkShift(t, chain(n), 0, chain(n))
	}
}

// Stops, Board and Alight stay as they are, and the times need not be valid.
func TestShiftOfInvalidCalls(t *testing.T) {
	checkShift(t, []api.Call{{Stop: -1, Arrive: 10, Depart: 5}, {Stop: -1, Arrive: -7, Depart: greatest - 7, Alight: true}}, 7, []api.Call{{Stop: -1, Arrive: 17, Depart: 12}, {Stop: -1, Arrive: 0, Depart: greatest, Alight: true}})
	checkShift(t, []api.Call{{Stop: greatest, Arrive: 1, Depart: 0, Board: true}, {Stop: least}}, -1, []api.Call{{Stop: greatest, Arrive: 0, Depart: -1, Board: true}, {Stop: least, Arrive: -1, Depart: -1}})
}

func TestShiftWrapsAround(t *testing.T) {
	for _, c := range []struct{ time, by, want int }{
		{greatest, 1, least}, {greatest, 2, least + 1}, {least, -1, greatest}, {least, -2, greatest - 1}, {greatest, greatest, -2}, {least, least, 0}, {1, greatest, least}, {-1, least, greatest}, {greatest, least, -1}, {least, greatest, -1}, {0, least, least}, {0, greatest, greatest}, {1 << 62, 1 << 62, least}, {-1 << 62, -1 << 62, least}, {greatest, 0, greatest}, {least, 0, least}, {greatest - 5, 5, greatest}, {least + 5, -5, least},
	} {
		checkShift(t, []api.Call{{Stop: 7, Arrive: c.time, Depart: 0, Board: true}}, c.by, []api.Call{{Stop: 7, Arrive: c.want, Depart: c.by, Board: true}})
		checkShift(t, []api.Call{{Stop: 7, Arrive: 0, Depart: c.time, Alight: true}}, c.by, []api.Call{{Stop: 7, Arrive: c.by, Depart: c.want, Alight: true}})
	}
	for _, time := range integers() {
		for _, by := range integers() {
			want, _ := sum(time, by)
			if got := Shift([]api.Call{{Arrive: time, Depart: time}}, by); len(got) != 1 || got[0].Arrive != want || got[0].Depart != want {
				t.Errorf("%d shifted by %d: %v", time, by, got)
			}
		}
	}
}

// P16.3 (Ridable)

func TestRidable(t *testing.T) {
	for board := -3; board <= 5; board++ {
		for alight := -3; alight <= 5; alight++ {
			want := board == 0 && alight == 1 || board == 0 && alight == 2 || board == 1 && alight == 2
			checkRidable(t, sample(), board, alight, want)
		}
	}
	// Alight of the first call, Board of the last one, and those of the calls between have no influence.
	for _, between := range []string{"", "-", "x", "b", "a", "ab-x"} {
		for _, first := range "bx" {
			for _, last := range "ax" {
				checkRidable(t, ofFlags(string(first)+between+string(last)), 0, len(between)+1, true)
			}
			for _, last := range "b-" {
				checkRidable(t, ofFlags(string(first)+between+string(last)), 0, len(between)+1, false)
			}
		}
		for _, first := range "a-" {
			for _, last := range "ax" {
				checkRidable(t, ofFlags(string(first)+between+string(last)), 0, len(between)+1, false)
			}
		}
	}
}

func TestRidableOfOtherIndices(t *testing.T) {
	for _, n := range []int{0, 1, 2, 3, mostCalls, mostCalls + 1} {
		l := chain(n)
		for i := range l {
			l[i].Board, l[i].Alight = true, true
		}
		for _, i := range integers() {
			for _, k := range append(edges(), n-2, n-1, n, n+1) {
				checkRidable(t, l, i, k, 0 <= i && i < k && k < n)
				checkRidable(t, l, k, i, 0 <= k && k < i && i < n)
			}
		}
	}
	for _, i := range integers() {
		checkRidable(t, nil, i, i, false)
		checkRidable(t, nil, 0, i, false)
		checkRidable(t, nil, i, 0, false)
		checkRidable(t, sample(), i, i, false)
	}
}

// The calls need not be valid: only their order, Board and Alight count.
func TestRidesOfInvalidCalls(t *testing.T) {
	l := []api.Call{{Stop: -1, Arrive: greatest, Depart: least, Board: true, Alight: true}, {Stop: -1, Arrive: least, Board: true, Alight: true}}
	checkRides(t, l, [2]int{0, 1})
	checkRidable(t, l, 0, 1, true)
	checkRidable(t, l, 1, 0, false)
	long := make([]api.Call, 1000)
	long[3].Board, long[998].Board, long[999].Board = true, true, true
	long[0].Alight, long[998].Alight, long[999].Alight = true, true, true
	checkRides(t, long, [2]int{3, 998}, [2]int{3, 999}, [2]int{998, 999})
	checkRidable(t, long, 3, 999, true)
	checkRidable(t, long, 0, 999, false)
}

// P16.3 (Rides)

func TestRides(t *testing.T) {
	checkRides(t, sample(), [2]int{0, 1}, [2]int{0, 2}, [2]int{1, 2})
	checkRides(t, sample()[:2], [2]int{0, 1})
	checkRides(t, sample()[1:], [2]int{0, 1})
	checkRides(t, ofFlags("xxxx"), [2]int{0, 1}, [2]int{0, 2}, [2]int{0, 3}, [2]int{1, 2}, [2]int{1, 3}, [2]int{2, 3})
	checkRides(t, ofFlags("bbaa"), [2]int{0, 2}, [2]int{0, 3}, [2]int{1, 2}, [2]int{1, 3})
	checkRides(t, ofFlags("aabb"))
	checkRides(t, ofFlags("baba"), [2]int{0, 1}, [2]int{0, 3}, [2]int{2, 3})
	checkRides(t, ofFlags("abab"), [2]int{1, 2})
	checkRides(t, ofFlags("b--a"), [2]int{0, 3})
	checkRides(t, ofFlags("-ba-"), [2]int{1, 2})
	checkRides(t, ofFlags("----"))
	checkRides(t, ofFlags("bbbb"))
	checkRides(t, ofFlags("aaaa"))
	checkRides(t, ofFlags("xa"), [2]int{0, 1})
	checkRides(t, ofFlags("bx"), [2]int{0, 1})
}

func TestRidesOfFewCalls(t *testing.T) {
	for _, l := range [][]api.Call{nil, {}, sample()[:0], sample()[:1], sample()[1:2], sample()[2:], ofFlags("x"), ofFlags("b"), ofFlags("a"), ofFlags("-")} {
		checkRides(t, l)
		Rides(l)(func(board, alight int) bool {
			t.Errorf("a ride of %s: %d, %d", text(l), board, alight)
			return true
		})
	}
}

// All combinations of Board and Alight.
func TestRidesOfAllFlags(t *testing.T) {
	for _, l := range flagLists(6) {
		checkRidables(t, l)
	}
	for _, flag := range []string{"b", "a", "x", "-"} {
		for n := range mostCalls + 3 {
			l := ofFlags(strings.Repeat(flag, n))
			checkRides(t, l, wantedRides(l)...)
		}
	}
}

// The pairs ascend: by board first, then by alight.
func TestRidesInOrder(t *testing.T) {
	for _, l := range tables() {
		got := collect(Rides(l))
		for i := range got[min(1, len(got)):] {
			if slices.Compare(got[i][:], got[i+1][:]) >= 0 {
				t.Errorf("Rides(%s) yields %v before %v", text(l), got[i], got[i+1])
			}
		}
	}
}

// The consumer is called once for each ride up to the one at which it returns false, and no more.
func TestRidesStop(t *testing.T) {
	for _, l := range append(flagLists(5), sample(), chain(mostCalls), ofFlags("xxxxxxxxxx"), ofFlags("bbb--aaa"), scattered(1, 40, 1000)) {
		want := wantedRides(l)
		rides := Rides(l)
		for last := range want {
			got := [][2]int{}
			rides(func(board, alight int) bool {
				got = append(got, [2]int{board, alight})
				return len(got) != last+1
			})
			if !slices.Equal(got, want[:last+1]) {
				t.Errorf("stopped after %d rides of %s: the consumer got %v", last+1, text(l), got)
			}
		}
		if got := collect(rides); !slices.Equal(got, want) {
			t.Errorf("after it was stopped, the iterator of %s yields %v", text(l), got)
		}
	}
}

func TestRidesBreak(t *testing.T) {
	want := [][2]int{{0, 1}, {0, 2}, {1, 2}}
	for last := range want {
		got := [][2]int{}
		for board, alight := range Rides(sample()) {
			got = append(got, [2]int{board, alight})
			if len(got) == last+1 {
				break
			}
		}
		if !slices.Equal(got, want[:last+1]) {
			t.Errorf("left after %d rides: %v", last+1, got)
		}
	}
	first := func() (int, int) {
		for board, alight := range Rides(ofFlags("-xbax")) {
			return board, alight
		}
		return -1, -1
	}
	if board, alight := first(); board != 1 || alight != 3 {
		t.Errorf("the first ride is %d, %d", board, alight)
	}
}

// An iterator begins anew each time it is used, also within a use of itself, and wherever it was left.
func TestRidesTwice(t *testing.T) {
	for _, l := range append(flagLists(4), chain(12), ofFlags("xxxxxx"), ofFlags("bx-xa")) {
		rides, want := Rides(l), wantedRides(l)
		outer := [][2]int{}
		for board, alight := range rides {
			outer = append(outer, [2]int{board, alight})
			if got := collect(rides); !slices.Equal(got, want) {
				t.Errorf("within a use at %d, %d, the iterator of %s yields %v", board, alight, text(l), got)
			}
			for range rides {
				break
			}
		}
		if !slices.Equal(outer, want) {
			t.Errorf("around other uses, the iterator of %s yields %v", text(l), outer)
		}
	}
}

// Two iterators that are used in turn do not disturb each other, nor do two uses of one.
func TestRidesInTurn(t *testing.T) {
	a, b := ofFlags("xxbxa"), ofFlags("bbaab-x")
	all := []iter.Seq2[int, int]{Rides(a), Rides(b), Rides(a)}
	all = append(all, all[1])
	wanted := [][][2]int{wantedRides(a), wantedRides(b), wantedRides(a), wantedRides(b)}
	got := make([][][2]int, len(all))
	more := true
	var next []func() (int, int, bool)
	for _, rides := range all {
		pull, stop := iter.Pull2(rides)
		defer stop()
		next = append(next, pull)
	}
	for more {
		more = false
		for i, pull := range next {
			if board, alight, ok := pull(); ok {
				got[i] = append(got[i], [2]int{board, alight})
				more = true
			}
		}
	}
	for i := range got {
		if !slices.Equal(got[i], wanted[i]) {
			t.Errorf("the iterator %d yields %v; want %v", i, got[i], wanted[i])
		}
	}
}

// An iterator is over the rides that the calls had when Rides was called.
func TestRidesKeepsCalls(t *testing.T) {
	l := sample()
	rides, other := Rides(l), Rides(l[1:])
	l[0].Board, l[2].Alight = false, false
	want := [][2]int{{0, 1}, {0, 2}, {1, 2}}
	if got := collect(rides); !slices.Equal(got, want) {
		t.Errorf("after the calls changed, the iterator yields %v", got)
	}
	if got := collect(other); !slices.Equal(got, [][2]int{{0, 1}}) {
		t.Errorf("after the calls changed, the iterator of two of them yields %v", got)
	}
	checkRides(t, l)
	l = sample()
	got := [][2]int{}
	for board, alight := range Rides(l) {
		got = append(got, [2]int{board, alight})
		clear(l)
	}
	if !slices.Equal(got, want) {
		t.Errorf("while the calls changed, the iterator yielded %v", got)
	}
}

// P16.4 (At)

func TestAt(t *testing.T) {
	checkAt(t, sample(), 0, 0, 2)
	checkAt(t, sample(), 1, 1)
	checkAt(t, sample(), 2)
	checkAt(t, sample(), -1)
	l := ofStops(5, 3, 5, 4, 3, 5, 5)
	checkAt(t, l, 5, 0, 2, 5, 6)
	checkAt(t, l, 3, 1, 4)
	checkAt(t, l, 4, 3)
	checkAt(t, l, 0)
	for _, stop := range integers() {
		checkAt(t, nil, stop)
		checkAt(t, []api.Call{}, stop)
		checkAt(t, l[:0], stop)
		checkAt(t, ofStops(stop), stop, 0)
		checkAt(t, ofStops(stop, stop^1, stop), stop, 0, 2)
		checkAt(t, ofStops(stop, stop^1, stop), stop^1, 1)
		checkAt(t, ofStops(stop^1), stop)
		checkAt(t, ofStops(stop^(1<<40)), stop)
	}
}

// All stops at the limits, with calls at all of them.
func TestAtOfAllIntegers(t *testing.T) {
	stops := integers()
	l := ofStops(append(slices.Clone(stops), stops...)...)
	for i, stop := range stops {
		checkAt(t, l, stop, i, len(stops)+i)
	}
	long := ofStops(slices.Repeat([]int{4, 0, 1, 0}, 10000)...)
	for stop := range 6 {
		checkAt(t, long, stop, wantedAt(long, stop)...)
	}
}

// P16.5 (Duration)

func TestDuration(t *testing.T) {
	checkDuration(t, sample(), 190)
	checkDuration(t, sample()[:2], 90)
	checkDuration(t, sample()[1:], 100)
	checkDuration(t, ofTimes(10, 20, 50, 90), 30)
	checkDuration(t, ofTimes(10, 20, 1000, 2000, 50, 90), 30)
	checkDuration(t, ofTimes(0, 20, 20, 50), 0)
	checkDuration(t, ofTimes(0, 20, 19, 50), -1)
	checkDuration(t, ofTimes(0, 0, mostTime, mostTime), mostTime)
	for n := 2; n <= mostCalls+2; n++ {
		checkDuration(t, chain(n), chain(n)[n-1].Arrive-chain(n)[0].Depart)
	}
}

func TestDurationOfFewCalls(t *testing.T) {
	for _, l := range [][]api.Call{nil, {}, sample()[:0], sample()[:1], sample()[2:], ofTimes(5, 9), ofTimes(9, 5), ofTimes(greatest, least), ofTimes(least, greatest)} {
		checkDuration(t, l, 0)
	}
}

func TestDurationWrapsAround(t *testing.T) {
	for _, c := range []struct{ depart, arrive, want int }{
		{least, 0, least}, {least, -1, greatest}, {least, greatest, -1}, {greatest, least, 1}, {1, least, greatest}, {0, least, least}, {-1, greatest, least}, {0, greatest, greatest}, {greatest, greatest, 0}, {least, least, 0}, {greatest, 0, -greatest}, {1 << 62, -1 << 62, least}, {-1 << 62, 1 << 62, least},
	} {
		checkDuration(t, ofTimes(7, c.depart, c.arrive, 8), c.want)
		checkDuration(t, ofTimes(7, c.depart, 1, 2, c.arrive, 8), c.want)
	}
	for _, depart := range integers() {
		for _, arrive := range integers() {
			l := ofTimes(3, depart, arrive, 4)
			checkDuration(t, l, wantedDuration(l))
		}
	}
}

// P16.6 (Equal)

func TestEqual(t *testing.T) {
	checkEqual(t, nil, nil, true)
	checkEqual(t, nil, []api.Call{}, true)
	checkEqual(t, []api.Call{}, sample()[:0], true)
	checkEqual(t, sample(), sample(), true)
	l := sample()
	checkEqual(t, l, l, true)
	checkEqual(t, l, nil, false)
	checkEqual(t, []api.Call{}, l, false)
	checkEqual(t, []api.Call{{}}, nil, false)
	checkEqual(t, []api.Call{{}}, []api.Call{{}}, true)
	checkEqual(t, []api.Call{{}}, []api.Call{{}, {}}, false)
	for n := range 4 {
		for m := range 4 {
			checkEqual(t, l[:n], sample()[:m], n == m)
			checkEqual(t, l[n:], sample()[m:], n == m)
		}
	}
	checkEqual(t, append(sample(), api.Call{}), sample(), false)
	checkEqual(t, append([]api.Call{{}}, sample()...), sample(), false)
	checkEqual(t, chain(100000), chain(100000), true)
	checkEqual(t, chain(100000), chain(99999), false)
}

// Lists that differ in each part of one call, at each place.
func TestEqualOfOneChange(t *testing.T) {
	for _, n := range []int{1, 2, 3, mostCalls, mostCalls + 1} {
		for i, c := range chain(n) {
			for _, other := range changes(c) {
				checkEqual(t, chain(n), with(chain(n), i, other), false)
			}
			for _, edge := range edges() {
				for _, other := range []api.Call{{Stop: edge}, {Arrive: edge}, {Depart: edge}} {
					checkEqual(t, with(chain(n), i, c), with(chain(n), i, other), same(c, other))
					checkEqual(t, with(chain(n), i, other), with(chain(n), i, other), true)
				}
			}
		}
	}
}

// The same calls in another order.
func TestEqualOfOrders(t *testing.T) {
	for _, n := range []int{2, 3, 10, mostCalls} {
		l := chain(n)
		for i := range n {
			for j := range i {
				other := chain(n)
				other[i], other[j] = other[j], other[i]
				checkEqual(t, l, other, same(l[i], l[j]))
			}
		}
		reversed := chain(n)
		slices.Reverse(reversed)
		checkEqual(t, l, reversed, false)
		checkEqual(t, l, append(chain(n)[1:], l[0]), false)
	}
}

// All pairs of lists of up to two calls.
func TestEqualOfAllShortLists(t *testing.T) {
	all := lists(append(kinds(), changes(kinds()[0])...), 2)
	for i, a := range all {
		for j, b := range all {
			if got := Equal(a, b); got != (i == j) {
				t.Errorf("Equal(%s, %s) = %v", text(a), text(b), got)
			}
		}
	}
}

// P16.7 (translation)

// shiftedBounds returns the bounds shifted by the same number of seconds as the calls, and whether no sum overflows.
func shiftedBounds(calls []api.Call, b bounds, by int) (bounds, bool) {
	fits := true
	add := func(n int) int {
		s, ok := sum(n, by)
		fits = fits && ok
		return s
	}
	for _, c := range calls {
		add(c.Arrive)
		add(c.Depart)
	}
	return bounds{b.stops, add(b.low), add(b.high)}, fits
}

func TestTranslation(t *testing.T) {
	count := map[api.Errno]int{}
	for _, l := range tables() {
		for _, by := range []int{0, 1, -1, 59, -100, 86400, -mostTime, mostMoment, 1 << 62, -1 << 62, greatest, least} {
			shifted := Shift(l, by)
			for _, b := range someBounds() {
				moved, fits := shiftedBounds(l, b, by)
				if !fits {
					continue
				}
				index, e := Check(l, b.stops, b.low, b.high)
				count[e]++
				checkCheck(t, shifted, moved.stops, moved.low, moved.high, index, e)
			}
			// The difference of the sums is exact, and so is the sum that wraps around twice.
			checkShift(t, shifted, -by, l)
		}
	}
	for _, e := range []api.Errno{api.OK, api.ErrLimit, api.ErrReference, api.ErrStop, api.ErrTime} {
		if count[e] < 100 {
			t.Errorf("only %d lists of calls were shifted that give %d", count[e], e)
		}
	}
}

// Up to the last second before a sum overflows.
func TestTranslationToTheLimits(t *testing.T) {
	for n := 2; n <= mostCalls; n++ {
		l := chain(n)
		// Several calls can end at the last moment.
		last := slices.IndexFunc(l, func(c api.Call) bool { return c.Depart == end(l) })
		for _, by := range []int{greatest - end(l), greatest - end(l) - 1, least, least + 1, greatest - mostTime} {
			shifted := Shift(l, by)
			checkCheck(t, shifted, mostStops, by, end(l)+by, 0, api.OK)
			if end(l) > 0 {
				checkCheck(t, shifted, mostStops, by, end(l)+by-1, last, api.ErrTime)
			}
			checkCheck(t, shifted, mostStops, by+1, end(l)+by, 0, api.ErrTime)
			checkShift(t, shifted, -by, l)
			checkDuration(t, shifted, Duration(l))
		}
	}
}

// P16.8 (number of rides)

func TestNumberOfRides(t *testing.T) {
	total := 0
	for _, l := range append(tables(), flagLists(6)...) {
		ridable := map[[2]int]bool{}
		for board := -2; board < len(l)+2; board++ {
			for alight := -2; alight < len(l)+2; alight++ {
				if Ridable(l, board, alight) {
					ridable[[2]int{board, alight}] = true
				}
			}
		}
		for board, alight := range Rides(l) {
			pair := [2]int{board, alight}
			if !ridable[pair] {
				t.Errorf("Rides(%s) yields %v, which is not ridable, or was there before", text(l), pair)
			}
			delete(ridable, pair)
			total++
		}
		if len(ridable) > 0 {
			t.Errorf("Rides(%s) does not yield %v", text(l), ridable)
		}
	}
	if total < 10000 {
		t.Errorf("only %d rides", total)
	}
	// Where every call allows both, all pairs are rides.
	for n := range mostCalls + 3 {
		if got := len(collect(Rides(ofFlags(strings.Repeat("x", n))))); got != n*(n-1)/2 {
			t.Errorf("%d calls have %d rides", n, got)
		}
	}
}

// P16.9 (order in time)

func TestOrderInTime(t *testing.T) {
	valid := 0
	for _, l := range tables() {
		for _, b := range someBounds() {
			if _, e := Check(l, b.stops, b.low, b.high); e != api.OK {
				continue
			}
			valid++
			for j := range l {
				for i := range j {
					if l[i].Depart > l[j].Arrive {
						t.Errorf("%s are valid, but call %d departs after %d arrives", text(l), i, j)
					}
				}
			}
			// The times of valid calls lie within the bounds, and no ride is shorter than no time.
			if Duration(l) < 0 || l[0].Arrive < b.low || end(l) > b.high {
				t.Errorf("%s are valid for %v", text(l), b)
			}
		}
	}
	if valid < 1000 {
		t.Errorf("only %d lists were valid", valid)
	}
}

// A call that arrives before the departure of any earlier one is not valid.
func TestOrderInTimeOfAllPairs(t *testing.T) {
	for j := range mostCalls {
		for i := range j {
			l := chain(mostCalls)
			l[j].Arrive = l[i].Depart - 1
			if _, e := Check(l, mostStops, -1, mostTime); e != api.ErrTime {
				t.Errorf("call %d arrives before call %d departs: %d", j, i, e)
			}
			l = chain(mostCalls)
			l[i].Depart = l[j].Arrive + 1
			if _, e := Check(l, mostStops, -1, mostTime); e != api.ErrTime {
				t.Errorf("call %d departs after call %d arrives: %d", i, j, e)
			}
		}
	}
}

// All functions, compared with the definitions.

func TestAgainstDefinitions(t *testing.T) {
	for _, l := range tables() {
		checkList(t, l)
	}
	for seed := range 400 {
		for _, rare := range []int{2, 20, 200, 2000} {
			checkList(t, scattered(seed, seed%(mostCalls+2), rare))
		}
	}
}

func TestPairsAgainstDefinitions(t *testing.T) {
	count := map[bool]int{}
	for seed := range 3000 {
		next := source(seed)
		a := scattered(seed, next(mostCalls+2), 1+next(100))
		b := slices.Clone(a)
		for range next(3) {
			if len(b) > 0 {
				i := next(len(b))
				b[i] = changes(b[i])[next(9)]
			}
		}
		for _, part := range [][]api.Call{b, b[:next(len(b)+1)], b[next(len(b)+1):]} {
			want := wantedEqual(a, part)
			checkEqual(t, a, part, want)
			count[want]++
		}
	}
	if count[true] < 1000 || count[false] < 1000 {
		t.Errorf("the numbers of different and of equal lists are %d and %d", count[false], count[true])
	}
}

// Rules: arguments are neither changed nor retained, and results share no memory.

func TestArgumentsAreNotChanged(t *testing.T) {
	for _, original := range [][]api.Call{sample(), chain(2), chain(mostCalls), chain(mostCalls + 1), kinds(), scattered(1, 30, 2), {{}}} {
		l := append(make([]api.Call, 0, 2*len(original)), original...)
		before := slices.Clone(l[:cap(l)])
		Check(l, mostStops, 0, mostTime)
		Check(l, 1, 5, 4)
		Shift(l, 60)
		Shift(l, least)
		Ridable(l, 0, 1)
		collect(Rides(l))
		At(l, 0)
		At(l, -1)
		Duration(l)
		Equal(l, original)
		Equal(original, l)
		if !slices.Equal(l[:cap(l)], before) {
			t.Errorf("%s was changed to %s", text(before), text(l[:cap(l)]))
		}
	}
}

func TestShiftedCallsShareNoMemory(t *testing.T) {
	for _, by := range []int{0, 60, -60, least} {
		l := append(make([]api.Call, 0, 10), sample()...)
		want := wantedShift(l, by)
		first, second := Shift(l, by), Shift(l, by)
		// Whatever is behind the calls belongs to the result as well.
		for i := range first[:cap(first)] {
			first[:cap(first)][i] = api.Call{Stop: -7}
		}
		if !wantedEqual(second, want) || !wantedEqual(l, sample()) {
			t.Errorf("shifted by %d, results share memory: %v, %v", by, second, l)
		}
		checkShift(t, l, by, want)
		// A change of the list changes no result.
		clear(l[:cap(l)])
		if !wantedEqual(second, want) {
			t.Errorf("shifted by %d, the result changed with the list to %v", by, second)
		}
	}
}

func TestIndicesShareNoMemory(t *testing.T) {
	l := ofStops(5, 3, 5, 4, 3, 5)
	first, second, other := At(l, 5), At(l, 5), At(l, 3)
	for i := range first[:cap(first)] {
		first[:cap(first)][i] = -1
	}
	clear(l)
	if !slices.Equal(second, []int{0, 2, 5}) || !slices.Equal(other, []int{1, 4}) {
		t.Errorf("results share memory: %v, %v", second, other)
	}
}

// The results of a call depend only on its arguments: no call is known from an earlier list.
func TestCallsDoNotAffectEachOther(t *testing.T) {
	for range 3 {
		checkCheck(t, ofStops(0, 1), 2, 0, 100, 0, api.OK)
		checkCheck(t, ofStops(1, 0), 2, 0, 100, 0, api.OK)
		checkCheck(t, ofStops(0, 0), 2, 0, 100, 1, api.ErrStop)
		checkCheck(t, ofStops(0, 1), 2, 0, 79, 1, api.ErrTime)
		checkCheck(t, nil, 2, 0, 100, 0, api.ErrLimit)
		checkCheck(t, ofStops(0, 2), 2, 0, 100, 1, api.ErrReference)
		checkRides(t, sample(), wantedRides(sample())...)
		checkAt(t, sample(), 0, 0, 2)
		checkDuration(t, sample(), 190)
		checkEqual(t, sample(), chain(3), false)
		checkShift(t, sample(), 5, wantedShift(sample(), 5))
	}
	for _, l := range slices.Backward(tables()[:600]) {
		checkList(t, l)
	}
}

// P1: every function terminates and does not panic.

// callsOf makes a list of calls of a byte for each; each one has some bits for its stop, its times and what is allowed.
func callsOf(data []byte, n int) []api.Call {
	var l []api.Call
	time := 0
	for i, b := range data {
		c := api.Call{Stop: int(b>>4)&3 + i%2*4, Arrive: time + int(b)&1*7, Board: b&2 != 0, Alight: b&4 != 0}
		c.Depart = c.Arrive + int(b)>>3&1*9
		time = c.Depart
		switch b >> 6 {
		case 1:
			c.Arrive -= i
		case 2:
			c.Stop ^= n & 7
		case 3:
			c.Depart ^= n
		}
		l = append(l, c)
	}
	return l
}

func FuzzCall(f *testing.F) {
	for i, data := range []string{"", "\x02", "\x02\x04", "\x06\x1f\x26\x3f", "\x46\x1e\x86\x3f\xc6", "\xff\xfe\xfd", "0123456789:;<=>?0123456789:;<=>?", "0123456789:;<=>?0123456789:;<=>?@", "@@@@", "\x80\x90\xa0\xb0"} {
		f.Add([]byte(data), []byte(data), mostStops, 0, mostTime, i)
		f.Add([]byte(data), []byte("\x06\x1f"), i, least, greatest, greatest-i)
		f.Add([]byte(data), []byte{}, greatest, i, -i, least)
	}
	f.Fuzz(func(t *testing.T, first, second []byte, stops, low, high, n int) {
		// Longer lists show nothing that these do not.
		first, second = first[:min(len(first), 2*mostCalls)], second[:min(len(second), 2*mostCalls)]
		a, b := callsOf(first, n), callsOf(second, n)
		for _, l := range [][]api.Call{a, b, append(slices.Clone(a), b...)} {
			checkBounds(t, l, stops, low, high)
			checkBounds(t, l, 8, 0, mostTime)
			for i := range l {
				checkBounds(t, l, l[i].Stop+1, l[i].Arrive, l[i].Depart)
			}
			checkShift(t, l, n, wantedShift(l, n))
			checkShift(t, Shift(l, n), -n, l)
			checkRidables(t, l)
			checkRidable(t, l, n, stops, isRide(l, n, stops))
			checkAt(t, l, n&7, wantedAt(l, n&7)...)
			checkAt(t, l, n, wantedAt(l, n)...)
			checkDuration(t, l, wantedDuration(l))
			if moved, fits := shiftedBounds(l, bounds{stops, low, high}, n); fits {
				index, e := Check(l, stops, low, high)
				checkCheck(t, Shift(l, n), moved.stops, moved.low, moved.high, index, e)
			}
		}
		checkEqual(t, a, b, wantedEqual(a, b))
		checkEqual(t, a, callsOf(first, n), true)
	})
}
