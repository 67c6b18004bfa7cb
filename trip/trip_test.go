package trip

import (
	"fmt"
	"math"
	"math/big"
	"regexp"
	"slices"
	"strconv"
	"strings"
	"testing"

	"transit/api"
)

// The limits as the document states them.
const (
	mostTrips     = 256
	mostCalls     = 32
	mostStops     = 64
	mostRoutes    = 64
	mostCalendars = 64
	mostTime      = 172800
	longest       = 32
)

const (
	least    = math.MinInt
	greatest = math.MaxInt
)

// The chapter's definitions.

// nameForm is the form of an identifier.
var nameForm = regexp.MustCompile(`\A[A-Za-z0-9_.-]{1,32}\z`)

// exists reports whether i is from 0 to length - 1.
func exists(i, length int) bool {
	last := new(big.Int).Sub(big.NewInt(int64(length)), big.NewInt(1))
	return i >= 0 && big.NewInt(int64(i)).Cmp(last) <= 0
}

// wantedCallsError returns the error of a list of calls.
func wantedCallsError(calls []api.Call, stops int) api.Errno {
	if len(calls) < 2 || len(calls) > mostCalls {
		return api.ErrLimit
	}
	for i, c := range calls {
		times := []int{0, c.Arrive, c.Depart, mostTime}
		if !exists(c.Stop, stops) {
			return api.ErrReference
		}
		if i > 0 && calls[i-1].Stop == c.Stop {
			return api.ErrStop
		}
		if i > 0 {
			times[0] = max(0, calls[i-1].Depart)
		}
		if !slices.IsSorted(times) {
			return api.ErrTime
		}
	}
	return api.OK
}

// sizes has the numbers of stops, routes and calendars.
type sizes struct {
	stops, routes, calendars int
}

// wantedError returns the error of the trip i.
func wantedError(l []api.Trip, i int, n sizes) api.Errno {
	t := l[i]
	if !nameForm.MatchString(t.ID) {
		return api.ErrName
	}
	for _, earlier := range l[:i] {
		if earlier.ID == t.ID {
			return api.ErrDuplicate
		}
	}
	if !exists(t.Route, n.routes) || !exists(t.Calendar, n.calendars) {
		return api.ErrReference
	}
	return wantedCallsError(t.Calls, n.stops)
}

// wantedCheck returns what Check must return.
func wantedCheck(l []api.Trip, n sizes) (int, api.Errno) {
	if len(l) > mostTrips {
		return 0, api.ErrLimit
	}
	for i := range l {
		if e := wantedError(l, i, n); e != api.OK {
			return i, e
		}
	}
	return 0, api.OK
}

// visit is what two calls with the same index have in common if their trips have the same pattern.
type visit struct {
	stop          int
	board, alight bool
}

// visits returns the visits of a trip.
func visits(t api.Trip) []visit {
	list := []visit{}
	for _, c := range t.Calls {
		list = append(list, visit{c.Stop, c.Board, c.Alight})
	}
	return list
}

// wantedPattern returns the stops of the visits.
func wantedPattern(t api.Trip) []int {
	list := []int{}
	for _, v := range visits(t) {
		list = append(list, v.stop)
	}
	return list
}

// wantedSame reports whether two trips have the same pattern.
func wantedSame(a, b api.Trip) bool {
	return slices.Equal(visits(a), visits(b))
}

// wantedGroups returns, for each trip with a pattern that no earlier trip has, the indices of the trips with that pattern.
func wantedGroups(l []api.Trip) [][]int {
	groups := [][]int{}
	patterns := [][]visit{}
	for _, t := range l {
		patterns = append(patterns, visits(t))
	}
	for i, first := range patterns {
		if slices.ContainsFunc(patterns[:i], func(p []visit) bool { return slices.Equal(p, first) }) {
			continue
		}
		group := []int{}
		for j, other := range patterns {
			if slices.Equal(other, first) {
				group = append(group, j)
			}
		}
		groups = append(groups, group)
	}
	return groups
}

// times returns the times of the events of a trip.
func times(t api.Trip) []int {
	list := make([]int, 2*len(t.Calls))
	for i, c := range t.Calls {
		list[2*i], list[2*i+1] = c.Arrive, c.Depart
	}
	return list
}

// wantedOvertakes reports whether there are two events such that a is later at the first one and earlier at the second one.
func wantedOvertakes(a, b api.Trip) bool {
	if !wantedSame(a, b) {
		return false
	}
	x, y := times(a), times(b)
	for second := range x {
		for first := range second {
			if x[first] > y[first] && x[second] < y[second] {
				return true
			}
		}
	}
	return false
}

// isConnection reports whether there are two calls such that a passenger can board at the first and alight at the second one.
func isConnection(t api.Trip, from, to int) bool {
	for second, alight := range t.Calls {
		for _, board := range t.Calls[:second] {
			if board.Stop == from && board.Board && alight.Stop == to && alight.Alight {
				return true
			}
		}
	}
	return false
}

// wantedIndices returns the indices of the trips for which is is true.
func wantedIndices(l []api.Trip, is func(t api.Trip) bool) []int {
	list := []int{}
	for i, t := range l {
		if is(t) {
			list = append(list, i)
		}
	}
	return list
}

// wantedBetween returns what Between must return.
func wantedBetween(l []api.Trip, from, to int) []int {
	return wantedIndices(l, func(t api.Trip) bool { return isConnection(t, from, to) })
}

// Inputs.

// ofVisits returns a trip whose calls the text gives: each one is a stop and b for Board, a for Alight, x for both, or - for none.
func ofVisits(text string) api.Trip {
	t := api.Trip{ID: "T"}
	for i, word := range strings.Fields(text) {
		end := len(word) - 1
		stop, err := strconv.Atoi(word[:end])
		if err != nil {
			panic(err)
		}
		flag := word[end]
		t.Calls = append(t.Calls, api.Call{Stop: stop, Arrive: i * 100, Depart: i*100 + 20, Board: flag == 'b' || flag == 'x', Alight: flag == 'a' || flag == 'x'})
	}
	return t
}

// ofTexts returns trips with those calls, and with different identifiers.
func ofTexts(texts ...string) []api.Trip {
	var l []api.Trip
	for i, text := range texts {
		t := ofVisits(text)
		t.ID = fmt.Sprintf("T%d", i)
		l = append(l, t)
	}
	return l
}

// ofTimes returns a trip with those times, the arrival and the departure of each call, at the stops from 0 on.
func ofTimes(times ...int) api.Trip {
	t := api.Trip{ID: "T"}
	for i := 0; i+1 < len(times); i += 2 {
		t.Calls = append(t.Calls, api.Call{Stop: i / 2, Arrive: times[i], Depart: times[i+1], Board: true, Alight: true})
	}
	return t
}

// sample returns the trips of the chapter's examples; the last one is the copy that overtakes the first one.
func sample() []api.Trip {
	l := ofTexts("0x 1b 2x", "0x 2x", "0x 1b 2x")
	for _, by := range []struct{ call, seconds int }{{0, 60}, {2, -60}} {
		l[2].Calls[by.call].Arrive += by.seconds
		l[2].Calls[by.call].Depart += by.seconds
	}
	return l
}

// calls returns n calls, valid if they are not too few or too many, at up to mostStops stops from the stop first on.
func calls(n, first int) []api.Call {
	var l []api.Call
	time := first
	for i := range n {
		arrive := time + i%4*50
		time = arrive + i%3*20
		l = append(l, api.Call{Stop: (first + i*5 + i/3) % mostStops, Arrive: arrive, Depart: time, Board: i%5 != 3, Alight: i%4 != 1})
	}
	return l
}

// table returns a table of n trips, valid if they are not too many, with identifiers of different lengths; some are parts of others, and some trips have the same pattern.
func table(n int) []api.Trip {
	var l []api.Trip
	for i := range n {
		l = append(l, api.Trip{ID: fmt.Sprintf("%b", i), Route: i * 3 % mostRoutes, Calendar: i * 5 % mostCalendars, StepFree: i%3 == 1, Calls: calls(2+i%5, i%7)})
	}
	return l
}

// full has the sizes for which the trips of table are valid.
var full = sizes{mostStops, mostRoutes, mostCalendars}

// small has the sizes for which most of the trips of kinds are valid.
var small = sizes{3, 2, 2}

// kinds returns trips that are valid for small alone, and trips that are not, some of them with the same ID or the same pattern.
func kinds() []api.Trip {
	l := ofTexts("0x 1x", "0x 1x", "0b 1- 2a", "0x 1x", "0x 1x", "1x 0x 1x 0b", "", "0- 0-")
	for i, id := range strings.Fields("A A B a ? B C D") {
		l[i].ID = id
	}
	l[1].Route, l[1].Calendar, l[1].StepFree = 1, 1, true
	l[3].Calendar = 1
	l[3].Calls[0].Arrive, l[3].Calls[1].Depart = 10, 110
	l[5].Route = -1
	l[6].Calendar = 2
	return l
}

// integers returns different integers at the limits of this chapter and at those of the integer types.
func integers() []int {
	list := []int{least, least + 1, greatest, greatest - 1}
	for _, n := range []int{0, 10, mostCalls, mostStops, 100, 300, mostTrips, mostTime} {
		list = append(list, n-1, n, n+1, -n-1, -n, -n+1)
	}
	for shift := range 63 {
		n := 1 << shift
		list = append(list, n-1, n, n+1, -n-1, -n, -n+1)
	}
	slices.Sort(list)
	return slices.Compact(list)
}

// edges returns the integers at the ends of the ints and around 0, and a few between them.
func edges() []int {
	return []int{least, least + 1, -1 << 62, -1 << 32, -100, -12, -2, -1, 0, 1, 2, 12, 63, 64, 65, 100, mostTime, 1 << 32, 1 << 62, greatest - 1, greatest}
}

// lists returns all lists of up to length of the elements.
func lists[T any](elements []T, length int) [][]T {
	all := [][]T{nil}
	for from := 0; length > 0; length-- {
		to := len(all)
		for _, l := range all[from:to] {
			for _, x := range elements {
				all = append(all, append(slices.Clone(l), x))
			}
		}
		from = to
	}
	return all
}

// source returns a function that returns integers from 0, up to the one before below, without a pattern.
func source(seed int) func(below int) int {
	state := uint64(seed)
	return func(below int) int {
		state = state*6364136223846793005 + 1442695040888963407
		return int(state>>33) % below
	}
}

// scatteredTrip returns a valid trip without a pattern at up to four stops, so that many trips have the same one, and often overtake each other.
func scatteredTrip(next func(below int) int, ids int) api.Trip {
	t := api.Trip{ID: fmt.Sprintf("t%x", next(ids)), Route: next(mostRoutes), Calendar: next(mostCalendars), StepFree: next(2) == 0}
	stops := 2 + next(3)
	stop, time := next(stops), next(4)*30
	for range 2 + next(3) {
		c := api.Call{Stop: stop, Arrive: time + next(3)*30, Board: next(8) > 0, Alight: next(8) > 0}
		c.Depart = c.Arrive + next(3)*30
		stop, time = (stop+1+next(stops-1))%stops, c.Depart
		t.Calls = append(t.Calls, c)
	}
	return t
}

// spoiled returns the trip with one part that is wrong, or at least another one.
func spoiled(t api.Trip, next func(below int) int) api.Trip {
	wrong := integers()
	n := wrong[next(len(wrong))]
	i := next(len(t.Calls))
	switch next(8) {
	case 0:
		t.ID += "?"
	case 1:
		t.Route = n
	case 2:
		t.Calendar = n
	case 3:
		t.Calls[i].Stop = n
	case 4:
		t.Calls[i].Arrive = n
	case 5:
		t.Calls[i].Depart = n
	case 6:
		t.Calls = t.Calls[:next(2)]
	case 7:
		t.Calls = slices.Repeat(t.Calls, mostCalls)
	}
	return t
}

// scattered returns n trips without a pattern; all of them are valid but for one in rare, and many identifiers are equal if there are few of them.
func scattered(seed, n, ids, rare int) []api.Trip {
	next := source(seed)
	var l []api.Trip
	for range n {
		t := scatteredTrip(next, ids)
		if next(rare) == 0 {
			t = spoiled(t, next)
		}
		l = append(l, t)
	}
	return l
}

// tables returns valid tables, and tables that are not.
func tables() [][]api.Trip {
	all := append(lists(kinds(), 3), sample(), ofTexts("", "", "0x"), ofTexts("0x 0x 0x", "0x 0x", "0x 0x 0x"))
	for n := range 40 {
		all = append(all, table(n), scattered(n, n, 1000000, 1000000), scattered(n, n, 100, 1000000), scattered(n, n, 1000000, 16), scattered(n, n, 8, 8), scattered(n, n, 8, 2))
	}
	for _, n := range []int{63, 64, 65, 127, 128, mostTrips - 1, mostTrips, mostTrips + 1, 300} {
		all = append(all, table(n), scattered(n, n, 1000000, 1000000), scattered(n, n, 1000000, 100))
	}
	return all
}

// someSizes returns sizes for which the lists of tables are valid or not.
func someSizes() []sizes {
	return []sizes{full, small, {3, 2, 3}, {2, 2, 2}, {3, 1, 2}, {3, 2, 1}, {mostStops, 0, 1}, {mostStops, 1, 0}, {0, 1, 1}, {-1, -1, -1}, {greatest, greatest, greatest}, {least, greatest, greatest}, {greatest, least, greatest}, {greatest, greatest, least}}
}

// places returns the indices of a few trips of a full table: the first and the last ones, and some between them.
func places() []int {
	return []int{0, 1, 2, 3, 31, 32, 63, 64, 65, 127, 128, 200, mostTrips - 3, mostTrips - 2, mostTrips - 1}
}

// named returns trips that are valid for small, with those identifiers.
func named(ids ...string) []api.Trip {
	var l []api.Trip
	for _, id := range ids {
		t := ofVisits("0x 1x")
		t.ID = id
		l = append(l, t)
	}
	return l
}

// clone returns a copy of a trip that shares no memory with it.
func clone(t api.Trip) api.Trip {
	t.Calls = slices.Clone(t.Calls)
	return t
}

// cloned returns a copy of a list that shares no memory with it.
func cloned(l []api.Trip) []api.Trip {
	list := []api.Trip{}
	for _, t := range l {
		list = append(list, clone(t))
	}
	return list
}

// with returns the list with another trip at the index i.
func with(l []api.Trip, i int, t api.Trip) []api.Trip {
	l = slices.Clone(l)
	l[i] = t
	return l
}

// withCall returns the trip with another call at the index i.
func withCall(t api.Trip, i int, c api.Call) api.Trip {
	t = clone(t)
	t.Calls[i] = c
	return t
}

// retimed returns a trip with the same pattern and nothing else in common.
func retimed(t api.Trip, by int) api.Trip {
	other := api.Trip{ID: t.ID + "2", Route: t.Route + 1, Calendar: t.Calendar - 1, StepFree: !t.StepFree}
	for _, c := range t.Calls {
		c.Arrive += by
		c.Depart -= 2 * by
		other.Calls = append(other.Calls, c)
	}
	return other
}

// same reports whether all parts of two lists of trips are the same.
func same(a, b []api.Trip) bool {
	return slices.EqualFunc(a, b, func(x, y api.Trip) bool {
		return x.ID == y.ID && x.Route == y.Route && x.Calendar == y.Calendar && x.StepFree == y.StepFree && slices.Equal(x.Calls, y.Calls)
	})
}

// text returns a list of trips, or its beginning, for a report.
func text(l ...api.Trip) string {
	return fmt.Sprintf("%.300q of %d trips", fmt.Sprint(l), len(l))
}

// Checks.

func checkCheck(t *testing.T, l []api.Trip, n sizes, index int, e api.Errno) {
	t.Helper()
	if i, got := Check(l, n.stops, n.routes, n.calendars); i != index || got != e {
		t.Errorf("Check(%s, %d) = %d, %d; want %d, %d", text(l...), n, i, got, index, e)
	}
}

func checkFind(t *testing.T, l []api.Trip, id string, index int, found bool) {
	t.Helper()
	if i, ok := Find(l, id); i != index || ok != found {
		t.Errorf("Find(%s, %.60q) = %d, %v; want %d, %v", text(l...), id, i, ok, index, found)
	}
}

func checkPattern(t *testing.T, trip api.Trip, want ...int) {
	t.Helper()
	if got := Pattern(trip); !slices.Equal(got, want) {
		t.Errorf("Pattern(%s) = %.200s; want %.200s", text(trip), fmt.Sprint(got), fmt.Sprint(want))
	}
}

// checkSame checks both orders of the two trips.
func checkSame(t *testing.T, a, b api.Trip, want bool) {
	t.Helper()
	if got := SamePattern(a, b); got != want {
		t.Errorf("SamePattern(%s, %s) = %v", text(a), text(b), got)
	}
	if got := SamePattern(b, a); got != want {
		t.Errorf("SamePattern(%s, %s) = %v", text(b), text(a), got)
	}
}

func checkGroups(t *testing.T, l []api.Trip, want ...[]int) {
	t.Helper()
	if got := Groups(l); !slices.EqualFunc(got, want, slices.Equal) {
		t.Errorf("Groups(%s) = %.200s; want %.200s", text(l...), fmt.Sprint(got), fmt.Sprint(want))
	}
}

func checkOvertakes(t *testing.T, a, b api.Trip, want bool) {
	t.Helper()
	if got := Overtakes(a, b); got != want {
		t.Errorf("Overtakes(%s, %s) = %v", text(a), text(b), got)
	}
}

func checkBetween(t *testing.T, l []api.Trip, from, to int, want ...int) {
	t.Helper()
	if got := Between(l, from, to); !slices.Equal(got, want) {
		t.Errorf("Between(%s, %d, %d) = %v; want %v", text(l...), from, to, got, want)
	}
}

// checkSizes compares Check with the definition.
func checkSizes(t *testing.T, l []api.Trip, n sizes) {
	t.Helper()
	index, e := wantedCheck(l, n)
	checkCheck(t, l, n, index, e)
}

// checkFinds compares Find with the definition for each of the identifiers, which need not be any.
func checkFinds(t *testing.T, l []api.Trip, ids ...string) {
	t.Helper()
	for _, id := range ids {
		if list := wantedIndices(l, func(t api.Trip) bool { return t.ID == id }); len(list) > 0 {
			checkFind(t, l, id, list[0], true)
		} else {
			checkFind(t, l, id, 0, false)
		}
	}
}

// checkPair compares the functions of two trips with the definitions.
func checkPair(t *testing.T, a, b api.Trip) {
	t.Helper()
	checkSame(t, a, b, wantedSame(a, b))
	checkOvertakes(t, a, b, wantedOvertakes(a, b))
	checkOvertakes(t, b, a, wantedOvertakes(b, a))
}

// checkConnections compares Between with the definition for all pairs of the stops.
func checkConnections(t *testing.T, l []api.Trip, stops ...int) {
	t.Helper()
	for _, from := range stops {
		for _, to := range stops {
			checkBetween(t, l, from, to, wantedBetween(l, from, to)...)
		}
	}
}

// checkTable compares all functions of a list with the definitions.
func checkTable(t *testing.T, l []api.Trip) {
	t.Helper()
	for _, n := range someSizes() {
		checkSizes(t, l, n)
	}
	checkFinds(t, l, "", "A", "a", "B", "C", "?", "A B", "t0", "0", "111111")
	for i, trip := range l {
		checkFinds(t, l, trip.ID)
		checkPattern(t, trip, wantedPattern(trip)...)
		for _, other := range l[i:min(len(l), i+6)] {
			checkPair(t, trip, other)
		}
	}
	checkGroups(t, l, wantedGroups(l)...)
	checkConnections(t, l, -1, 0, 1, 2, 3, 5)
}

// P17.1 (Check)

func TestCheckExamples(t *testing.T) {
	checkCheck(t, sample(), sizes{3, 1, 1}, 0, api.OK)
	checkCheck(t, sample(), sizes{2, 1, 1}, 0, api.ErrReference)
	checkCheck(t, sample(), sizes{3, 0, 1}, 0, api.ErrReference)
	checkCheck(t, sample(), sizes{3, 1, 0}, 0, api.ErrReference)
	checkCheck(t, append(sample(), sample()[1]), sizes{3, 1, 1}, 3, api.ErrDuplicate)
	checkCheck(t, []api.Trip{{}}, sizes{3, 1, 1}, 0, api.ErrName)
	checkCheck(t, []api.Trip{{ID: "x"}}, sizes{3, 1, 1}, 0, api.ErrLimit)
	checkCheck(t, kinds()[:1], small, 0, api.OK)
}

func TestCheckLimit(t *testing.T) {
	for _, n := range append(someSizes(), sizes{}, sizes{least, least, least}) {
		checkCheck(t, nil, n, 0, api.OK)
		checkCheck(t, []api.Trip{}, n, 0, api.OK)
		checkCheck(t, sample()[:0], n, 0, api.OK)
	}
	for n := range mostTrips + 1 {
		checkCheck(t, table(n), full, 0, api.OK)
	}
	for _, n := range []int{mostTrips + 1, mostTrips + 2, 2 * mostTrips, 511, 513, 65535, 65536, 65537, 65536 + mostTrips} {
		checkCheck(t, table(n), full, 0, api.ErrLimit)
		checkCheck(t, table(n)[:mostTrips], full, 0, api.OK)
		// No trip of a list that is too long is valid, or all of them have the same ID.
		checkCheck(t, make([]api.Trip, n), full, 0, api.ErrLimit)
		checkCheck(t, slices.Repeat(sample()[:1], n), full, 0, api.ErrLimit)
	}
}

// The number of trips comes before all other errors.
func TestCheckLimitFirst(t *testing.T) {
	long := table(mostTrips + 1)
	for _, n := range append(someSizes(), sizes{}, sizes{least, least, least}) {
		checkCheck(t, long, n, 0, api.ErrLimit)
	}
	for _, w := range wrongs() {
		for i := range long {
			checkCheck(t, with(long, i, w.in(long[i])), full, 0, api.ErrLimit)
		}
	}
}

func TestCheckName(t *testing.T) {
	most := strings.Repeat("a", longest)
	for _, id := range []string{"a", "z", "A", "Z", "0", "9", "-", "_", ".", "Line-1.a", "007", "-1", "..", "T", most, most[1:], strings.Repeat(".9Z_", longest/4), "A1", "AA", "1A", "A-", "-A"} {
		checkCheck(t, named(id), small, 0, api.OK)
		checkCheck(t, named("other", id), small, 0, api.OK)
	}
	for _, id := range []string{
		"", " ", "a b", " a", "a ", "a\n", "\n", "\x00", "a\x00", "a\tb", "\x7f", "a,b", "a;b", "a:b", "a/b", "a\\b", "a@b", "a[b", "a]b", "a`b", "a{b", "a}b", "a|b", "a~b", "a^b", "a+b", "a*b", "a=b", "a<b", "a>b", "a(b", "a)b", "a&b", "a%b", "a$b", "a#b", "a!b", "?", `"a"`, "'a'",
		"ä", "Zürich", "東京", "\u0430", "\uff21", "\u0663", "\u2010", "a\u0301", "\u00a0", "\x80", "\xff", "a\xffb", "\xc1\x81",
		most + "a", most + ".", most + " ", most[1:] + " ", " " + most[1:], most + most, strings.Repeat("a", 256+1), strings.Repeat("a", 1000000),
	} {
		checkCheck(t, named(id), small, 0, api.ErrName)
		checkCheck(t, named("A", id, "B"), small, 1, api.ErrName)
		checkCheck(t, named("A", id, id), small, 1, api.ErrName)
	}
}

func TestCheckNameEachByte(t *testing.T) {
	valid := "ABCDEFGHIJKLMNOPQRSTUVWXYZabcdefghijklmnopqrstuvwxyz0123456789-_."
	for b := range 256 {
		index, e := 1, api.ErrName
		if strings.IndexByte(valid, byte(b)) >= 0 {
			index, e = 0, api.OK
		}
		for _, id := range [][]byte{{byte(b)}, {byte(b), 'a'}, {'a', byte(b)}, {'a', byte(b), 'a'}} {
			checkCheck(t, named("first", string(id)), small, index, e)
		}
	}
}

func TestCheckDuplicate(t *testing.T) {
	// The two trips with the same ID are next to each other and far apart.
	for _, j := range places() {
		for i := range j {
			l := table(j + 2)
			l[j].ID = l[i].ID
			checkCheck(t, l[:j+1], full, j, api.ErrDuplicate)
			checkCheck(t, l[:j], full, 0, api.OK)
			checkCheck(t, l[i+1:min(len(l), mostTrips)], full, 0, api.OK)
		}
	}
	most := strings.Repeat("a", longest)
	for _, id := range []string{"a", "-", most, "Line-1.a"} {
		checkCheck(t, named(id, id), small, 1, api.ErrDuplicate)
		checkCheck(t, named(id, "b", strings.Clone(id)), small, 2, api.ErrDuplicate)
		checkCheck(t, named("b", id, id, id), small, 2, api.ErrDuplicate)
		// All other parts of the two trips may differ.
		l := append(named(id), api.Trip{ID: id, Route: 1, Calendar: 1, StepFree: true, Calls: calls(3, 0)})
		checkCheck(t, l, full, 1, api.ErrDuplicate)
	}
	// Equal trips with different identifiers are no error.
	for _, l := range [][]string{{"a", "A"}, {"a", "aa", "aaa"}, {"aaa", "aa", "a"}, {"Line", "Line-1", "Line-1.a"}, {"ab", "b", "a", "ba"}, {"1", "01", "001"}, {"a-b", "a_b", "a.b"}, {most, most[1:], most[1:] + "b", "b" + most[1:]}} {
		checkCheck(t, named(l...), small, 0, api.OK)
		for _, id := range l {
			checkCheck(t, named(append(slices.Clone(l), id)...), small, len(l), api.ErrDuplicate)
		}
	}
}

// Identifiers that differ in one byte are different, whichever byte it is.
func TestCheckDuplicateOfOtherBytes(t *testing.T) {
	for _, id := range []string{"a", "ab", "Line-1.a", strings.Repeat("a", longest)} {
		for i := range len(id) {
			for _, c := range []byte("bBzZ09-_.") {
				other := id[:i] + string([]byte{c}) + id[i+1:]
				if other == id {
					continue
				}
				checkCheck(t, named(id, other), small, 0, api.OK)
				checkCheck(t, named(other, id, other), small, 2, api.ErrDuplicate)
				checkCheck(t, named(id, other, id), small, 2, api.ErrDuplicate)
			}
		}
	}
}

// The route and the calendar of each place.
func TestCheckReference(t *testing.T) {
	for _, c := range []struct {
		i, length int
		e         api.Errno
	}{
		{-1, 2, api.ErrReference}, {0, 2, api.OK}, {1, 2, api.OK}, {2, 2, api.ErrReference}, {3, 2, api.ErrReference},
		{-1, 1, api.ErrReference}, {0, 1, api.OK}, {1, 1, api.ErrReference}, {0, 0, api.ErrReference}, {-1, 0, api.ErrReference}, {0, -1, api.ErrReference}, {-1, -1, api.ErrReference}, {-2, -1, api.ErrReference},
		{mostRoutes - 1, mostRoutes, api.OK}, {mostRoutes, mostRoutes, api.ErrReference}, {mostRoutes + 1, mostRoutes, api.ErrReference}, {mostRoutes, mostRoutes + 1, api.OK}, {256, mostRoutes, api.ErrReference}, {1 << 32, mostRoutes, api.ErrReference},
		{least, 2, api.ErrReference}, {greatest, 2, api.ErrReference}, {greatest - 1, greatest, api.OK}, {greatest, greatest, api.ErrReference}, {least, greatest, api.ErrReference}, {0, least, api.ErrReference}, {least, least, api.ErrReference}, {greatest, least, api.ErrReference},
	} {
		for _, place := range []int{0, 1, 2, 100, mostTrips - 1} {
			l := table(mostTrips)
			for i := range l {
				l[i].Route, l[i].Calendar = max(0, min(c.i, c.length-1)), 0
			}
			l[place].Route = c.i
			index := place
			if c.e == api.OK || c.length <= 0 {
				index = 0
			}
			checkCheck(t, l, sizes{mostStops, c.length, mostCalendars}, index, c.e)
			for i := range l {
				l[i].Route, l[i].Calendar = 0, l[i].Route
			}
			checkCheck(t, l, sizes{mostStops, mostRoutes, c.length}, index, c.e)
		}
	}
}

// The route is not compared with the number of calendars or stops, nor the calendar with that of the routes.
func TestCheckReferenceOfEach(t *testing.T) {
	l := named("A")
	l[0].Route, l[0].Calendar = 5, 9
	checkCheck(t, l, sizes{2, 6, 10}, 0, api.OK)
	checkCheck(t, l, sizes{2, 5, 10}, 0, api.ErrReference)
	checkCheck(t, l, sizes{2, 6, 9}, 0, api.ErrReference)
	checkCheck(t, l, sizes{2, 10, 6}, 0, api.ErrReference)
	checkCheck(t, l, sizes{10, 5, 9}, 0, api.ErrReference)
	checkCheck(t, l, sizes{1, 6, 10}, 0, api.ErrReference)
	checkCheck(t, l, sizes{10, 6, 10}, 0, api.OK)
}

func TestCheckReferenceOfAllIntegers(t *testing.T) {
	for _, n := range integers() {
		for _, i := range append(edges(), n-1, n, n+1, -n) {
			l := named("A", "B")
			l[1].Route = i
			checkSizes(t, l, sizes{2, n, 1})
			l[0].Route = i
			checkSizes(t, l, sizes{2, n, 1})
			l = named("A", "B")
			l[1].Calendar = i
			checkSizes(t, l, sizes{2, 1, n})
			l[0].Calendar = i
			checkSizes(t, l, sizes{2, 1, n})
			l[1].Route = i
			checkSizes(t, l, sizes{2, n, n})
		}
	}
}

// callsCase has calls and their error for mostStops stops.
type callsCase struct {
	calls []api.Call
	e     api.Errno
}

// callsCases returns calls with each error, each time also with other calls before and after the wrong one.
func callsCases() []callsCase {
	list := []callsCase{}
	add := func(e api.Errno, i int, c api.Call) {
		l := calls(5, 0)
		l[i] = c
		list = append(list, callsCase{l, e}, callsCase{l[:max(2, i+1)], e})
	}
	for i, c := range calls(5, 0) {
		for _, stop := range []int{-1, mostStops, mostStops + 1, least, greatest} {
			add(api.ErrReference, i, api.Call{Stop: stop, Arrive: c.Arrive, Depart: c.Depart})
		}
		if i > 0 {
			before := calls(5, 0)[i-1]
			add(api.ErrStop, i, api.Call{Stop: before.Stop, Arrive: c.Arrive, Depart: c.Depart})
			add(api.ErrTime, i, api.Call{Stop: c.Stop, Arrive: before.Depart - 1, Depart: c.Depart})
		}
		for _, time := range [][2]int{{-1, c.Depart}, {c.Depart + 1, c.Depart}, {c.Arrive, mostTime + 1}, {mostTime + 1, mostTime + 1}, {least, c.Depart}, {c.Arrive, greatest}, {least, greatest}, {greatest, least}} {
			add(api.ErrTime, i, api.Call{Stop: c.Stop, Arrive: time[0], Depart: time[1]})
		}
	}
	return list
}

// The index is that of the trip, not that of the call.
func TestCheckCalls(t *testing.T) {
	count := map[api.Errno]int{}
	for _, c := range callsCases() {
		count[c.e]++
		l := named("A", "B", "C", "D", "E", "F", "G")
		for i := range l {
			checkCheck(t, with(l, i, api.Trip{ID: "X", Calls: c.calls}), full, i, c.e)
		}
		checkCheck(t, []api.Trip{{ID: "X", Calls: c.calls}}, full, 0, c.e)
	}
	for _, e := range []api.Errno{api.ErrReference, api.ErrStop, api.ErrTime} {
		if count[e] < 8 {
			t.Errorf("only %d cases of %d", count[e], e)
		}
	}
}

func TestCheckCallsLimit(t *testing.T) {
	for n := range 2*mostCalls + 3 {
		l := append(named("A"), api.Trip{ID: "B", Calls: calls(n, 0)})
		if n < 2 || n > mostCalls {
			checkCheck(t, l, full, 1, api.ErrLimit)
			checkCheck(t, l[1:], full, 0, api.ErrLimit)
			// The number of calls comes before their stops and times.
			checkCheck(t, append(named("A"), api.Trip{ID: "B", Calls: make([]api.Call, n)}), sizes{2, 1, 1}, 1, api.ErrLimit)
		} else {
			checkCheck(t, l, full, 0, api.OK)
			checkCheck(t, l[1:], full, 0, api.OK)
		}
	}
	checkCheck(t, []api.Trip{{ID: "A", Calls: []api.Call{}}}, full, 0, api.ErrLimit)
	checkCheck(t, []api.Trip{{ID: "A", Calls: calls(mostTrips, 0)}}, full, 0, api.ErrLimit)
	checkCheck(t, []api.Trip{{ID: "A", Calls: calls(100000, 0)}}, full, 0, api.ErrLimit)
}

// The times of each trip are from 0 to mostTime, whatever those of the other trips are.
func TestCheckTimes(t *testing.T) {
	for _, c := range []struct {
		times []int
		e     api.Errno
	}{
		{[]int{0, 0, mostTime, mostTime}, api.OK}, {[]int{-1, 0, mostTime, mostTime}, api.ErrTime}, {[]int{0, 0, mostTime, mostTime + 1}, api.ErrTime}, {[]int{-1, -1, 5, 5}, api.ErrTime}, {[]int{0, 0, mostTime + 1, mostTime + 1}, api.ErrTime},
		{[]int{1, 1, mostTime - 1, mostTime - 1}, api.OK}, {[]int{0, 0, 0, 0}, api.OK}, {[]int{mostTime, mostTime, mostTime, mostTime}, api.OK}, {[]int{0, mostTime, mostTime, mostTime}, api.OK}, {[]int{0, mostTime, mostTime - 1, mostTime}, api.ErrTime}, {[]int{mostTime + 1, mostTime + 1, mostTime + 1, mostTime + 1}, api.ErrTime},
		{[]int{5, 4, 6, 7}, api.ErrTime}, {[]int{5, 6, 8, 7}, api.ErrTime}, {[]int{5, 7, 6, 8}, api.ErrTime}, {[]int{5, 5, 5, 5}, api.OK}, {[]int{86400, 86401, 86402, 90000}, api.OK},
		{[]int{least, 0, 0, 0}, api.ErrTime}, {[]int{0, 0, 0, greatest}, api.ErrTime}, {[]int{least, least, greatest, greatest}, api.ErrTime}, {[]int{greatest, greatest, greatest, greatest}, api.ErrTime}, {[]int{least, least, least, least}, api.ErrTime},
	} {
		l := append(named("A"), ofTimes(c.times...))
		index := 0
		if c.e != api.OK {
			index = 1
		}
		checkCheck(t, l, small, index, c.e)
		checkCheck(t, l[1:], small, 0, c.e)
	}
	// A trip can begin before the previous trip of the table ends, and at its last stop.
	late, early := ofTimes(100, 100, 200, 200), ofTimes(10, 10, 20, 20)
	early.ID = "E"
	early.Calls[0].Stop, early.Calls[1].Stop = 1, 0
	checkCheck(t, []api.Trip{late, early}, small, 0, api.OK)
	checkCheck(t, []api.Trip{early, late}, small, 0, api.OK)
}

// The number of stops at all integers, with calls at the last stops.
func TestCheckStops(t *testing.T) {
	for _, stops := range integers() {
		for _, stop := range append(edges(), stops-1, stops, stops-2) {
			l := named("A", "B")
			l[1].Calls[1].Stop = stop
			checkSizes(t, l, sizes{stops, 1, 1})
			l[1].Calls[0].Stop = stop
			checkSizes(t, l, sizes{stops, 1, 1})
			l[1].Calls[1].Stop = 1
			checkSizes(t, l, sizes{stops, 1, 1})
			checkSizes(t, l[1:], sizes{stops, 1, 1})
		}
	}
	// The stops are at most those of the table, and the error is that of the trip that needs more.
	for stops := -1; stops <= mostStops; stops++ {
		checkSizes(t, table(mostTrips), sizes{stops, mostRoutes, mostCalendars})
	}
}

// The times at all integers, at both calls of a trip.
func TestCheckTimesOfAllIntegers(t *testing.T) {
	for _, n := range integers() {
		for _, m := range append(edges(), n-1, n, n+1, mostTime-1, mostTime+1) {
			for _, times := range [][]int{{n, m, mostTime, mostTime}, {0, 0, n, m}, {n, n, m, m}, {0, n, m, mostTime}, {n, n, n, m}} {
				checkSizes(t, append(named("A"), ofTimes(times...)), small)
			}
		}
	}
}

// StepFree, Board, Alight and the patterns have no influence.
func TestCheckIgnoresOtherParts(t *testing.T) {
	for _, text := range patterns(3, "0b", "0a", "0x", "0-") {
		for _, stepFree := range []bool{false, true} {
			trip := ofVisits(text)
			trip.StepFree = stepFree
			for i := range trip.Calls {
				trip.Calls[i].Stop = i
			}
			if len(trip.Calls) < 2 {
				checkCheck(t, []api.Trip{trip}, small, 0, api.ErrLimit)
			} else {
				checkCheck(t, append(named("A"), trip), small, 0, api.OK)
			}
		}
	}
	// A trip may call at the same stop several times, and first and last.
	checkCheck(t, ofTexts("0x 1x 0x 1x 0x", "0x 1x 0x 1x 0x"), small, 0, api.OK)
}

// wrong changes a trip so that it is not valid for full in a table whose first trip has the ID 0.
type wrong struct {
	e      api.Errno
	rank   int
	change func(t *api.Trip)
}

// in returns a copy of the trip that is wrong.
func (w wrong) in(t api.Trip) api.Trip {
	t = clone(t)
	w.change(&t)
	return t
}

// wrongs returns changes for each error; of two that apply to a trip, the one with the lower rank comes first.
func wrongs() []wrong {
	list := []wrong{
		{api.ErrName, 0, func(t *api.Trip) { t.ID = "" }},
		{api.ErrName, 0, func(t *api.Trip) { t.ID = "?" }},
		{api.ErrName, 0, func(t *api.Trip) { t.ID = strings.Repeat("0", longest+1) }},
		{api.ErrDuplicate, 1, func(t *api.Trip) { t.ID = "0" }},
		{api.ErrReference, 2, func(t *api.Trip) { t.Route = -1 }},
		{api.ErrReference, 2, func(t *api.Trip) { t.Route = mostRoutes }},
		{api.ErrReference, 2, func(t *api.Trip) { t.Calendar = -1 }},
		{api.ErrReference, 2, func(t *api.Trip) { t.Calendar = mostCalendars }},
		{api.ErrLimit, 3, func(t *api.Trip) { t.Calls = nil }},
		{api.ErrLimit, 3, func(t *api.Trip) { t.Calls = t.Calls[:1] }},
		{api.ErrLimit, 3, func(t *api.Trip) { t.Calls = slices.Repeat(t.Calls, mostCalls) }},
		{api.ErrReference, 3, func(t *api.Trip) { t.Calls[0].Stop = -1 }},
		{api.ErrReference, 3, func(t *api.Trip) { t.Calls[1].Stop = mostStops }},
		{api.ErrStop, 3, func(t *api.Trip) { t.Calls[1].Stop = t.Calls[0].Stop }},
		{api.ErrTime, 3, func(t *api.Trip) { t.Calls[0].Arrive = -1 }},
		{api.ErrTime, 3, func(t *api.Trip) { t.Calls[len(t.Calls)-1].Depart = mostTime + 1 }},
		{api.ErrTime, 3, func(t *api.Trip) { t.Calls[1].Arrive = t.Calls[1].Depart + 1 }},
		{api.ErrTime, 3, func(t *api.Trip) { t.Calls[1].Arrive = t.Calls[0].Depart - 1 }},
	}
	return list
}

// Each change is an error on its own, and gives nothing but the index and the error.
func TestCheckEachError(t *testing.T) {
	l := table(mostTrips)
	for _, w := range wrongs() {
		for _, i := range places()[1:] {
			checkCheck(t, with(l, i, w.in(l[i])), full, i, w.e)
			checkCheck(t, append(slices.Clone(l[:i]), w.in(l[i])), full, i, w.e)
		}
		if w.rank != 1 {
			checkCheck(t, with(l, 0, w.in(l[0])), full, 0, w.e)
		}
	}
}

// Of several errors of one trip, the one that the promise names first is returned.
func TestCheckErrorsOfOneTrip(t *testing.T) {
	l := table(5)
	for _, first := range wrongs() {
		for _, second := range wrongs() {
			if first.rank >= second.rank {
				continue
			}
			trip := first.in(second.in(l[3]))
			checkCheck(t, with(l, 3, trip), full, 3, first.e)
			checkCheck(t, append(slices.Clone(l[:3]), trip), full, 3, first.e)
			for _, third := range wrongs() {
				if third.rank > second.rank {
					checkCheck(t, with(l, 3, first.in(second.in(third.in(l[3])))), full, 3, first.e)
				}
			}
		}
	}
	// A name that is not one twice: the first of the two is wrong already.
	checkCheck(t, named("A", "?", "?"), small, 1, api.ErrName)
	checkCheck(t, named("", ""), small, 0, api.ErrName)
	// A wrong route and a wrong calendar, and both beside wrong stops.
	checkCheck(t, []api.Trip{{ID: "A", Route: -1, Calendar: -1}}, small, 0, api.ErrReference)
	checkCheck(t, []api.Trip{{ID: "A", Route: 2, Calendar: 2, Calls: make([]api.Call, 2)}}, small, 0, api.ErrReference)
}

// Of several errors of the calls of a trip, the one of the first call comes first, and ErrLimit before them.
func TestCheckErrorsOfCalls(t *testing.T) {
	for _, c := range []struct {
		calls []api.Call
		e     api.Errno
	}{
		{[]api.Call{{Stop: -1, Arrive: -1}}, api.ErrLimit}, {slices.Repeat([]api.Call{{Stop: -1, Arrive: -1}}, mostCalls+1), api.ErrLimit},
		{[]api.Call{{Stop: -1, Arrive: -1}, {Stop: -1, Arrive: -1}}, api.ErrReference}, {[]api.Call{{Stop: 0, Arrive: -1}, {Stop: -1}}, api.ErrTime}, {[]api.Call{{Stop: 0, Arrive: -1}, {Stop: 0}}, api.ErrTime},
		{[]api.Call{{Stop: 0}, {Stop: 0, Arrive: -1}}, api.ErrStop}, {[]api.Call{{Stop: 0}, {Stop: 0}, {Stop: -1}}, api.ErrStop}, {[]api.Call{{Stop: 0}, {Stop: 3, Arrive: -1}, {Stop: 3}}, api.ErrReference}, {[]api.Call{{Stop: 0}, {Stop: 1, Arrive: 1}, {Stop: 1}}, api.ErrTime},
	} {
		checkCheck(t, append(named("A", "B", "C"), api.Trip{ID: "D", Calls: c.calls}), small, 3, c.e)
	}
}

// Of the errors of several trips, the one of the first trip comes first, whatever the errors are.
func TestCheckErrorsOfTwoTrips(t *testing.T) {
	l := table(mostTrips)
	for _, j := range places() {
		for _, i := range places() {
			if i >= j || i == 0 {
				continue
			}
			for _, first := range wrongs() {
				for _, second := range wrongs() {
					checkCheck(t, with(with(l[:j+1], i, first.in(l[i])), j, second.in(l[j])), full, i, first.e)
				}
			}
		}
	}
	// The first trip, of which no earlier one can have the ID.
	for _, first := range wrongs() {
		for _, second := range wrongs() {
			if first.rank != 1 {
				checkCheck(t, []api.Trip{first.in(l[0]), second.in(l[1])}, full, 0, first.e)
			}
		}
	}
}

// The trips before the index are valid, and the error is that of the first trip that is not.
func TestCheckFirstError(t *testing.T) {
	count := map[api.Errno]int{}
	for _, l := range tables() {
		for _, n := range someSizes() {
			index, e := Check(l, n.stops, n.routes, n.calendars)
			count[e]++
			if e == api.OK || len(l) > mostTrips {
				checkCheck(t, l, n, 0, e)
			} else if index < 0 || index >= len(l) {
				t.Errorf("Check(%s, %d) = %d, %d", text(l...), n, index, e)
			} else {
				checkCheck(t, l[:index], n, 0, api.OK)
				checkCheck(t, l[:index+1], n, index, e)
			}
		}
	}
	for _, e := range []api.Errno{api.OK, api.ErrLimit, api.ErrName, api.ErrDuplicate, api.ErrReference, api.ErrStop, api.ErrTime} {
		if count[e] < 10 {
			t.Errorf("Check returned %d only %d times", e, count[e])
		}
	}
	if len(count) != 7 {
		t.Errorf("Check returned other errors: %v", count)
	}
}

// All pairs of small trips that are valid or not, and all small sizes.
func TestCheckOfAllSmallPairs(t *testing.T) {
	var trips []api.Trip
	for _, id := range []string{"A", "B", "?"} {
		for route := -1; route <= 1; route++ {
			for calendar := -1; calendar <= 1; calendar++ {
				for _, text := range []string{"", "0x 1x", "0x 0x", "1x 2x"} {
					trip := ofVisits(text)
					trip.ID, trip.Route, trip.Calendar = id, route, calendar
					trips = append(trips, trip)
				}
				late := ofTimes(1, 2, mostTime, mostTime+1)
				late.ID, late.Route, late.Calendar = id, route, calendar
				trips = append(trips, late)
			}
		}
	}
	for _, first := range trips {
		for _, second := range trips {
			l := []api.Trip{first, second}
			for _, n := range []sizes{{2, 1, 1}, {3, 2, 2}, {1, 2, 2}, {2, 0, 2}, {2, 2, 0}} {
				checkSizes(t, l, n)
			}
		}
	}
}

// P17.2 (Find)

func TestFind(t *testing.T) {
	l := named("A", "B")
	checkFind(t, l, "A", 0, true)
	checkFind(t, l, "B", 1, true)
	most := strings.Repeat("a", longest)
	for _, id := range []string{"", "C", "a", "b", "AB", "BA", "B ", " B", "B\x00", "Ä", "?", "\xff", most, most + "a", strings.Repeat("B", 1000000)} {
		checkFind(t, l, id, 0, false)
		checkFind(t, nil, id, 0, false)
		checkFind(t, []api.Trip{}, id, 0, false)
		checkFind(t, l[:0], id, 0, false)
	}
	long := named("a", most+"a", most[1:], most)
	checkFind(t, long, most, 3, true)
	checkFind(t, long, most[1:], 2, true)
	checkFind(t, long, most+"a", 1, true)
	checkFind(t, long, most[2:], 0, false)
}

func TestFindFirst(t *testing.T) {
	l := named("X", "A", "A", "B", "A", "B")
	l[1].Calls = nil
	checkFind(t, l, "A", 1, true)
	checkFind(t, l, "B", 3, true)
	checkFind(t, l, "X", 0, true)
	checkFind(t, l[2:], "A", 0, true)
	checkFind(t, l[4:], "B", 1, true)
	checkFind(t, slices.Repeat(named("A"), 1000), "A", 0, true)
}

// Neither the table nor the ID need be valid.
func TestFindInvalid(t *testing.T) {
	most := strings.Repeat("a", longest)
	l := named("A", "?", "", "Zürich", "a b", "", "?", most+"a", "\xff", "B")
	l[0].Route, l[3].Calendar, l[9].Calls = -1, least, nil
	for i, trip := range l[:5] {
		checkFind(t, l, trip.ID, i, true)
	}
	checkFind(t, l, most+"a", 7, true)
	checkFind(t, l, "\xff", 8, true)
	checkFind(t, l, "B", 9, true)
	for _, id := range []string{"\ufffd", "\xfe", "a", "??", " ", "Zurich", most} {
		checkFind(t, l, id, 0, false)
	}
	long := table(1000)
	for i, trip := range long {
		checkFind(t, long, trip.ID, i, true)
	}
	checkFind(t, long, fmt.Sprintf("%b", 1000), 0, false)
}

// In a valid table, Find returns the place of each trip.
func TestFindInValidTables(t *testing.T) {
	count := 0
	for _, l := range tables() {
		if _, e := Check(l, full.stops, full.routes, full.calendars); e != api.OK {
			continue
		}
		count++
		for i, trip := range l {
			checkFind(t, l, trip.ID, i, true)
		}
	}
	if count < 150 {
		t.Errorf("only %d tables were valid", count)
	}
}

// P17.3 (Pattern, SamePattern)

func TestPattern(t *testing.T) {
	checkPattern(t, sample()[0], 0, 1, 2)
	checkPattern(t, sample()[1], 0, 2)
	checkPattern(t, sample()[2], 0, 1, 2)
	checkPattern(t, api.Trip{})
	checkPattern(t, api.Trip{ID: "A", Route: 1, Calls: []api.Call{}})
	checkPattern(t, ofVisits("7-"), 7)
	checkPattern(t, ofVisits("7- 3a 7b 7x -5x"), 7, 3, 7, 7, -5)
	checkPattern(t, ofVisits("2x 1x 0x"), 2, 1, 0)
	for n := range mostCalls + 3 {
		for _, first := range []int{0, 1, 63} {
			checkPattern(t, api.Trip{Calls: calls(n, first)}, wantedPattern(api.Trip{Calls: calls(n, first)})...)
		}
	}
	checkPattern(t, api.Trip{Calls: calls(100000, 0)}, wantedPattern(api.Trip{Calls: calls(100000, 0)})...)
	// All stops at the limits.
	trip := api.Trip{}
	for _, stop := range integers() {
		trip.Calls = append(trip.Calls, api.Call{Stop: stop, Arrive: -stop, Depart: 5})
	}
	checkPattern(t, trip, integers()...)
}

func TestSamePattern(t *testing.T) {
	l := sample()
	checkSame(t, l[0], l[0], true)
	checkSame(t, l[0], l[1], false)
	checkSame(t, l[0], l[2], true)
	checkSame(t, api.Trip{}, api.Trip{}, true)
	checkSame(t, api.Trip{}, api.Trip{ID: "A", Route: 5, Calendar: -1, StepFree: true, Calls: []api.Call{}}, true)
	checkSame(t, api.Trip{}, api.Trip{Calls: make([]api.Call, 1)}, false)
	checkSame(t, api.Trip{Calls: make([]api.Call, 1)}, api.Trip{Calls: make([]api.Call, 1)}, true)
	checkSame(t, api.Trip{Calls: make([]api.Call, 1)}, api.Trip{Calls: make([]api.Call, 2)}, false)
	checkSame(t, ofVisits("0x 1x"), ofVisits("1x 0x"), false)
	checkSame(t, ofVisits("0b 1a"), ofVisits("0a 1b"), false)
	checkSame(t, ofVisits("0b 1a"), ofVisits("0x 1x"), false)
	checkSame(t, ofVisits("0- 1x"), ofVisits("0x 1-"), false)
	// The patterns of stops are the same, and the patterns are not.
	checkSame(t, ofVisits("0x 1x 2x"), ofVisits("0x 1b 2x"), false)
	checkSame(t, ofVisits("1x 2x"), ofVisits("12x"), false)
}

// Trips that differ in nothing but their times, IDs, routes, calendars and StepFree have the same pattern.
func TestSamePatternOfOtherParts(t *testing.T) {
	for _, n := range []int{0, 1, 2, 3, mostCalls, mostCalls + 1, 1000} {
		trip := api.Trip{ID: "A", Calls: calls(n, 0)}
		for _, by := range append(edges(), 60, -60) {
			checkSame(t, trip, retimed(trip, by), true)
		}
		for i := range min(n, mostCalls+1) {
			c := trip.Calls[i]
			for _, time := range edges() {
				checkSame(t, trip, withCall(trip, i, api.Call{Stop: c.Stop, Arrive: time, Depart: c.Depart, Board: c.Board, Alight: c.Alight}), true)
				checkSame(t, trip, withCall(trip, i, api.Call{Stop: c.Stop, Arrive: c.Arrive, Depart: time, Board: c.Board, Alight: c.Alight}), true)
			}
		}
		for _, other := range []api.Trip{{ID: "B"}, {ID: "A", Route: 1}, {ID: "A", Calendar: 1}, {ID: "A", StepFree: true}, {}} {
			other.Calls = calls(n, 0)
			checkSame(t, trip, other, true)
			checkGroups(t, []api.Trip{trip, other}, []int{0, 1})
		}
	}
}

// changedVisits returns the calls that differ from c in the Stop, the Board or the Alight.
func changedVisits(c api.Call) []api.Call {
	list := slices.Repeat([]api.Call{c}, 9)
	list[0].Stop++
	list[1].Stop--
	list[2].Stop ^= 1 << 62
	list[3].Stop = -c.Stop - 1
	list[4].Board = !c.Board
	list[5].Alight = !c.Alight
	list[6].Board, list[6].Alight = !c.Board, !c.Alight
	list[7].Stop = c.Stop*10 + 1
	list[8].Stop = c.Stop + 10
	return list
}

// Trips that differ in one call, at each place, or in the number of calls.
func TestSamePatternOfOneChange(t *testing.T) {
	for _, n := range []int{1, 2, 3, mostCalls, mostCalls + 1} {
		trip := api.Trip{ID: "A", Calls: calls(n, 0)}
		for i, c := range trip.Calls {
			for _, other := range changedVisits(c) {
				changed := withCall(trip, i, other)
				checkSame(t, trip, changed, false)
				checkSame(t, trip, retimed(changed, 5), false)
				checkGroups(t, []api.Trip{trip, changed, trip}, []int{0, 2}, []int{1})
			}
		}
		for m := range n {
			checkSame(t, trip, api.Trip{ID: "A", Calls: trip.Calls[:m]}, false)
			checkSame(t, trip, api.Trip{ID: "A", Calls: trip.Calls[m+1:]}, false)
			checkGroups(t, []api.Trip{trip, {Calls: trip.Calls[:m]}, trip, {Calls: calls(m, 0)}}, []int{0, 2}, []int{1, 3})
		}
		checkSame(t, trip, api.Trip{Calls: append(calls(n, 0), api.Call{})}, false)
		checkSame(t, trip, api.Trip{Calls: append([]api.Call{{}}, calls(n, 0)...)}, false)
	}
}

// patterns returns different patterns as texts: all lists of up to length of the visits.
func patterns(length int, visits ...string) []string {
	var all []string
	for _, l := range lists(visits, length) {
		all = append(all, strings.Join(l, " "))
	}
	return all
}

// Of all short patterns, only the equal ones are the same.
func TestSamePatternOfAllShortPatterns(t *testing.T) {
	all := ofTexts(append(patterns(3, "0x", "0b", "0a", "0-", "1x"), patterns(2, "-1x", "12x", "2x", "-12b", "-2-")[1:]...)...)
	groups := [][]int{}
	for i, a := range all {
		for j, b := range all {
			if got := SamePattern(a, retimed(b, 7)); got != (i == j) {
				t.Errorf("SamePattern(%s, %s) = %v", text(a), text(b), got)
			}
		}
		groups = append(groups, []int{i, len(all) + i})
	}
	var twice []api.Trip
	for _, trip := range all {
		twice = append(twice, retimed(trip, 3))
	}
	checkGroups(t, append(slices.Clone(all), twice...), groups...)
}

// P17.4 (Groups)

func TestGroups(t *testing.T) {
	checkGroups(t, nil)
	checkGroups(t, []api.Trip{})
	checkGroups(t, sample()[:0])
	checkGroups(t, sample(), []int{0, 2}, []int{1})
	checkGroups(t, sample()[:1], []int{0})
	checkGroups(t, sample()[1:], []int{0}, []int{1})
	checkGroups(t, []api.Trip{{}}, []int{0})
	checkGroups(t, make([]api.Trip, 3), []int{0, 1, 2})
	checkGroups(t, ofTexts("", "0x", "", "0x"), []int{0, 2}, []int{1, 3})
	checkGroups(t, ofTexts("0x 1x", "0b 1x", "0x 1x", "0b 1x", "0x 2x", "0x 1x"), []int{0, 2, 5}, []int{1, 3}, []int{4})
	checkGroups(t, ofTexts("2x 1x", "1x 2x", "0x 2x", "0x 2x", "1x 2x", "2x 1x"), []int{0, 5}, []int{1, 4}, []int{2, 3})
	// The trips need not be valid, nor have different identifiers.
	checkGroups(t, []api.Trip{{ID: "?"}, {ID: "A"}, {ID: "?"}}, []int{0, 1, 2})
	checkGroups(t, []api.Trip{ofVisits("-1x -1x"), ofVisits("0x"), ofVisits("-1x -1x")}, []int{0, 2}, []int{1})
}

// Patterns of which one is the beginning of the other, or whose stops look alike when they are written one after another.
func TestGroupsOfSimilarPatterns(t *testing.T) {
	for _, l := range [][]string{
		{"0x", "0x 0x", "0x 0x 0x", ""},
		{"0x 1x 2x", "0x 1x", "0x", "1x 2x", "2x"},
		{"12x", "1x 2x", "2x 1x", "21x"},
		{"1x 23x", "12x 3x", "123x", "1x 2x 3x"},
		{"0x 1x", "1x 0x", "10x", "01x 1x"},
		{"-1x", "1x", "1- 1x", "1x 1-", "-1-", "1-"},
		{"-1- -1-", "1- -1-", "-1- 1-", "1- 1-", "-11-", "-1-", "11-", "1- 1x"},
		{"1b 1a", "1a 1b", "1x 1-", "1- 1x", "1x", "1-"},
		{"1b", "1a", "1x", "1-"},
		{"1b 0-", "1- 0b", "1a 0-", "1- 0a", "10b", "10a"},
		{"0x 1b 2x", "0x 1x 2x", "0b 1b 2x", "0a 1b 2x", "0x 1a 2x", "0x 1b 2a", "0x 1b 2b", "0x 1- 2x", "0- 1b 2x", "0x 1b 2-"},
		{"9223372036854775807x", "-9223372036854775808x", "9223372036854775806x", "-9223372036854775807x", "-1x", "0x", "922337203685477580x 7x"},
		{"4294967296x", "0x", "65536x", "256x", "-256x", "1x", "4294967297x"},
		{"100x 200x 300x", "100x 200x 301x", "10x 0200x 300x", "101x 200x 300x", "300x 200x 100x", "100x 300x 200x"},
	} {
		var groups [][]int
		for i := range l {
			groups = append(groups, []int{i, len(l) + i, 2*len(l) + i})
		}
		checkGroups(t, ofTexts(slices.Concat(l, l, l)...), groups...)
		reversed := slices.Clone(l)
		slices.Reverse(reversed)
		groups = nil
		for i := range l {
			groups = append(groups, []int{i, 2*len(l) - 1 - i})
		}
		checkGroups(t, ofTexts(slices.Concat(l, reversed)...), groups...)
	}
}

// All patterns of up to two calls at stops whose digits continue one another, in two orders.
func TestGroupsOfAllSimilarPatterns(t *testing.T) {
	var words []string
	for _, stop := range []string{"0", "1", "10", "100", "11", "-1", "-10"} {
		for _, flag := range []string{"b", "a", "x", "-"} {
			words = append(words, stop+flag)
		}
	}
	all := ofTexts(patterns(2, words...)...)
	groups := [][]int{}
	for i := range all {
		groups = append(groups, []int{i, 2*len(all) - 1 - i})
	}
	reversed := slices.Clone(all)
	slices.Reverse(reversed)
	checkGroups(t, append(all, reversed...), groups...)
}

// The stops at all integers, one and two of them.
func TestGroupsOfAllIntegers(t *testing.T) {
	var l []api.Trip
	var groups [][]int
	for i, n := range integers() {
		l = append(l, api.Trip{Calls: []api.Call{{Stop: n}}})
		groups = append(groups, []int{i, len(integers()) + i})
	}
	checkGroups(t, append(slices.Clone(l), l...), groups...)
	l, groups = nil, nil
	for _, n := range edges() {
		for _, m := range edges() {
			groups = append(groups, []int{len(l)})
			l = append(l, api.Trip{Calls: []api.Call{{Stop: n, Arrive: m}, {Stop: m, Arrive: n}}})
		}
	}
	checkGroups(t, l, groups...)
}

// All trips have the same pattern, or all have different ones.
func TestGroupsOfManyTrips(t *testing.T) {
	for _, n := range []int{1, 2, mostTrips - 1, mostTrips, mostTrips + 1, 5000} {
		one, each := [][]int{{}}, [][]int{}
		var alike, different []api.Trip
		for i := range n {
			alike = append(alike, retimed(sample()[0], i))
			different = append(different, ofVisits(fmt.Sprintf("%dx %dx", i/10, n-i)))
			one[0] = append(one[0], i)
			each = append(each, []int{i})
		}
		checkGroups(t, alike, one...)
		checkGroups(t, different, each...)
		// Two patterns in turn.
		var turns []api.Trip
		two := make([][]int, min(n, 2))
		for i := range n {
			turns = append(turns, sample()[i%2])
			two[i%2] = append(two[i%2], i)
		}
		checkGroups(t, turns, two...)
	}
	long := api.Trip{Calls: calls(10000, 0)}
	other := clone(long)
	other.Calls[9999].Stop++
	checkGroups(t, []api.Trip{long, other, {Calls: long.Calls[:9999]}, other, long}, []int{0, 4}, []int{1, 3}, []int{2})
}

// P17.5 (Overtakes)

func TestOvertakes(t *testing.T) {
	l := sample()
	checkOvertakes(t, l[2], l[0], true)
	checkOvertakes(t, l[0], l[2], false)
	checkOvertakes(t, l[0], l[0], false)
	checkOvertakes(t, l[0], l[1], false)
	checkOvertakes(t, l[2], l[1], false)
	checkOvertakes(t, l[1], l[2], false)
	checkOvertakes(t, api.Trip{}, api.Trip{}, false)
	checkOvertakes(t, ofTimes(5, 5), ofTimes(5, 5), false)
	// The arrival and the departure of one call are two events.
	checkOvertakes(t, ofTimes(6, 7), ofTimes(5, 8), true)
	checkOvertakes(t, ofTimes(5, 8), ofTimes(6, 7), false)
	checkOvertakes(t, ofTimes(0, 6, 9, 10), ofTimes(0, 5, 10, 10), true)
	checkOvertakes(t, ofTimes(0, 6, 10, 10), ofTimes(0, 5, 10, 10), false)
	checkOvertakes(t, ofTimes(0, 5, 9, 10), ofTimes(0, 5, 10, 10), false)
	// Both overtake each other.
	checkOvertakes(t, ofTimes(1, 0, 1, 1), ofTimes(0, 1, 0, 2), true)
	checkOvertakes(t, ofTimes(0, 1, 0, 2), ofTimes(1, 0, 1, 1), true)
}

// Being earlier first and later afterwards is no overtaking.
func TestOvertakesOfEachPairOfPlaces(t *testing.T) {
	base := make([]int, 2*mostCalls)
	for i := range base {
		base[i] = 10 * i
	}
	b := ofTimes(base...)
	for second := range base {
		for first := range second {
			times := slices.Clone(base)
			times[first]++
			times[second]--
			a := ofTimes(times...)
			checkOvertakes(t, a, b, true)
			checkOvertakes(t, b, a, false)
			// As late as at the first event, it is earlier at none.
			times[second] = base[second]
			checkOvertakes(t, ofTimes(times...), b, false)
			checkOvertakes(t, b, ofTimes(times...), false)
			times[second]++
			checkOvertakes(t, ofTimes(times...), b, false)
			checkOvertakes(t, b, ofTimes(times...), false)
			// Later at all events from the first one on, up to the second one.
			for i := first; i < second; i++ {
				times[i] = base[i] + 1
			}
			times[second] = base[second] - 1
			checkOvertakes(t, ofTimes(times...), b, true)
			checkOvertakes(t, b, ofTimes(times...), false)
		}
	}
}

// All differences of -1, 0 and 1 at all events of up to three calls, around times at the ends of the integers as well.
func TestOvertakesOfAllDifferences(t *testing.T) {
	count := map[bool]int{}
	for _, base := range []int{100, 0, least + 1, greatest - 1, mostTime} {
		for _, differences := range lists([]int{-1, 0, 1}, 6) {
			if len(differences)%2 == 1 {
				continue
			}
			times, others := []int{}, []int{}
			for _, d := range differences {
				times = append(times, base+d)
				others = append(others, base)
			}
			a, b := ofTimes(times...), ofTimes(others...)
			later, earlier := slices.Index(differences, 1), slices.Index(differences, -1)
			lastLater, lastEarlier := lastIndex(differences, 1), lastIndex(differences, -1)
			checkOvertakes(t, a, b, later >= 0 && later < lastEarlier)
			checkOvertakes(t, b, a, earlier >= 0 && earlier < lastLater)
			count[Overtakes(a, b)]++
		}
	}
	if count[true] < 1000 || count[false] < 1000 {
		t.Errorf("the numbers of trips that overtake and that do not are %d and %d", count[true], count[false])
	}
}

// lastIndex returns the index of the last element x, or -1.
func lastIndex(l []int, x int) int {
	for i, y := range slices.Backward(l) {
		if x == y {
			return i
		}
	}
	return -1
}

// Times whose difference does not fit into an int.
func TestOvertakesOfAllIntegers(t *testing.T) {
	for _, n := range integers() {
		for _, m := range append(edges(), n-1, n+1) {
			a, b := ofTimes(n, m, n, m), ofTimes(m, n, m, n)
			checkOvertakes(t, a, b, n != m)
			checkOvertakes(t, ofTimes(n, n, m, m), ofTimes(m, m, n, n), n > m)
			checkOvertakes(t, ofTimes(n, n, n, n), ofTimes(m, m, m, m), false)
			checkOvertakes(t, ofTimes(n, 0, 0, m), ofTimes(m, 0, 0, n), n > m)
			checkOvertakes(t, ofTimes(0, n, 0), ofTimes(1, m, 2), false)
		}
	}
	checkOvertakes(t, ofTimes(greatest, least), ofTimes(least, greatest), true)
	checkOvertakes(t, ofTimes(least, greatest), ofTimes(greatest, least), false)
}

// Trips with different patterns do not overtake each other, whatever their times are.
func TestOvertakesOfOtherPatterns(t *testing.T) {
	for _, n := range []int{2, 3, mostCalls} {
		b := api.Trip{Calls: calls(n, 0)}
		a := clone(b)
		for i := range a.Calls {
			a.Calls[i].Arrive++
		}
		a.Calls[n-1].Depart--
		checkOvertakes(t, a, b, true)
		for i, c := range b.Calls {
			for _, other := range changedVisits(c) {
				checkOvertakes(t, a, withCall(b, i, other), false)
				checkOvertakes(t, withCall(b, i, other), a, false)
			}
		}
		for _, other := range []api.Trip{{}, {Calls: b.Calls[:n-1]}, {Calls: append(calls(n, 0), api.Call{Stop: -1})}} {
			checkOvertakes(t, a, other, false)
			checkOvertakes(t, other, a, false)
		}
		// The same pattern in other respects: the identifiers, routes, calendars and StepFree have no influence.
		b.ID, b.Route, b.Calendar, b.StepFree = "other", 7, -7, true
		checkOvertakes(t, a, b, true)
	}
}

// P17.6 (Between)

func TestBetween(t *testing.T) {
	one := sample()[:1]
	checkBetween(t, one, 0, 2, 0)
	checkBetween(t, one, 1, 2, 0)
	checkBetween(t, one, 0, 1)
	checkBetween(t, one, 2, 0)
	checkBetween(t, one, 1, 0)
	checkBetween(t, one, 2, 1)
	for stop := range 3 {
		checkBetween(t, one, stop, stop)
	}
	checkBetween(t, sample(), 0, 2, 0, 1, 2)
	checkBetween(t, sample(), 1, 2, 0, 2)
	checkBetween(t, sample(), 0, 1)
	for _, from := range edges() {
		for _, to := range edges() {
			checkBetween(t, nil, from, to)
			checkBetween(t, []api.Trip{}, from, to)
			checkBetween(t, one[:0], from, to)
			checkBetween(t, []api.Trip{{}, {Calls: []api.Call{}}}, from, to)
			checkBetween(t, []api.Trip{{Calls: []api.Call{{Stop: from, Board: true, Alight: true}}}}, from, to)
			if from < 0 || from > 2 || to < 0 || to > 2 {
				checkBetween(t, sample(), from, to)
			}
		}
	}
}

// Board of the first and Alight of the second call count, and nothing else.
func TestBetweenOfFlags(t *testing.T) {
	for _, c := range []struct {
		visits string
		want   bool
	}{
		{"0b 1a", true}, {"0x 1x", true}, {"0b 1x", true}, {"0x 1a", true}, {"0a 1a", false}, {"0- 1a", false}, {"0b 1b", false}, {"0b 1-", false}, {"0a 1b", false}, {"0- 1-", false}, {"1a 0b", false}, {"1x 0x", false},
		// Another call at one of the stops.
		{"0a 0b 1a", true}, {"0- 1a 0b", false}, {"0a 1x 0b", false}, {"0- 1x 0b 1a", true}, {"1x 0x 1-", false}, {"1x 0x 1a", true}, {"0b 1- 1a", true}, {"0b 1b 0- 1x", true}, {"0b 1b 0a 1b", false}, {"1a 0- 1a 0b", false}, {"0x 0- 1b 1a", true}, {"0- 0- 1x 0x", false}, {"0b 0- 1a", true}, {"0b 0a 1a", true},
		// Calls between them, at which neither is allowed.
		{"0b 5- 6- 7- 1a", true}, {"0b 5x 1a 6x", true}, {"5x 0b 5x 1a", true}, {"5b 0- 5b 1a", false}, {"0b 5a 1- 5a", false},
	} {
		l := ofTexts("3x 4x", c.visits, "0x", "1x")
		if c.want {
			checkBetween(t, l, 0, 1, 1)
		} else {
			checkBetween(t, l, 0, 1)
		}
	}
}

// A trip that comes back to a stop connects it with itself; a single call does not.
func TestBetweenOfOneStop(t *testing.T) {
	for _, c := range []struct {
		visits string
		want   bool
	}{{"0x", false}, {"0x 1x", false}, {"1x 0x", false}, {"0x 1x 0x", true}, {"0b 1x 0a", true}, {"0a 1x 0b", false}, {"0b 1x 0b", false}, {"0a 1x 0a", false}, {"0x 0x", true}, {"0b 0a", true}, {"0a 0b", false}, {"0a 0b 0a", true}, {"0b 0b 0a", true}, {"0x 0-", false}, {"0- 0x", false}, {"", false}, {"0- 1x 0b 1x 0a", true}} {
		if c.want {
			checkBetween(t, ofTexts(c.visits), 0, 0, 0)
		} else {
			checkBetween(t, ofTexts(c.visits), 0, 0)
		}
	}
}

// The two calls at each pair of places.
func TestBetweenOfEachPairOfPlaces(t *testing.T) {
	for j := range mostCalls {
		for i := range j {
			trip := api.Trip{Calls: make([]api.Call, mostCalls)}
			trip.Calls[i].Stop, trip.Calls[i].Board = 7, true
			trip.Calls[j].Stop, trip.Calls[j].Alight = 9, true
			checkBetween(t, []api.Trip{{}, trip, {}}, 7, 9, 1)
			checkBetween(t, []api.Trip{trip}, 9, 7)
			trip.Calls[j].Stop = 7
			checkBetween(t, []api.Trip{trip}, 7, 7, 0)
			trip.Calls[i].Board, trip.Calls[i].Alight, trip.Calls[j].Board, trip.Calls[j].Alight = false, true, true, false
			checkBetween(t, []api.Trip{trip}, 7, 7)
		}
	}
}

// The times have no influence, nor have the identifiers.
func TestBetweenOfInvalidTrips(t *testing.T) {
	l := []api.Trip{
		{ID: "?", Route: -1, Calls: []api.Call{{Stop: -1, Arrive: 9, Depart: 3, Board: true}, {Stop: -2, Arrive: -5, Depart: -9, Alight: true}}},
		{ID: "?", Calendar: least, Calls: []api.Call{{Stop: -1, Board: true}, {Stop: -1, Alight: true}, {Stop: -2, Alight: true}}},
		{Calls: []api.Call{{Stop: least, Arrive: greatest, Depart: greatest, Board: true}, {Stop: greatest, Arrive: least, Depart: least, Alight: true}}},
	}
	checkBetween(t, l, -1, -2, 0, 1)
	checkBetween(t, l, -1, -1, 1)
	checkBetween(t, l, least, greatest, 2)
	checkBetween(t, l, greatest, least)
	checkBetween(t, l, -2, -1)
}

// The stops at all integers.
func TestBetweenOfAllIntegers(t *testing.T) {
	for _, from := range integers() {
		for _, to := range edges() {
			trip := api.Trip{Calls: []api.Call{{Stop: from, Board: true}, {Stop: to, Alight: true}}}
			checkBetween(t, []api.Trip{trip}, from, to, 0)
			checkBetween(t, []api.Trip{trip, {}, trip}, from, to, 0, 2)
			checkBetween(t, []api.Trip{trip}, from^1, to)
			checkBetween(t, []api.Trip{trip}, from, to^(1<<40))
			checkBetween(t, []api.Trip{trip}, from^(1<<62), to)
			checkConnections(t, []api.Trip{trip}, from, to, 0)
		}
	}
}

// All short trips, and all of them in one table.
func TestBetweenOfAllShortTrips(t *testing.T) {
	all := ofTexts(patterns(4, "0x", "0b", "0-", "1x", "1a", "2b")...)
	checkConnections(t, all, -1, 0, 1, 2, 3)
	for _, trip := range all {
		checkConnections(t, []api.Trip{trip}, 0, 1, 2)
	}
	many := slices.Repeat(sample(), 1000)
	checkConnections(t, many, 0, 1, 2)
	checkConnections(t, []api.Trip{{Calls: calls(10000, 0)}}, 0, 5)
}

// P17.7 (groups)

func TestGroupsArePartitions(t *testing.T) {
	several := 0
	for _, l := range tables() {
		groups := Groups(l)
		count := make([]int, len(l))
		for _, group := range groups {
			for _, i := range group {
				count[i]++
				if !SamePattern(l[i], l[group[0]]) {
					t.Errorf("%s and %s are in one group", text(l[i]), text(l[group[0]]))
				}
			}
			if len(group) > 1 {
				several++
			}
			if !slices.IsSorted(group) {
				t.Errorf("Groups(%s) has the group %v", text(l...), group)
			}
		}
		for i, n := range count {
			if n != 1 {
				t.Errorf("Groups(%s) has %d in %d groups", text(l...), i, n)
			}
		}
		checkFirstTrips(t, l, groups)
	}
	if several < 500 {
		t.Errorf("only %d groups have several trips", several)
	}
}

// checkFirstTrips checks the order of the groups and that their first trips have different patterns.
func checkFirstTrips(t *testing.T, l []api.Trip, groups [][]int) {
	t.Helper()
	for j := range groups {
		for i := range j {
			if groups[i][0] >= groups[j][0] || SamePattern(l[groups[i][0]], l[groups[j][0]]) {
				t.Errorf("Groups(%s) has the groups %v and %v", text(l...), groups[i], groups[j])
			}
		}
	}
}

// P17.8 (overtaking)

// neverEarlier reports whether no event of a is earlier than that of b.
func neverEarlier(a, b api.Trip) bool {
	x, y := times(a), times(b)
	for i := range min(len(x), len(y)) {
		if x[i] < y[i] {
			return false
		}
	}
	return true
}

// delayed returns the trip with a delay that grows from call to call.
func delayed(t api.Trip) api.Trip {
	t = clone(t)
	for i := range t.Calls {
		t.Calls[i].Arrive += i
		t.Calls[i].Depart += i
	}
	return t
}

func TestNoTripOvertakesItself(t *testing.T) {
	for _, l := range tables() {
		for _, a := range l {
			checkOvertakes(t, a, a, false)
			other := clone(a)
			other.ID, other.Route, other.StepFree = "other", a.Route+1, !a.StepFree
			checkOvertakes(t, a, other, false)
			checkOvertakes(t, other, a, false)
		}
	}
}

func TestOvertaking(t *testing.T) {
	overtaking, following := 0, 0
	for _, l := range tables() {
		for i, a := range l {
			for _, b := range append(slices.Clone(l[max(0, i-20):i]), delayed(a)) {
				switch {
				case !SamePattern(a, b):
					checkOvertakes(t, a, b, false)
				case neverEarlier(a, b) || neverEarlier(b, a):
					checkOvertakes(t, a, b, false)
					checkOvertakes(t, b, a, false)
					following++
				case Overtakes(a, b):
					overtaking++
				}
			}
		}
	}
	if overtaking < 100 || following < 1000 {
		t.Errorf("only %d trips overtook another one, and %d followed one", overtaking, following)
	}
}

// P17.9 (connections)

func TestConnections(t *testing.T) {
	total := 0
	for _, l := range tables() {
		for from := range 4 {
			for to := range 4 {
				for _, i := range Between(l, from, to) {
					pattern := Pattern(l[i])
					place := slices.Index(pattern, from)
					if place < 0 || !slices.Contains(pattern[place+1:], to) {
						t.Errorf("%s is between %d and %d", text(l[i]), from, to)
					}
					total++
				}
			}
		}
	}
	if total < 1000 {
		t.Errorf("only %d connections", total)
	}
}

// Where every call allows both, all stops of a trip are connected with the later ones, and with no others.
func TestConnectionsOfAllCalls(t *testing.T) {
	for _, text := range patterns(5, "0x", "1x", "2x") {
		trip := ofVisits(text)
		pattern := Pattern(trip)
		for from := range 4 {
			for to := range 4 {
				place := slices.Index(pattern, from)
				got := Between([]api.Trip{trip}, from, to)
				if want := place >= 0 && slices.Contains(pattern[place+1:], to); want != (len(got) == 1) {
					t.Errorf("Between(%q, %d, %d) = %v", text, from, to, got)
				}
			}
		}
	}
}

// All functions, compared with the definitions.

func TestAgainstDefinitions(t *testing.T) {
	for _, l := range tables() {
		checkTable(t, l)
	}
	for seed := range 300 {
		for _, rare := range []int{2, 20, 200, 2000} {
			checkTable(t, scattered(seed, seed%20, 1+seed%50, rare))
		}
	}
}

// Lists of four trips that are valid or not.
func TestListsOfFourAgainstDefinitions(t *testing.T) {
	for _, l := range lists(kinds(), 4) {
		for _, n := range []sizes{small, {2, 2, 3}, full} {
			checkSizes(t, l, n)
		}
		checkFinds(t, l, "A", "B", "?", "x")
		checkGroups(t, l, wantedGroups(l)...)
		checkConnections(t, l, 0, 1, 2)
	}
}

func TestPairsAgainstDefinitions(t *testing.T) {
	overtaking, alike := 0, 0
	for seed := range 20000 {
		next := source(seed)
		a := scatteredTrip(next, 10)
		b := clone(a)
		for range next(6) {
			c := &b.Calls[next(len(b.Calls))]
			c.Arrive += next(5) - 2
			c.Depart += next(5) - 2
		}
		if next(4) == 0 {
			b = spoiled(b, next)
		}
		checkPair(t, a, b)
		if wantedSame(a, b) {
			alike++
		}
		if wantedOvertakes(a, b) {
			overtaking++
		}
	}
	if overtaking < 1000 || alike < 10000 || alike > 19000 {
		t.Errorf("%d trips have the same pattern, and %d overtake the other one", alike, overtaking)
	}
}

// Rules: arguments are neither changed nor retained, and results share no memory.

func TestArgumentsAreNotChanged(t *testing.T) {
	for _, original := range [][]api.Trip{sample(), kinds(), table(5), table(mostTrips), table(mostTrips + 1), {{}}, scattered(1, 50, 10, 2)} {
		l := append(make([]api.Trip, 0, 2*len(original)), cloned(original)...)
		for i := range l {
			// Whatever is behind the calls is not changed either.
			l[i].Calls = append(slices.Grow(l[i].Calls, 3), api.Call{Stop: -7})[:len(l[i].Calls)]
		}
		Check(l, mostStops, mostRoutes, mostCalendars)
		Check(l, 3, 2, 2)
		Find(l, "A")
		Find(l, "x")
		for i := range l {
			Pattern(l[i])
			SamePattern(l[0], l[i])
			Overtakes(l[0], l[i])
			Overtakes(l[i], l[0])
		}
		Groups(l)
		Between(l, 0, 1)
		Between(l, 2, 0)
		if !same(l, original) || !same(l[len(l):cap(l)], make([]api.Trip, cap(l)-len(l))) {
			t.Errorf("%s was changed to %s", text(original...), text(l...))
		}
		for i := range l {
			if l[i].Calls[:len(l[i].Calls)+1][len(l[i].Calls)].Stop != -7 {
				t.Errorf("the calls behind those of %s were changed", text(l[i]))
			}
		}
	}
}

// spoil changes all elements of a list of indices, and whatever is behind them, which belongs to the list as well.
func spoil(l []int) {
	for i := range l[:cap(l)] {
		l[:cap(l)][i] = -1
	}
}

func TestPatternsShareNoMemory(t *testing.T) {
	trip := ofVisits("5x 3b 5x")
	first, second := Pattern(trip), Pattern(trip)
	spoil(first)
	if !slices.Equal(second, []int{5, 3, 5}) || !same([]api.Trip{trip}, []api.Trip{ofVisits("5x 3b 5x")}) {
		t.Errorf("results share memory: %v, %v", second, trip)
	}
	trip.Calls[0].Stop = 9
	if !slices.Equal(second, []int{5, 3, 5}) {
		t.Errorf("the result changed with the trip to %v", second)
	}
	checkPattern(t, trip, 9, 3, 5)
}

func TestGroupsShareNoMemory(t *testing.T) {
	l := ofTexts("0x 1x", "0x", "0x 1x", "1x", "0x", "0x 1x", "0x 1x", "1x", "0x 1x")
	want := [][]int{{0, 2, 5, 6, 8}, {1, 4}, {3, 7}}
	before := cloned(l)
	for i := range want {
		first, second := Groups(l), Groups(l)
		spoil(first[i])
		for j := range first {
			if j != i && !slices.Equal(first[j], want[j]) {
				t.Errorf("two groups share memory: %v", first)
			}
		}
		clear(first[:cap(first)])
		if !slices.EqualFunc(second, want, slices.Equal) || !same(l, before) {
			t.Errorf("results share memory: %v, %v", second, l)
		}
		checkGroups(t, l, want...)
	}
	groups := Groups(l)
	l[0].Calls[0].Stop = 9
	l[1] = ofVisits("7x")
	if !slices.EqualFunc(groups, want, slices.Equal) {
		t.Errorf("the result changed with the list to %v", groups)
	}
	checkGroups(t, l, []int{0}, []int{1}, []int{2, 5, 6, 8}, []int{3, 7}, []int{4})
}

func TestIndicesShareNoMemory(t *testing.T) {
	l := sample()
	first, second, other := Between(l, 0, 2), Between(l, 0, 2), Between(l, 1, 2)
	spoil(first)
	if !slices.Equal(second, []int{0, 1, 2}) || !slices.Equal(other, []int{0, 2}) || !same(l, sample()) {
		t.Errorf("results share memory: %v, %v, %v", second, other, l)
	}
	clear(l[0].Calls)
	clear(l)
	if !slices.Equal(second, []int{0, 1, 2}) || !slices.Equal(other, []int{0, 2}) {
		t.Errorf("results changed with the list to %v, %v", second, other)
	}
	checkBetween(t, l, 0, 2)
	checkBetween(t, sample(), 0, 2, 0, 1, 2)
}

// The results of a call depend only on its arguments: no identifier and no pattern is known from an earlier call.
func TestCallsDoNotAffectEachOther(t *testing.T) {
	l := table(mostTrips)
	double := append(slices.Clone(l[:10]), l[3])
	for range 3 {
		checkCheck(t, l, full, 0, api.OK)
		checkCheck(t, double, full, 10, api.ErrDuplicate)
		checkCheck(t, double[3:], full, 7, api.ErrDuplicate)
		checkCheck(t, slices.Clone(l[:10]), full, 0, api.OK)
		checkCheck(t, l, small, 0, api.ErrReference)
		checkCheck(t, table(mostTrips+1), full, 0, api.ErrLimit)
		checkFind(t, l, l[3].ID, 3, true)
		checkGroups(t, sample(), []int{0, 2}, []int{1})
		checkGroups(t, sample()[1:], []int{0}, []int{1})
		checkGroups(t, ofTexts("0x 2x", "0x 1b 2x"), []int{0}, []int{1})
		checkOvertakes(t, sample()[2], sample()[0], true)
		checkOvertakes(t, sample()[0], sample()[2], false)
		checkBetween(t, sample(), 1, 2, 0, 2)
		checkTable(t, l[:20])
	}
	// The groups do not depend on the order in which a map is visited.
	many := scattered(5, 200, 1000, 1000000)
	want := wantedGroups(many)
	for range 50 {
		checkGroups(t, many, want...)
	}
	for _, l := range slices.Backward(tables()[:300]) {
		checkTable(t, l)
	}
}

// P1: every function terminates and does not panic.

// tripsOf makes a list of trips of the bytes: one for each trip and then one for each of its calls.
func tripsOf(data []byte, id string, n int) []api.Trip {
	var l []api.Trip
	for len(data) > 0 {
		b := int(data[0])
		data = data[1:]
		t := api.Trip{ID: string([]byte{'A' + byte(b&3)}), Route: b>>2&3 - 1, Calendar: b >> 4 & 1, StepFree: b>>5&1 == 1}
		switch b {
		case 255:
			t.ID = id
		case 254:
			t.Route = n
		case 253:
			t.Calendar = n
		}
		size := min(b>>6+b>>3&1, len(data))
		t.Calls = callsOf(data[:size], n)
		if b == 252 {
			t.Calls = slices.Repeat(t.Calls, mostCalls)
		}
		data = data[size:]
		l = append(l, t)
	}
	return l
}

// callsOf makes a list of calls of a byte for each; each one has some bits for its stop, its times and what is allowed.
func callsOf(data []byte, n int) []api.Call {
	var l []api.Call
	time := 0
	for i, b := range data {
		c := api.Call{Stop: int(b>>5)&1 + i%2*2, Arrive: time + int(b)&1*7, Board: b&2 != 0, Alight: b&4 != 0}
		c.Depart = c.Arrive + int(b)>>3&1*9
		time = c.Depart
		switch b >> 6 {
		case 1:
			c.Arrive -= i
		case 2:
			c.Stop ^= n & 3
		case 3:
			c.Depart ^= n
		}
		l = append(l, c)
	}
	return l
}

func FuzzTrip(f *testing.F) {
	for i, data := range []string{"", "\x44\x06\x06", "\x84\x06\x07\x0e\x85\x07\x06\x06", "\x44\x02\x24\x45\x22\x04\x44\x02\x24", "\xff\x06\x06\x06\xff", "\xfe\x16\x26\x07\xfd\x06\x06\x06", "\xfc\x06\x0f\x06", "0123456789:;<=>?@ABC", "\x04\x05\x06\x07", "\x84\x46\x86\xc6\x85\x46\x86\xc6"} {
		f.Add([]byte(data), "A", 3, 2, 2, i)
		f.Add([]byte(data), "?", mostStops, i, greatest, greatest-i)
		f.Add([]byte(data), strings.Repeat("a", longest+i), greatest, i, -i, least)
	}
	f.Fuzz(func(t *testing.T, data []byte, id string, stops, routes, calendars, n int) {
		// Longer lists show nothing that these do not.
		l := tripsOf(data[:min(len(data), 300)], id, n)
		checkSizes(t, l, sizes{stops, routes, calendars})
		checkSizes(t, l, sizes{mostStops, n, n})
		checkSizes(t, slices.Repeat(l, 3), full)
		checkFinds(t, l, id, id+"A", "A", "D", "?")
		for i, trip := range l {
			checkFinds(t, l, trip.ID)
			checkPattern(t, trip, wantedPattern(trip)...)
			checkSizes(t, l[i:], sizes{4, trip.Route + 1, trip.Calendar + 1})
			for _, other := range l[i:min(len(l), i+10)] {
				checkPair(t, trip, other)
			}
			checkPair(t, trip, retimed(trip, n))
		}
		checkGroups(t, l, wantedGroups(l)...)
		checkConnections(t, l, 0, 1, 2, 3, n, stops)
	})
}
