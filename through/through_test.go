package through

import (
	"fmt"
	"math"
	"slices"
	"strconv"
	"strings"
	"testing"

	"transit/api"
)

// The limits as the document states them.
const (
	mostThroughs   = 128
	mostGuarantees = 128
	mostTrips      = 256
	mostCalls      = 32
)

const (
	least    = math.MinInt
	greatest = math.MaxInt
)

// The chapter's definitions.

// exists reports whether i is from 0 to n - 1.
func exists(i, n int) bool {
	return n > 0 && i >= 0 && i <= n-1
}

// hasFrequency reports whether a frequency of the list has the trip as its Trip.
func hasFrequency(f []api.Frequency, trip int) bool {
	for i := range f {
		if f[i].Trip == trip {
			return true
		}
	}
	return false
}

// wantedNext returns what Next must return.
func wantedNext(l []api.Through, trip int) (int, bool) {
	next, ok := 0, false
	for i := len(l) - 1; i >= 0; i-- {
		if l[i].From == trip {
			next, ok = l[i].To, true
		}
	}
	return next, ok
}

// wantedChain returns what Chain must return.
func wantedChain(l []api.Through, trip int) []int {
	chain := []int{trip}
	for {
		next, ok := wantedNext(l, chain[len(chain)-1])
		if !ok || slices.Contains(chain, next) {
			return chain
		}
		chain = append(chain, next)
	}
}

// lastStop returns the last stop and the arrival of a trip.
func lastStop(t api.Trip) (stop, arrival int) {
	c := t.Calls[len(t.Calls)-1]
	return c.Stop, c.Arrive
}

// firstStop returns the first stop and the departure of a trip.
func firstStop(t api.Trip) (stop, departure int) {
	c := t.Calls[0]
	return c.Stop, c.Depart
}

// wantedError returns the error of the through service i.
func wantedError(l []api.Through, i int, trips []api.Trip, f []api.Frequency) api.Errno {
	from, to := l[i].From, l[i].To
	if !exists(from, len(trips)) || !exists(to, len(trips)) || from == to {
		return api.ErrReference
	}
	if hasFrequency(f, from) || hasFrequency(f, to) {
		return api.ErrFrequency
	}
	a, b := trips[from], trips[to]
	if a.Calendar != b.Calendar {
		return api.ErrCalendar
	}
	if len(a.Calls) == 0 || len(b.Calls) == 0 {
		return api.ErrStop
	}
	end, arrival := lastStop(a)
	beginning, departure := firstStop(b)
	if end != beginning {
		return api.ErrStop
	}
	if departure < arrival {
		return api.ErrTime
	}
	for _, earlier := range l[:i] {
		if earlier.From == from || earlier.To == to {
			return api.ErrDuplicate
		}
	}
	if slices.Contains(wantedChain(l[:i], to), from) {
		return api.ErrLink
	}
	return api.OK
}

// wantedCheck returns what Check must return.
func wantedCheck(l []api.Through, trips []api.Trip, f []api.Frequency) (int, api.Errno) {
	if len(l) > mostThroughs {
		return 0, api.ErrLimit
	}
	for i := range l {
		if e := wantedError(l, i, trips, f); e != api.OK {
			return i, e
		}
	}
	return 0, api.OK
}

// indices returns the indices of the calls at the stop for which is is true.
func indices(calls []api.Call, stop int, is func(i int) bool) []int {
	list := []int{}
	for i, c := range calls {
		if c.Stop == stop && is(i) {
			list = append(list, i)
		}
	}
	return list
}

// wantedMeets returns what Meets must return.
func wantedMeets(a, b []api.Call, stop int) (int, int, bool) {
	alight := indices(a, stop, func(i int) bool { return i != 0 && a[i].Alight })
	board := indices(b, stop, func(i int) bool { return i != len(b)-1 && b[i].Board })
	if len(alight) == 0 || len(board) == 0 || b[board[0]].Depart < a[alight[0]].Arrive {
		return 0, 0, false
	}
	return alight[0], board[0], true
}

// wantedGuaranteeError returns the error of the guaranteed change i.
func wantedGuaranteeError(l []api.Guarantee, i int, trips []api.Trip, f []api.Frequency, stops int) api.Errno {
	g := l[i]
	if !exists(g.From, len(trips)) || !exists(g.To, len(trips)) || g.From == g.To || !exists(g.Stop, stops) {
		return api.ErrReference
	}
	if hasFrequency(f, g.From) || hasFrequency(f, g.To) {
		return api.ErrFrequency
	}
	if _, _, ok := wantedMeets(trips[g.From].Calls, trips[g.To].Calls, g.Stop); !ok {
		return api.ErrLink
	}
	for _, earlier := range l[:i] {
		if earlier.From == g.From && earlier.To == g.To && earlier.Stop == g.Stop {
			return api.ErrDuplicate
		}
	}
	return api.OK
}

// wantedGuarantees returns what CheckGuarantees must return.
func wantedGuarantees(l []api.Guarantee, trips []api.Trip, f []api.Frequency, stops int) (int, api.Errno) {
	if len(l) > mostGuarantees {
		return 0, api.ErrLimit
	}
	for i := range l {
		if e := wantedGuaranteeError(l, i, trips, f, stops); e != api.OK {
			return i, e
		}
	}
	return 0, api.OK
}

// Inputs.

// calls returns the calls that the text gives: each one is a stop and b for Board, a for Alight, x for both, or - for none; the call i arrives at i * 100 and departs 20 seconds later.
func calls(text string) []api.Call {
	var l []api.Call
	for i, word := range strings.Fields(text) {
		end := len(word) - 1
		stop, err := strconv.Atoi(word[:end])
		if err != nil {
			panic(err)
		}
		flag := word[end]
		l = append(l, api.Call{Stop: stop, Arrive: i * 100, Depart: i*100 + 20, Board: flag == 'b' || flag == 'x', Alight: flag == 'a' || flag == 'x'})
	}
	return l
}

// later returns the calls, by seconds later.
func later(calls []api.Call, by int) []api.Call {
	var l []api.Call
	for _, c := range calls {
		c.Arrive += by
		c.Depart += by
		l = append(l, c)
	}
	return l
}

// hop returns a trip that departs at one stop and arrives at another one; it waits before it departs and after it arrives.
func hop(from, departure, to, arrival int) api.Trip {
	return api.Trip{ID: "H", Calls: []api.Call{{Stop: from, Arrive: departure - 30, Depart: departure, Board: true}, {Stop: to, Arrive: arrival, Depart: arrival + 30, Alight: true}}}
}

// loop returns a valid trip from stop 0 to stop 1 and back in no time, so that it can follow all others like it; at stop 1 passengers can change between them.
func loop() api.Trip {
	return api.Trip{ID: "L", Calls: []api.Call{{Stop: 0, Arrive: 20, Depart: 50, Board: true}, {Stop: 1, Arrive: 50, Depart: 50, Board: true, Alight: true}, {Stop: 0, Arrive: 50, Depart: 80, Alight: true}}}
}

// loops returns n of these trips, which share no memory.
func loops(n int) []api.Trip {
	var l []api.Trip
	for range n {
		l = append(l, loop())
	}
	return l
}

// line returns n trips, each of which can follow the one before it, and no other one with an index near to its own.
func line(n int) []api.Trip {
	var l []api.Trip
	for i := range n {
		l = append(l, hop(i%5, i*100, (i+1)%5, i*100+100))
	}
	return l
}

// ring returns n trips in no time, each of which can follow the one before it, and the first one the last one.
func ring(n int) []api.Trip {
	var l []api.Trip
	for i := range n {
		l = append(l, hop(i, 50, (i+1)%n, 50))
	}
	return l
}

// steps returns n through services, each from the trip at which the one before it ends; the trips go round after those.
func steps(n, trips int) []api.Through {
	var l []api.Through
	for i := range n {
		l = append(l, api.Through{From: i % trips, To: (i + 1) % trips})
	}
	return l
}

// pairs returns n through services between different trips, in no order.
func pairs(n int) []api.Through {
	var l []api.Through
	for i := range n {
		l = append(l, api.Through{From: 2*i + i%2, To: 2*i + 1 - i%2})
	}
	return l
}

// changes returns n guaranteed changes at stop 1 between different trips, in no order.
func changes(n int) []api.Guarantee {
	var l []api.Guarantee
	for _, t := range pairs(n) {
		l = append(l, api.Guarantee{From: t.From, To: t.To, Stop: 1})
	}
	return l
}

// someTrips returns trips that can follow each other in different ways, or not at all.
func someTrips() []api.Trip {
	l := []api.Trip{
		hop(0, 0, 1, 200), hop(1, 200, 2, 300), hop(2, 310, 1, 400), hop(1, 500, 0, 600),
		hop(0, 50, 1, 50), hop(1, 50, 0, 50), hop(1, 199, 2, 299), hop(0, 600, 1, 700), loop(), {ID: "N"}, {ID: "O", Calls: loop().Calls[:1]},
		{ID: "P", Calls: calls("0b 1x 2x 1x 0a")}, {ID: "Q", Calls: later(calls("2b 1x 0x 1x 2a"), 300)},
	}
	l[3].Calendar = 1
	l[7].Calendar = 1
	return l
}

// frequencyLists returns lists of frequencies, some of trips that do not exist.
func frequencyLists() [][]api.Frequency {
	return [][]api.Frequency{nil, {{Trip: 2}}, {{Trip: 1, From: 3, To: 9, Every: 1}, {Trip: 8, From: 100, To: 50}}, {{Trip: -1}, {Trip: 13}, {Trip: least}, {Trip: greatest}, {Trip: 14, From: 1, To: 2, Every: 3}}, {{}}}
}

// kinds returns through services that are valid for someTrips alone, and some that are not; which of them can be in one list differs.
func kinds() []api.Through {
	return []api.Through{{From: 0, To: 1}, {From: 1, To: 2}, {From: 4, To: 5}, {From: 5, To: 4}, {From: 3, To: 7}, {From: 0, To: 6}, {From: 4, To: 1}, {From: 9, To: 13}}
}

// changeKinds returns guaranteed changes that are valid for someTrips alone, and some that are not.
func changeKinds() []api.Guarantee {
	return []api.Guarantee{{From: 0, To: 1, Stop: 1}, {From: 0, To: 6, Stop: 1}, {From: 11, To: 12, Stop: 1}, {From: 11, To: 12, Stop: 2}, {From: 2, To: 3, Stop: 1}, {From: 8, To: 2, Stop: 0}, {From: 13, To: 0, Stop: 1}, {From: 0, To: 3, Stop: 3}}
}

// integers returns different integers at the limits of this chapter and at those of the integer types.
func integers() []int {
	list := []int{least, least + 1, greatest, greatest - 1}
	for _, n := range []int{0, 13, 50, 100, mostThroughs, mostTrips} {
		list = append(list, n-1, n, n+1, -n-1, -n, -n+1)
	}
	for shift := range 63 {
		n := 1 << shift
		list = append(list, n-1, n, n+1, -n-1, -n, -n+1)
	}
	slices.Sort(list)
	return slices.Compact(list)
}

// edges returns the integers at the ends of the ints and around 0, and a few between them.
func edges() []int {
	return []int{least, least + 1, -1 << 62, -1 << 32, -100, -2, -1, 0, 1, 2, 3, 100, 1 << 32, 1 << 62, greatest - 1, greatest}
}

// lists returns all lists of up to length of the elements.
func lists[T any](elements []T, length int) [][]T {
	all := [][]T{nil}
	for from := 0; length > 0; length-- {
		to := len(all)
		for _, l := range all[from:to] {
			for _, x := range elements {
				all = append(all, append(slices.Clone(l), x))
			}
		}
		from = to
	}
	return all
}

// orders returns all orders of the elements.
func orders[T any](elements []T) [][]T {
	if len(elements) == 0 {
		return [][]T{nil}
	}
	var all [][]T
	for i, x := range elements {
		for _, rest := range orders(slices.Concat(elements[:i], elements[i+1:])) {
			all = append(all, append([]T{x}, rest...))
		}
	}
	return all
}

// source returns a function that returns integers from 0, up to the one before below, without a pattern.
func source(seed int) func(below int) int {
	state := uint64(seed)
	return func(below int) int {
		state = state*6364136223846793005 + 1442695040888963407
		return int(state>>33) % below
	}
}

// shuffled returns the elements in another order.
func shuffled[T any](elements []T, next func(below int) int) []T {
	l := slices.Clone(elements)
	for i := range l {
		j := next(i + 1)
		l[i], l[j] = l[j], l[i]
	}
	return l
}

// with returns the list with another element at the index i.
func with[T any](l []T, i int, x T) []T {
	l = slices.Clone(l)
	l[i] = x
	return l
}

// scatteredCalls returns calls without a pattern at three stops, whose times ascend but for one in rare.
func scatteredCalls(next func(below int) int, rare int) []api.Call {
	var l []api.Call
	stop, time := next(3), next(20)*10
	for range 2 + next(4) {
		c := api.Call{Stop: stop, Arrive: time, Board: next(4) > 0, Alight: next(4) > 0}
		time += next(3) / 2 * 10
		c.Depart = time
		if next(rare) == 0 {
			c.Arrive, c.Depart = next(20)*10, next(20)*10
		}
		l = append(l, c)
		stop, time = (stop+1+next(2))%3, time+next(3)*10
	}
	return l
}

// scatteredTrips returns n trips without a pattern, many of which can follow each other, some of them round and round.
func scatteredTrips(next func(below int) int, n, rare int) []api.Trip {
	var l []api.Trip
	for range n {
		t := api.Trip{ID: "S", Route: next(3), Calendar: next(7) / 6, Calls: scatteredCalls(next, rare)}
		if next(2) == 0 {
			t.Calls = hop(next(3), 100, next(3), 100).Calls
		}
		if next(rare) == 0 {
			t.Calls = t.Calls[:next(2)]
		}
		l = append(l, t)
	}
	return l
}

// scatteredFrequencies returns frequencies of a few of n trips, or of others.
func scatteredFrequencies(next func(below int) int, n int) []api.Frequency {
	var l []api.Frequency
	for range next(4) {
		l = append(l, api.Frequency{Trip: next(n+6) - 3, From: next(100), To: next(100), Every: next(10)})
	}
	return l
}

// scattered returns through services of n trips without a pattern; all of them are valid but for one in rare.
func scattered(next func(below int) int, trips []api.Trip, f []api.Frequency, rare int) []api.Through {
	var l []api.Through
	for range 40 * len(trips) {
		s := api.Through{From: next(len(trips)+2) - 1, To: next(len(trips)+2) - 1}
		if len(l) > 0 && next(8) == 0 {
			s = l[next(len(l))]
		}
		l = append(l, s)
		if i := len(l) - 1; wantedError(l, i, trips, f) != api.OK && next(rare) > 0 || i == mostThroughs {
			l = l[:i]
		}
	}
	return l
}

// scatteredChanges returns guaranteed changes of n trips without a pattern; all of them are valid but for one in rare.
func scatteredChanges(next func(below int) int, trips []api.Trip, f []api.Frequency, rare int) []api.Guarantee {
	var l []api.Guarantee
	for range 20 * len(trips) {
		g := api.Guarantee{From: next(len(trips)+2) - 1, To: next(len(trips)+2) - 1, Stop: next(5) - 1}
		if len(l) > 0 && next(8) == 0 {
			g = l[next(len(l))]
		}
		l = append(l, g)
		if i := len(l) - 1; wantedGuaranteeError(l, i, trips, f, 3) != api.OK && next(rare) > 0 || i == mostGuarantees {
			l = l[:i]
		}
	}
	return l
}

// never is a rarity with which nothing is wrong.
const never = 1 << 30

// text returns a list, or its beginning, for a report.
func text[T any](l []T) string {
	return fmt.Sprintf("%.300s of %d", fmt.Sprint(l), len(l))
}

// Checks.

func checkCheck(t *testing.T, l []api.Through, trips []api.Trip, f []api.Frequency, index int, e api.Errno) {
	t.Helper()
	if i, got := Check(l, trips, f); i != index || got != e {
		t.Errorf("Check(%s, %s, %s) = %d, %d; want %d, %d", text(l), text(trips), text(f), i, got, index, e)
	}
}

func checkGuarantees(t *testing.T, l []api.Guarantee, trips []api.Trip, f []api.Frequency, stops int, index int, e api.Errno) {
	t.Helper()
	if i, got := CheckGuarantees(l, trips, f, stops); i != index || got != e {
		t.Errorf("CheckGuarantees(%s, %s, %s, %d) = %d, %d; want %d, %d", text(l), text(trips), text(f), stops, i, got, index, e)
	}
}

func checkNext(t *testing.T, l []api.Through, trip int, next int, ok bool) {
	t.Helper()
	if n, found := Next(l, trip); n != next || found != ok {
		t.Errorf("Next(%s, %d) = %d, %v; want %d, %v", text(l), trip, n, found, next, ok)
	}
}

func checkChain(t *testing.T, l []api.Through, trip int, want ...int) {
	t.Helper()
	if got := Chain(l, trip); !slices.Equal(got, want) {
		t.Errorf("Chain(%s, %d) = %s; want %s", text(l), trip, text(got), text(want))
	}
}

func checkMeets(t *testing.T, a, b []api.Call, stop int, alight, board int, ok bool) {
	t.Helper()
	if i, k, meet := Meets(a, b, stop); i != alight || k != board || meet != ok {
		t.Errorf("Meets(%s, %s, %d) = %d, %d, %v; want %d, %d, %v", text(a), text(b), stop, i, k, meet, alight, board, ok)
	}
}

// at returns the index that Check and CheckGuarantees return with an error at index, or without an error.
func at(index int, e api.Errno) int {
	if e == api.OK {
		return 0
	}
	return index
}

// checkList compares Check with the definition.
func checkList(t *testing.T, l []api.Through, trips []api.Trip, f []api.Frequency) {
	t.Helper()
	index, e := wantedCheck(l, trips, f)
	checkCheck(t, l, trips, f, index, e)
}

// checkChanges compares CheckGuarantees with the definition.
func checkChanges(t *testing.T, l []api.Guarantee, trips []api.Trip, f []api.Frequency, stops int) {
	t.Helper()
	index, e := wantedGuarantees(l, trips, f, stops)
	checkGuarantees(t, l, trips, f, stops, index, e)
}

// checkTrip compares Next and Chain with the definitions.
func checkTrip(t *testing.T, l []api.Through, trip int) {
	t.Helper()
	next, ok := wantedNext(l, trip)
	checkNext(t, l, trip, next, ok)
	checkChain(t, l, trip, wantedChain(l, trip)...)
}

// checkStop compares Meets with the definition.
func checkStop(t *testing.T, a, b []api.Call, stop int) {
	t.Helper()
	alight, board, ok := wantedMeets(a, b, stop)
	checkMeets(t, a, b, stop, alight, board, ok)
}

// P19.1 (Check)

func TestCheckExamples(t *testing.T) {
	trips := []api.Trip{hop(0, 0, 1, 200), hop(1, 200, 2, 300)}
	checkCheck(t, []api.Through{{From: 0, To: 1}}, trips, nil, 0, api.OK)
	trips[1] = hop(1, 199, 2, 300)
	checkCheck(t, []api.Through{{From: 0, To: 1}}, trips, nil, 0, api.ErrTime)
	trips = []api.Trip{hop(0, 7, 1, 7), hop(1, 7, 0, 7)}
	checkCheck(t, []api.Through{{From: 0, To: 1}, {From: 1, To: 0}}, trips, nil, 1, api.ErrLink)
	checkCheck(t, []api.Through{{From: 1, To: 0}, {From: 0, To: 1}}, trips, nil, 1, api.ErrLink)
	checkCheck(t, []api.Through{{From: 0, To: 1}}, trips, nil, 0, api.OK)
	checkCheck(t, []api.Through{{From: 1, To: 0}}, trips, nil, 0, api.OK)
}

func TestCheckLimit(t *testing.T) {
	for _, trips := range [][]api.Trip{nil, someTrips(), loops(mostTrips), {{}}} {
		for _, f := range frequencyLists() {
			checkCheck(t, nil, trips, f, 0, api.OK)
			checkCheck(t, []api.Through{}, trips, f, 0, api.OK)
			checkCheck(t, kinds()[:0], trips, f, 0, api.OK)
		}
	}
	for n := range mostThroughs + 1 {
		checkCheck(t, pairs(n), loops(mostTrips), nil, 0, api.OK)
		checkCheck(t, steps(n, mostTrips), line(mostTrips), nil, 0, api.OK)
	}
	for _, n := range []int{mostThroughs + 1, mostThroughs + 2, 2 * mostThroughs, 255, 257, 256 + mostThroughs, 65535, 65536, 65536 + mostThroughs} {
		trips := loops(2 * n)
		checkCheck(t, pairs(n), trips, nil, 0, api.ErrLimit)
		checkCheck(t, pairs(n)[:mostThroughs], trips, nil, 0, api.OK)
		checkCheck(t, pairs(n)[n-mostThroughs:], trips, nil, 0, api.OK)
		// No service of a list that is too long is valid, or all of them are the same.
		checkCheck(t, make([]api.Through, n), trips, nil, 0, api.ErrLimit)
		checkCheck(t, make([]api.Through, n), nil, nil, 0, api.ErrLimit)
		checkCheck(t, slices.Repeat(pairs(1), n), trips, nil, 0, api.ErrLimit)
	}
}

func TestCheckReference(t *testing.T) {
	for trips := range 6 {
		for _, n := range append(integers(), trips-1, trips, trips+1) {
			for other := range trips {
				e := api.ErrReference
				if n >= 0 && n < trips && n != other {
					e = api.OK
				}
				checkCheck(t, []api.Through{{From: n, To: other}}, loops(trips), nil, 0, e)
				checkCheck(t, []api.Through{{From: other, To: n}}, loops(trips), nil, 0, e)
			}
			checkCheck(t, []api.Through{{From: n, To: n}}, loops(trips), nil, 0, api.ErrReference)
			checkCheck(t, []api.Through{{From: n, To: -1}}, loops(trips), nil, 0, api.ErrReference)
			checkCheck(t, []api.Through{{From: trips, To: n}}, loops(trips), nil, 0, api.ErrReference)
		}
	}
	for _, n := range edges() {
		for _, m := range edges() {
			checkList(t, []api.Through{{From: n, To: m}}, loops(3), nil)
			checkList(t, []api.Through{{From: 0, To: 1}, {From: n, To: m}}, loops(101), nil)
			checkCheck(t, []api.Through{{From: n, To: m}}, nil, nil, 0, api.ErrReference)
			checkCheck(t, []api.Through{{From: n, To: m}, {From: m, To: n}}, []api.Trip{}, nil, 0, api.ErrReference)
			checkCheck(t, []api.Through{{From: n, To: m}}, loops(1), nil, 0, api.ErrReference)
		}
	}
	// The trips of a full table, and those of a longer one.
	for _, trips := range []int{255, mostTrips, 257, 300, 1000} {
		for _, n := range []int{-1, 1, 127, 128, 129, 254, 255, 256, 257, 299, 300, 999, 1000, 65536, 1 << 32, 1<<32 + 1} {
			e := api.ErrReference
			if n >= 0 && n < trips {
				e = api.OK
			}
			checkCheck(t, []api.Through{{From: 0, To: n}}, loops(trips), nil, 0, e)
			checkCheck(t, []api.Through{{From: 5, To: 0}, {From: n, To: 7}}, loops(trips), nil, at(1, e), e)
		}
	}
}

// A frequency of one of the trips is an error, whether it is sound or not, and wherever it is in its list.
func TestCheckFrequency(t *testing.T) {
	for _, sound := range []api.Frequency{{From: 100, To: 200, Every: 10}, {}, {From: 9, To: 3, Every: -1}, {From: least, To: greatest, Every: 1}} {
		of := func(trips ...int) []api.Frequency {
			var f []api.Frequency
			for _, trip := range trips {
				g := sound
				g.Trip = trip
				f = append(f, g)
			}
			return f
		}
		for _, c := range []struct {
			f     []api.Frequency
			index int
			e     api.Errno
		}{
			{of(3), 0, api.ErrFrequency}, {of(1), 0, api.ErrFrequency}, {of(3, 1), 0, api.ErrFrequency}, {of(1, 3), 0, api.ErrFrequency}, {of(3, 3), 0, api.ErrFrequency},
			{of(4), 1, api.ErrFrequency}, {of(0), 1, api.ErrFrequency}, {of(0, 4), 1, api.ErrFrequency}, {of(4, 3), 0, api.ErrFrequency}, {of(0, 1), 0, api.ErrFrequency},
			{of(2), 0, api.OK}, {of(5), 0, api.OK}, {of(2, 5), 0, api.OK}, {of(2, 5, 3), 0, api.ErrFrequency}, {of(2, 5, 2, 0), 1, api.ErrFrequency}, {of(), 0, api.OK},
			// Of trips that do not exist.
			{of(6), 0, api.OK}, {of(-1), 0, api.OK}, {of(least, greatest, -3, 7, 1<<32+1, 1<<32+3, ^1, ^3), 0, api.OK}, {of(6, -1, 4), 1, api.ErrFrequency},
		} {
			checkCheck(t, []api.Through{{From: 3, To: 1}, {From: 4, To: 0}}, loops(6), c.f, c.index, c.e)
		}
	}
	// The frequencies may be more than there can be in a timetable.
	f := slices.Repeat([]api.Frequency{{Trip: 2}}, 1000)
	checkCheck(t, []api.Through{{From: 3, To: 1}}, loops(6), f, 0, api.OK)
	for _, i := range []int{0, 1, 63, 64, 65, 500, 999} {
		for trip := range 6 {
			checkList(t, []api.Through{{From: 3, To: 1}}, loops(6), with(f, i, api.Frequency{Trip: trip}))
		}
	}
}

func TestCheckCalendar(t *testing.T) {
	for _, n := range integers() {
		for _, m := range append(edges(), n-1, n, n+1, -n, n^least, n^1<<32) {
			trips := loops(4)
			trips[2].Calendar, trips[1].Calendar = n, m
			e := api.ErrCalendar
			if n == m {
				e = api.OK
			}
			checkCheck(t, []api.Through{{From: 2, To: 1}}, trips, nil, 0, e)
			checkCheck(t, []api.Through{{From: 3, To: 0}, {From: 1, To: 2}}, trips, nil, at(1, e), e)
		}
	}
	// Only the calendars of its own two trips count.
	trips := loops(6)
	for i := range trips {
		trips[i].Calendar = i / 2
	}
	checkCheck(t, []api.Through{{From: 0, To: 1}, {From: 5, To: 4}, {From: 3, To: 2}}, trips, nil, 0, api.OK)
	checkCheck(t, []api.Through{{From: 0, To: 1}, {From: 5, To: 4}, {From: 1, To: 2}}, trips, nil, 2, api.ErrCalendar)
}

// Trips without calls, with one call and with several; the last stop of the one and the first stop of the other count.
func TestCheckStop(t *testing.T) {
	one := func(stop int) api.Trip { return api.Trip{Calls: []api.Call{{Stop: stop, Arrive: 50, Depart: 50}}} }
	for _, c := range []struct {
		from, to api.Trip
		e        api.Errno
	}{
		{api.Trip{}, api.Trip{}, api.ErrStop}, {api.Trip{}, loop(), api.ErrStop}, {loop(), api.Trip{}, api.ErrStop}, {api.Trip{Calls: []api.Call{}}, one(0), api.ErrStop}, {one(0), api.Trip{Calls: loop().Calls[:0]}, api.ErrStop},
		{one(0), one(0), api.OK}, {one(3), one(3), api.OK}, {one(3), one(4), api.ErrStop}, {one(0), loop(), api.OK}, {loop(), one(0), api.OK}, {one(1), loop(), api.ErrStop}, {loop(), one(1), api.ErrStop},
		{hop(0, 0, 1, 50), hop(1, 50, 2, 80), api.OK}, {hop(0, 0, 1, 50), hop(0, 50, 1, 80), api.ErrStop}, {hop(0, 0, 1, 50), hop(2, 50, 1, 80), api.ErrStop}, {hop(2, 0, 1, 50), hop(0, 50, 2, 80), api.ErrStop}, {hop(1, 0, 0, 50), hop(1, 50, 0, 80), api.ErrStop}, {hop(1, 0, 1, 50), hop(1, 50, 1, 80), api.OK},
		{api.Trip{Calls: calls("0b 1x 2a")}, api.Trip{Calls: later(calls("2b 3x 4a"), 500)}, api.OK}, {api.Trip{Calls: calls("0b 2x 1a")}, api.Trip{Calls: later(calls("2b 1x 4a"), 500)}, api.ErrStop}, {api.Trip{Calls: calls("0b 1x 2a")}, api.Trip{Calls: later(calls("3b 2x 4a"), 500)}, api.ErrStop},
		// Passengers need neither board nor alight there.
		{api.Trip{Calls: calls("0b 1x 2-")}, api.Trip{Calls: later(calls("2- 3x 4-"), 500)}, api.OK},
	} {
		checkCheck(t, []api.Through{{From: 0, To: 1}}, []api.Trip{c.from, c.to}, nil, 0, c.e)
		checkCheck(t, []api.Through{{From: 2, To: 3}, {From: 1, To: 0}}, []api.Trip{c.to, c.from, loop(), loop()}, nil, at(1, c.e), c.e)
	}
	for _, n := range integers() {
		for _, m := range append(edges(), n-1, n, n+1, -n, n^least, n^1<<32) {
			e := api.ErrStop
			if n == m {
				e = api.OK
			}
			checkCheck(t, []api.Through{{From: 0, To: 1}}, []api.Trip{hop(5, 0, n, 50), hop(m, 50, 6, 80)}, nil, 0, e)
		}
	}
}

// A departure that is equal to the arrival, one less and one more, and times at the ends of the integers.
func TestCheckTime(t *testing.T) {
	for _, n := range integers() {
		for _, m := range append(edges(), n-1, n, n+1, -n, n^least, n^1<<32) {
			e := api.OK
			if m < n {
				e = api.ErrTime
			}
			trips := []api.Trip{hop(5, 0, 9, n), hop(9, m, 6, 80), loop(), loop()}
			checkCheck(t, []api.Through{{From: 0, To: 1}}, trips, nil, 0, e)
			checkCheck(t, []api.Through{{From: 3, To: 2}, {From: 0, To: 1}}, trips, nil, at(1, e), e)
		}
	}
	// The other times of both calls, and of all others, have no influence.
	for _, n := range edges() {
		trips := []api.Trip{hop(0, 0, 1, 200), hop(1, 200, 2, 300)}
		trips[0].Calls[0].Arrive, trips[0].Calls[0].Depart, trips[0].Calls[1].Depart = n, n, n
		trips[1].Calls[0].Arrive, trips[1].Calls[1].Arrive, trips[1].Calls[1].Depart = n, n, n
		checkCheck(t, []api.Through{{From: 0, To: 1}}, trips, nil, 0, api.OK)
		trips[1].Calls[0].Depart = 199
		checkCheck(t, []api.Through{{From: 0, To: 1}}, trips, nil, 0, api.ErrTime)
		trips[1].Calls[0].Depart, trips[0].Calls[1].Arrive = 200, 201
		checkCheck(t, []api.Through{{From: 0, To: 1}}, trips, nil, 0, api.ErrTime)
	}
}

// The other parts of a trip have no influence.
func TestCheckIgnoresOtherParts(t *testing.T) {
	trips := someTrips()
	for i := range trips {
		trips[i].ID, trips[i].Route, trips[i].StepFree = strings.Repeat("?", i), i-5, i%2 == 0
		for k := range trips[i].Calls {
			trips[i].Calls[k].Board = !trips[i].Calls[k].Board
			trips[i].Calls[k].Alight = k%2 == 0
		}
	}
	for _, l := range lists(kinds(), 3) {
		index, e := wantedCheck(l, someTrips(), nil)
		checkCheck(t, l, trips, nil, index, e)
	}
}

// Earlier through services with the same From, with the same To, with both, and with neither.
func TestCheckDuplicate(t *testing.T) {
	for _, c := range []struct {
		l     []api.Through
		index int
		e     api.Errno
	}{
		{[]api.Through{{From: 0, To: 1}, {From: 0, To: 1}}, 1, api.ErrDuplicate}, {[]api.Through{{From: 0, To: 1}, {From: 0, To: 2}}, 1, api.ErrDuplicate}, {[]api.Through{{From: 0, To: 1}, {From: 2, To: 1}}, 1, api.ErrDuplicate}, {[]api.Through{{From: 0, To: 1}, {From: 2, To: 3}}, 0, api.OK},
		// A trip may be From of one and To of another one.
		{[]api.Through{{From: 0, To: 1}, {From: 1, To: 2}}, 0, api.OK}, {[]api.Through{{From: 1, To: 2}, {From: 0, To: 1}}, 0, api.OK}, {[]api.Through{{From: 0, To: 1}, {From: 2, To: 0}}, 0, api.OK},
		{[]api.Through{{From: 0, To: 1}, {From: 2, To: 3}, {From: 0, To: 3}}, 2, api.ErrDuplicate}, {[]api.Through{{From: 0, To: 1}, {From: 2, To: 3}, {From: 2, To: 1}}, 2, api.ErrDuplicate}, {[]api.Through{{From: 0, To: 1}, {From: 2, To: 3}, {From: 0, To: 1}, {From: 2, To: 3}}, 2, api.ErrDuplicate}, {[]api.Through{{From: 0, To: 1}, {From: 2, To: 3}, {From: 4, To: 5}, {From: 6, To: 5}}, 3, api.ErrDuplicate},
		// Duplicates that come back to a trip as well.
		{[]api.Through{{From: 0, To: 1}, {From: 1, To: 2}, {From: 1, To: 0}}, 2, api.ErrDuplicate}, {[]api.Through{{From: 0, To: 1}, {From: 1, To: 2}, {From: 2, To: 1}}, 2, api.ErrDuplicate}, {[]api.Through{{From: 0, To: 1}, {From: 2, To: 0}, {From: 1, To: 0}}, 2, api.ErrDuplicate},
	} {
		checkCheck(t, c.l, loops(7), nil, c.index, c.e)
	}
	l, trips := pairs(mostThroughs), loops(mostTrips)
	for j := range l {
		for i := range j {
			checkCheck(t, with(l, j, l[i]), trips, nil, j, api.ErrDuplicate)
			checkCheck(t, with(l, j, api.Through{From: l[i].From, To: l[j].To}), trips, nil, j, api.ErrDuplicate)
			checkCheck(t, with(l, j, api.Through{From: l[j].From, To: l[i].To}), trips, nil, j, api.ErrDuplicate)
			checkCheck(t, with(l, i, l[j])[:j], trips, nil, 0, api.OK)
		}
	}
}

// An earlier through service that is not valid is found first, so that its trips are not used.
func TestCheckDuplicateOfInvalid(t *testing.T) {
	trips := loops(4)
	trips[1].Calendar = 1
	checkCheck(t, []api.Through{{From: 0, To: 1}, {From: 0, To: 2}}, trips, nil, 0, api.ErrCalendar)
	checkCheck(t, []api.Through{{From: 0, To: 2}, {From: 0, To: 1}}, trips, nil, 1, api.ErrCalendar)
	checkCheck(t, []api.Through{{From: 0, To: 2}, {From: 3, To: 1}}, trips, nil, 1, api.ErrCalendar)
}

// Through services that come back to a trip in any number of steps, in every order of the list, and those that do not.
func TestCheckLink(t *testing.T) {
	for n := 2; n <= 6; n++ {
		for i, l := range orders(steps(n, n)) {
			checkCheck(t, l, ring(n), nil, n-1, api.ErrLink)
			checkCheck(t, l, loops(n), nil, n-1, api.ErrLink)
			checkCheck(t, l[:n-1], ring(n), nil, 0, api.OK)
			// The last step leads to a trip that does not lead on.
			open := slices.Clone(l)
			for k := range open {
				if open[k].To == 0 {
					open[k].To = n
				}
			}
			checkCheck(t, open, loops(n+1), nil, 0, api.OK)
			// Others around them change nothing.
			other := api.Through{From: n, To: n + 1}
			checkCheck(t, slices.Insert(slices.Clone(l), i%n, other), loops(n+2), nil, n, api.ErrLink)
			checkCheck(t, append(slices.Clone(l), other), loops(n+2), nil, n-1, api.ErrLink)
		}
	}
}

// Long circles, also in scattered orders and of trips in scattered places, and the same services without the last one.
func TestCheckLinkOfLongCircles(t *testing.T) {
	next := source(1)
	for n := 2; n <= mostThroughs; n++ {
		l := steps(n, n)
		backwards := slices.Clone(l)
		slices.Reverse(backwards)
		places := shuffled(steps(n, n), next)
		for _, order := range [][]api.Through{l, backwards, shuffled(l, next), shuffled(l, next)} {
			checkCheck(t, order, ring(n), nil, n-1, api.ErrLink)
			checkCheck(t, order[:n-1], ring(n), nil, 0, api.OK)
			moved := slices.Clone(order)
			for i, s := range moved {
				moved[i] = api.Through{From: places[s.From].From, To: places[s.To].From}
			}
			checkCheck(t, moved, loops(n), nil, n-1, api.ErrLink)
			checkCheck(t, moved[:n-1], loops(n), nil, 0, api.OK)
		}
	}
}

// One more service between two trips of a chain: only from its last trip to its first one is none of both used twice.
func TestCheckLinkOfEachPairOfPlaces(t *testing.T) {
	l := steps(20, 21)
	for i := range 21 {
		for j := range 21 {
			back := append(slices.Clone(l), api.Through{From: j, To: i})
			e := api.ErrDuplicate
			switch {
			case i == j:
				e = api.ErrReference
			case j == 20 && i == 0:
				e = api.ErrLink
			}
			checkCheck(t, back, loops(21), nil, 20, e)
		}
	}
	// One of two chains can follow the other one, but then that one cannot follow it.
	for _, n := range []int{1, 2, 5, 30} {
		first, second := steps(n, n+1), steps(n, n+1)
		for i := range second {
			second[i].From += n + 1
			second[i].To += n + 1
		}
		both := slices.Concat(first, second)
		there, back := api.Through{From: n, To: n + 1}, api.Through{From: 2*n + 1, To: 0}
		checkCheck(t, append(slices.Clone(both), there), loops(2*n+2), nil, 0, api.OK)
		checkCheck(t, append(slices.Clone(both), back), loops(2*n+2), nil, 0, api.OK)
		checkCheck(t, append(slices.Clone(both), there, back), loops(2*n+2), nil, 2*n+1, api.ErrLink)
		checkCheck(t, append(slices.Clone(both), back, there), loops(2*n+2), nil, 2*n+1, api.ErrLink)
	}
}

// isForest reports whether no trip is From, and none is To, of two of the services, and no walk along them goes on without end.
func isForest(l []api.Through) bool {
	next, previous := map[int]int{}, map[int]int{}
	for _, s := range l {
		next[s.From], previous[s.To] = s.To, s.From
	}
	if len(next) < len(l) || len(previous) < len(l) {
		return false
	}
	for _, s := range l {
		trip, ok := s.To, true
		for range l {
			if ok {
				trip, ok = next[trip]
			}
		}
		if ok {
			return false
		}
	}
	return true
}

// All lists of up to four services between four trips that can follow each other in any order.
func TestCheckOfAllShortLists(t *testing.T) {
	var all []api.Through
	for from := range 4 {
		for to := range 4 {
			if from != to {
				all = append(all, api.Through{From: from, To: to})
			}
		}
	}
	for _, l := range lists(all, 4) {
		checkList(t, l, loops(4), nil)
		if _, e := Check(l, loops(4), nil); (e == api.OK) != isForest(l) {
			t.Errorf("Check(%s) = %d", text(l), e)
		}
	}
}

// scene is what Check, or CheckGuarantees for 3 stops, is called with.
type scene struct {
	l       []api.Through
	changes []api.Guarantee
	trips   []api.Trip
	f       []api.Frequency
}

// newScene returns a valid scene with n services and n changes, each between two trips of its own.
func newScene(n int) scene {
	return scene{l: pairs(n), changes: changes(n), trips: loops(2 * n)}
}

// wrong changes the service, or the guaranteed change, at an index of a scene so that it is not valid. It may change one of the trips to which that entry refers.
type wrong struct {
	e      api.Errno
	rank   int
	trip   string
	change func(s *scene, i int)
}

// wrongs returns changes for each error of a through service but ErrLink; of two that apply, the one with the lower rank comes first, and is applied last.
func wrongs() []wrong {
	from := func(s *scene, i int) *api.Trip { return &s.trips[s.l[i].From] }
	to := func(s *scene, i int) *api.Trip { return &s.trips[s.l[i].To] }
	return []wrong{
		{api.ErrReference, 0, "", func(s *scene, i int) { s.l[i].From = -1 }},
		{api.ErrReference, 0, "", func(s *scene, i int) { s.l[i].From = len(s.trips) }},
		{api.ErrReference, 0, "", func(s *scene, i int) { s.l[i].From = greatest }},
		{api.ErrReference, 0, "", func(s *scene, i int) { s.l[i].To = -1 }},
		{api.ErrReference, 0, "", func(s *scene, i int) { s.l[i].To = len(s.trips) }},
		{api.ErrReference, 0, "", func(s *scene, i int) { s.l[i].To = least }},
		{api.ErrReference, 0, "", func(s *scene, i int) { s.l[i].From = s.l[i].To }},
		{api.ErrReference, 0, "", func(s *scene, i int) { s.l[i].To = s.l[i].From }},
		{api.ErrFrequency, 1, "from", func(s *scene, i int) { s.f = append(s.f, api.Frequency{Trip: s.l[i].From, From: 5, To: 9, Every: 1}) }},
		{api.ErrFrequency, 1, "to", func(s *scene, i int) { s.f = append(s.f, api.Frequency{Trip: s.l[i].To}) }},
		{api.ErrCalendar, 2, "from", func(s *scene, i int) { from(s, i).Calendar++ }},
		{api.ErrCalendar, 2, "to", func(s *scene, i int) { to(s, i).Calendar = least }},
		{api.ErrStop, 3, "from", func(s *scene, i int) { from(s, i).Calls = nil }},
		{api.ErrStop, 3, "to", func(s *scene, i int) { to(s, i).Calls = to(s, i).Calls[:0] }},
		{api.ErrStop, 3, "from", func(s *scene, i int) { from(s, i).Calls[2].Stop = 1 }},
		{api.ErrStop, 3, "to", func(s *scene, i int) { to(s, i).Calls[0].Stop = 2 }},
		{api.ErrTime, 4, "from", func(s *scene, i int) { from(s, i).Calls[2].Arrive = 51 }},
		{api.ErrTime, 4, "to", func(s *scene, i int) { to(s, i).Calls[0].Depart = 49 }},
		{api.ErrTime, 4, "to", func(s *scene, i int) { to(s, i).Calls[0].Depart = least }},
		{api.ErrDuplicate, 5, "from", func(s *scene, i int) { s.l[i].From = s.l[0].From }},
		{api.ErrDuplicate, 5, "to", func(s *scene, i int) { s.l[i].To = s.l[0].To }},
	}
}

// circle makes the service i lead back to where the first one begins; both its trips belong to that one.
func circle() wrong {
	return wrong{api.ErrLink, 6, "both", func(s *scene, i int) { s.l[i] = api.Through{From: s.l[0].To, To: s.l[0].From} }}
}

// together reports whether both changes can be in one entry, the first one before the second one: a duplicate of another entry leaves only one of the trips to be changed without changing that entry as well.
func together(first, second wrong) bool {
	return first.rank < second.rank && (second.rank < 5 || first.trip != second.trip)
}

// needsEarlier reports whether the change is about an earlier entry.
func (w wrong) needsEarlier() bool {
	return w.rank >= 5
}

// places returns the indices of some entries of a full list.
func places() []int {
	return []int{0, 1, 2, 3, 31, 32, 63, 64, 65, 100, mostThroughs - 2, mostThroughs - 1}
}

// checkScene checks Check for a full list with those changes, each at its place, and for the beginning of the list up to the last one.
func checkScene(t *testing.T, index int, e api.Errno, last int, change func(s *scene)) {
	t.Helper()
	s := newScene(mostThroughs)
	change(&s)
	checkCheck(t, s.l, s.trips, s.f, index, e)
	checkCheck(t, s.l[:last+1], s.trips, s.f, index, e)
	checkCheck(t, s.l[:index], s.trips, s.f, 0, api.OK)
}

// Each change is an error on its own, and gives nothing but the index and the error.
func TestCheckEachError(t *testing.T) {
	for _, w := range append(wrongs(), circle()) {
		for i := range mostThroughs {
			if i > 0 || !w.needsEarlier() {
				checkScene(t, i, w.e, i, func(s *scene) { w.change(s, i) })
			}
		}
	}
}

// Of several errors of one through service, the one that the promise names first is returned.
func TestCheckErrorsOfOneService(t *testing.T) {
	total := 0
	for _, first := range wrongs() {
		for _, second := range wrongs() {
			if !together(first, second) {
				continue
			}
			total++
			for _, i := range places()[1:] {
				checkScene(t, i, first.e, i, func(s *scene) {
					second.change(s, i)
					first.change(s, i)
				})
			}
			for _, third := range wrongs() {
				if together(first, third) && together(second, third) {
					checkScene(t, 3, first.e, 3, func(s *scene) {
						third.change(s, 3)
						second.change(s, 3)
						first.change(s, 3)
					})
				}
			}
		}
	}
	if total < 100 {
		t.Errorf("only %d pairs of errors can be in one service", total)
	}
}

// What can be wrong with a service that would also come back to a trip: its trips belong to earlier ones, which are valid.
func TestCheckErrorsOfACircle(t *testing.T) {
	there := []api.Through{{From: 0, To: 1}, {From: 1, To: 2}}
	for _, c := range []struct {
		trips []api.Trip
		e     api.Errno
	}{
		{[]api.Trip{hop(0, 50, 1, 50), hop(1, 50, 2, 50), hop(2, 50, 0, 50)}, api.ErrLink},
		{[]api.Trip{hop(0, 50, 1, 50), hop(1, 50, 2, 50), hop(2, 50, 3, 50)}, api.ErrStop},
		{[]api.Trip{hop(0, 49, 1, 50), hop(1, 50, 2, 50), hop(2, 50, 0, 50)}, api.ErrTime},
		{[]api.Trip{hop(0, 50, 1, 50), hop(1, 50, 2, 50), hop(2, 50, 0, 51)}, api.ErrTime},
		{[]api.Trip{hop(0, 100, 1, 200), hop(1, 200, 2, 300), hop(2, 300, 0, 400)}, api.ErrTime},
		{[]api.Trip{hop(0, 100, 1, 200), hop(1, 200, 2, 300), hop(2, 300, 0, 100)}, api.ErrLink},
	} {
		checkCheck(t, append(slices.Clone(there), api.Through{From: 2, To: 0}), c.trips, nil, 2, c.e)
		checkCheck(t, append(slices.Clone(there), api.Through{From: 2, To: 2}), c.trips, nil, 2, api.ErrReference)
		checkCheck(t, append(slices.Clone(there), api.Through{From: 3, To: 0}), c.trips, nil, 2, api.ErrReference)
	}
	// A service from a trip to itself would come back to it as well.
	checkCheck(t, []api.Through{{From: 1, To: 1}}, loops(3), nil, 0, api.ErrReference)
}

// Of the errors of several through services, the one of the first service comes first, whatever the errors are.
func TestCheckErrorsOfTwoServices(t *testing.T) {
	for _, j := range places() {
		for _, i := range places() {
			if i >= j {
				continue
			}
			for _, first := range append(wrongs(), circle()) {
				if first.needsEarlier() && i == 0 {
					continue
				}
				for _, second := range wrongs() {
					checkScene(t, i, first.e, j, func(s *scene) {
						first.change(s, i)
						second.change(s, j)
					})
				}
			}
		}
	}
}

// The length of the list comes before all other errors.
func TestCheckLimitFirst(t *testing.T) {
	for _, w := range append(wrongs(), circle()) {
		for i := range mostThroughs + 1 {
			if i == 0 && w.needsEarlier() {
				continue
			}
			s := newScene(mostThroughs + 1)
			w.change(&s, i)
			checkCheck(t, s.l, s.trips, s.f, 0, api.ErrLimit)
		}
	}
}

// All pairs of someTrips, and all lists of some of them, with different frequencies.
func TestCheckOfAllPairs(t *testing.T) {
	count := map[api.Errno]int{}
	for _, f := range frequencyLists() {
		for from := -1; from <= len(someTrips()); from++ {
			for to := -1; to <= len(someTrips()); to++ {
				checkList(t, []api.Through{{From: from, To: to}}, someTrips(), f)
				checkList(t, []api.Through{{From: 4, To: 5}, {From: from, To: to}}, someTrips(), f)
			}
		}
		for _, l := range lists(kinds(), 4) {
			checkList(t, l, someTrips(), f)
			_, e := Check(l, someTrips(), f)
			count[e]++
		}
	}
	for _, e := range []api.Errno{api.OK, api.ErrReference, api.ErrFrequency, api.ErrTime, api.ErrDuplicate, api.ErrLink} {
		if count[e] < 10 {
			t.Errorf("Check returned %d only %d times", e, count[e])
		}
	}
}

// P19.2 (CheckGuarantees)

func TestGuaranteesExamples(t *testing.T) {
	trips := []api.Trip{{Calls: calls("0b 1a")}, {Calls: later(calls("1b 2a"), 100)}}
	checkGuarantees(t, []api.Guarantee{{From: 0, To: 1, Stop: 1}}, trips, nil, 2, 0, api.OK)
	checkGuarantees(t, []api.Guarantee{{From: 0, To: 1, Stop: 1}}, trips, nil, 1, 0, api.ErrReference)
	checkGuarantees(t, []api.Guarantee{{From: 0, To: 1, Stop: 2}}, trips, nil, 3, 0, api.ErrLink)
	checkGuarantees(t, []api.Guarantee{{From: 0, To: 1, Stop: 1}}, trips, []api.Frequency{{Trip: 1}}, 2, 0, api.ErrFrequency)
	checkGuarantees(t, []api.Guarantee{{From: 0, To: 1, Stop: 1}, {From: 0, To: 1, Stop: 1}}, trips, nil, 2, 1, api.ErrDuplicate)
	// The trips can meet in both directions, on different days too.
	trips = someTrips()
	trips[11].Calendar, trips[12].Calendar = 5, -6
	checkGuarantees(t, []api.Guarantee{{From: 11, To: 12, Stop: 1}, {From: 8, To: 4, Stop: 0}, {From: 5, To: 8, Stop: 0}}, trips, nil, 2, 0, api.OK)
}

func TestGuaranteesLimit(t *testing.T) {
	for _, trips := range [][]api.Trip{nil, someTrips(), loops(mostTrips), {{}}} {
		for _, f := range frequencyLists() {
			for _, stops := range edges() {
				checkGuarantees(t, nil, trips, f, stops, 0, api.OK)
				checkGuarantees(t, []api.Guarantee{}, trips, f, stops, 0, api.OK)
				checkGuarantees(t, changes(3)[:0], trips, f, stops, 0, api.OK)
			}
		}
	}
	for n := range mostGuarantees + 1 {
		checkGuarantees(t, changes(n), loops(mostTrips), nil, 2, 0, api.OK)
	}
	for _, n := range []int{mostGuarantees + 1, mostGuarantees + 2, 2 * mostGuarantees, 255, 257, 256 + mostGuarantees, 65535, 65536, 65536 + mostGuarantees} {
		trips := loops(2 * n)
		checkGuarantees(t, changes(n), trips, nil, 2, 0, api.ErrLimit)
		checkGuarantees(t, changes(n)[:mostGuarantees], trips, nil, 2, 0, api.OK)
		checkGuarantees(t, changes(n)[n-mostGuarantees:], trips, nil, 2, 0, api.OK)
		// No change of a list that is too long is valid, or all of them are the same.
		checkGuarantees(t, make([]api.Guarantee, n), trips, nil, 2, 0, api.ErrLimit)
		checkGuarantees(t, make([]api.Guarantee, n), nil, nil, least, 0, api.ErrLimit)
		checkGuarantees(t, slices.Repeat(changes(1), n), trips, nil, 2, 0, api.ErrLimit)
	}
}

func TestGuaranteesReference(t *testing.T) {
	for trips := range 6 {
		for _, n := range append(integers(), trips-1, trips, trips+1) {
			for other := range trips {
				e := api.ErrReference
				if n >= 0 && n < trips && n != other {
					e = api.OK
				}
				checkGuarantees(t, []api.Guarantee{{From: n, To: other, Stop: 1}}, loops(trips), nil, 2, 0, e)
				checkGuarantees(t, []api.Guarantee{{From: other, To: n, Stop: 1}}, loops(trips), nil, 2, 0, e)
			}
			checkGuarantees(t, []api.Guarantee{{From: n, To: n, Stop: 1}}, loops(trips), nil, 2, 0, api.ErrReference)
			checkGuarantees(t, []api.Guarantee{{From: n, To: -1, Stop: 1}}, loops(trips), nil, 2, 0, api.ErrReference)
			checkGuarantees(t, []api.Guarantee{{From: trips, To: n, Stop: 1}}, loops(trips), nil, 2, 0, api.ErrReference)
		}
	}
	for _, n := range edges() {
		for _, m := range edges() {
			checkChanges(t, []api.Guarantee{{From: n, To: m, Stop: 1}}, loops(3), nil, 2)
			checkChanges(t, []api.Guarantee{{From: 0, To: 1, Stop: 1}, {From: n, To: m, Stop: 1}}, loops(101), nil, 2)
			checkGuarantees(t, []api.Guarantee{{From: n, To: m, Stop: 1}}, nil, nil, 2, 0, api.ErrReference)
			checkGuarantees(t, []api.Guarantee{{From: n, To: m, Stop: 1}}, loops(1), nil, 2, 0, api.ErrReference)
		}
	}
	for _, trips := range []int{255, mostTrips, 257, 300, 1000} {
		for _, n := range []int{-1, 1, 127, 128, 129, 254, 255, 256, 257, 299, 300, 999, 1000, 65536, 1 << 32, 1<<32 + 1} {
			e := api.ErrReference
			if n >= 0 && n < trips {
				e = api.OK
			}
			checkGuarantees(t, []api.Guarantee{{From: 0, To: n, Stop: 1}}, loops(trips), nil, 2, 0, e)
			checkGuarantees(t, []api.Guarantee{{From: 5, To: 0, Stop: 1}, {From: n, To: 7, Stop: 1}}, loops(trips), nil, 2, at(1, e), e)
		}
	}
}

// Stops from 0 to stops - 1 exist, whatever the number of stops is; at each stop that is tested the trips meet.
func TestGuaranteesReferenceOfStops(t *testing.T) {
	for _, stop := range integers() {
		trips := []api.Trip{loop(), loop(), hop(stop-1, 0, stop, 100), hop(stop, 100, stop+1, 200)}
		for _, stops := range append(edges(), stop-1, stop, stop+1, -stop, 64, 65) {
			e := api.ErrReference
			if stop >= 0 && stop < stops {
				e = api.OK
			}
			checkGuarantees(t, []api.Guarantee{{From: 2, To: 3, Stop: stop}}, trips, nil, stops, 0, e)
			if stops >= 2 {
				checkGuarantees(t, []api.Guarantee{{From: 0, To: 1, Stop: 1}, {From: 2, To: 3, Stop: stop}}, trips, nil, stops, at(1, e), e)
			}
		}
	}
}

// A frequency of one of the trips is an error, whether it is sound or not; one of another trip is none.
func TestGuaranteesFrequency(t *testing.T) {
	l := []api.Guarantee{{From: 3, To: 1, Stop: 1}, {From: 4, To: 0, Stop: 1}, {From: 3, To: 4, Stop: 1}}
	for _, c := range []struct {
		trips []int
		index int
		e     api.Errno
	}{
		{[]int{3}, 0, api.ErrFrequency}, {[]int{1}, 0, api.ErrFrequency}, {[]int{3, 1}, 0, api.ErrFrequency}, {[]int{0}, 1, api.ErrFrequency}, {[]int{4}, 1, api.ErrFrequency}, {[]int{4, 0}, 1, api.ErrFrequency}, {[]int{0, 1}, 0, api.ErrFrequency}, {[]int{2, 5}, 0, api.OK}, {[]int{2, 5, 2, 4}, 1, api.ErrFrequency},
		{[]int{6}, 0, api.OK}, {[]int{-1}, 0, api.OK}, {[]int{least, greatest, ^3, 1<<32 + 3, 7}, 0, api.OK}, {[]int{6, -1, 0}, 1, api.ErrFrequency},
	} {
		for _, sound := range []api.Frequency{{From: 100, To: 200, Every: 10}, {}, {From: 9, To: 3, Every: -1}} {
			var f []api.Frequency
			for _, trip := range c.trips {
				f = append(f, api.Frequency{Trip: trip, From: sound.From, To: sound.To, Every: sound.Every})
			}
			checkGuarantees(t, l, loops(6), f, 2, c.index, c.e)
			// In the last of the three, the trips are those of the others.
			checkChanges(t, l[2:], loops(6), f, 2)
		}
	}
	f := slices.Repeat([]api.Frequency{{Trip: 2}}, 1000)
	checkGuarantees(t, l, loops(6), f, 2, 0, api.OK)
	for _, i := range []int{0, 1, 63, 64, 65, 500, 999} {
		for trip := range 6 {
			checkChanges(t, l, loops(6), with(f, i, api.Frequency{Trip: trip}), 2)
		}
	}
}

// meetings returns pairs of lists of calls, and where they meet at the stop 1, if they do.
func meetings() []struct {
	a, b          []api.Call
	alight, board int
	ok            bool
} {
	return []struct {
		a, b          []api.Call
		alight, board int
		ok            bool
	}{
		// No call, one call and several; the call 0 and the last call do not count.
		{nil, nil, 0, 0, false}, {nil, calls("1x 2x"), 0, 0, false}, {calls("0x 1x"), nil, 0, 0, false}, {calls("1x"), calls("1x"), 0, 0, false}, {calls("0x 1x"), later(calls("1x"), 200), 0, 0, false}, {calls("1x"), later(calls("1x 2x"), 200), 0, 0, false},
		{calls("0b 1a"), later(calls("1b 2a"), 100), 1, 0, true}, {calls("1x 0x"), later(calls("1x 2x"), 200), 0, 0, false}, {calls("0x 1x"), later(calls("2x 1x"), 200), 0, 0, false}, {calls("1x 0x"), later(calls("0x 1x"), 200), 0, 0, false},
		{calls("1x 0x 1x"), later(calls("1x 2x"), 200), 2, 0, true}, {calls("0x 1x"), later(calls("2x 1x 0x"), 200), 1, 1, true}, {calls("0x 2x 1x 3x"), later(calls("3x 4x 1x 0x 1x"), 200), 2, 2, true}, {calls("0x 1x 2x 1x"), later(calls("1x 3x 1x 4x"), 200), 1, 0, true},
		// Calls at the stop without Alight or without Board do not count, and others do not help.
		{calls("0x 1b"), later(calls("1b 2a"), 200), 0, 0, false}, {calls("0x 1-"), later(calls("1b 2a"), 200), 0, 0, false}, {calls("0b 1a"), later(calls("1a 2a"), 200), 0, 0, false}, {calls("0b 1a"), later(calls("1- 2a"), 200), 0, 0, false}, {calls("0x 1b 0x 1a"), later(calls("1a 2x 1b 3a"), 300), 3, 2, true}, {calls("0a 1b 2a"), later(calls("1a 2b 3b"), 300), 0, 0, false}, {calls("1a 2b 1- 0b 1a 2x 1a"), later(calls("1a 2b 1- 0b 1b 2x 1b 5a"), 600), 4, 4, true},
		// The stop of no call.
		{calls("0x 2x 3x"), later(calls("1x 2x"), 300), 0, 0, false}, {calls("0x 1x 3x"), later(calls("0x 2x 3x"), 300), 0, 0, false}, {calls("0x 11x"), later(calls("1x 2x"), 300), 0, 0, false}, {calls("0x 1x"), later(calls("-1x 2x"), 300), 0, 0, false},
		// The departure is equal to the arrival, one less or one more.
		{calls("0x 1x"), later(calls("1x 2x"), 80), 1, 0, true}, {calls("0x 1x"), later(calls("1x 2x"), 79), 0, 0, false}, {calls("0x 1x"), later(calls("1x 2x"), 81), 1, 0, true},
		// A later call would meet in time where the first one does not, or an earlier one that does not count would.
		{calls("0x 1x"), calls("1x 2x 1x 0x"), 0, 0, false}, {calls("0x 1x"), calls("1a 2x 1x 0x"), 1, 2, true}, {calls("0x 1x"), calls("1x 1x 1x 1x"), 0, 0, false}, {later(calls("1x 1b 1x 1x"), -200), calls("1x 0x"), 2, 0, true}, {later(calls("1x 1b 1x 1x"), -150), calls("1x 0x"), 0, 0, false}, {calls("0x 2x 1x 1x"), later(calls("1x 2x"), 180), 2, 0, true}, {calls("0x 2x 1x"), calls("1x 2x 1x 1x 0x"), 0, 0, false},
	}
}

// The meetings are those of Meets at the stop.
func TestGuaranteesLink(t *testing.T) {
	for _, c := range meetings() {
		e := api.ErrLink
		if c.ok {
			e = api.OK
		}
		trips := []api.Trip{loop(), {Calls: c.b}, {Calls: c.a}, loop()}
		checkGuarantees(t, []api.Guarantee{{From: 2, To: 1, Stop: 1}}, trips, nil, 5, 0, e)
		checkGuarantees(t, []api.Guarantee{{From: 3, To: 0, Stop: 1}, {From: 2, To: 1, Stop: 1}, {From: 0, To: 3, Stop: 1}}, trips, nil, 2, at(1, e), e)
		for stop := -1; stop <= 5; stop++ {
			checkChanges(t, []api.Guarantee{{From: 2, To: 1, Stop: stop}}, trips, nil, 5)
			checkChanges(t, []api.Guarantee{{From: 1, To: 2, Stop: stop}}, trips, nil, 5)
		}
	}
}

// The other parts of a trip, and whether another stop is the last of the one and the first of the other, have no influence.
func TestGuaranteesIgnoreOtherParts(t *testing.T) {
	trips := someTrips()
	for i := range trips {
		trips[i].ID, trips[i].Route, trips[i].Calendar, trips[i].StepFree = strings.Repeat("?", i), i-5, i*i-20, i%2 == 0
	}
	for _, l := range lists(changeKinds(), 3) {
		index, e := wantedGuarantees(l, someTrips(), nil, 3)
		checkGuarantees(t, l, trips, nil, 3, index, e)
	}
}

// Earlier changes with the same From, with the same To, with both at another or at the same stop, and in the other direction.
func TestGuaranteesDuplicate(t *testing.T) {
	var trips []api.Trip
	for range 5 {
		trip := api.Trip{}
		for _, stop := range []int{9, 0, 1, 2, 1, 9} {
			trip.Calls = append(trip.Calls, api.Call{Stop: stop, Arrive: 50, Depart: 50, Board: true, Alight: true})
		}
		trips = append(trips, trip)
	}
	g := api.Guarantee{From: 2, To: 3, Stop: 1}
	for from := range 5 {
		for to := range 5 {
			for stop := range 3 {
				if from == to {
					continue
				}
				h := api.Guarantee{From: from, To: to, Stop: stop}
				e := api.OK
				if h == g {
					e = api.ErrDuplicate
				}
				checkGuarantees(t, []api.Guarantee{g, h}, trips, nil, 3, at(1, e), e)
				checkGuarantees(t, []api.Guarantee{h, g}, trips, nil, 3, at(1, e), e)
				checkGuarantees(t, []api.Guarantee{h, h}, trips, nil, 3, 1, api.ErrDuplicate)
				checkGuarantees(t, []api.Guarantee{h, {From: to, To: from, Stop: stop}, h}, trips, nil, 3, 2, api.ErrDuplicate)
			}
		}
	}
	// All changes between the five trips, more than a list can have, in groups.
	var all []api.Guarantee
	for _, p := range lists([]int{0, 1, 2, 3, 4}, 2) {
		for stop := range 3 {
			if len(p) == 2 && p[0] != p[1] {
				all = append(all, api.Guarantee{From: p[0], To: p[1], Stop: stop})
			}
		}
	}
	checkGuarantees(t, all, trips, nil, 3, 0, api.OK)
	for i, g := range all {
		checkGuarantees(t, append(slices.Clone(all), g), trips, nil, 3, len(all), api.ErrDuplicate)
		checkGuarantees(t, append([]api.Guarantee{g}, all...), trips, nil, 3, i+1, api.ErrDuplicate)
	}
}

// The two equal changes at each pair of places of a full list.
func TestGuaranteesDuplicateOfEachPairOfPlaces(t *testing.T) {
	l := changes(mostGuarantees)
	trips := loops(mostTrips)
	for j := range l {
		for i := range j {
			checkGuarantees(t, with(l, j, l[i]), trips, nil, 2, j, api.ErrDuplicate)
			checkGuarantees(t, with(l, j, l[i])[i+1:], trips, nil, 2, 0, api.OK)
			// The same From or the same To, or both in the other direction, is no error.
			checkGuarantees(t, with(l, j, api.Guarantee{From: l[i].From, To: l[j].To, Stop: 1}), trips, nil, 2, 0, api.OK)
			checkGuarantees(t, with(l, j, api.Guarantee{From: l[j].From, To: l[i].To, Stop: 1}), trips, nil, 2, 0, api.OK)
			checkGuarantees(t, with(l, j, api.Guarantee{From: l[i].To, To: l[i].From, Stop: 1}), trips, nil, 2, 0, api.OK)
		}
	}
}

// guaranteeWrongs returns changes for each error of a guaranteed change; of two that apply, the one with the lower rank comes first, and is applied last.
func guaranteeWrongs() []wrong {
	from := func(s *scene, i int) *api.Trip { return &s.trips[s.changes[i].From] }
	to := func(s *scene, i int) *api.Trip { return &s.trips[s.changes[i].To] }
	return []wrong{
		{api.ErrReference, 0, "", func(s *scene, i int) { s.changes[i].From = -1 }},
		{api.ErrReference, 0, "", func(s *scene, i int) { s.changes[i].From = len(s.trips) }},
		{api.ErrReference, 0, "", func(s *scene, i int) { s.changes[i].To = -1 }},
		{api.ErrReference, 0, "", func(s *scene, i int) { s.changes[i].To = len(s.trips) }},
		{api.ErrReference, 0, "", func(s *scene, i int) { s.changes[i].From = s.changes[i].To }},
		{api.ErrReference, 0, "", func(s *scene, i int) { s.changes[i].Stop = -1 }},
		{api.ErrReference, 0, "", func(s *scene, i int) { s.changes[i].Stop = 3 }},
		{api.ErrReference, 0, "", func(s *scene, i int) {
			s.changes[i] = api.Guarantee{From: greatest, To: least, Stop: greatest}
		}},
		{api.ErrFrequency, 1, "from", func(s *scene, i int) { s.f = append(s.f, api.Frequency{Trip: s.changes[i].From}) }},
		{api.ErrFrequency, 1, "to", func(s *scene, i int) {
			s.f = append(s.f, api.Frequency{Trip: s.changes[i].To, From: 5, To: 9, Every: 1})
		}},
		{api.ErrLink, 2, "from", func(s *scene, i int) { from(s, i).Calls = nil }},
		{api.ErrLink, 2, "to", func(s *scene, i int) { to(s, i).Calls = to(s, i).Calls[1:2] }},
		{api.ErrLink, 2, "from", func(s *scene, i int) { from(s, i).Calls[1].Alight = false }},
		{api.ErrLink, 2, "to", func(s *scene, i int) { to(s, i).Calls[1].Board = false }},
		{api.ErrLink, 2, "from", func(s *scene, i int) { from(s, i).Calls[1].Arrive = 51 }},
		{api.ErrLink, 2, "to", func(s *scene, i int) { to(s, i).Calls[1].Depart = 49 }},
		{api.ErrLink, 2, "", func(s *scene, i int) { s.changes[i].Stop = 2 }},
		{api.ErrDuplicate, 5, "both", func(s *scene, i int) { s.changes[i] = s.changes[0] }},
	}
}

// checkChangeScene checks CheckGuarantees as checkScene checks Check.
func checkChangeScene(t *testing.T, index int, e api.Errno, last int, change func(s *scene)) {
	t.Helper()
	s := newScene(mostGuarantees)
	change(&s)
	checkGuarantees(t, s.changes, s.trips, s.f, 3, index, e)
	checkGuarantees(t, s.changes[:last+1], s.trips, s.f, 3, index, e)
	checkGuarantees(t, s.changes[:index], s.trips, s.f, 3, 0, api.OK)
}

func TestGuaranteesEachError(t *testing.T) {
	for _, w := range guaranteeWrongs() {
		for i := range mostGuarantees {
			if i > 0 || !w.needsEarlier() {
				checkChangeScene(t, i, w.e, i, func(s *scene) { w.change(s, i) })
			}
		}
	}
}

// Of several errors of one guaranteed change, the one that the promise names first is returned; a duplicate of a valid one can have no other error.
func TestGuaranteesErrorsOfOneChange(t *testing.T) {
	total := 0
	for _, first := range guaranteeWrongs() {
		for _, second := range guaranteeWrongs() {
			if first.rank >= second.rank || second.needsEarlier() {
				continue
			}
			total++
			for _, i := range places() {
				checkChangeScene(t, i, first.e, i, func(s *scene) {
					second.change(s, i)
					first.change(s, i)
				})
			}
			for _, third := range guaranteeWrongs() {
				if third.rank > second.rank && !third.needsEarlier() {
					checkChangeScene(t, 3, first.e, 3, func(s *scene) {
						third.change(s, 3)
						second.change(s, 3)
						first.change(s, 3)
					})
				}
			}
		}
	}
	if total < 80 {
		t.Errorf("only %d pairs of errors can be in one change", total)
	}
}

// Of the errors of several guaranteed changes, the one of the first change comes first, whatever the errors are.
func TestGuaranteesErrorsOfTwoChanges(t *testing.T) {
	for _, j := range places() {
		for _, i := range places() {
			if i >= j {
				continue
			}
			for _, first := range guaranteeWrongs() {
				if first.needsEarlier() && i == 0 {
					continue
				}
				for _, second := range guaranteeWrongs() {
					checkChangeScene(t, i, first.e, j, func(s *scene) {
						first.change(s, i)
						second.change(s, j)
					})
				}
			}
		}
	}
}

func TestGuaranteesLimitFirst(t *testing.T) {
	for _, w := range guaranteeWrongs() {
		for i := range mostGuarantees + 1 {
			s := newScene(mostGuarantees + 1)
			w.change(&s, i)
			checkGuarantees(t, s.changes, s.trips, s.f, 3, 0, api.ErrLimit)
		}
	}
}

func TestGuaranteesOfAllPairs(t *testing.T) {
	count := map[api.Errno]int{}
	for _, f := range frequencyLists() {
		for from := -1; from <= len(someTrips()); from++ {
			for to := -1; to <= len(someTrips()); to++ {
				for stop := -1; stop <= 3; stop++ {
					checkChanges(t, []api.Guarantee{{From: from, To: to, Stop: stop}}, someTrips(), f, 3)
					checkChanges(t, []api.Guarantee{{From: 8, To: 5, Stop: 1}, {From: from, To: to, Stop: stop}}, someTrips(), f, stop+1)
				}
			}
		}
		for _, l := range lists(changeKinds(), 4) {
			checkChanges(t, l, someTrips(), f, 3)
			_, e := CheckGuarantees(l, someTrips(), f, 3)
			count[e]++
		}
	}
	for _, e := range []api.Errno{api.OK, api.ErrReference, api.ErrFrequency, api.ErrLink, api.ErrDuplicate} {
		if count[e] < 10 {
			t.Errorf("CheckGuarantees returned %d only %d times", e, count[e])
		}
	}
}

// P19.3 (Next)

func TestNext(t *testing.T) {
	l := []api.Through{{From: 0, To: 1}, {From: 3, To: 2}, {From: 1, To: 3}, {From: -4, To: 0}, {From: 7, To: -7}}
	checkNext(t, l, 0, 1, true)
	checkNext(t, l, 1, 3, true)
	checkNext(t, l, 2, 0, false)
	checkNext(t, l, 3, 2, true)
	checkNext(t, l, 4, 0, false)
	checkNext(t, l, -4, 0, true)
	checkNext(t, l, 7, -7, true)
	checkNext(t, l, -7, 0, false)
	for _, trip := range integers() {
		checkNext(t, nil, trip, 0, false)
		checkNext(t, []api.Through{}, trip, 0, false)
		checkNext(t, l[:0], trip, 0, false)
		checkNext(t, []api.Through{{From: trip, To: 5}}, trip, 5, true)
		checkNext(t, []api.Through{{From: 5, To: trip}}, 5, trip, true)
		checkNext(t, []api.Through{{From: trip, To: trip}}, trip, trip, true)
		for _, other := range []int{trip - 1, trip + 1, trip ^ 1<<32, trip ^ least, ^trip} {
			checkNext(t, []api.Through{{From: other, To: trip}}, trip, 0, false)
		}
	}
}

// Of several through services with the same From, the first one counts.
func TestNextOfSeveral(t *testing.T) {
	l := []api.Through{{From: 4, To: 9}, {From: 5, To: 1}, {From: 5, To: 2}, {From: 6, To: 5}, {From: 5, To: 5}, {From: 4, To: 0}}
	checkNext(t, l, 5, 1, true)
	checkNext(t, l[2:], 5, 2, true)
	checkNext(t, l[3:], 5, 5, true)
	checkNext(t, l[5:], 5, 0, false)
	checkNext(t, l, 4, 9, true)
	checkNext(t, l[1:], 4, 0, true)
	long := steps(300, 1000)
	for i := range 300 {
		checkNext(t, long, i, i+1, true)
		checkNext(t, slices.Concat(long[i:], long[:i]), i, i+1, true)
		checkNext(t, append(slices.Clone(long), api.Through{From: i, To: 7777}), i, i+1, true)
		checkNext(t, append([]api.Through{{From: i, To: 7777}}, long...), i, 7777, true)
	}
	checkNext(t, long, 300, 0, false)
}

// P19.4 (Chain)

func TestChainExamples(t *testing.T) {
	checkChain(t, []api.Through{{From: 0, To: 1}}, 0, 0, 1)
	checkChain(t, []api.Through{{From: 0, To: 1}}, 1, 1)
	checkChain(t, []api.Through{{From: 0, To: 1}}, 2, 2)
	checkChain(t, []api.Through{{From: 0, To: 1}, {From: 1, To: 2}, {From: 2, To: 0}}, 1, 1, 2, 0)
	checkChain(t, []api.Through{{From: 0, To: 1}, {From: 1, To: 0}}, 0, 0, 1)
}

func TestChain(t *testing.T) {
	for _, trip := range integers() {
		checkChain(t, nil, trip, trip)
		checkChain(t, []api.Through{}, trip, trip)
		checkChain(t, steps(3, 4)[:0], trip, trip)
		checkChain(t, []api.Through{{From: trip, To: trip}}, trip, trip)
		checkChain(t, []api.Through{{From: trip ^ 1, To: trip}}, trip, trip)
		checkChain(t, []api.Through{{From: trip, To: trip ^ least}}, trip, trip, trip^least)
		checkChain(t, []api.Through{{From: trip ^ 1, To: trip ^ 2}, {From: trip, To: trip ^ 1}}, trip, trip, trip^1, trip^2)
		checkChain(t, []api.Through{{From: trip, To: trip ^ 1}, {From: trip ^ 1, To: trip}}, trip, trip, trip^1)
		checkChain(t, []api.Through{{From: trip, To: trip ^ 1<<32}, {From: trip ^ 1<<32, To: trip ^ 1<<32}}, trip, trip, trip^1<<32)
	}
	for _, l := range orders([]api.Through{{From: 2, To: 5}, {From: 5, To: 1}, {From: 1, To: 0}, {From: 7, To: 8}, {From: 4, To: 2}}) {
		checkChain(t, l, 4, 4, 2, 5, 1, 0)
		checkChain(t, l, 2, 2, 5, 1, 0)
		checkChain(t, l, 1, 1, 0)
		checkChain(t, l, 0, 0)
		checkChain(t, l, 7, 7, 8)
		checkChain(t, l, 8, 8)
		checkChain(t, l, 9, 9)
		checkChain(t, l, -1, -1)
	}
}

// Circles that contain the trip, in every order of the list and with others that lead into them, and circles that do not.
func TestChainOfCircles(t *testing.T) {
	for n := 1; n <= 5; n++ {
		for _, l := range orders(append(steps(n, n), api.Through{From: 9, To: n - 1}, api.Through{From: 8, To: 9})) {
			for trip := range n {
				var want []int
				for i := range n {
					want = append(want, (trip+i)%n)
				}
				checkChain(t, l, trip, want...)
			}
			var want []int
			for i := range n {
				want = append(want, (n-1+i)%n)
			}
			checkChain(t, l, 9, append([]int{9}, want...)...)
			checkChain(t, l, 8, append([]int{8, 9}, want...)...)
			checkChain(t, l, 7, 7)
		}
	}
}

// Lists with several entries with the same From, of which only the first one counts, in a chain as well.
func TestChainOfSeveral(t *testing.T) {
	l := []api.Through{{From: 0, To: 1}, {From: 0, To: 2}, {From: 1, To: 3}, {From: 2, To: 4}, {From: 1, To: 0}, {From: 3, To: 3}, {From: 3, To: 2}}
	checkChain(t, l, 0, 0, 1, 3)
	checkChain(t, l[1:], 0, 0, 2, 4)
	checkChain(t, l[3:], 1, 1, 0)
	checkChain(t, l[6:], 3, 3, 2)
	checkChain(t, append([]api.Through{{From: 3, To: 2}}, l...), 0, 0, 1, 3, 2, 4)
	var all []api.Through
	for from := range 3 {
		for to := range 4 {
			all = append(all, api.Through{From: from, To: to})
		}
	}
	for _, l := range lists(all, 4) {
		for trip := -1; trip <= 4; trip++ {
			checkTrip(t, l, trip)
		}
	}
}

// Lists that are longer than those that Check accepts.
func TestChainOfLongLists(t *testing.T) {
	for _, n := range []int{127, 128, 129, 255, 256, 257, 1000, 5000} {
		l := steps(n, n+1)
		var want []int
		for i := range n + 1 {
			want = append(want, i)
		}
		for _, trip := range []int{0, 1, n / 2, n - 1, n} {
			checkChain(t, l, trip, want[trip:]...)
			round := slices.Concat(want[trip:n], want[:trip])
			checkChain(t, steps(n, n), trip%n, round...)
		}
		checkChain(t, shuffled(l, source(n)), 0, want...)
		checkChain(t, slices.Repeat([]api.Through{{From: 3, To: 3}}, n), 3, 3)
	}
}

// P19.5 (Meets)

func TestMeetsExamples(t *testing.T) {
	a := []api.Call{{Stop: 0, Board: true}, {Stop: 1, Arrive: 100, Depart: 100, Alight: true}}
	b := []api.Call{{Stop: 1, Arrive: 100, Depart: 100, Board: true}, {Stop: 2, Arrive: 200, Depart: 200, Alight: true}}
	checkMeets(t, a, b, 1, 1, 0, true)
	checkMeets(t, a, b, 0, 0, 0, false)
	checkMeets(t, a, b, 2, 0, 0, false)
	checkMeets(t, b, a, 1, 0, 0, false)
	checkMeets(t, a, a, 1, 0, 0, false)
	b[0].Depart = 99
	checkMeets(t, a, b, 1, 0, 0, false)
}

func TestMeets(t *testing.T) {
	for _, c := range meetings() {
		checkMeets(t, c.a, c.b, 1, c.alight, c.board, c.ok)
		for _, stop := range edges() {
			checkStop(t, c.a, c.b, stop)
			checkStop(t, c.b, c.a, stop)
			checkStop(t, c.a, c.a, stop)
		}
		// The same calls at another stop, and all of them later.
		for _, n := range append(edges(), 77) {
			a, b := slices.Clone(c.a), slices.Clone(c.b)
			for _, l := range [][]api.Call{a, b} {
				for i := range l {
					l[i].Stop += n - 1
				}
			}
			checkMeets(t, a, b, n, c.alight, c.board, c.ok)
			checkMeets(t, later(a, 1000000), later(b, 1000000), n, c.alight, c.board, c.ok)
			checkMeets(t, a, later(b, -1000000), n, 0, 0, false)
		}
	}
}

// Stops that no call has, and integers at the ends.
func TestMeetsOfAllStops(t *testing.T) {
	for _, n := range integers() {
		a, b := hop(n-1, 0, n, 100).Calls, hop(n, 100, n+1, 200).Calls
		checkMeets(t, a, b, n, 1, 0, true)
		for _, other := range []int{n - 1, n + 1, n ^ 1<<32, n ^ least, ^n, n + 2} {
			checkMeets(t, a, b, other, 0, 0, false)
		}
		checkMeets(t, nil, nil, n, 0, 0, false)
		checkMeets(t, []api.Call{}, []api.Call{}, n, 0, 0, false)
		checkMeets(t, a[:1], b, n-1, 0, 0, false)
		checkMeets(t, a, b[1:], n, 0, 0, false)
	}
}

// Times at the ends of the integers are compared without overflow.
func TestMeetsOfAllTimes(t *testing.T) {
	for _, n := range integers() {
		for _, m := range append(edges(), n-1, n, n+1, -n, n^least, n^1<<32) {
			if m >= n {
				checkMeets(t, hop(0, 0, 1, n).Calls, hop(1, m, 2, 0).Calls, 1, 1, 0, true)
			} else {
				checkMeets(t, hop(0, 0, 1, n).Calls, hop(1, m, 2, 0).Calls, 1, 0, 0, false)
			}
		}
	}
}

// The other times of the two calls, their other flags, and all parts of other calls have no influence.
func TestMeetsIgnoresOtherParts(t *testing.T) {
	for _, n := range edges() {
		for _, flag := range []bool{false, true} {
			for _, stop := range []int{0, 1, 5} {
				a := []api.Call{{Stop: stop, Arrive: n, Depart: n, Board: flag, Alight: true}, {Stop: 5, Arrive: 100, Depart: n, Board: flag, Alight: true}, {Stop: stop, Arrive: n, Depart: n, Board: true, Alight: flag}}
				b := []api.Call{{Stop: stop, Arrive: n, Depart: n, Board: false, Alight: flag}, {Stop: 5, Arrive: n, Depart: 100, Board: true, Alight: flag}, {Stop: stop, Arrive: n, Depart: n, Board: flag, Alight: true}, {Stop: stop, Arrive: n, Depart: n, Board: true, Alight: flag}}
				checkMeets(t, a, b, 5, 1, 1, true)
				b[1].Depart = 99
				checkMeets(t, a, b, 5, 0, 0, false)
			}
		}
	}
}

// The calls of the meeting at each place of lists of several lengths.
func TestMeetsOfEachPlace(t *testing.T) {
	for n := range mostCalls + 9 {
		others := slices.Repeat([]api.Call{{Stop: 0, Board: true, Alight: true}}, n)
		at := func(i int, c api.Call) []api.Call { return with(others, i, c) }
		for i := range n {
			for k := range n {
				a, b := at(i, api.Call{Stop: 3, Arrive: 7, Alight: true}), at(k, api.Call{Stop: 3, Depart: 7, Board: true})
				if i > 0 && k < n-1 {
					checkMeets(t, a, b, 3, i, k, true)
				} else {
					checkMeets(t, a, b, 3, 0, 0, false)
				}
			}
		}
		checkMeets(t, others, others, 3, 0, 0, false)
	}
	// Lists that are longer than those of any trip.
	long := slices.Repeat([]api.Call{{Stop: 0, Board: true, Alight: true}}, 100000)
	checkMeets(t, with(long, 99999, api.Call{Stop: 3, Alight: true}), with(long, 99998, api.Call{Stop: 3, Board: true}), 3, 99999, 99998, true)
	checkMeets(t, with(long, 99999, api.Call{Stop: 3, Alight: true}), with(long, 99999, api.Call{Stop: 3, Board: true}), 3, 0, 0, false)
	checkMeets(t, long, long, 0, 1, 0, true)
}

// shortCalls returns all lists of up to three calls with two stops, with or without the flag, at two times.
func shortCalls(call func(stop int, flag bool, time int) api.Call) [][]api.Call {
	var all []api.Call
	for stop := range 2 {
		for time := range 2 {
			all = append(all, call(stop, false, time), call(stop, true, time))
		}
	}
	return lists(all, 3)
}

// All pairs of short lists, whose other flags and times are such that they would give other results.
func TestMeetsOfAllShortLists(t *testing.T) {
	first := shortCalls(func(stop int, flag bool, time int) api.Call {
		return api.Call{Stop: stop, Arrive: time, Depart: 1 - time, Board: !flag, Alight: flag}
	})
	second := shortCalls(func(stop int, flag bool, time int) api.Call {
		return api.Call{Stop: stop, Arrive: 1 - time, Depart: time, Board: flag, Alight: !flag}
	})
	met := 0
	for _, a := range first {
		for _, b := range second {
			for stop := range 2 {
				checkStop(t, a, b, stop)
				if _, _, ok := Meets(a, b, stop); ok {
					met++
				}
			}
		}
	}
	if met < 50000 {
		t.Errorf("only %d pairs meet", met)
	}
}

// P19.6 (chains), P19.7 (beginnings)

// tables calls use with valid through services of many kinds and their trips.
func tables(use func(l []api.Through, trips []api.Trip, f []api.Frequency)) {
	for _, n := range []int{0, 1, 2, 3, 20, mostThroughs - 1, mostThroughs} {
		use(pairs(n), loops(mostTrips), nil)
		use(steps(n, mostTrips), line(mostTrips), nil)
		use(shuffled(steps(n, mostTrips), source(n)), loops(mostTrips), []api.Frequency{{Trip: 255}})
	}
	for _, l := range lists(kinds(), 3) {
		if _, e := wantedCheck(l, someTrips(), nil); e == api.OK {
			use(l, someTrips(), nil)
		}
	}
	for seed := range 400 {
		next := source(seed)
		trips := scatteredTrips(next, 2+seed%30, 30)
		f := scatteredFrequencies(next, len(trips))
		use(scattered(next, trips, f, never), trips, f)
	}
}

// checkAccepted checks what P19.6 says about the chains of all trips.
func checkAccepted(t *testing.T, l []api.Through, trips []api.Trip) (longest int) {
	t.Helper()
	for trip := range trips {
		chain := Chain(l, trip)
		longest = max(longest, len(chain))
		sorted := slices.Clone(chain)
		slices.Sort(sorted)
		if chain[0] != trip || len(slices.Compact(sorted)) != len(chain) {
			t.Errorf("Chain(%s, %d) = %s", text(l), trip, text(chain))
		}
		last := chain[len(chain)-1]
		if slices.ContainsFunc(l, func(s api.Through) bool { return s.From == last }) {
			t.Errorf("Chain(%s, %d) = %s ends too early", text(l), trip, text(chain))
		}
		for i, next := range chain[1:] {
			end, arrival := lastStop(trips[chain[i]])
			beginning, departure := firstStop(trips[next])
			if beginning != end || departure < arrival || !slices.Contains(l, api.Through{From: chain[i], To: next}) {
				t.Errorf("Chain(%s, %d) = %s goes from %d to %d", text(l), trip, text(chain), chain[i], next)
			}
		}
	}
	return longest
}

func TestChainsOfValidServices(t *testing.T) {
	total, long := 0, 0
	tables(func(l []api.Through, trips []api.Trip, f []api.Frequency) {
		checkCheck(t, l, trips, f, 0, api.OK)
		total++
		if checkAccepted(t, l, trips) >= 4 {
			long++
		}
	})
	if total < 450 || long < 200 {
		t.Errorf("only %d lists, %d with long chains", total, long)
	}
	// The lists that Check accepts of all those between four trips that can follow each other.
	accepted := 0
	for _, l := range lists(slices.Concat(steps(4, 4), []api.Through{{From: 2, To: 0}, {From: 1, To: 0}, {From: 0, To: 3}}), 4) {
		if _, e := Check(l, loops(4), nil); e == api.OK {
			accepted++
			checkAccepted(t, l, loops(4))
		}
	}
	if accepted < 50 {
		t.Errorf("only %d lists were accepted", accepted)
	}
}

func TestBeginningsOfValidServices(t *testing.T) {
	tables(func(l []api.Through, trips []api.Trip, f []api.Frequency) {
		for n := range len(l) + 1 {
			checkCheck(t, l[:n], trips, f, 0, api.OK)
		}
	})
}

// changeTables calls use with valid guaranteed changes of many kinds and their trips, for 3 stops.
func changeTables(use func(l []api.Guarantee, trips []api.Trip, f []api.Frequency)) {
	for _, n := range []int{0, 1, 2, 3, 20, mostGuarantees - 1, mostGuarantees} {
		use(changes(n), loops(mostTrips), nil)
		use(shuffled(changes(n), source(n)), loops(2*n+1), []api.Frequency{{Trip: 2 * n}})
	}
	for _, l := range lists(changeKinds(), 3) {
		if _, e := wantedGuarantees(l, someTrips(), nil, 3); e == api.OK {
			use(l, someTrips(), nil)
		}
	}
	for seed := range 400 {
		next := source(seed)
		trips := scatteredTrips(next, 2+seed%30, 30)
		f := scatteredFrequencies(next, len(trips))
		use(scatteredChanges(next, trips, f, never), trips, f)
	}
}

func TestBeginningsOfValidGuarantees(t *testing.T) {
	total, full := 0, 0
	changeTables(func(l []api.Guarantee, trips []api.Trip, f []api.Frequency) {
		for n := range len(l) + 1 {
			total++
			checkGuarantees(t, l[:n], trips, f, 3, 0, api.OK)
		}
		if len(l) >= 10 {
			full++
		}
	})
	if total < 5000 || full < 200 {
		t.Errorf("only %d beginnings, %d of long lists", total, full)
	}
}

// The entries before the index are valid, and those up to the index are not.
func TestBeginningsOfInvalidLists(t *testing.T) {
	count, changeCount := map[api.Errno]int{}, map[api.Errno]int{}
	for seed := range 600 {
		next := source(seed)
		trips := scatteredTrips(next, 2+seed%30, 30)
		f := scatteredFrequencies(next, len(trips))
		l, g := scattered(next, trips, f, 1+seed%300), scatteredChanges(next, trips, f, 1+seed%300)
		i, e := Check(l, trips, f)
		count[e]++
		checkCheck(t, l[:i], trips, f, 0, api.OK)
		if e != api.OK {
			checkCheck(t, l[:i+1], trips, f, i, e)
		}
		i, e = CheckGuarantees(g, trips, f, 3)
		changeCount[e]++
		checkGuarantees(t, g[:i], trips, f, 3, 0, api.OK)
		if e != api.OK {
			checkGuarantees(t, g[:i+1], trips, f, 3, i, e)
		}
	}
	for _, e := range []api.Errno{api.OK, api.ErrReference, api.ErrFrequency, api.ErrCalendar, api.ErrStop, api.ErrTime, api.ErrDuplicate} {
		if count[e] < 5 {
			t.Errorf("Check returned %d only %d times", e, count[e])
		}
	}
	for _, e := range []api.Errno{api.OK, api.ErrReference, api.ErrFrequency, api.ErrLink, api.ErrDuplicate} {
		if changeCount[e] < 5 {
			t.Errorf("CheckGuarantees returned %d only %d times", e, changeCount[e])
		}
	}
}

// P19.8 (meetings)

// checkMeeting checks what P19.8 says about a meeting of two lists of calls.
func checkMeeting(t *testing.T, a, b []api.Call, stop int) bool {
	t.Helper()
	alight, board, ok := Meets(a, b, stop)
	if !ok {
		return false
	}
	from, to := a[alight], b[board]
	if alight == 0 || board == len(b)-1 || from.Stop != stop || to.Stop != stop || !from.Alight || !to.Board || to.Depart < from.Arrive {
		t.Errorf("Meets(%s, %s, %d) = %d, %d, %v", text(a), text(b), stop, alight, board, ok)
	}
	for i := 1; i < alight; i++ {
		if a[i].Stop == stop && a[i].Alight {
			t.Errorf("Meets(%s, %s, %d) = %d, %d, %v: the call %d is earlier", text(a), text(b), stop, alight, board, ok, i)
		}
	}
	for k := range board {
		if b[k].Stop == stop && b[k].Board {
			t.Errorf("Meets(%s, %s, %d) = %d, %d, %v: the call %d is earlier", text(a), text(b), stop, alight, board, ok, k)
		}
	}
	return true
}

func TestMeetings(t *testing.T) {
	met, total := 0, 0
	for seed := range 2000 {
		next := source(seed)
		for range 20 {
			a, b := scatteredCalls(next, 1+seed%100), scatteredCalls(next, 1+seed%100)
			for stop := -1; stop <= 3; stop++ {
				total++
				checkStop(t, a, b, stop)
				if checkMeeting(t, a, b, stop) {
					met++
				}
			}
		}
	}
	for _, c := range meetings() {
		if checkMeeting(t, c.a, c.b, 1) != c.ok {
			t.Errorf("%s and %s meet, or not", text(c.a), text(c.b))
		}
	}
	if met < 10000 || total-met < 10000 {
		t.Errorf("only %d of %d lists meet", met, total)
	}
}

// In valid guaranteed changes, the trips meet.
func TestMeetingsOfValidGuarantees(t *testing.T) {
	total := 0
	changeTables(func(l []api.Guarantee, trips []api.Trip, f []api.Frequency) {
		for _, g := range l {
			total++
			if !checkMeeting(t, trips[g.From].Calls, trips[g.To].Calls, g.Stop) {
				t.Errorf("the trips of %d do not meet", g)
			}
		}
	})
	if total < 5000 {
		t.Errorf("only %d guaranteed changes", total)
	}
}

// All functions, compared with the definitions.

func TestAgainstDefinitions(t *testing.T) {
	for seed := range 1500 {
		next := source(seed)
		trips := scatteredTrips(next, 1+seed%40, 5+seed%50)
		f := scatteredFrequencies(next, len(trips))
		l, g := scattered(next, trips, f, 1+seed%1000), scatteredChanges(next, trips, f, 1+seed%500)
		for _, f := range [][]api.Frequency{f, nil} {
			checkList(t, l, trips, f)
			checkList(t, l[len(l)/2:], trips, f)
			for stops := range 5 {
				checkChanges(t, g, trips, f, stops-1)
				checkChanges(t, g[len(g)/2:], trips, f, stops)
			}
		}
		for trip := -2; trip <= len(trips)+1; trip++ {
			checkTrip(t, l, trip)
			checkTrip(t, l[len(l)/3:], trip)
		}
		for _, g := range g {
			if exists(g.From, len(trips)) && exists(g.To, len(trips)) {
				checkStop(t, trips[g.From].Calls, trips[g.To].Calls, g.Stop)
			}
		}
	}
}

// Rules: arguments are neither changed nor retained, and results share no memory.

// spare returns a copy of a list with spare capacity, whose elements are zero values.
func spare[T any](l []T) []T {
	return append(make([]T, 0, 2*len(l)+3), l...)
}

// isKept reports whether a copy that spare has made is unchanged, also behind its end.
func isKept[T comparable](l, original []T) bool {
	return slices.Equal(l, original) && slices.Equal(l[len(l):cap(l)], make([]T, cap(l)-len(l)))
}

func TestArgumentsAreNotChanged(t *testing.T) {
	for seed := range 200 {
		next := source(seed)
		trips := scatteredTrips(next, 1+seed%40, 20)
		f := scatteredFrequencies(next, len(trips))
		l, g := scattered(next, trips, f, 1+seed), scatteredChanges(next, trips, f, 1+seed)
		givenTrips, givenF, givenL, givenG := spare(trips), spare(f), spare(l), spare(g)
		for i := range givenTrips {
			givenTrips[i].Calls = spare(trips[i].Calls)
		}
		Check(givenL, givenTrips, givenF)
		CheckGuarantees(givenG, givenTrips, givenF, 3)
		for i, trip := range givenTrips {
			Next(givenL, i)
			Chain(givenL, i)
			Chain(givenL[:len(l)/2], i)
			Meets(trip.Calls, givenTrips[0].Calls, seed%3)
		}
		if !isKept(givenL, l) || !isKept(givenG, g) || !isKept(givenF, f) {
			t.Errorf("%s, %s or %s was changed", text(l), text(g), text(f))
		}
		for i, trip := range givenTrips {
			if !isKept(trip.Calls, trips[i].Calls) || trip.ID != trips[i].ID || trip.Route != trips[i].Route || trip.Calendar != trips[i].Calendar || trip.StepFree != trips[i].StepFree {
				t.Errorf("%s was changed to %s", text(trips), text(givenTrips))
			}
		}
	}
}

// spoil changes all elements of a list, and whatever is behind them, which belongs to the list as well.
func spoil(l []int) {
	l = l[:cap(l)]
	for i := range l {
		l[i] = -7
	}
}

func TestChainsShareNoMemory(t *testing.T) {
	for n := range 20 {
		l := steps(n, n+1)
		first, second := Chain(l, 0), Chain(l, 0)
		spoil(first)
		if !slices.Equal(second, wantedChain(steps(n, n+1), 0)) || !slices.Equal(l, steps(n, n+1)) {
			t.Errorf("results share memory: %s, %s", text(second), text(l))
		}
		clear(l)
		if !slices.Equal(second, wantedChain(steps(n, n+1), 0)) {
			t.Errorf("the result changed with the list to %s", text(second))
		}
		checkTrip(t, l, 0)
		checkTrip(t, steps(n, n+1), 0)
	}
}

// The results of a call depend only on its arguments: no trips are used because of an earlier call.
func TestCallsDoNotAffectEachOther(t *testing.T) {
	l, g := kinds()[:2], changeKinds()[:1]
	for range 3 {
		checkCheck(t, l, someTrips(), nil, 0, api.OK)
		checkCheck(t, append(slices.Clone(l), l[0]), someTrips(), nil, 2, api.ErrDuplicate)
		checkCheck(t, l[1:], someTrips(), nil, 0, api.OK)
		checkCheck(t, []api.Through{{From: 4, To: 5}}, someTrips(), nil, 0, api.OK)
		checkCheck(t, []api.Through{{From: 5, To: 4}}, someTrips(), nil, 0, api.OK)
		checkCheck(t, l, nil, nil, 0, api.ErrReference)
		checkCheck(t, l, someTrips(), []api.Frequency{{Trip: 2}}, 1, api.ErrFrequency)
		checkGuarantees(t, g, someTrips(), nil, 2, 0, api.OK)
		checkGuarantees(t, slices.Concat(g, g), someTrips(), nil, 2, 1, api.ErrDuplicate)
		checkGuarantees(t, g, someTrips(), nil, 1, 0, api.ErrReference)
		checkGuarantees(t, g, someTrips(), []api.Frequency{{Trip: 0}}, 2, 0, api.ErrFrequency)
		checkChain(t, l, 0, 0, 1, 2)
		checkChain(t, l[1:], 0, 0)
		checkNext(t, l[1:], 0, 0, false)
		checkNext(t, l, 0, 1, true)
	}
}

// P1: every function terminates and does not panic.

func TestAnyArguments(t *testing.T) {
	for _, n := range edges() {
		for _, m := range edges() {
			l := []api.Through{{From: n, To: m}, {From: m, To: n}, {From: n, To: n}, {From: 0, To: m}, {From: n, To: 1}}
			call := api.Call{Stop: n, Arrive: m, Depart: m, Board: true, Alight: true}
			g := []api.Guarantee{{From: n, To: m, Stop: n}, {From: 1, To: 0, Stop: n}, {From: m, To: 0, Stop: m}}
			f := []api.Frequency{{Trip: n, From: m, To: n, Every: m}}
			for size := range 4 {
				trips := slices.Repeat([]api.Trip{{Calendar: n, Calls: slices.Repeat([]api.Call{call}, size)}}, size)
				for i := range l {
					checkList(t, l[i:], trips, f)
					checkList(t, l[i:], trips, nil)
				}
				for i := range g {
					for _, stops := range edges() {
						checkChanges(t, g[i:], trips, f, stops)
						checkChanges(t, g[i:], trips, nil, stops)
					}
				}
				if size > 0 {
					checkStop(t, trips[0].Calls, trips[0].Calls, n)
					checkStop(t, trips[0].Calls, nil, n)
					checkStop(t, nil, trips[0].Calls, n)
				}
			}
			for _, trip := range []int{n, m, 0, 1, -1} {
				checkTrip(t, l, trip)
				checkTrip(t, l[1:], trip)
			}
		}
	}
}

// tripsOf makes trips of two bytes for each call.
func tripsOf(data []byte, n int) []api.Trip {
	trips := []api.Trip{{}}
	for ; len(data) >= 2; data = data[2:] {
		t := &trips[len(trips)-1]
		c := api.Call{Stop: int(data[0] & 3), Arrive: int(data[1] >> 4), Depart: int(data[1] & 15), Board: data[0]&4 > 0, Alight: data[0]&8 > 0}
		switch data[0] >> 4 {
		case 1:
			c.Stop = n
		case 2:
			c.Arrive = n
		case 3:
			c.Depart = n
		case 4:
			t.Calendar = n
		case 5, 6, 7, 8, 9:
			trips = append(trips, api.Trip{})
		}
		t.Calls = append(t.Calls, c)
	}
	return trips
}

// numbersOf makes integers of a byte for each.
func numbersOf(data []byte, n int) []int {
	var list []int
	for _, b := range data {
		switch {
		case b < 200:
			list = append(list, int(b&7))
		case b < 240:
			list = append(list, int(b&15)-1)
		default:
			list = append(list, n+int(b&3))
		}
	}
	return list
}

func FuzzThrough(f *testing.F) {
	for i, data := range []string{"", "\x04\x00\x59\x22\x05\x22\x5a\x33\x06\x33\x58\x44", "\x04\x11\x58\x11\x04\x11\x58\x11\x04\x11\x58\x11", "\x0c\x11\x0d\x11\x0e\x11\x5c\x11\x0d\x11\x0c\x11\x0d\x22", "0123456789abcdef@ABC"} {
		for j, numbers := range []string{"", "\x00\x01\x01", "\x00\x01\x01\x01\x00\x01", "\x00\x01\x01\x01\x02\x02\x02\x00\x00", "\x00\x01\x00\x01\x00\x01\xc8\xff\xf0"} {
			f.Add([]byte(data), []byte(numbers), i-j, j)
			f.Add([]byte(data), []byte(numbers), greatest-i, least+j)
			f.Add([]byte(data), []byte(numbers), least+i, greatest-j)
		}
	}
	f.Fuzz(func(t *testing.T, data, numbers []byte, n, m int) {
		// Longer lists and trips show nothing that these do not.
		trips := tripsOf(data[:min(len(data), 80)], n)
		var l []api.Through
		var g []api.Guarantee
		list := numbersOf(numbers[:min(len(numbers), 60)], m)
		for ; len(list) >= 3; list = list[3:] {
			l = append(l, api.Through{From: list[0], To: list[1]})
			g = append(g, api.Guarantee{From: list[0], To: list[1], Stop: list[2]})
		}
		for _, f := range [][]api.Frequency{nil, {{Trip: n}}, {{Trip: m}}, {{Trip: -1}, {Trip: len(trips) - 1}}} {
			checkList(t, l, trips, f)
			checkList(t, l, loops(7), f)
			for _, stops := range []int{n, m, 2, 4} {
				checkChanges(t, g, trips, f, stops)
				checkChanges(t, g, loops(7), f, stops)
			}
		}
		for trip := -1; trip <= 8; trip++ {
			checkTrip(t, l, trip)
		}
		checkTrip(t, l, n)
		checkTrip(t, l, m)
		for _, stop := range []int{0, 1, 2, n} {
			for i := range trips {
				checkStop(t, trips[i].Calls, trips[len(trips)-1-i].Calls, stop)
			}
		}
	})
}
