package lint_test

import (
	"fmt"
	"math"
	"reflect"
	"slices"
	"strconv"
	"strings"
	"testing"

	"transit/api"
	"transit/lint"
	"transit/timetable"
)

// The limits as the document states them.
const (
	mostDay  = 36524
	mostTime = 172800
)

const (
	least    = math.MinInt
	greatest = math.MaxInt
)

// The kinds as the chapter numbers them.
const (
	unusedStop     = 1
	unusedRoute    = 2
	unusedCalendar = 3
	neverRuns      = 4
	overtaking     = 5
	unreachable    = 6
	noProduct      = 7
)

// The chapter's definitions.

// isCalledAt reports whether a trip calls at the stop.
func isCalledAt(t api.Timetable, stop int) bool {
	return slices.ContainsFunc(t.Trips, func(x api.Trip) bool {
		return slices.ContainsFunc(x.Calls, func(c api.Call) bool { return c.Stop == stop })
	})
}

// isWalkedAt reports whether a footpath begins or ends at the stop.
func isWalkedAt(t api.Timetable, stop int) bool {
	return slices.ContainsFunc(t.Paths, func(p api.Footpath) bool { return p.From == stop || p.To == stop })
}

// hasTrip reports whether there is a trip for which is is true.
func hasTrip(t api.Timetable, is func(x api.Trip) bool) bool {
	return slices.ContainsFunc(t.Trips, is)
}

// isActive reports whether the calendar i of a valid timetable is active on the day.
func isActive(t api.Timetable, i, day int) bool {
	for _, x := range t.Exceptions {
		if x.Calendar == i && x.Day == day {
			return x.Added
		}
	}
	c := t.Calendars[i]
	// The day 0 was a Saturday.
	return day >= c.From && day <= c.To && c.Week[(day+5)%7]
}

// isIdle reports whether the calendar i of a valid timetable is active on no day. Only the days of its period and of the exceptions can be active.
func isIdle(t api.Timetable, i int) bool {
	for _, x := range t.Exceptions {
		if isActive(t, i, x.Day) {
			return false
		}
	}
	for day := t.Calendars[i].From; day <= t.Calendars[i].To; day++ {
		if isActive(t, i, day) {
			return false
		}
	}
	return true
}

// isRepeated reports whether the trip has a frequency.
func isRepeated(t api.Timetable, trip int) bool {
	return slices.ContainsFunc(t.Frequencies, func(f api.Frequency) bool { return f.Trip == trip })
}

// eventsOf returns the times of the events of a trip.
func eventsOf(x api.Trip) []int {
	l := make([]int, 2*len(x.Calls))
	for i, c := range x.Calls {
		l[2*i], l[2*i+1] = c.Arrive, c.Depart
	}
	return l
}

// placesOf returns what two trips with the same pattern have in common.
func placesOf(x api.Trip) []api.Call {
	l := slices.Clone(x.Calls)
	for i := range l {
		l[i].Arrive, l[i].Depart = 0, 0
	}
	return l
}

// isOvertaker reports whether a overtakes b: whether there are two events, at the first of which it is later and at the second of which it is earlier.
func isOvertaker(a, b api.Trip) bool {
	if !slices.Equal(placesOf(a), placesOf(b)) {
		return false
	}
	x, y := eventsOf(a), eventsOf(b)
	for second := range x {
		for first := range second {
			if x[first] > y[first] && x[second] < y[second] {
				return true
			}
		}
	}
	return false
}

// isReached reports whether a passenger can alight at the stop or walk there.
func isReached(t api.Timetable, stop int) bool {
	if slices.ContainsFunc(t.Paths, func(p api.Footpath) bool { return p.To == stop }) {
		return true
	}
	for _, x := range t.Trips {
		for i, c := range x.Calls {
			if i != 0 && c.Alight && c.Stop == stop {
				return true
			}
		}
	}
	return false
}

// isPaid reports whether a product has the mode in its Modes.
func isPaid(t api.Timetable, mode int) bool {
	return slices.ContainsFunc(t.Fares.Products, func(p api.Product) bool { return slices.Contains(modesOf(p.Modes), mode) })
}

// modesOf returns the elements of a set of modes.
func modesOf(set int) []int {
	var l []int
	for mode := range 8 {
		if set%2 == 1 {
			l = append(l, mode)
		}
		set /= 2
	}
	return l
}

// sizeOf returns the number of elements of the list that warnings of a kind are about.
func sizeOf(t api.Timetable, kind int) int {
	switch kind {
	case unusedStop, unreachable:
		return len(t.Stops)
	case unusedRoute, noProduct:
		return len(t.Routes)
	case unusedCalendar:
		return len(t.Calendars)
	}
	return len(t.Trips)
}

// holds reports whether the timetable, which is valid, has the warning.
func holds(t api.Timetable, w lint.Warning) bool {
	if w.Kind < 1 || w.Kind > 7 || w.A < 0 || w.A >= sizeOf(t, w.Kind) {
		return false
	}
	if w.Kind == overtaking {
		return w.B >= 0 && w.B < len(t.Trips) && t.Trips[w.A].Calendar == t.Trips[w.B].Calendar &&
			!isRepeated(t, w.A) && !isRepeated(t, w.B) && isOvertaker(t.Trips[w.A], t.Trips[w.B])
	}
	if w.B != 0 {
		return false
	}
	switch w.Kind {
	case unusedStop:
		return !isCalledAt(t, w.A) && !isWalkedAt(t, w.A)
	case unusedRoute:
		return !hasTrip(t, func(x api.Trip) bool { return x.Route == w.A })
	case unusedCalendar:
		return !hasTrip(t, func(x api.Trip) bool { return x.Calendar == w.A })
	case neverRuns:
		return isIdle(t, t.Trips[w.A].Calendar)
	case unreachable:
		return !isReached(t, w.A)
	}
	return hasTrip(t, func(x api.Trip) bool { return x.Route == w.A }) && !isPaid(t, t.Routes[w.A].Mode)
}

// wantedWarnings returns what Warnings must return.
func wantedWarnings(t api.Timetable) []lint.Warning {
	var l []lint.Warning
	if _, _, e := timetable.Check(t); e != api.OK {
		return l
	}
	for kind := 1; kind <= 7; kind++ {
		others := 1
		if kind == overtaking {
			others = len(t.Trips)
		}
		for a := range sizeOf(t, kind) {
			for b := range others {
				if w := (lint.Warning{Kind: kind, A: a, B: b}); holds(t, w) {
					l = append(l, w)
				}
			}
		}
	}
	return l
}

// phrases has, for each kind, the list that has the elements and the text with places for their IDs.
var phrases = map[int]struct{ list, text string }{
	1: {"Stops", "stop %s is not used"},
	2: {"Routes", "route %s is not used"},
	3: {"Calendars", "calendar %s is not used"},
	4: {"Trips", "trip %s never runs"},
	5: {"Trips", "trip %s overtakes trip %s"},
	6: {"Stops", "stop %s cannot be reached"},
	7: {"Routes", "route %s has no product"},
}

// wantedText returns what Text must return.
func wantedText(t api.Timetable, w lint.Warning) string {
	phrase, ok := phrases[w.Kind]
	if !ok {
		return ""
	}
	indices := []int{w.A}
	if w.Kind == overtaking {
		indices = []int{w.A, w.B}
	} else if w.B != 0 {
		return ""
	}
	list := reflect.ValueOf(t).FieldByName(phrase.list)
	var ids []any
	for _, i := range indices {
		if i < 0 || i > list.Len()-1 {
			return ""
		}
		ids = append(ids, list.Index(i).FieldByName("ID").String())
	}
	return fmt.Sprintf(phrase.text, ids...)
}

// Inputs.

// name returns an identifier.
func name(letter string, i int) string {
	return letter + strconv.Itoa(i)
}

// made returns n elements of a list.
func made[T any](n int, element func(i int) T) []T {
	var l []T
	for i := range n {
		l = append(l, element(i))
	}
	return l
}

func stops(n int) []api.Stop {
	return made(n, func(i int) api.Stop { return api.Stop{ID: name("s", i), Zone: i % 16} })
}

// routes returns routes, each of which has another mode than the one before it.
func routes(n int) []api.Route {
	return made(n, func(i int) api.Route { return api.Route{ID: name("r", i), Mode: i % 8} })
}

// calendars returns calendars that are active every day from day 0 to day 100.
func calendars(n int) []api.Calendar {
	return made(n, func(i int) api.Calendar { return api.Calendar{ID: name("c", i), Week: every(true), To: 100} })
}

// every returns a week all of whose days are alike.
func every(active bool) [7]bool {
	var week [7]bool
	for i := range week {
		week[i] = active
	}
	return week
}

// calls returns calls 100 seconds apart. Each word is a stop with b or a or both behind it, if boarding or alighting is allowed.
func calls(words string) []api.Call {
	var l []api.Call
	for i, word := range strings.Fields(words) {
		stop, _ := strconv.Atoi(strings.TrimRight(word, "ba"))
		l = append(l, api.Call{Stop: stop, Arrive: 1000 + 100*i, Depart: 1020 + 100*i, Board: strings.Contains(word, "b"), Alight: strings.Contains(word, "a")})
	}
	return l
}

// timed returns calls with those times of their events.
func timed(words string, times ...int) []api.Call {
	l := calls(words)
	for i := range l {
		l[i].Arrive, l[i].Depart = times[2*i], times[2*i+1]
	}
	return l
}

// trip returns a trip with route 0 and calendar 0.
func trip(i int, c []api.Call) api.Trip {
	return api.Trip{ID: name("t", i), Calls: c}
}

// withTrips returns a timetable of five stops, three routes and three calendars, in which there are trips with those calls.
func withTrips(words ...string) api.Timetable {
	t := api.Timetable{Stops: stops(5), Routes: routes(3), Calendars: calendars(3)}
	for i, w := range words {
		t.Trips = append(t.Trips, trip(i, calls(w)))
	}
	return t
}

// withCalls returns a timetable like withTrips for calls that are given.
func withCalls(l ...[]api.Call) api.Timetable {
	t := withTrips()
	for i, c := range l {
		t.Trips = append(t.Trips, trip(i, c))
	}
	return t
}

// full returns a valid timetable with at least two elements in each table and with warnings of all kinds.
func full() api.Timetable {
	t := api.Timetable{
		Stops:     stops(7),
		Routes:    routes(5),
		Calendars: []api.Calendar{{ID: "daily", Week: every(true), To: 100}, {ID: "never", To: 100}, {ID: "unused", To: mostDay}, {ID: "none", From: 7, To: 9}},
		Exceptions: []api.Exception{
			{Calendar: 0, Day: 12}, {Calendar: 2, Day: 12, Added: true}, {Calendar: 1, Day: 8},
		},
		Trips: []api.Trip{
			{ID: "slow", Route: 0, Calls: timed("0b 1ba 2a", 1000, 1000, 1100, 1110, 1300, 1300)},
			{ID: "fast", Route: 3, Calls: timed("0b 1ba 2a", 1010, 1010, 1090, 1120, 1200, 1200)},
			{ID: "next", Route: 1, Calls: calls("2b 3a")},
			{ID: "idle", Route: 3, Calendar: 1, Calls: calls("3ba 2ba")},
			{ID: "often", Route: 0, Calls: timed("0b 1ba 2a", 900, 1020, 1020, 1020, 1100, 1100)},
			{ID: "still", Route: 3, Calendar: 3, Calls: calls("4b 1 3")},
			{ID: "last", Route: 1, Calls: calls("2b 3a")},
		},
		Frequencies: []api.Frequency{{Trip: 4, From: 20000, To: 30000, Every: 600}, {Trip: 4, From: 30000, To: 30001, Every: 1}},
		Guarantees:  []api.Guarantee{{From: 0, To: 1, Stop: 1}, {From: 1, To: 0, Stop: 1}},
		Paths:       []api.Footpath{{From: 5, To: 4, Seconds: 60}, {From: 0, To: 4, Seconds: 14400, StepFree: true}},
		Fares:       api.Fares{Products: []api.Product{{ID: "p", Rides: 1, Zones: 1, Modes: 2}, {ID: "q", Rides: 1, Zones: 1, Modes: 0x86}}, Discount: 1, Within: 2, Cap: 3},
	}
	t.Trips[2].Calls[0].Depart, t.Trips[2].Calls[0].Arrive = 1300, 1200
	t.Trips[2].Calls[1].Arrive, t.Trips[2].Calls[1].Depart = 1400, 1400
	t.Trips[6].Calls[0].Depart, t.Trips[6].Calls[0].Arrive = 1300, 1250
	t.Trips[6].Calls[1].Arrive, t.Trips[6].Calls[1].Depart = 1390, 1390
	t.Throughs = []api.Through{{From: 0, To: 2}, {From: 1, To: 6}}
	return t
}

// fullWarnings returns the warnings of full.
func fullWarnings() []lint.Warning {
	return []lint.Warning{
		{unusedStop, 6, 0},
		{unusedRoute, 2, 0}, {unusedRoute, 4, 0},
		{unusedCalendar, 2, 0},
		{neverRuns, 3, 0}, {neverRuns, 5, 0},
		{overtaking, 0, 1}, {overtaking, 1, 0}, {overtaking, 6, 2},
		{unreachable, 0, 0}, {unreachable, 5, 0}, {unreachable, 6, 0},
		{noProduct, 0, 0}, {noProduct, 3, 0},
	}
}

// longest returns a valid timetable with as many elements as can be valid in the tables. With used, there are trips and footpaths, so that each stop, route and calendar is used.
func longest(used bool) api.Timetable {
	t := api.Timetable{
		Stops:     stops(64),
		Routes:    routes(64),
		Calendars: made(64, func(i int) api.Calendar { return api.Calendar{ID: name("c", i), To: 2600} }),
		Exceptions: made(256, func(i int) api.Exception {
			return api.Exception{Calendar: i % 64, Day: 100 * i}
		}),
		Fares: api.Fares{Products: made(16, func(i int) api.Product {
			return api.Product{ID: name("p", i), Rides: 1, Zones: 1, Modes: 2}
		})},
	}
	if !used {
		return t
	}
	t.Trips = made(256, func(i int) api.Trip {
		return api.Trip{ID: name("t", i), Route: (i * 5) % 64, Calendar: (i * 7) % 64, Calls: made(32, func(k int) api.Call {
			at := 1000 + 1000*k + i
			if k%2 == 1 {
				at -= 2 * i
			}
			return api.Call{Stop: k, Arrive: at, Depart: at, Board: true}
		})}
	})
	t.Frequencies = made(64, func(i int) api.Frequency { return api.Frequency{Trip: 192 + i, From: 5000, To: 5001, Every: 1} })
	// Footpaths begin at the stops from 32 on and end at them, except for the last stop.
	t.Paths = made(512, func(i int) api.Footpath {
		return api.Footpath{From: 32 + i%32, To: 32 + (i%32+1+i/32)%31, Seconds: 1 + i, StepFree: i%2 == 0}
	})
	return t
}

// source returns a function that returns integers from 0, up to the one before below, without a pattern.
func source(seed int) func(below int) int {
	state := uint64(seed)
	return func(below int) int {
		state = state*6364136223846793005 + 1442695040888963407
		return int(state>>33) % below
	}
}

// fromBytes returns a function that returns integers from 0, up to the one before below, that the bytes give, and then 0.
func fromBytes(data []byte) func(below int) int {
	return func(below int) int {
		if len(data) == 0 {
			return 0
		}
		n := int(data[0])
		data = data[1:]
		return n % below
	}
}

// scatterer makes a valid timetable without a pattern.
type scatterer struct {
	next func(below int) int
	t    api.Timetable
}

// grow appends elements to a list of the timetable, but for those that are not valid.
func grow[T any](s *scatterer, l *[]T, tries int, element func() T) {
	for range tries {
		*l = append(*l, element())
		if _, _, e := timetable.Check(s.t); e != api.OK {
			*l = (*l)[:len(*l)-1]
		}
	}
}

// index returns the index of an element of a list of that length, or 0.
func (s *scatterer) index(length int) int {
	return s.next(max(length, 1))
}

// size returns a length from least to most or, sometimes, from 0 on.
func (s *scatterer) size(least, most int) int {
	if s.next(8) == 0 {
		least = 0
	}
	return least + s.next(most-least+1)
}

func (s *scatterer) tables() {
	s.t.Stops = stops(s.size(3, 7))
	s.t.Routes = made(s.size(1, 5), func(i int) api.Route { return api.Route{ID: name("r", i), Mode: s.next(8)} })
	s.t.Calendars = made(s.size(1, 4), func(i int) api.Calendar {
		from := s.next(20)
		c := api.Calendar{ID: name("c", i), From: from, To: from + s.next(3)*s.next(7)}
		for i := range c.Week {
			c.Week[i] = s.next(3) == 0
		}
		return c
	})
	grow(s, &s.t.Exceptions, s.next(8), func() api.Exception {
		return api.Exception{Calendar: s.index(len(s.t.Calendars)), Day: s.next(30), Added: s.next(4) == 0}
	})
}

// calls returns calls at the stops 0, 1 and 2 in turn or, sometimes, at any stops.
func (s *scatterer) calls() []api.Call {
	var l []api.Call
	time, first, wild := 1000+700*s.next(3), s.next(3), s.next(4) == 0
	for i := range 2 + s.next(3) {
		arrive := time + 200*i + s.next(3)*50
		c := api.Call{Stop: (first + i) % 3, Arrive: arrive, Depart: arrive + s.next(2)*50, Board: s.next(8) > 0, Alight: s.next(4) > 0}
		if wild {
			c.Stop = s.index(len(s.t.Stops))
		}
		l = append(l, c)
	}
	return l
}

func (s *scatterer) trips() {
	grow(s, &s.t.Trips, s.next(13), func() api.Trip {
		x := api.Trip{ID: name("t", s.next(40)), Route: s.index(len(s.t.Routes)), Calendar: s.index(len(s.t.Calendars)), StepFree: s.next(2) == 0, Calls: s.calls()}
		if n := len(s.t.Trips); n > 0 && s.next(2) == 0 {
			// Another trip with the pattern of an earlier one.
			like := s.t.Trips[s.next(n)].Calls
			x.Calls = slices.Clone(like)
			for i := range x.Calls {
				by := 20 * (s.next(3) - 1)
				x.Calls[i].Arrive += by
				x.Calls[i].Depart += by
			}
		}
		return x
	})
	grow(s, &s.t.Frequencies, s.next(4), func() api.Frequency {
		return api.Frequency{Trip: s.index(len(s.t.Trips)), From: 4000 + 1000*s.next(5), To: 9000, Every: 1000}
	})
	grow(s, &s.t.Throughs, s.next(12), func() api.Through {
		return api.Through{From: s.index(len(s.t.Trips)), To: s.index(len(s.t.Trips))}
	})
	grow(s, &s.t.Guarantees, s.next(12), func() api.Guarantee {
		return api.Guarantee{From: s.index(len(s.t.Trips)), To: s.index(len(s.t.Trips)), Stop: s.index(len(s.t.Stops))}
	})
}

func (s *scatterer) rest() {
	grow(s, &s.t.Paths, s.next(6), func() api.Footpath {
		return api.Footpath{From: s.index(len(s.t.Stops)), To: s.index(len(s.t.Stops)), Seconds: 1 + 28*s.next(515), StepFree: s.next(2) == 0}
	})
	s.t.Fares.Products = made(s.next(4), func(i int) api.Product {
		return api.Product{ID: name("p", i), Price: s.next(200), Rides: 1 + s.next(8), Zones: 1 + s.next(16), Modes: 1<<s.next(8) | s.next(2)<<s.next(8)}
	})
}

// scattered returns a valid timetable without a pattern.
func scattered(next func(below int) int) api.Timetable {
	s := &scatterer{next: next}
	s.tables()
	s.trips()
	s.rest()
	return s.t
}

// samples returns valid timetables.
func samples() []api.Timetable {
	l := []api.Timetable{{}, full(), longest(false), longest(true), withTrips(), withTrips("0b 1a"), withTrips("0b 1a", "1b 0a", "0 1 0 1")}
	for seed := range 300 {
		l = append(l, scattered(source(seed)))
	}
	return l
}

// edges returns the integers at the ends of the ints, around 0, and around the numbers that are given.
func edges(numbers ...int) []int {
	l := []int{least, least + 1, -1 << 62, -1 << 32, 1<<32 - 1, 1 << 32, 1 << 62, greatest - 1, greatest}
	for _, n := range append(numbers, 0, 7, 64, 256, mostDay, mostTime) {
		l = append(l, n-1, n, n+1, -n)
	}
	for n := range 8 {
		// They would be kinds or indices if they were cut to fewer bits.
		l = append(l, 1<<8+n, 1<<16+n, 1<<32+n, least+n)
	}
	slices.Sort(l)
	return slices.Compact(l)
}

// Values and their memory.

// leaves calls do with each string, integer and bool of a value.
func leaves(v reflect.Value, do func(leaf reflect.Value)) {
	switch v.Kind() {
	case reflect.Struct:
		for i := range v.NumField() {
			leaves(v.Field(i), do)
		}
	case reflect.Slice, reflect.Array:
		for i := range v.Len() {
			leaves(v.Index(i), do)
		}
	default:
		do(v)
	}
}

// leavesOf returns the strings, integers and bools of a timetable, which can be set there.
func leavesOf(t *api.Timetable) []reflect.Value {
	var l []reflect.Value
	leaves(reflect.ValueOf(t).Elem(), func(leaf reflect.Value) { l = append(l, leaf) })
	return l
}

// others returns values for a leaf.
func others(leaf reflect.Value) []reflect.Value {
	var l []any
	switch leaf.Kind() {
	case reflect.String:
		l = []any{"", leaf.String() + "a", "a b", "a", "s0", "r0", "t0", strings.Repeat("x", 33)}
	case reflect.Int:
		for _, n := range edges(int(leaf.Int()), 100, 1000) {
			l = append(l, n)
		}
	case reflect.Bool:
		l = []any{!leaf.Bool()}
	}
	return made(len(l), func(i int) reflect.Value { return reflect.ValueOf(l[i]) })
}

// duplicateInto sets a value to a copy of another one, with that number of zero elements behind the end of each slice.
func duplicateInto(to, from reflect.Value, spare int) {
	switch from.Kind() {
	case reflect.Struct:
		for i := range from.NumField() {
			duplicateInto(to.Field(i), from.Field(i), spare)
		}
	case reflect.Slice:
		to.Set(reflect.MakeSlice(from.Type(), from.Len(), from.Len()+spare))
		for i := range from.Len() {
			duplicateInto(to.Index(i), from.Index(i), spare)
		}
	default:
		to.Set(from)
	}
}

// duplicate returns a copy of the timetable with space for that number of elements more in each slice.
func duplicate(t api.Timetable, spare int) api.Timetable {
	var same api.Timetable
	duplicateInto(reflect.ValueOf(&same).Elem(), reflect.ValueOf(t), spare)
	return same
}

// text returns a value, or its beginning, for a report.
func text(x any) string {
	return fmt.Sprintf("%.900s", fmt.Sprintf("%+v", x))
}

// Checks.

func checkWarnings(t *testing.T, x api.Timetable, want ...lint.Warning) {
	t.Helper()
	if got := lint.Warnings(x); !slices.Equal(got, want) {
		t.Errorf("Warnings(%s) = %v; want %v", text(x), got, want)
	}
}

// checkDefinition compares Warnings with the definitions, and returns the warnings.
func checkDefinition(t *testing.T, x api.Timetable) []lint.Warning {
	t.Helper()
	want := wantedWarnings(x)
	checkWarnings(t, x, want...)
	return want
}

// checkRefused checks that a timetable that is not valid has no warnings.
func checkRefused(t *testing.T, x api.Timetable) {
	t.Helper()
	if _, _, e := timetable.Check(x); e == api.OK {
		t.Errorf("%s is valid", text(x))
	}
	checkWarnings(t, x)
}

// checkKind checks the indices A of the warnings of a kind that a valid timetable has, and all its warnings against the definitions.
func checkKind(t *testing.T, x api.Timetable, kind int, want ...int) {
	t.Helper()
	if part, i, e := timetable.Check(x); e != api.OK {
		t.Errorf("%s is not valid: %d, %d, %d", text(x), part, i, e)
	}
	var got []int
	for _, w := range lint.Warnings(x) {
		if w.Kind == kind {
			got = append(got, w.A)
			if w.B != 0 {
				t.Errorf("the B of %v is not 0", w)
			}
		}
	}
	if !slices.Equal(got, want) {
		t.Errorf("Warnings(%s) has %v of the kind %d; want %v", text(x), got, kind, want)
	}
	checkDefinition(t, x)
}

// checkOvertakings checks the pairs of trips in the warnings of a valid timetable about overtaking.
func checkOvertakings(t *testing.T, x api.Timetable, want ...[2]int) {
	t.Helper()
	if part, i, e := timetable.Check(x); e != api.OK {
		t.Errorf("%s is not valid: %d, %d, %d", text(x), part, i, e)
	}
	var got [][2]int
	for _, w := range lint.Warnings(x) {
		if w.Kind == overtaking {
			got = append(got, [2]int{w.A, w.B})
		}
	}
	if !slices.Equal(got, want) {
		t.Errorf("in %s the overtakings are %v; want %v", text(x), got, want)
	}
	checkDefinition(t, x)
}

func checkText(t *testing.T, x api.Timetable, w lint.Warning, want string) {
	t.Helper()
	if got := lint.Text(x, w); got != want {
		t.Errorf("Text(%s, %v) = %q; want %q", text(x), w, got, want)
	}
}

// checkTexts compares Text with its definition for warnings of each kind with those indices.
func checkTexts(t *testing.T, x api.Timetable, indices ...int) {
	t.Helper()
	for kind := range 9 {
		for _, a := range indices {
			for _, b := range indices {
				w := lint.Warning{Kind: kind, A: a, B: b}
				checkText(t, x, w, wantedText(x, w))
			}
		}
	}
}

// checkAll checks both functions for a timetable, which may have any values.
func checkAll(t *testing.T, x api.Timetable) []lint.Warning {
	t.Helper()
	l := checkDefinition(t, x)
	for _, w := range l {
		if s := lint.Text(x, w); s == "" || s != wantedText(x, w) {
			t.Errorf("the text of %v is %q; want %q", w, s, wantedText(x, w))
		}
	}
	checkTexts(t, x, -1, 0, 1, len(x.Trips)-1, len(x.Trips), len(x.Stops), len(x.Routes), len(x.Calendars))
	return l
}

// The examples.

func TestExamples(t *testing.T) {
	x := api.Timetable{
		Stops:     []api.Stop{{ID: "a"}, {ID: "b"}, {ID: "c"}},
		Routes:    []api.Route{{ID: "r"}},
		Calendars: []api.Calendar{{ID: "d", Week: every(true), To: 10}},
		Trips:     []api.Trip{{ID: "x", Calls: calls("0b 1a")}},
		Fares:     api.Fares{Products: []api.Product{{ID: "tram", Rides: 1, Zones: 1, Modes: 2}}},
	}
	want := []lint.Warning{{lint.UnusedStop, 2, 0}, {lint.Unreachable, 0, 0}, {lint.Unreachable, 2, 0}, {lint.NoProduct, 0, 0}}
	checkWarnings(t, x, want...)
	for i, s := range []string{"stop c is not used", "stop a cannot be reached", "stop c cannot be reached", "route r has no product"} {
		checkText(t, x, want[i], s)
	}
	x.Trips = append(x.Trips, api.Trip{ID: "y"})
	checkText(t, x, lint.Warning{Kind: 5, A: 0, B: 1}, "trip x overtakes trip y")
	checkText(t, x, lint.Warning{Kind: 5, A: 1, B: 0}, "trip y overtakes trip x")
	checkText(t, x, lint.Warning{Kind: 1, A: 0, B: 1}, "")
	checkText(t, x, lint.Warning{Kind: 1, A: 0, B: 0}, "stop a is not used")
}

func TestKinds(t *testing.T) {
	got := []int{lint.UnusedStop, lint.UnusedRoute, lint.UnusedCalendar, lint.NeverRuns, lint.Overtaking, lint.Unreachable, lint.NoProduct}
	if !slices.Equal(got, []int{1, 2, 3, 4, 5, 6, 7}) {
		t.Errorf("the kinds are %v", got)
	}
}

func TestFull(t *testing.T) {
	checkWarnings(t, full(), fullWarnings()...)
	checkAll(t, full())
}
