package timetable

import (
	"cmp"
	"fmt"
	"math"
	"reflect"
	"regexp"
	"slices"
	"strconv"
	"strings"
	"testing"

	"transit/api"
	"transit/calendar"
	"transit/footpath"
	"transit/frequency"
	"transit/product"
	"transit/route"
	"transit/stop"
	"transit/through"
	"transit/trip"
)

// The limits as the document states them.
const (
	mostStops       = 64
	mostZone        = 15
	mostChange      = 3600
	mostRoutes      = 64
	mostMode        = 7
	mostCalendars   = 64
	mostExceptions  = 256
	mostDay         = 36524
	mostTrips       = 256
	mostCalls       = 32
	mostTime        = 172800
	mostFrequencies = 64
	mostStarts      = 256
	dayLength       = 86400
	mostThroughs    = 128
	mostGuarantees  = 128
	mostPaths       = 512
	mostWalk        = 14400
	mostProducts    = 16
	mostPrice       = 1000000
	mostRides       = 8
	mostZones       = 16
	mostModes       = 255
)

const (
	least    = math.MinInt
	greatest = math.MaxInt
)

// The numbers of the parts as the chapter states them.
const (
	partStops       = 0
	partRoutes      = 1
	partCalendars   = 2
	partExceptions  = 3
	partTrips       = 4
	partFrequencies = 5
	partThroughs    = 6
	partGuarantees  = 7
	partPaths       = 8
	partFares       = 9
	parts           = 10
)

// The chapter's definitions.

// partCheck returns what the check of a part returns.
func partCheck(t api.Timetable, part int) (int, api.Errno) {
	switch part {
	case partStops:
		return stop.Check(t.Stops)
	case partRoutes:
		return route.Check(t.Routes)
	case partCalendars:
		return calendar.Check(t.Calendars)
	case partExceptions:
		return calendar.CheckExceptions(t.Exceptions, len(t.Calendars))
	case partTrips:
		return trip.Check(t.Trips, len(t.Stops), len(t.Routes), len(t.Calendars))
	case partFrequencies:
		return frequency.Check(t.Frequencies, t.Trips)
	case partThroughs:
		return through.Check(t.Throughs, t.Trips, t.Frequencies)
	case partGuarantees:
		return through.CheckGuarantees(t.Guarantees, t.Trips, t.Frequencies, len(t.Stops))
	case partPaths:
		return footpath.Check(t.Paths, len(t.Stops))
	}
	return product.Check(t.Fares)
}

// wantedCheck returns what Check must return.
func wantedCheck(t api.Timetable) (int, int, api.Errno) {
	part, index, e := 0, 0, api.OK
	for p := parts - 1; p >= 0; p-- {
		if i, wrong := partCheck(t, p); wrong != api.OK {
			part, index, e = p, i, wrong
		}
	}
	return part, index, e
}

// sameFields reports whether two values of one type are equal in all fields, where nil and empty slices are equal.
func sameFields(a, b reflect.Value) bool {
	switch a.Kind() {
	case reflect.Struct:
		for i := range a.NumField() {
			if !sameFields(a.Field(i), b.Field(i)) {
				return false
			}
		}
		return true
	case reflect.Slice, reflect.Array:
		if a.Len() != b.Len() {
			return false
		}
		for i := range a.Len() {
			if !sameFields(a.Index(i), b.Index(i)) {
				return false
			}
		}
		return true
	}
	return a.Interface() == b.Interface()
}

// wantedEqual returns what Equal must return.
func wantedEqual(a, b api.Timetable) bool {
	return sameFields(reflect.ValueOf(a), reflect.ValueOf(b))
}

// wantedSizes returns what Sizes must return.
func wantedSizes(t api.Timetable) [11]int {
	var calls []api.Call
	for _, x := range t.Trips {
		calls = append(calls, x.Calls...)
	}
	var sizes [11]int
	for i, list := range []any{t.Stops, t.Routes, t.Calendars, t.Exceptions, t.Trips, calls, t.Frequencies, t.Throughs, t.Guarantees, t.Paths, t.Fares.Products} {
		sizes[i] = reflect.ValueOf(list).Len()
	}
	return sizes
}

// The valid tables as the document's section Terms defines them.

// nameForm is the form of an identifier.
var nameForm = regexp.MustCompile(`\A[A-Za-z0-9_.-]{1,32}\z`)

// isFromTo reports whether n is from low to high.
func isFromTo(n, low, high int) bool {
	return n >= low && n <= high
}

// exists reports whether i is the index of one of n elements.
func exists(i, n int) bool {
	return isFromTo(i, 0, n-1)
}

// all reports whether it holds for each element of a list.
func all[T any](l []T, holds func(x T) bool) bool {
	return !slices.ContainsFunc(l, func(x T) bool { return !holds(x) })
}

// areUnique reports whether no two elements of a list have the same key.
func areUnique[T any, K comparable](l []T, key func(x T) K) bool {
	seen := map[K]bool{}
	for _, x := range l {
		seen[key(x)] = true
	}
	return len(seen) == len(l)
}

// areIdentifiers reports whether the texts are different identifiers.
func areIdentifiers[T any](l []T, id func(x T) string) bool {
	return all(l, func(x T) bool { return nameForm.MatchString(id(x)) }) && areUnique(l, id)
}

func validStops(l []api.Stop) bool {
	return len(l) <= mostStops && areIdentifiers(l, func(s api.Stop) string { return s.ID }) && all(l, func(s api.Stop) bool {
		return isFromTo(s.Zone, 0, mostZone) && isFromTo(s.Change, 0, mostChange)
	})
}

func validRoutes(l []api.Route) bool {
	return len(l) <= mostRoutes && areIdentifiers(l, func(r api.Route) string { return r.ID }) && all(l, func(r api.Route) bool {
		return isFromTo(r.Mode, 0, mostMode)
	})
}

func validCalendars(l []api.Calendar) bool {
	return len(l) <= mostCalendars && areIdentifiers(l, func(c api.Calendar) string { return c.ID }) && all(l, func(c api.Calendar) bool {
		return isFromTo(c.From, 0, mostDay) && isFromTo(c.To, c.From, mostDay)
	})
}

func validExceptions(l []api.Exception, calendars int) bool {
	day := func(x api.Exception) [2]int { return [2]int{x.Calendar, x.Day} }
	return len(l) <= mostExceptions && areUnique(l, day) && all(l, func(x api.Exception) bool {
		return exists(x.Calendar, calendars) && isFromTo(x.Day, 0, mostDay)
	})
}

func validCalls(l []api.Call, stops int) bool {
	before := api.Call{Stop: -1}
	for _, c := range l {
		if !exists(c.Stop, stops) || c.Stop == before.Stop || c.Arrive < before.Depart || c.Arrive > c.Depart || c.Depart > mostTime {
			return false
		}
		before = c
	}
	return isFromTo(len(l), 2, mostCalls)
}

func validTrips(l []api.Trip, stops, routes, calendars int) bool {
	return len(l) <= mostTrips && areIdentifiers(l, func(x api.Trip) string { return x.ID }) && all(l, func(x api.Trip) bool {
		return exists(x.Route, routes) && exists(x.Calendar, calendars) && validCalls(x.Calls, stops)
	})
}

// fitsAt reports whether all times of the calls are valid if the trip starts at start.
func fitsAt(l []api.Call, start int) bool {
	return all(l, func(c api.Call) bool {
		by := start - l[0].Depart
		return isFromTo(c.Arrive+by, 0, mostTime) && isFromTo(c.Depart+by, 0, mostTime)
	})
}

func validFrequencies(l []api.Frequency, trips []api.Trip) bool {
	starts := make([]int, len(trips))
	for i, f := range l {
		if !exists(f.Trip, len(trips)) || f.From < 0 || f.From >= f.To || f.To > mostTime || !isFromTo(f.Every, 1, dayLength) {
			return false
		}
		for start := f.From; start < f.To; start += f.Every {
			starts[f.Trip]++
			if !fitsAt(trips[f.Trip].Calls, start) || starts[f.Trip] > mostStarts {
				return false
			}
		}
		if !all(l[:i], func(g api.Frequency) bool { return g.Trip != f.Trip || g.To <= f.From || f.To <= g.From }) {
			return false
		}
	}
	return len(l) <= mostFrequencies
}

// isPair reports whether from and to are different trips with calls and without frequencies.
func isPair(t api.Timetable, from, to int) bool {
	if !exists(from, len(t.Trips)) || !exists(to, len(t.Trips)) || from == to {
		return false
	}
	for _, f := range t.Frequencies {
		if f.Trip == from || f.Trip == to {
			return false
		}
	}
	return len(t.Trips[from].Calls) > 0 && len(t.Trips[to].Calls) > 0
}

func validThroughs(t api.Timetable) bool {
	next := map[int]int{}
	for _, x := range t.Throughs {
		if !isPair(t, x.From, x.To) {
			return false
		}
		from, to := t.Trips[x.From], t.Trips[x.To]
		last, first := from.Calls[len(from.Calls)-1], to.Calls[0]
		if from.Calendar != to.Calendar || last.Stop != first.Stop || first.Depart < last.Arrive {
			return false
		}
		next[x.From] = x.To
	}
	for _, x := range t.Throughs {
		at, ok := x.To, true
		for n := 0; ok && at != x.From && n <= len(t.Throughs); n++ {
			at, ok = next[at]
		}
		if ok {
			return false
		}
	}
	from, to := func(x api.Through) int { return x.From }, func(x api.Through) int { return x.To }
	return len(t.Throughs) <= mostThroughs && areUnique(t.Throughs, from) && areUnique(t.Throughs, to)
}

func validGuarantees(t api.Timetable) bool {
	meets := func(g api.Guarantee) bool {
		if !isPair(t, g.From, g.To) || !exists(g.Stop, len(t.Stops)) {
			return false
		}
		from, to := t.Trips[g.From].Calls[1:], t.Trips[g.To].Calls[:len(t.Trips[g.To].Calls)-1]
		alight := slices.IndexFunc(from, func(c api.Call) bool { return c.Stop == g.Stop && c.Alight })
		board := slices.IndexFunc(to, func(c api.Call) bool { return c.Stop == g.Stop && c.Board })
		return alight >= 0 && board >= 0 && to[board].Depart >= from[alight].Arrive
	}
	return len(t.Guarantees) <= mostGuarantees && all(t.Guarantees, meets) && areUnique(t.Guarantees, func(g api.Guarantee) api.Guarantee { return g })
}

func validPaths(l []api.Footpath, stops int) bool {
	ends := func(p api.Footpath) api.Footpath { return api.Footpath{From: p.From, To: p.To, StepFree: p.StepFree} }
	return len(l) <= mostPaths && areUnique(l, ends) && all(l, func(p api.Footpath) bool {
		return exists(p.From, stops) && exists(p.To, stops) && p.From != p.To && isFromTo(p.Seconds, 1, mostWalk)
	})
}

func validFares(f api.Fares) bool {
	if !isFromTo(f.Discount, 0, mostPrice) || !isFromTo(f.Cap, 0, mostPrice) || !isFromTo(f.Within, 0, dayLength) {
		return false
	}
	return len(f.Products) <= mostProducts && areIdentifiers(f.Products, func(p api.Product) string { return p.ID }) && all(f.Products, func(p api.Product) bool {
		return isFromTo(p.Price, 0, mostPrice) && isFromTo(p.Rides, 1, mostRides) && isFromTo(p.Zones, 1, mostZones) && isFromTo(p.Seconds, 0, dayLength) && isFromTo(p.Modes, 1, mostModes)
	})
}

// isValidPart reports whether a part is valid; the parts before it are.
func isValidPart(t api.Timetable, part int) bool {
	switch part {
	case partStops:
		return validStops(t.Stops)
	case partRoutes:
		return validRoutes(t.Routes)
	case partCalendars:
		return validCalendars(t.Calendars)
	case partExceptions:
		return validExceptions(t.Exceptions, len(t.Calendars))
	case partTrips:
		return validTrips(t.Trips, len(t.Stops), len(t.Routes), len(t.Calendars))
	case partFrequencies:
		return validFrequencies(t.Frequencies, t.Trips)
	case partThroughs:
		return validThroughs(t)
	case partGuarantees:
		return validGuarantees(t)
	case partPaths:
		return validPaths(t.Paths, len(t.Stops))
	}
	return validFares(t.Fares)
}

// firstInvalid returns the number of the first part that is not valid, or parts if all are valid.
func firstInvalid(t api.Timetable) int {
	part := 0
	for part < parts && isValidPart(t, part) {
		part++
	}
	return part
}

// Inputs.

// name returns an identifier.
func name(letter string, i int) string {
	return letter + strconv.Itoa(i)
}

// calls returns n calls at the stops from first on, which are five, 100 seconds apart.
func calls(first, n, time int) []api.Call {
	var l []api.Call
	for i := range n {
		l = append(l, api.Call{Stop: (first + i) % 5, Arrive: time + 100*i, Depart: time + 100*i + 20, Board: i < n-1, Alight: i > 0})
	}
	return l
}

// jump returns calls at two stops at the same time.
func jump(from, to, time int) []api.Call {
	return []api.Call{{Stop: from, Arrive: time, Depart: time, Board: true}, {Stop: to, Arrive: time, Depart: time, Alight: true}}
}

// fullTrips returns 7 trips that can follow each other, 5 for frequencies, one that departs, with another calendar, where and after the trip 6 ends, and two to and fro in no time.
func fullTrips() []api.Trip {
	var l []api.Trip
	for i := range 7 {
		l = append(l, api.Trip{ID: name("T", i), Route: i % 2, Calendar: 1, StepFree: i%3 == 0, Calls: calls(2*i, 3, 1000*i)})
	}
	for i := range 5 {
		l = append(l, api.Trip{ID: name("F", i), Route: i % 2, Calendar: i % 3, StepFree: i%2 == 1, Calls: calls(i, 2, 5000)})
	}
	l = append(l, api.Trip{ID: "X", Route: 1, Calendar: 2, StepFree: true, Calls: calls(4, 2, 7000)})
	return append(l, api.Trip{ID: "Y", Calendar: 1, Calls: jump(0, 1, 9000)}, api.Trip{ID: "Z", Calendar: 1, Calls: jump(1, 0, 9000)})
}

// full returns a valid timetable; its eleven sizes are all different and at least 2, and all elements of a table differ.
func full() api.Timetable {
	t := api.Timetable{
		Routes:     []api.Route{{ID: "R0", Mode: 3, Bicycles: true}, {ID: "R1", Mode: 7}},
		Calendars:  []api.Calendar{{ID: "C0", Week: [7]bool{true, false, true}, From: 10, To: 500}, {ID: "C1", Week: [7]bool{1: true, 6: true}, To: mostDay}, {ID: "C2", From: 7, To: 7}},
		Exceptions: []api.Exception{{Calendar: 0, Day: 12, Added: true}, {Calendar: 0, Day: 13}, {Calendar: 2, Day: 12, Added: true}, {Calendar: 1, Day: mostDay}},
		Trips:      fullTrips(),
		Fares:      api.Fares{Discount: 50, Within: 300, Cap: 900},
	}
	for i := range 5 {
		t.Stops = append(t.Stops, api.Stop{ID: name("S", i), Zone: 3 * i, StepFree: i%2 == 0, Change: 60 * i})
	}
	for i := range 8 {
		t.Frequencies = append(t.Frequencies, api.Frequency{Trip: 7 + i%5, From: 20000 + 1000*i, To: 21000 + 1000*i, Every: 300 + i})
	}
	for i := range 6 {
		t.Throughs = append(t.Throughs, api.Through{From: i, To: i + 1})
		t.Guarantees = append(t.Guarantees, api.Guarantee{From: i, To: i + 1, Stop: (2*i + 2) % 5})
	}
	t.Guarantees = append(t.Guarantees, api.Guarantee{From: 0, To: 3, Stop: 1})
	for i := range 10 {
		t.Paths = append(t.Paths, api.Footpath{From: i % 5, To: (i + 1 + i/5) % 5, Seconds: 60 + i, StepFree: i%3 == 0})
	}
	for i := range 11 {
		t.Fares.Products = append(t.Fares.Products, api.Product{ID: name("P", i), Price: 100 + i, Rides: 1 + i%mostRides, Zones: 1 + i, Seconds: 600 * i, Modes: 1 + 20*i})
	}
	return t
}

// fullSizes returns the sizes of full.
func fullSizes() [11]int {
	return [11]int{5, 2, 3, 4, 15, 37, 8, 6, 7, 10, 11}
}

// made returns n elements of a list.
func made[T any](n int, element func(i int) T) []T {
	var l []T
	for i := range n {
		l = append(l, element(i))
	}
	return l
}

// longestTrips returns 256 trips with 32 calls each; of the first 192, which take no time, each can follow the one before it.
func longestTrips() []api.Trip {
	return made(mostTrips, func(i int) api.Trip {
		l := made(mostCalls, func(k int) api.Call {
			return api.Call{Stop: (i%2 + k) % 2, Arrive: 500, Depart: 500, Board: true, Alight: true}
		})
		if i < 192 {
			l[mostCalls-1].Stop = 2 + i%3
			l[0].Stop = 2 + (i+2)%3
		}
		return api.Trip{ID: name("T", i), Route: i % mostRoutes, Calendar: i / 192, Calls: l}
	})
}

// longest returns a valid timetable with as many elements in each table as can be valid.
func longest() api.Timetable {
	return api.Timetable{
		Stops:      made(mostStops, func(i int) api.Stop { return api.Stop{ID: name("S", i), Zone: i % 16, Change: i} }),
		Routes:     made(mostRoutes, func(i int) api.Route { return api.Route{ID: name("R", i), Mode: i % 8} }),
		Calendars:  made(mostCalendars, func(i int) api.Calendar { return api.Calendar{ID: name("C", i), From: i, To: 2 * i} }),
		Exceptions: made(mostExceptions, func(i int) api.Exception { return api.Exception{Calendar: i % mostCalendars, Day: i} }),
		Trips:      longestTrips(),
		Frequencies: made(mostFrequencies, func(i int) api.Frequency {
			return api.Frequency{Trip: 192 + i, From: 1000, To: 1000 + mostStarts, Every: 1}
		}),
		Throughs: made(mostThroughs, func(i int) api.Through { return api.Through{From: i, To: i + 1} }),
		Guarantees: made(mostGuarantees, func(i int) api.Guarantee {
			return api.Guarantee{From: i, To: 191 - i%64, Stop: i % 2}
		}),
		Paths: made(mostPaths, func(i int) api.Footpath {
			return api.Footpath{From: i % mostStops, To: (i + 1 + i/mostStops) % mostStops, Seconds: 1 + i}
		}),
		Fares: api.Fares{
			Products: made(mostProducts, func(i int) api.Product {
				return api.Product{ID: name("P", i), Rides: mostRides, Zones: mostZones, Seconds: dayLength, Modes: mostModes, Price: mostPrice}
			}),
			Discount: mostPrice, Within: dayLength, Cap: mostPrice,
		},
	}
}

// twoStops returns a timetable with the stops A and B and one route and one calendar.
func twoStops() api.Timetable {
	return api.Timetable{Stops: []api.Stop{{ID: "A"}, {ID: "B"}}, Routes: []api.Route{{ID: "R"}}, Calendars: []api.Calendar{{ID: "C"}}}
}

// source returns a function that returns integers from 0, up to the one before below, without a pattern.
func source(seed int) func(below int) int {
	state := uint64(seed)
	return func(below int) int {
		state = state*6364136223846793005 + 1442695040888963407
		return int(state>>33) % below
	}
}

// scatterer makes a timetable without a pattern, all of whose parts but for one are valid.
type scatterer struct {
	next  func(below int) int
	t     api.Timetable
	wrong int
}

// grow appends elements to a list of the timetable. Most of those that are not valid are removed again, and all of them in all parts but for the wrong one.
func grow[T any](s *scatterer, part int, l *[]T, tries int, element func() T) {
	for range tries {
		*l = append(*l, element())
		if !isValidPart(s.t, part) && (part != s.wrong || s.next(tries) > 2) {
			*l = (*l)[:len(*l)-1]
		}
	}
}

// id returns an identifier, or sometimes another string.
func (s *scatterer) id(letter string) string {
	if s.next(15) > 0 {
		return name(letter, s.next(30))
	}
	return []string{"", "a b", "ä", strings.Repeat("x", 33), strings.Repeat("x", 32)}[s.next(5)]
}

// index returns the index of one of n elements, or sometimes another integer.
func (s *scatterer) index(n int) int {
	if n > 0 && s.next(30) > 0 {
		return s.next(n)
	}
	return []int{-1, n, n + 1, least, greatest}[s.next(5)]
}

func (s *scatterer) tables() {
	grow(s, partStops, &s.t.Stops, 2+s.next(5), func() api.Stop {
		return api.Stop{ID: s.id("S"), Zone: s.next(18) - 1, StepFree: s.next(2) == 0, Change: s.next(40)*100 - 100}
	})
	grow(s, partRoutes, &s.t.Routes, 1+s.next(4), func() api.Route {
		return api.Route{ID: s.id("R"), Mode: s.next(10) - 1, Bicycles: s.next(2) == 0}
	})
	grow(s, partCalendars, &s.t.Calendars, 1+s.next(3), func() api.Calendar {
		from := s.next(40) - 1
		c := api.Calendar{ID: s.id("C"), From: from, To: from + s.next(30) - 3}
		for i := range c.Week {
			c.Week[i] = s.next(2) == 0
		}
		return c
	})
	grow(s, partExceptions, &s.t.Exceptions, s.next(10), func() api.Exception {
		return api.Exception{Calendar: s.index(len(s.t.Calendars)), Day: s.next(30) - 1, Added: s.next(2) == 0}
	})
}

// calls returns calls at some of the stops.
func (s *scatterer) calls() []api.Call {
	at, time := s.next(3), s.next(30)*100
	if s.next(3) == 0 {
		return jump(at, (at+1+s.next(2))%3, 1000)
	}
	var l []api.Call
	for range 2 + s.next(4) {
		c := api.Call{Stop: at, Arrive: time, Depart: time + s.next(3)/2*100, Board: s.next(5) > 0, Alight: s.next(5) > 0}
		l = append(l, c)
		at, time = (at+1+s.next(2))%3, c.Depart+s.next(4)*100
	}
	switch s.next(12) {
	case 0:
		l[s.next(len(l))].Stop = s.index(len(s.t.Stops))
	case 1:
		l[s.next(len(l))].Arrive += s.next(900) - 300
	case 2:
		l = l[:s.next(2)]
	case 3:
		l[len(l)-1].Depart = mostTime + s.next(2)
	}
	return l
}

func (s *scatterer) trips() {
	grow(s, partTrips, &s.t.Trips, s.next(25), func() api.Trip {
		return api.Trip{ID: s.id("T"), Route: s.index(len(s.t.Routes)), Calendar: s.index(len(s.t.Calendars)), StepFree: s.next(2) == 0, Calls: s.calls()}
	})
	grow(s, partFrequencies, &s.t.Frequencies, s.next(8), func() api.Frequency {
		from := s.next(80)*100 - 100
		return api.Frequency{Trip: s.index(len(s.t.Trips)/2 + 1), From: from, To: from + s.next(30)*100 - 100, Every: s.next(100) * (1 + s.next(5))}
	})
	grow(s, partThroughs, &s.t.Throughs, 60, func() api.Through {
		return api.Through{From: s.index(len(s.t.Trips)), To: s.index(len(s.t.Trips))}
	})
	grow(s, partGuarantees, &s.t.Guarantees, 60, func() api.Guarantee {
		return api.Guarantee{From: s.index(len(s.t.Trips)), To: s.index(len(s.t.Trips)), Stop: s.index(len(s.t.Stops))}
	})
}

func (s *scatterer) rest() {
	grow(s, partPaths, &s.t.Paths, s.next(20), func() api.Footpath {
		return api.Footpath{From: s.index(len(s.t.Stops)), To: s.index(len(s.t.Stops)), Seconds: s.next(170) * 90, StepFree: s.next(2) == 0}
	})
	f := &s.t.Fares
	f.Discount, f.Within, f.Cap = s.next(100), s.next(600), s.next(2)*s.next(900)
	if s.wrong == partFares && s.next(3) == 0 {
		f.Discount, f.Within, f.Cap = s.next(3)*mostPrice-1, s.next(3)*dayLength-1, s.next(3)*mostPrice-1
	}
	grow(s, partFares, &f.Products, s.next(18), func() api.Product {
		return api.Product{ID: s.id("P"), Price: s.next(300) - 3, Rides: s.next(10), Zones: s.next(18), Seconds: s.next(90)*1000 - 1000, Modes: s.next(260)}
	})
}

// scattered returns a timetable without a pattern; all of its parts are valid, but for that one.
func scattered(next func(below int) int, wrong int) api.Timetable {
	s := &scatterer{next: next, wrong: wrong}
	s.tables()
	s.trips()
	s.rest()
	return s.t
}

// edges returns the integers at the ends of the ints, around 0, and at the limits of the document.
func edges() []int {
	list := []int{least, least + 1, -1 << 62, -1 << 32, 1 << 32, 1 << 62, greatest - 1, greatest}
	for _, n := range []int{0, 5, mostZone, mostChange, mostMode, mostDay, mostTime, dayLength, mostWalk, mostPrice, mostRides, mostModes} {
		list = append(list, n-1, n, n+1, -n)
	}
	slices.Sort(list)
	return slices.Compact(list)
}

// Values and their memory.

// leaves calls do with each string, integer and bool of a value, and with the name of its field.
func leaves(v reflect.Value, field string, do func(field string, leaf reflect.Value)) {
	switch v.Kind() {
	case reflect.Struct:
		for i := range v.NumField() {
			leaves(v.Field(i), v.Type().Name()+"."+v.Type().Field(i).Name, do)
		}
	case reflect.Slice, reflect.Array:
		for i := range v.Len() {
			leaves(v.Index(i), field, do)
		}
	default:
		do(field, v)
	}
}

// leavesOf returns the strings, integers and bools of a timetable, which can be set there.
func leavesOf(t *api.Timetable) []reflect.Value {
	var l []reflect.Value
	leaves(reflect.ValueOf(t).Elem(), "", func(_ string, leaf reflect.Value) { l = append(l, leaf) })
	return l
}

// slicesIn calls do with each slice of a value.
func slicesIn(v reflect.Value, do func(list reflect.Value)) {
	switch v.Kind() {
	case reflect.Struct:
		for i := range v.NumField() {
			slicesIn(v.Field(i), do)
		}
	case reflect.Slice:
		do(v)
		for i := range v.Len() {
			slicesIn(v.Index(i), do)
		}
	}
}

// slicesOf returns the slices of a timetable, which can be set there.
func slicesOf(t *api.Timetable) []reflect.Value {
	var l []reflect.Value
	slicesIn(reflect.ValueOf(t).Elem(), func(list reflect.Value) { l = append(l, list) })
	return l
}

// change gives another value to a leaf.
func change(leaf reflect.Value) {
	switch leaf.Kind() {
	case reflect.String:
		leaf.SetString(leaf.String() + "'")
	case reflect.Int:
		leaf.SetInt(leaf.Int() ^ 1)
	case reflect.Bool:
		leaf.SetBool(!leaf.Bool())
	}
}

// others returns values other than that of a leaf.
func others(leaf reflect.Value) []any {
	var l []any
	switch leaf.Kind() {
	case reflect.String:
		s := leaf.String()
		for _, other := range []string{"", s + "a", "a" + s, s + s, s + "\x00", strings.ToLower(s), strings.Repeat("x", len(s))} {
			l = append(l, other)
		}
	case reflect.Int:
		n := int(leaf.Int())
		for _, other := range append(edges(), n+1, n-1, -n, ^n, n^1<<32, n^1<<62) {
			l = append(l, other)
		}
	case reflect.Bool:
		l = append(l, !leaf.Bool())
	}
	return slices.DeleteFunc(l, func(other any) bool { return other == leaf.Interface() })
}

// duplicateInto sets a value to a copy of another one, with that number of zero elements behind the end of each slice.
func duplicateInto(to, from reflect.Value, spare int) {
	switch from.Kind() {
	case reflect.Struct:
		for i := range from.NumField() {
			duplicateInto(to.Field(i), from.Field(i), spare)
		}
	case reflect.Slice:
		if from.IsNil() && spare == 0 {
			return
		}
		to.Set(reflect.MakeSlice(from.Type(), from.Len(), from.Len()+spare))
		for i := range from.Len() {
			duplicateInto(to.Index(i), from.Index(i), spare)
		}
	default:
		to.Set(from)
	}
}

// duplicate returns a copy of the timetable that this test makes.
func duplicate(t api.Timetable) api.Timetable {
	var same api.Timetable
	duplicateInto(reflect.ValueOf(&same).Elem(), reflect.ValueOf(t), 0)
	return same
}

// spacious returns a copy of the timetable in whose slices there is space for more elements.
func spacious(t api.Timetable) api.Timetable {
	var same api.Timetable
	duplicateInto(reflect.ValueOf(&same).Elem(), reflect.ValueOf(t), 3)
	return same
}

// up returns a slice up to its capacity.
func up[T any](l []T) []T {
	return l[:cap(l)]
}

// memory returns the timetable with all that is in the memory of its slices, up to their capacities.
func memory(t api.Timetable) api.Timetable {
	t.Stops, t.Routes, t.Calendars, t.Exceptions = up(t.Stops), up(t.Routes), up(t.Calendars), up(t.Exceptions)
	t.Trips = slices.Clone(up(t.Trips))
	for i := range t.Trips {
		t.Trips[i].Calls = up(t.Trips[i].Calls)
	}
	t.Frequencies, t.Throughs, t.Guarantees = up(t.Frequencies), up(t.Throughs), up(t.Guarantees)
	t.Paths, t.Fares.Products = up(t.Paths), up(t.Fares.Products)
	return t
}

// keeper returns a function that reports whether the timetable and the memory of its slices are still the same.
func keeper(t *api.Timetable) func() bool {
	before, ends := duplicate(memory(*t)), lengths(t)
	return func() bool {
		return reflect.DeepEqual(duplicate(memory(*t)), before) && slices.Equal(lengths(t), ends)
	}
}

// lengths returns the lengths of all slices of a timetable.
func lengths(t *api.Timetable) []int {
	var l []int
	for _, list := range slicesOf(t) {
		l = append(l, list.Len())
	}
	return l
}

// block is the memory of a slice.
type block struct {
	from, to uintptr
}

// blocksOf returns the memory of the slices of the timetables, up to their capacities.
func blocksOf(timetables ...*api.Timetable) []block {
	var l []block
	for _, t := range timetables {
		for _, list := range slicesOf(t) {
			if list.Cap() > 0 {
				l = append(l, block{list.Pointer(), list.Pointer() + uintptr(list.Cap())*list.Type().Elem().Size()})
			}
		}
	}
	return l
}

// areApart reports whether no two of the blocks have memory in common.
func areApart(l []block) bool {
	slices.SortFunc(l, func(a, b block) int { return cmp.Compare(a.from, b.from) })
	for i := range l[:max(len(l)-1, 0)] {
		if l[i].to > l[i+1].from {
			return false
		}
	}
	return true
}

// text returns a value, or its beginning, for a report.
func text(x any) string {
	return fmt.Sprintf("%.900s", fmt.Sprintf("%+v", x))
}

// Checks.

func checkCheck(t *testing.T, x api.Timetable, part, index int, e api.Errno) {
	t.Helper()
	if p, i, got := Check(x); p != part || i != index || got != e {
		t.Errorf("Check(%s) = %d, %d, %d; want %d, %d, %d", text(x), p, i, got, part, index, e)
	}
}

// checkDefinition compares Check with the checks of the parts, and with the document's definition of a valid timetable.
func checkDefinition(t *testing.T, x api.Timetable) (int, api.Errno) {
	t.Helper()
	part, index, e := wantedCheck(x)
	checkCheck(t, x, part, index, e)
	invalid := firstInvalid(x)
	if e == api.OK {
		part = parts
	}
	if invalid != part {
		t.Errorf("Check(%s): the first part that is not valid is %d; want %d", text(x), part, invalid)
	}
	return part, e
}

// checkEqual checks Equal in both directions.
func checkEqual(t *testing.T, a, b api.Timetable, want bool) {
	t.Helper()
	if got := Equal(a, b); got != want {
		t.Errorf("Equal(%s, %s) = %v", text(a), text(b), got)
	}
	if got := Equal(b, a); got != want {
		t.Errorf("Equal(%s, %s) = %v", text(b), text(a), got)
	}
}

func checkSizes(t *testing.T, x api.Timetable, want [11]int) {
	t.Helper()
	if got := Sizes(x); got != want {
		t.Errorf("Sizes(%s) = %v; want %v", text(x), got, want)
	}
}

// checkClone checks a copy of a timetable, and returns it.
func checkClone(t *testing.T, x api.Timetable) api.Timetable {
	t.Helper()
	got, again := Clone(x), Clone(x)
	if !wantedEqual(got, x) || !wantedEqual(again, x) {
		t.Errorf("Clone(%s) = %s, and then %s", text(x), text(got), text(again))
	}
	checkEqual(t, got, x, true)
	checkEqual(t, got, again, true)
	if Sizes(got) != Sizes(x) {
		t.Errorf("Sizes(Clone(%s)) = %v; want %v", text(x), Sizes(got), Sizes(x))
	}
	copies := blocksOf(&got, &again)
	if !areApart(copies) {
		t.Errorf("two slices of copies of %s share memory", text(x))
	}
	for _, own := range blocksOf(&x) {
		for _, c := range copies {
			if own.from < c.to && c.from < own.to {
				t.Errorf("a copy of %s shares memory with it", text(x))
			}
		}
	}
	return got
}

// checkAll compares all functions with the definitions, and returns the first part that is not valid and its error.
func checkAll(t *testing.T, x api.Timetable) (int, api.Errno) {
	t.Helper()
	checkClone(t, x)
	checkEqual(t, x, x, true)
	checkSizes(t, x, wantedSizes(x))
	return checkDefinition(t, x)
}

// The inputs of these tests are what they are said to be.

func TestInputs(t *testing.T) {
	for i, x := range []api.Timetable{full(), longest(), twoStops(), {}} {
		if part := firstInvalid(x); part != parts {
			t.Errorf("part %d of input %d is not valid", part, i)
		}
	}
	if !wantedEqual(full(), full()) || !reflect.DeepEqual(full(), duplicate(full())) || wantedSizes(full()) != fullSizes() {
		t.Errorf("full() = %s", text(full()))
	}
	if x := spacious(full()); !wantedEqual(x, full()) || len(memory(x).Trips[0].Calls) != 6 || len(memory(x).Trips) != 18 || len(x.Trips) != 15 {
		t.Errorf("spacious(full()) = %s", text(x))
	}
	x := full()
	kept := keeper(&x)
	x.Trips[14].Calls[1].Alight = false
	if kept() {
		t.Error("a change is not seen")
	}
	if x.Trips[1].Calls = x.Trips[0].Calls[2:]; areApart(blocksOf(&x)) {
		t.Error("common memory is not seen")
	}
	sizes := fullSizes()
	slices.Sort(sizes[:])
	if len(slices.Compact(sizes[:])) != 11 || sizes[0] < 2 {
		t.Errorf("the sizes are %v", sizes)
	}
}

// P22.1 (Check), P22.5 (parts)

func TestCheckExamples(t *testing.T) {
	checkCheck(t, api.Timetable{}, 0, 0, api.OK)
	checkCheck(t, api.Timetable{Stops: []api.Stop{{ID: "A"}, {ID: "A"}}}, 0, 1, api.ErrDuplicate)
	x := api.Timetable{Stops: []api.Stop{{ID: "A"}, {ID: "B"}}, Paths: []api.Footpath{{From: 0, To: 1, Seconds: 0}}}
	checkCheck(t, x, 8, 0, api.ErrRange)
	x.Paths[0].Seconds = 1
	checkCheck(t, x, 0, 0, api.OK)
	x.Fares.Cap = -1
	checkCheck(t, x, 9, -1, api.ErrRange)
	checkCheck(t, full(), 0, 0, api.OK)
	checkCheck(t, twoStops(), 0, 0, api.OK)
}

// wrong is a change that makes one part of full wrong, and no other one, with the index and the error that the check of this part then returns.
type wrong struct {
	part, index int
	e           api.Errno
	change      func(x *api.Timetable)
}

func wrongTables() []wrong {
	return []wrong{
		{partStops, 0, api.ErrLimit, func(x *api.Timetable) { x.Stops = append(x.Stops, make([]api.Stop, 60)...) }},
		{partStops, 3, api.ErrName, func(x *api.Timetable) { x.Stops[3].ID = "?" }},
		{partStops, 4, api.ErrDuplicate, func(x *api.Timetable) { x.Stops[4].ID = "S1" }},
		{partStops, 0, api.ErrRange, func(x *api.Timetable) { x.Stops[0].Zone = 16 }},
		{partStops, 2, api.ErrRange, func(x *api.Timetable) { x.Stops[2].Change = 3601 }},
		{partRoutes, 0, api.ErrLimit, func(x *api.Timetable) { x.Routes = append(x.Routes, make([]api.Route, 63)...) }},
		{partRoutes, 0, api.ErrName, func(x *api.Timetable) { x.Routes[0].ID = "" }},
		{partRoutes, 1, api.ErrDuplicate, func(x *api.Timetable) { x.Routes[1].ID = "R0" }},
		{partRoutes, 1, api.ErrRange, func(x *api.Timetable) { x.Routes[1].Mode = 8 }},
		{partCalendars, 0, api.ErrLimit, func(x *api.Timetable) { x.Calendars = append(x.Calendars, make([]api.Calendar, 62)...) }},
		{partCalendars, 2, api.ErrName, func(x *api.Timetable) { x.Calendars[2].ID = "C 2" }},
		{partCalendars, 1, api.ErrDuplicate, func(x *api.Timetable) { x.Calendars[1].ID = "C0" }},
		{partCalendars, 0, api.ErrDate, func(x *api.Timetable) { x.Calendars[0].To = 9 }},
		{partCalendars, 1, api.ErrDate, func(x *api.Timetable) { x.Calendars[1].To = 36525 }},
		{partExceptions, 0, api.ErrLimit, func(x *api.Timetable) { x.Exceptions = append(x.Exceptions, make([]api.Exception, 253)...) }},
		{partExceptions, 3, api.ErrReference, func(x *api.Timetable) { x.Exceptions[3].Calendar = 3 }},
		{partExceptions, 0, api.ErrReference, func(x *api.Timetable) { x.Exceptions[0].Calendar = -1 }},
		{partExceptions, 2, api.ErrDate, func(x *api.Timetable) { x.Exceptions[2].Day = -1 }},
		{partExceptions, 1, api.ErrDuplicate, func(x *api.Timetable) { x.Exceptions[1].Day = 12 }},
	}
}

func wrongTrips() []wrong {
	return []wrong{
		{partTrips, 0, api.ErrLimit, func(x *api.Timetable) { x.Trips = append(x.Trips, make([]api.Trip, 242)...) }},
		{partTrips, 0, api.ErrName, func(x *api.Timetable) { x.Trips[0].ID = "T:0" }},
		{partTrips, 14, api.ErrDuplicate, func(x *api.Timetable) { x.Trips[14].ID = "T0" }},
		{partTrips, 5, api.ErrReference, func(x *api.Timetable) { x.Trips[5].Route = 2 }},
		{partTrips, 7, api.ErrReference, func(x *api.Timetable) { x.Trips[7].Calendar = 3 }},
		{partTrips, 8, api.ErrReference, func(x *api.Timetable) { x.Trips[8].Calls[1].Stop = 5 }},
		{partTrips, 2, api.ErrReference, func(x *api.Timetable) { x.Trips[2].Calls[1].Stop = -1 }},
		{partTrips, 12, api.ErrLimit, func(x *api.Timetable) { x.Trips[12].Calls = x.Trips[12].Calls[:1] }},
		{partTrips, 13, api.ErrLimit, func(x *api.Timetable) { x.Trips[13].Calls = nil }},
		{partTrips, 8, api.ErrLimit, func(x *api.Timetable) { x.Trips[8].Calls = calls(1, 33, 5000) }},
		{partTrips, 1, api.ErrStop, func(x *api.Timetable) { x.Trips[1].Calls[1].Stop = 2 }},
		{partTrips, 4, api.ErrTime, func(x *api.Timetable) { x.Trips[4].Calls[1].Arrive = 4019 }},
		{partTrips, 6, api.ErrTime, func(x *api.Timetable) { x.Trips[6].Calls[2].Depart = 172801 }},
		{partFrequencies, 0, api.ErrLimit, func(x *api.Timetable) {
			x.Frequencies = slices.Concat(x.Frequencies, slices.Repeat(x.Frequencies[:1], 57))
		}},
		{partFrequencies, 7, api.ErrReference, func(x *api.Timetable) { x.Frequencies[7].Trip = 15 }},
		{partFrequencies, 0, api.ErrReference, func(x *api.Timetable) { x.Frequencies[0].Trip = -1 }},
		{partFrequencies, 1, api.ErrTime, func(x *api.Timetable) { x.Frequencies[1].Every = 0 }},
		{partFrequencies, 2, api.ErrTime, func(x *api.Timetable) { x.Frequencies[2].To = 22000 }},
		{partFrequencies, 3, api.ErrTime, func(x *api.Timetable) { x.Frequencies[3].From = 19 }},
		{partFrequencies, 4, api.ErrFrequency, func(x *api.Timetable) { x.Frequencies[4].Every = 3 }},
		{partFrequencies, 5, api.ErrOrder, func(x *api.Timetable) { x.Frequencies[5].From = 20999 }},
	}
}

func wrongLinks() []wrong {
	return []wrong{
		{partThroughs, 0, api.ErrLimit, func(x *api.Timetable) { x.Throughs = append(x.Throughs, make([]api.Through, 123)...) }},
		{partThroughs, 5, api.ErrReference, func(x *api.Timetable) { x.Throughs[5].To = 15 }},
		{partThroughs, 0, api.ErrReference, func(x *api.Timetable) { x.Throughs[0].From = -1 }},
		{partThroughs, 1, api.ErrReference, func(x *api.Timetable) { x.Throughs[1].To = 1 }},
		{partThroughs, 6, api.ErrFrequency, func(x *api.Timetable) { x.Throughs = append(x.Throughs, api.Through{From: 6, To: 11}) }},
		{partThroughs, 6, api.ErrCalendar, func(x *api.Timetable) { x.Throughs = append(x.Throughs, api.Through{From: 6, To: 12}) }},
		{partThroughs, 2, api.ErrStop, func(x *api.Timetable) { x.Throughs[2].To = 4 }},
		{partThroughs, 6, api.ErrTime, func(x *api.Timetable) { x.Throughs = append(x.Throughs, api.Through{From: 5, To: 1}) }},
		{partThroughs, 6, api.ErrDuplicate, func(x *api.Timetable) { x.Throughs = append(x.Throughs, api.Through{From: 0, To: 1}) }},
		{partThroughs, 7, api.ErrLink, func(x *api.Timetable) {
			x.Throughs = append(x.Throughs, api.Through{From: 13, To: 14}, api.Through{From: 14, To: 13})
		}},
		{partGuarantees, 0, api.ErrLimit, func(x *api.Timetable) { x.Guarantees = append(x.Guarantees, make([]api.Guarantee, 122)...) }},
		{partGuarantees, 6, api.ErrReference, func(x *api.Timetable) { x.Guarantees[6].To = 15 }},
		{partGuarantees, 3, api.ErrReference, func(x *api.Timetable) { x.Guarantees[3].From = 4 }},
		{partGuarantees, 1, api.ErrReference, func(x *api.Timetable) { x.Guarantees[1].Stop = 5 }},
		{partGuarantees, 2, api.ErrReference, func(x *api.Timetable) { x.Guarantees[2].Stop = -1 }},
		{partGuarantees, 4, api.ErrFrequency, func(x *api.Timetable) { x.Guarantees[4].From = 7 }},
		{partGuarantees, 5, api.ErrLink, func(x *api.Timetable) { x.Guarantees[5].Stop = 3 }},
		{partGuarantees, 6, api.ErrDuplicate, func(x *api.Timetable) { x.Guarantees[6] = x.Guarantees[0] }},
	}
}

func wrongRest() []wrong {
	return []wrong{
		{partPaths, 0, api.ErrLimit, func(x *api.Timetable) { x.Paths = append(x.Paths, make([]api.Footpath, 503)...) }},
		{partPaths, 9, api.ErrReference, func(x *api.Timetable) { x.Paths[9].To = 5 }},
		{partPaths, 0, api.ErrReference, func(x *api.Timetable) { x.Paths[0].From = -1 }},
		{partPaths, 1, api.ErrReference, func(x *api.Timetable) { x.Paths[1].To = 1 }},
		{partPaths, 4, api.ErrRange, func(x *api.Timetable) { x.Paths[4].Seconds = 14401 }},
		{partPaths, 5, api.ErrRange, func(x *api.Timetable) { x.Paths[5].Seconds = 0 }},
		{partPaths, 3, api.ErrDuplicate, func(x *api.Timetable) { x.Paths[3] = x.Paths[0] }},
		{partFares, -1, api.ErrRange, func(x *api.Timetable) { x.Fares.Discount = -1 }},
		{partFares, -1, api.ErrRange, func(x *api.Timetable) { x.Fares.Discount = 1000001 }},
		{partFares, -1, api.ErrRange, func(x *api.Timetable) { x.Fares.Within = -1 }},
		{partFares, -1, api.ErrRange, func(x *api.Timetable) { x.Fares.Within = 86401 }},
		{partFares, -1, api.ErrRange, func(x *api.Timetable) { x.Fares.Cap = -1 }},
		{partFares, -1, api.ErrRange, func(x *api.Timetable) { x.Fares.Cap, x.Fares.Products[0].Rides = 1000001, 0 }},
		{partFares, 0, api.ErrLimit, func(x *api.Timetable) { x.Fares.Products = append(x.Fares.Products, make([]api.Product, 6)...) }},
		{partFares, 8, api.ErrName, func(x *api.Timetable) { x.Fares.Products[8].ID = "" }},
		{partFares, 10, api.ErrDuplicate, func(x *api.Timetable) { x.Fares.Products[10].ID = "P0" }},
		{partFares, 0, api.ErrRange, func(x *api.Timetable) { x.Fares.Products[0].Rides = 0 }},
		{partFares, 6, api.ErrRange, func(x *api.Timetable) { x.Fares.Products[6].Modes = 256 }},
	}
}

// wrongs returns changes for each part with each error of its check.
func wrongs() []wrong {
	return slices.Concat(wrongTables(), wrongTrips(), wrongLinks(), wrongRest())
}

// wrongsOf returns the changes that make a part wrong.
func wrongsOf(part int) []wrong {
	return slices.DeleteFunc(wrongs(), func(w wrong) bool { return w.part != part })
}

func TestCheckEachError(t *testing.T) {
	seen := map[[2]int]bool{}
	for _, w := range wrongs() {
		x := full()
		w.change(&x)
		checkCheck(t, x, w.part, w.index, w.e)
		checkDefinition(t, x)
		for part := range parts {
			if _, e := partCheck(x, part); (e != api.OK) != (part == w.part) {
				t.Errorf("the check of part %d of %s returned %d", part, text(x), e)
			}
		}
		seen[[2]int{w.part, int(w.e)}] = true
	}
	errors := map[int][]api.Errno{
		partStops: {api.ErrLimit, api.ErrName, api.ErrDuplicate, api.ErrRange}, partRoutes: {api.ErrLimit, api.ErrName, api.ErrDuplicate, api.ErrRange},
		partCalendars: {api.ErrLimit, api.ErrName, api.ErrDuplicate, api.ErrDate}, partExceptions: {api.ErrLimit, api.ErrReference, api.ErrDate, api.ErrDuplicate},
		partTrips:       {api.ErrLimit, api.ErrName, api.ErrDuplicate, api.ErrReference, api.ErrStop, api.ErrTime},
		partFrequencies: {api.ErrLimit, api.ErrReference, api.ErrTime, api.ErrFrequency, api.ErrOrder},
		partThroughs:    {api.ErrLimit, api.ErrReference, api.ErrFrequency, api.ErrCalendar, api.ErrStop, api.ErrTime, api.ErrDuplicate, api.ErrLink},
		partGuarantees:  {api.ErrLimit, api.ErrReference, api.ErrFrequency, api.ErrLink, api.ErrDuplicate},
		partPaths:       {api.ErrLimit, api.ErrReference, api.ErrRange, api.ErrDuplicate}, partFares: {api.ErrLimit, api.ErrName, api.ErrDuplicate, api.ErrRange},
	}
	for part := range parts {
		for _, e := range errors[part] {
			if !seen[[2]int{part, int(e)}] {
				t.Errorf("no change gives part %d the error %d", part, e)
			}
		}
	}
}

func TestCheckTwoErrors(t *testing.T) {
	for _, a := range wrongs() {
		for _, b := range wrongs() {
			if a.part == b.part {
				continue
			}
			x := full()
			a.change(&x)
			b.change(&x)
			first := a
			if b.part < a.part {
				first = b
			}
			checkCheck(t, x, first.part, first.index, first.e)
		}
	}
}

// With any of the parts wrong at once, the first of them is told.
func TestCheckManyErrors(t *testing.T) {
	for set := range 1 << parts {
		next := source(set)
		for range 4 {
			x := full()
			var first *wrong
			for part := parts - 1; part >= 0; part-- {
				if set>>part&1 == 1 {
					l := wrongsOf(part)
					first = &l[next(len(l))]
					first.change(&x)
				}
			}
			if first == nil {
				checkCheck(t, x, 0, 0, api.OK)
				continue
			}
			checkCheck(t, x, first.part, first.index, first.e)
		}
	}
}

// A part alone, with none of those to which it refers.
func TestCheckPartsAlone(t *testing.T) {
	x := full()
	checkCheck(t, api.Timetable{Stops: x.Stops}, 0, 0, api.OK)
	checkCheck(t, api.Timetable{Routes: x.Routes}, 0, 0, api.OK)
	checkCheck(t, api.Timetable{Calendars: x.Calendars}, 0, 0, api.OK)
	checkCheck(t, api.Timetable{Exceptions: x.Exceptions}, 3, 0, api.ErrReference)
	checkCheck(t, api.Timetable{Trips: x.Trips}, 4, 0, api.ErrReference)
	checkCheck(t, api.Timetable{Frequencies: x.Frequencies}, 5, 0, api.ErrReference)
	checkCheck(t, api.Timetable{Throughs: x.Throughs}, 6, 0, api.ErrReference)
	checkCheck(t, api.Timetable{Guarantees: x.Guarantees}, 7, 0, api.ErrReference)
	checkCheck(t, api.Timetable{Paths: x.Paths}, 8, 0, api.ErrReference)
	checkCheck(t, api.Timetable{Fares: x.Fares}, 0, 0, api.OK)
}

// Without one of its parts, the first part that refers to it is wrong.
func TestCheckWithoutOnePart(t *testing.T) {
	for _, c := range []struct {
		remove      func(x *api.Timetable)
		part, index int
		e           api.Errno
	}{
		{func(x *api.Timetable) { x.Stops = nil }, 4, 0, api.ErrReference},
		{func(x *api.Timetable) {
			x.Stops, x.Trips, x.Frequencies, x.Throughs, x.Guarantees = nil, nil, nil, nil, nil
		}, 8, 0, api.ErrReference},
		{func(x *api.Timetable) { x.Routes = nil }, 4, 0, api.ErrReference},
		{func(x *api.Timetable) { x.Calendars = nil }, 3, 0, api.ErrReference},
		{func(x *api.Timetable) { x.Calendars, x.Exceptions = nil, nil }, 4, 0, api.ErrReference},
		{func(x *api.Timetable) { x.Trips = nil }, 5, 0, api.ErrReference},
		{func(x *api.Timetable) { x.Trips, x.Frequencies = nil, nil }, 6, 0, api.ErrReference},
		{func(x *api.Timetable) { x.Trips, x.Frequencies, x.Throughs = nil, nil, nil }, 7, 0, api.ErrReference},
		{func(x *api.Timetable) { x.Exceptions = nil }, 0, 0, api.OK},
		{func(x *api.Timetable) { x.Frequencies = nil }, 0, 0, api.OK},
		{func(x *api.Timetable) { x.Throughs = nil }, 0, 0, api.OK},
		{func(x *api.Timetable) { x.Guarantees = nil }, 0, 0, api.OK},
		{func(x *api.Timetable) { x.Paths = nil }, 0, 0, api.OK},
		{func(x *api.Timetable) { x.Fares = api.Fares{} }, 0, 0, api.OK},
	} {
		x := full()
		c.remove(&x)
		checkCheck(t, x, c.part, c.index, c.e)
		checkDefinition(t, x)
	}
}

// A part is wrong because of a change of another one, which is valid itself.
func TestCheckBecauseOfAnotherPart(t *testing.T) {
	for i, c := range []struct {
		change      func(x *api.Timetable)
		part, index int
		e           api.Errno
	}{
		{func(x *api.Timetable) { x.Stops = x.Stops[:4] }, 4, 1, api.ErrReference},
		{func(x *api.Timetable) { x.Routes = x.Routes[:1] }, 4, 1, api.ErrReference},
		{func(x *api.Timetable) { x.Calendars = x.Calendars[:2] }, 3, 2, api.ErrReference},
		{func(x *api.Timetable) { x.Calendars, x.Exceptions = x.Calendars[:2], nil }, 4, 9, api.ErrReference},
		{func(x *api.Timetable) { x.Trips = x.Trips[:11] }, 5, 4, api.ErrReference},
		{func(x *api.Timetable) { x.Trips, x.Frequencies = x.Trips[:6], nil }, 6, 5, api.ErrReference},
		{func(x *api.Timetable) { x.Trips, x.Frequencies, x.Throughs = x.Trips[:6], nil, nil }, 7, 5, api.ErrReference},
		{func(x *api.Timetable) { x.Frequencies[7].Trip = 6 }, 6, 5, api.ErrFrequency},
		{func(x *api.Timetable) { x.Frequencies[7].Trip, x.Throughs = 6, nil }, 7, 5, api.ErrFrequency},
		{func(x *api.Timetable) { x.Frequencies[7].Trip, x.Throughs = 3, nil }, 7, 2, api.ErrFrequency},
		{func(x *api.Timetable) { x.Trips[3].Calendar = 0 }, 6, 2, api.ErrCalendar},
		{func(x *api.Timetable) { x.Trips[2].Calls[2].Stop = 2 }, 6, 2, api.ErrStop},
		{func(x *api.Timetable) { x.Trips[0].Calls[2].Arrive, x.Trips[0].Calls[2].Depart = 1021, 1021 }, 6, 0, api.ErrTime},
		{func(x *api.Timetable) {
			x.Trips[0].Calls[2].Arrive, x.Trips[0].Calls[2].Depart, x.Throughs = 1021, 1021, nil
		}, 7, 0, api.ErrLink},
		{func(x *api.Timetable) { x.Trips[1].Calls[2].Alight = false }, 7, 1, api.ErrLink},
		{func(x *api.Timetable) { x.Trips[6].Calls[0].Board = false }, 7, 5, api.ErrLink},
		{func(x *api.Timetable) { x.Trips[8].Calls[1].Depart += mostTime - 26900 }, 5, 6, api.ErrTime},
		{func(x *api.Timetable) { x.Trips[8].Calls[0].Depart += 80 }, 0, 0, api.OK},
	} {
		x := full()
		c.change(&x)
		checkCheck(t, x, c.part, c.index, c.e)
		for part := range c.part {
			if _, e := partCheck(x, part); e != api.OK {
				t.Errorf("case %d: part %d is wrong", i, part)
			}
		}
		checkDefinition(t, x)
	}
}

// checkReference checks a timetable with an element that refers to the element i of n of another part.
func checkReference(t *testing.T, x api.Timetable, part, i, n int) {
	t.Helper()
	if i >= 0 && i < n {
		checkCheck(t, x, 0, 0, api.OK)
	} else {
		checkCheck(t, x, part, 0, api.ErrReference)
	}
}

// References to the last element of another part, whose number of elements differs from those of the others, and to the one behind it.
func TestCheckReferences(t *testing.T) {
	for number := range 5 * 5 * 5 {
		stops, routes, calendars := number%5, number/5%5, number/25
		some := api.Timetable{
			Stops:     made(stops, func(i int) api.Stop { return api.Stop{ID: name("S", i)} }),
			Routes:    made(routes, func(i int) api.Route { return api.Route{ID: name("R", i)} }),
			Calendars: made(calendars, func(i int) api.Calendar { return api.Calendar{ID: name("C", i)} }),
		}
		for _, i := range []int{least, -2, -1, 0, 1, 2, 3, 4, 5, greatest} {
			x := some
			x.Exceptions = []api.Exception{{Calendar: i, Day: 5}}
			checkReference(t, x, partExceptions, i, calendars)
			x = some
			if x.Paths = []api.Footpath{{From: i, To: 0, Seconds: 60}}; i != 0 {
				checkReference(t, x, partPaths, i, stops)
			}
			if x.Paths = []api.Footpath{{From: 0, To: i, Seconds: 60}}; i != 0 {
				checkReference(t, x, partPaths, i, stops)
			}
			if stops < 2 {
				continue
			}
			x = some
			x.Trips = []api.Trip{{ID: "T", Route: i, Calls: jump(0, 1, 50)}}
			checkReference(t, x, partTrips, i, min(routes, routes*calendars))
			x.Trips = []api.Trip{{ID: "T", Calendar: i, Calls: jump(0, 1, 50)}}
			checkReference(t, x, partTrips, i, min(calendars, routes*calendars))
			if x.Trips = []api.Trip{{ID: "T", Calls: jump(0, i, 50)}}; i != 0 {
				checkReference(t, x, partTrips, i, min(stops, stops*routes*calendars))
			}
		}
	}
}

// The same for references to trips and for the stop of a guaranteed change.
func TestCheckReferencesToTrips(t *testing.T) {
	for number := range 6 {
		some := twoStops()
		some.Trips = made(number, func(i int) api.Trip { return api.Trip{ID: name("T", i), Calls: jump(0, 1, 50)} })
		for k := range some.Trips {
			some.Trips[k].Calls = append(some.Trips[k].Calls, api.Call{Stop: 0, Arrive: 50, Depart: 50, Board: true, Alight: true})
			some.Trips[k].Calls[1].Board = true
		}
		for _, i := range []int{least, -1, 0, 1, 2, 3, 4, 5, 6, 7, greatest} {
			x := some
			x.Frequencies = []api.Frequency{{Trip: i, From: 0, To: 5, Every: 1}}
			checkReference(t, x, partFrequencies, i, number)
			if i == 0 {
				continue
			}
			x = some
			x.Throughs = []api.Through{{From: i, To: 0}}
			checkReference(t, x, partThroughs, i, number)
			x.Throughs = []api.Through{{From: 0, To: i}}
			checkReference(t, x, partThroughs, i, number)
			x = some
			x.Guarantees = []api.Guarantee{{From: i, To: 0, Stop: 1}}
			checkReference(t, x, partGuarantees, i, number)
			x.Guarantees = []api.Guarantee{{From: 0, To: i, Stop: 1}}
			checkReference(t, x, partGuarantees, i, number)
		}
		if number < 2 {
			continue
		}
		for stops := 2; stops < 6; stops++ {
			x := some
			x.Stops = append(x.Stops, made(stops-2, func(i int) api.Stop { return api.Stop{ID: name("S", i)} })...)
			x.Guarantees = []api.Guarantee{{From: 0, To: 1, Stop: stops}}
			checkCheck(t, x, partGuarantees, 0, api.ErrReference)
			if x.Guarantees[0].Stop--; stops > 2 {
				checkCheck(t, x, partGuarantees, 0, api.ErrLink)
			} else {
				checkCheck(t, x, 0, 0, api.OK)
			}
		}
	}
}

// As many elements in each part as can be valid, and one more.
func TestCheckLimits(t *testing.T) {
	checkAll(t, longest())
	checkCheck(t, longest(), 0, 0, api.OK)
	for part, more := range []func(x *api.Timetable){
		func(x *api.Timetable) { x.Stops = append(x.Stops, api.Stop{ID: "more"}) },
		func(x *api.Timetable) { x.Routes = append(x.Routes, api.Route{ID: "more"}) },
		func(x *api.Timetable) { x.Calendars = append(x.Calendars, api.Calendar{ID: "more"}) },
		func(x *api.Timetable) { x.Exceptions = append(x.Exceptions, api.Exception{Calendar: 5, Day: 900}) },
		func(x *api.Timetable) { x.Trips = append(x.Trips, api.Trip{ID: "more", Calls: x.Trips[0].Calls}) },
		func(x *api.Timetable) {
			x.Frequencies = append(x.Frequencies, api.Frequency{Trip: 191, From: 5000, To: 5001, Every: 1})
		},
		func(x *api.Timetable) { x.Throughs = append(x.Throughs, api.Through{From: 128, To: 129}) },
		func(x *api.Timetable) {
			x.Guarantees = append(x.Guarantees, api.Guarantee{From: 150, To: 151, Stop: 1})
		},
		func(x *api.Timetable) { x.Paths = append(x.Paths, api.Footpath{From: 0, To: 63, Seconds: 5}) },
		func(x *api.Timetable) { x.Fares.Products = append(x.Fares.Products, wide("more")) },
	} {
		x := longest()
		more(&x)
		checkCheck(t, x, part, 0, api.ErrLimit)
		checkDefinition(t, x)
	}
	for i := range mostTrips {
		x := longest()
		x.Trips[i].Calls = append(x.Trips[i].Calls, api.Call{Stop: 1, Arrive: 500, Depart: 500})
		checkCheck(t, x, partTrips, i, api.ErrLimit)
	}
}

// wide returns a valid product.
func wide(id string) api.Product {
	return api.Product{ID: id, Rides: 1, Zones: 1, Modes: 1}
}

// empties returns functions that make a list of the zero timetable empty instead of nil.
func empties() []func(x *api.Timetable) {
	return []func(x *api.Timetable){
		func(x *api.Timetable) { x.Stops = []api.Stop{} },
		func(x *api.Timetable) { x.Routes = []api.Route{} },
		func(x *api.Timetable) { x.Calendars = []api.Calendar{} },
		func(x *api.Timetable) { x.Exceptions = []api.Exception{} },
		func(x *api.Timetable) { x.Trips = []api.Trip{} },
		func(x *api.Timetable) { x.Frequencies = make([]api.Frequency, 0, 5) },
		func(x *api.Timetable) { x.Throughs = []api.Through{} },
		func(x *api.Timetable) { x.Guarantees = []api.Guarantee{} },
		func(x *api.Timetable) { x.Paths = make([]api.Footpath, 3)[:0] },
		func(x *api.Timetable) { x.Fares.Products = []api.Product{} },
	}
}

// All functions with the zero timetable in which some lists are empty instead of nil.
func TestNilAndEmpty(t *testing.T) {
	for set := range 1 << parts {
		var x api.Timetable
		for i, empty := range empties() {
			if set>>i&1 == 1 {
				empty(&x)
			}
		}
		checkCheck(t, x, 0, 0, api.OK)
		checkSizes(t, x, [11]int{})
		checkEqual(t, x, api.Timetable{}, true)
		checkEqual(t, x, Clone(x), true)
		checkEqual(t, x, Clone(api.Timetable{}), true)
		checkEqual(t, x, twoStops(), false)
		checkClone(t, x)
	}
}

// A part of full that is empty is as it is when it is nil; so are the calls of a trip.
func TestNilAndEmptyInFull(t *testing.T) {
	for i := range slicesOf(new(full())) {
		none, empty, other := full(), full(), full()
		list := slicesOf(&none)[i]
		list.SetZero()
		slicesOf(&empty)[i].Set(reflect.MakeSlice(list.Type(), 0, 4))
		slicesOf(&other)[i].SetLen(0)
		part, index, e := wantedCheck(none)
		for _, x := range []api.Timetable{none, empty, other} {
			checkCheck(t, x, part, index, e)
			checkEqual(t, x, none, true)
			checkEqual(t, x, empty, true)
			checkEqual(t, x, full(), false)
			checkSizes(t, x, wantedSizes(none))
			checkClone(t, x)
		}
	}
	for i := range full().Trips {
		for _, none := range [][]api.Call{nil, {}} {
			x := full()
			x.Trips[i].Calls = none
			checkCheck(t, x, partTrips, i, api.ErrLimit)
		}
	}
}

// P22.2 (Clone), P22.7 (copies)

// samples returns timetables for copies, valid and not.
func samples() []api.Timetable {
	l := []api.Timetable{{}, full(), twoStops(), longest(), spacious(full()), spacious(api.Timetable{}), {Fares: api.Fares{Discount: -1, Within: least, Cap: greatest}}}
	l = append(l, api.Timetable{Trips: []api.Trip{{}, {Calls: []api.Call{}}, {Calls: make([]api.Call, 1)}, {Calls: make([]api.Call, 40)}}})
	for _, w := range wrongs() {
		x := full()
		w.change(&x)
		l = append(l, x)
	}
	return l
}

func TestCloneSamples(t *testing.T) {
	for _, x := range samples() {
		kept := keeper(&x)
		got := checkClone(t, x)
		part, index, e := wantedCheck(x)
		checkCheck(t, got, part, index, e)
		if !kept() {
			t.Errorf("Clone changed %s", text(x))
		}
	}
	if got := Clone(api.Timetable{}); !wantedEqual(got, api.Timetable{}) {
		t.Errorf("Clone of the zero timetable is %s", text(got))
	}
}

// Any later change of the copy does not change the timetable, and the other way round.
func TestCloneAndChanges(t *testing.T) {
	for _, original := range []api.Timetable{full(), spacious(full()), longestPart()} {
		for i := range leavesOf(&original) {
			x := duplicate(original)
			got, again := Clone(x), Clone(x)
			change(leavesOf(&got)[i])
			if !wantedEqual(x, original) || !wantedEqual(again, original) || wantedEqual(got, original) {
				t.Errorf("the change of leaf %d of a copy changed %s", i, text(x))
			}
			got = Clone(x)
			change(leavesOf(&x)[i])
			if !wantedEqual(got, original) || !wantedEqual(again, original) || wantedEqual(x, original) {
				t.Errorf("the change of leaf %d of %s changed a copy", i, text(x))
			}
		}
	}
}

// longestPart returns a timetable with a few elements of longest, which is not valid.
func longestPart() api.Timetable {
	x := longest()
	x.Stops, x.Routes, x.Calendars = x.Stops[:12], x.Routes[:14], x.Calendars[:11]
	x.Exceptions, x.Trips, x.Paths = x.Exceptions[:20], x.Trips[190:194], x.Paths[:30]
	x.Throughs, x.Guarantees, x.Frequencies = x.Throughs[:9], x.Guarantees[:9], x.Frequencies[:9]
	return x
}

// An append to a slice of the copy or of the timetable changes nothing in the other one, and no other slice.
func TestCloneAndAppends(t *testing.T) {
	for i := range slicesOf(new(full())) {
		x := spacious(full())
		got := Clone(x)
		kept := keeper(&x)
		list := slicesOf(&got)[i]
		for range 5 {
			list.Set(reflect.Append(list, list.Index(0)))
		}
		if !kept() {
			t.Errorf("an append to slice %d of the copy changed %s", i, text(x))
		}
		list.SetLen(list.Len() - 5)
		if !wantedEqual(got, full()) {
			t.Errorf("an append to slice %d of the copy changed the copy to %s", i, text(got))
		}
		got = Clone(x)
		keptCopy := keeper(&got)
		list = slicesOf(&x)[i]
		list.Set(reflect.Append(list, list.Index(0), list.Index(1)))
		if !keptCopy() {
			t.Errorf("an append to slice %d changed the copy to %s", i, text(got))
		}
	}
}

// Slices of the timetable that share memory do not share it in the copy.
func TestCloneOfCommonMemory(t *testing.T) {
	common := calls(0, 20, 100)
	x := api.Timetable{Trips: []api.Trip{{ID: "a", Calls: common}, {ID: "b", Calls: common}, {ID: "c", Calls: common[5:8]}, {ID: "d", Calls: common[:0]}, {ID: "e", Calls: common[6:]}}}
	got := checkClone(t, x)
	for i := range got.Trips {
		for k := range got.Trips[i].Calls {
			got.Trips[i].Calls[k].Arrive = -1 - i
		}
	}
	for i, y := range got.Trips {
		if slices.ContainsFunc(y.Calls, func(c api.Call) bool { return c.Arrive != -1-i }) {
			t.Errorf("the calls of trip %d are %v", i, y.Calls)
		}
	}
	if !slices.Equal(common, calls(0, 20, 100)) {
		t.Errorf("the common calls are %v", common)
	}
}

// P22.3 (Equal)

// Timetables that differ in one field of one element, in each of the fields.
func TestEqualEachField(t *testing.T) {
	fields := map[string]bool{}
	leaves(reflect.ValueOf(full()), "", func(field string, _ reflect.Value) { fields[field] = true })
	for typ, count := range map[string]int{"Stop": 4, "Route": 3, "Calendar": 4, "Exception": 3, "Trip": 4, "Call": 5, "Frequency": 4, "Through": 2, "Guarantee": 3, "Footpath": 4, "Product": 6, "Fares": 3} {
		n := 0
		for field := range fields {
			if strings.HasPrefix(field, typ+".") {
				n++
			}
		}
		if n != count {
			t.Errorf("the test reaches %d fields of %s", n, typ)
		}
	}
	a, b := full(), full()
	checkEqual(t, a, b, true)
	for _, leaf := range leavesOf(&b) {
		before := leaf.Interface()
		for _, other := range others(leaf) {
			leaf.Set(reflect.ValueOf(other))
			checkEqual(t, a, b, false)
			checkEqual(t, b, b, true)
		}
		leaf.Set(reflect.ValueOf(before))
		checkEqual(t, a, b, true)
	}
}

// Timetables that differ in the length of one slice.
func TestEqualEachLength(t *testing.T) {
	for i := range slicesOf(new(full())) {
		a, b := full(), spacious(full())
		list := slicesOf(&b)[i]
		n := list.Len()
		list.SetLen(n + 1)
		checkEqual(t, a, b, false)
		list.Index(n).Set(list.Index(n - 1))
		checkEqual(t, a, b, false)
		list.SetLen(n)
		checkEqual(t, a, b, true)
		for list.Len() > 0 {
			list.SetLen(list.Len() - 1)
			checkEqual(t, a, b, false)
		}
		list.SetZero()
		checkEqual(t, a, b, false)
	}
}

// Timetables that differ in the order of two elements.
func TestEqualOfOrders(t *testing.T) {
	for i := range slicesOf(new(full())) {
		a, b := full(), full()
		list := slicesOf(&b)[i]
		for k := range list.Len() {
			for j := range k {
				swap := reflect.Swapper(list.Interface())
				swap(j, k)
				checkEqual(t, a, b, false)
				swap(j, k)
				checkEqual(t, a, b, true)
			}
		}
	}
}

// Fields and elements that are in another place.
func TestEqualOfOtherPlaces(t *testing.T) {
	for _, c := range [][2]api.Timetable{
		{{Fares: api.Fares{Discount: 5}}, {Fares: api.Fares{Within: 5}}},
		{{Fares: api.Fares{Discount: 5}}, {Fares: api.Fares{Cap: 5}}},
		{{Fares: api.Fares{Within: 5}}, {Fares: api.Fares{Cap: 5}}},
		{{Throughs: []api.Through{{From: 1, To: 2}}}, {Throughs: []api.Through{{From: 2, To: 1}}}},
		{{Throughs: []api.Through{{}}}, {Guarantees: []api.Guarantee{{}}}},
		{{Stops: []api.Stop{{}}}, {Routes: []api.Route{{}}}},
		{{Calendars: []api.Calendar{{}}}, {Exceptions: []api.Exception{{}}}},
		{{Trips: []api.Trip{{Route: 1}}}, {Trips: []api.Trip{{Calendar: 1}}}},
		{{Trips: []api.Trip{{Calls: make([]api.Call, 2)}, {Calls: make([]api.Call, 1)}}}, {Trips: []api.Trip{{Calls: make([]api.Call, 1)}, {Calls: make([]api.Call, 2)}}}},
		{{Trips: []api.Trip{{Calls: make([]api.Call, 3)}, {}}}, {Trips: []api.Trip{{}, {Calls: make([]api.Call, 3)}}}},
		{{Trips: []api.Trip{{}, {}}}, {Trips: []api.Trip{{}}}},
		{{Trips: []api.Trip{{Calls: []api.Call{{Board: true}}}}}, {Trips: []api.Trip{{Calls: []api.Call{{Alight: true}}}}}},
	} {
		checkEqual(t, c[0], c[1], false)
		checkEqual(t, c[0], c[0], true)
		checkEqual(t, c[1], c[1], true)
		checkEqual(t, c[0], api.Timetable{}, false)
	}
	x := full()
	x.Trips[0].Calls, x.Trips[1].Calls = x.Trips[0].Calls[:2], append(x.Trips[0].Calls[2:], x.Trips[1].Calls...)
	checkEqual(t, x, full(), false)
}

func TestEqualSamples(t *testing.T) {
	l := samples()
	for i, a := range l {
		checkEqual(t, a, a, true)
		checkEqual(t, a, Clone(a), true)
		checkEqual(t, a, duplicate(a), true)
		for _, b := range l[:i] {
			checkEqual(t, a, b, wantedEqual(a, b))
		}
	}
}

// P22.4 (Sizes)

// sized returns a timetable with those numbers of elements, whose calls are divided among its trips, and which is not valid.
func sized(n [11]int) api.Timetable {
	x := api.Timetable{
		Stops: make([]api.Stop, n[0]), Routes: make([]api.Route, n[1]), Calendars: make([]api.Calendar, n[2]), Exceptions: make([]api.Exception, n[3]), Trips: make([]api.Trip, n[4]),
		Frequencies: make([]api.Frequency, n[6]), Throughs: make([]api.Through, n[7]), Guarantees: make([]api.Guarantee, n[8]), Paths: make([]api.Footpath, n[9]),
		Fares: api.Fares{Products: make([]api.Product, n[10])},
	}
	for i := range n[5] {
		// Most calls are those of the first trip, and some trips have none.
		y := &x.Trips[max(0, i%8-4)*3%n[4]]
		y.Calls = append(y.Calls, api.Call{Stop: i})
	}
	return x
}

func TestSizesExamples(t *testing.T) {
	checkSizes(t, api.Timetable{}, [11]int{})
	checkSizes(t, full(), fullSizes())
	checkSizes(t, twoStops(), [11]int{2, 1, 1})
	checkSizes(t, longest(), [11]int{64, 64, 64, 256, 256, 8192, 64, 128, 128, 512, 16})
}

func TestSizesOfEachPart(t *testing.T) {
	for i := range 11 {
		for _, count := range []int{0, 1, 2, 17, 64, 65, 300, 5000} {
			var n [11]int
			if n[i] = count; i == 5 {
				n[4] = 1
			}
			checkSizes(t, sized(n), n)
		}
	}
	for seed := range 500 {
		next := source(seed)
		n := [11]int{3, 1, 4, 0, 5, 9, 2, 6, 8, 7, 10}
		for i := range n {
			n[i] += 11 * next(4)
		}
		for i := range n {
			j := next(i + 1)
			n[i], n[j] = n[j], n[i]
		}
		if n[4] == 0 {
			n[4], n[0] = n[0], 0
		}
		checkSizes(t, sized(n), n)
	}
}

func TestSizesOfCalls(t *testing.T) {
	for _, c := range [][]int{nil, {0}, {1}, {2}, {32}, {33}, {1000}, {0, 0}, {0, 1}, {1, 0}, {1, 1, 1}, {0, 5, 0, 7, 0}, {32, 32, 32}, {100, 1, 0, 3}} {
		var x api.Timetable
		sum := 0
		for _, n := range c {
			x.Trips = append(x.Trips, api.Trip{Calls: make([]api.Call, n)})
			sum += n
		}
		checkSizes(t, x, [11]int{4: len(c), 5: sum})
	}
	common := make([]api.Call, 70000)
	x := api.Timetable{Trips: made(70000, func(int) api.Trip { return api.Trip{Calls: common} })}
	checkSizes(t, x, [11]int{4: 70000, 5: 70000 * 70000})
}

func TestSizesSamples(t *testing.T) {
	for _, x := range samples() {
		checkSizes(t, x, wantedSizes(x))
	}
}

// P22.6 (removal)

// removals returns functions that remove the last element of a table from which it can be removed, if it has one.
func removals() []func(x *api.Timetable) {
	return []func(x *api.Timetable){
		func(x *api.Timetable) { x.Exceptions = x.Exceptions[:max(len(x.Exceptions)-1, 0)] },
		func(x *api.Timetable) { x.Frequencies = x.Frequencies[:max(len(x.Frequencies)-1, 0)] },
		func(x *api.Timetable) { x.Throughs = x.Throughs[:max(len(x.Throughs)-1, 0)] },
		func(x *api.Timetable) { x.Guarantees = x.Guarantees[:max(len(x.Guarantees)-1, 0)] },
		func(x *api.Timetable) { x.Paths = x.Paths[:max(len(x.Paths)-1, 0)] },
	}
}

// checkRemovals removes the elements of a valid timetable one after another: of each table alone, of all of them in turn, and in no order.
func checkRemovals(t *testing.T, valid api.Timetable, next func(below int) int) {
	t.Helper()
	checkCheck(t, valid, 0, 0, api.OK)
	most := max(len(valid.Exceptions), len(valid.Frequencies), len(valid.Throughs), len(valid.Guarantees), len(valid.Paths))
	for _, remove := range removals() {
		for x, i := valid, 0; i < most; i++ {
			remove(&x)
			checkCheck(t, x, 0, 0, api.OK)
		}
	}
	for x, i := valid, 0; i < most; i++ {
		for _, remove := range removals() {
			remove(&x)
			checkCheck(t, x, 0, 0, api.OK)
		}
	}
	for x, i := valid, 0; i < 3*most; i++ {
		removals()[next(5)](&x)
		checkCheck(t, x, 0, 0, api.OK)
	}
}

func TestRemovals(t *testing.T) {
	checkRemovals(t, full(), source(1))
	checkRemovals(t, api.Timetable{}, source(1))
	x := longest()
	x.Exceptions, x.Paths = x.Exceptions[:60], x.Paths[:60]
	x.Frequencies, x.Throughs, x.Guarantees = x.Frequencies[:20], x.Throughs[:60], x.Guarantees[:60]
	checkRemovals(t, x, source(1))
	for seed := range 300 {
		next := source(seed)
		checkRemovals(t, scattered(next, -1), next)
	}
}

// All beginnings of the five tables of full together.
func TestRemovalsTogether(t *testing.T) {
	x := full()
	for n := range 5 * 9 * 7 * 8 * 11 {
		y := x
		y.Exceptions, y.Frequencies, y.Throughs = x.Exceptions[:n%5], x.Frequencies[:n/5%9], x.Throughs[:n/45%7]
		y.Guarantees, y.Paths = x.Guarantees[:n/315%8], x.Paths[:n/2520]
		checkCheck(t, y, 0, 0, api.OK)
	}
}

// From the other tables the last element cannot be removed while something refers to it.
func TestOtherRemovals(t *testing.T) {
	for i, remove := range []func(x *api.Timetable){
		func(x *api.Timetable) { x.Stops = x.Stops[:4] },
		func(x *api.Timetable) { x.Routes = x.Routes[:1] },
		func(x *api.Timetable) { x.Calendars = x.Calendars[:2] },
		func(x *api.Timetable) { x.Trips = x.Trips[:11] },
	} {
		x := full()
		remove(&x)
		if _, _, e := Check(x); e != api.ErrReference {
			t.Errorf("case %d: the error is %d", i, e)
		}
	}
}

// All functions, compared with the definitions.

func TestAgainstDefinitions(t *testing.T) {
	count := map[[2]int]int{}
	var sizes [11]int
	for seed := range 6600 {
		next := source(seed)
		wrong := seed%(parts+1) - 1
		x := scattered(next, wrong)
		part, e := checkAll(t, x)
		if e != api.OK && part != wrong {
			t.Errorf("part %d of %s is wrong", part, text(x))
		}
		count[[2]int{part, int(e)}]++
		for i, n := range Sizes(x) {
			sizes[i] += n
		}
		y := scattered(source(seed+next(2)), wrong)
		checkEqual(t, x, y, wantedEqual(x, y))
	}
	for part := range parts {
		n := 0
		for at, c := range count {
			if at[0] == part {
				n += c
			}
		}
		if n < 100 {
			t.Errorf("part %d is wrong only %d times", part, n)
		}
	}
	if count[[2]int{parts, int(api.OK)}] < 600 || len(count) < 40 || slices.Min(sizes[:]) < 4000 {
		t.Errorf("the results are %v, and the sizes %v", count, sizes)
	}
}

// Two fields of a timetable that is made without a pattern are exchanged for others.
func TestScatteredChanges(t *testing.T) {
	for seed := range 6000 {
		next := source(seed)
		x := scattered(next, -1)
		y := duplicate(x)
		l := leavesOf(&y)
		for range 1 + next(2) {
			leaf := l[next(len(l))]
			other := others(leaf)
			leaf.Set(reflect.ValueOf(other[next(len(other))]))
		}
		checkEqual(t, x, y, wantedEqual(x, y))
		checkAll(t, y)
	}
}

// Integers at both ends in each field.
func TestIntegersAtTheEnds(t *testing.T) {
	x := full()
	for _, leaf := range leavesOf(&x) {
		if leaf.Kind() != reflect.Int {
			continue
		}
		before := leaf.Int()
		for _, n := range edges() {
			leaf.SetInt(int64(n))
			checkDefinition(t, x)
			checkEqual(t, x, full(), int64(n) == before)
		}
		leaf.SetInt(least)
		checkAll(t, x)
		leaf.SetInt(greatest)
		checkAll(t, x)
		leaf.SetInt(before)
	}
	checkEqual(t, x, full(), true)
}

// Rules: arguments are neither changed nor retained, and calls do not affect each other.

func TestArgumentsAreNotChanged(t *testing.T) {
	for _, original := range samples() {
		x, y := spacious(original), spacious(original)
		for _, call := range []func(){
			func() { Check(x) },
			func() { Clone(x) },
			func() { Equal(x, y) },
			func() { Equal(y, x) },
			func() { Equal(x, x) },
			func() { Sizes(x) },
		} {
			kept, keptOther := keeper(&x), keeper(&y)
			if call(); !kept() || !keptOther() {
				t.Fatalf("a call changed %s to %s", text(original), text(x))
			}
		}
	}
}

func TestCallsDoNotAffectEachOther(t *testing.T) {
	twice := full()
	twice.Stops[1].ID = "S0"
	for range 3 {
		checkCheck(t, full(), 0, 0, api.OK)
		checkCheck(t, twice, 0, 1, api.ErrDuplicate)
		checkCheck(t, full(), 0, 0, api.OK)
		checkEqual(t, full(), twice, false)
		checkEqual(t, full(), full(), true)
		checkSizes(t, full(), fullSizes())
		checkSizes(t, api.Timetable{}, [11]int{})
		copied := Clone(full())
		copied.Trips[3].Calls[1].Stop = -7
		copied.Fares.Products[2].ID = "spoilt"
		checkEqual(t, Clone(full()), full(), true)
		checkEqual(t, Clone(twice), twice, true)
	}
	sizes := Sizes(full())
	sizes[3] = -1
	checkSizes(t, full(), fullSizes())
}

// P1: every function terminates and does not panic.

// Tables that are much longer than any that is valid.
func TestLongTables(t *testing.T) {
	for i, n := range []int{100000, 90000, 80000, 70000, 60000, 0, 50000, 40000, 30000, 20000, 10000} {
		var counts [11]int
		counts[i] = n
		x := sized(counts)
		checkSizes(t, x, counts)
		if y := Clone(x); !Equal(x, y) || Equal(x, api.Timetable{}) != (n == 0) {
			t.Errorf("a copy of %d elements of number %d is not equal", n, i)
		}
		if n > 0 {
			checkCheck(t, x, []int{0, 1, 2, 3, 4, 4, 5, 6, 7, 8, 9}[i], 0, api.ErrLimit)
		}
	}
	x := api.Timetable{Trips: []api.Trip{{Calls: make([]api.Call, 200000)}}}
	checkAll(t, x)
	x = full()
	x.Trips[4].Calls = calls(3, 200000, 4000)
	checkCheck(t, x, partTrips, 4, api.ErrLimit)
	checkEqual(t, x, full(), false)
}

// Frequencies with as many starts as possible.
func TestManyStarts(t *testing.T) {
	x := full()
	x.Frequencies = made(mostFrequencies, func(i int) api.Frequency {
		return api.Frequency{Trip: 7 + i%5, From: 5000, To: mostTime - 100, Every: 1}
	})
	checkCheck(t, x, partFrequencies, 0, api.ErrFrequency)
	checkAll(t, x)
}

// fromBytes returns a function that returns integers from 0, up to the one before below, that the bytes give, and then 0.
func fromBytes(data []byte) func(below int) int {
	return func(below int) int {
		if len(data) == 0 {
			return 0
		}
		n := int(data[0])
		data = data[1:]
		if below > 256 && len(data) > 0 {
			n = n<<8 + int(data[0])
			data = data[1:]
		}
		return n % below
	}
}

func FuzzTimetable(f *testing.F) {
	for seed := range 12 {
		next := source(seed)
		data := make([]byte, 100*seed)
		for i := range data {
			data[i] = byte(next(256))
		}
		f.Add(data, seed-1, seed*seed, least+seed)
		f.Add(data, -1, greatest-seed, seed*1000)
		f.Add(data, seed, -seed, greatest-seed)
	}
	f.Fuzz(func(t *testing.T, data []byte, wrong, place, n int) {
		x := scattered(fromBytes(data[:min(len(data), 3000)]), wrong)
		part, e := checkAll(t, x)
		if e != api.OK && part != wrong {
			t.Errorf("part %d of %s is wrong", part, text(x))
		}
		y := duplicate(x)
		leaf := leavesOf(&y)[uint(place)%uint(len(leavesOf(&y)))]
		if leaf.Kind() == reflect.Int {
			leaf.SetInt(int64(n))
		} else {
			change(leaf)
		}
		checkEqual(t, x, y, wantedEqual(x, y))
		checkAll(t, y)
	})
}
