package lint_test

import (
	"fmt"
	"reflect"
	"slices"
	"strings"
	"testing"

	"transit/api"
	"transit/lint"
	"transit/timetable"
)

// P24.1 (Warnings): timetables that timetable.Check refuses.

// spoilers returns functions that make one of the ten parts of full invalid, in the order of the parts.
func spoilers() []func(x *api.Timetable) {
	return []func(x *api.Timetable){
		func(x *api.Timetable) { x.Stops[6].Zone = 16 },
		func(x *api.Timetable) { x.Routes[4].ID = "r0" },
		func(x *api.Timetable) { x.Calendars[2].To = mostDay + 1 },
		func(x *api.Timetable) { x.Exceptions[2].Calendar = 4 },
		func(x *api.Timetable) { x.Trips[5].Calls[2].Stop = 7 },
		func(x *api.Timetable) { x.Frequencies[1].Every = 0 },
		func(x *api.Timetable) { x.Throughs[1].To = 3 },
		func(x *api.Timetable) { x.Guarantees[0].Stop = 2; x.Trips[0].Calls[2].Alight = false },
		func(x *api.Timetable) { x.Paths[1].Seconds = 14401 },
		func(x *api.Timetable) { x.Fares.Cap = -1 },
	}
}

func TestRefusedParts(t *testing.T) {
	for part, spoil := range spoilers() {
		x := full()
		spoil(&x)
		if p, _, _ := timetable.Check(x); p != part {
			t.Errorf("the part %d is wrong; want %d", p, part)
		}
		checkRefused(t, x)
		for _, other := range spoilers() {
			y := full()
			spoil(&y)
			other(&y)
			checkRefused(t, y)
		}
	}
}

// Timetables in which nothing but one thing is wrong.
func TestRefusedAlone(t *testing.T) {
	for _, x := range []api.Timetable{
		{Stops: []api.Stop{{ID: ""}}},
		{Stops: []api.Stop{{ID: "a"}, {ID: "a"}}},
		{Stops: stops(65)},
		{Routes: []api.Route{{ID: "a", Mode: 8}}},
		{Routes: []api.Route{{ID: "a", Mode: -1}}},
		{Routes: routes(65)},
		{Calendars: []api.Calendar{{ID: "a", From: 1}}},
		{Calendars: calendars(65)},
		{Exceptions: []api.Exception{{}}},
		{Trips: []api.Trip{{ID: "a"}}},
		{Stops: stops(2), Routes: routes(1), Calendars: calendars(1), Trips: []api.Trip{{ID: "a"}}},
		{Stops: stops(2), Routes: routes(1), Calendars: calendars(1), Trips: []api.Trip{{ID: "a", Calls: calls("0b")}}},
		{Frequencies: []api.Frequency{{}}},
		{Throughs: []api.Through{{}}},
		{Guarantees: []api.Guarantee{{}}},
		{Paths: []api.Footpath{{}}},
		{Fares: api.Fares{Discount: -1}},
		{Fares: api.Fares{Products: []api.Product{{ID: "a", Rides: 1, Zones: 1}}}},
		{Fares: api.Fares{Products: []api.Product{{ID: "a", Rides: 1, Zones: 1, Modes: 256}}}},
	} {
		checkRefused(t, x)
		checkTexts(t, x, -1, 0, 1, 64)
	}
}

// References that lead nowhere, at both ends of the ints as well.
func TestRefusedReferences(t *testing.T) {
	for _, n := range []int{least, -1, 7, greatest} {
		for i, spoil := range []func(x *api.Timetable){
			func(x *api.Timetable) { x.Exceptions[0].Calendar = n },
			func(x *api.Timetable) { x.Trips[0].Route = n },
			func(x *api.Timetable) { x.Trips[6].Calendar = n },
			func(x *api.Timetable) { x.Trips[3].Calls[0].Stop = n },
			func(x *api.Timetable) { x.Trips[3].Calls[1].Stop = n },
			func(x *api.Timetable) { x.Frequencies[0].Trip = n },
			func(x *api.Timetable) { x.Throughs[0].From = n },
			func(x *api.Timetable) { x.Throughs[1].To = n },
			func(x *api.Timetable) { x.Guarantees[0].From = n },
			func(x *api.Timetable) { x.Guarantees[0].To = n },
			func(x *api.Timetable) { x.Guarantees[1].Stop = n },
			func(x *api.Timetable) { x.Paths[0].From = n },
			func(x *api.Timetable) { x.Paths[1].To = n },
		} {
			x := full()
			spoil(&x)
			if checkRefused(t, x); t.Failed() {
				t.Fatalf("case %d", i)
			}
			checkTexts(t, x, -1, 0, 3, 7)
		}
	}
}

// The zero timetable, and timetables without trips.

func TestZeroTimetable(t *testing.T) {
	checkWarnings(t, api.Timetable{})
	checkWarnings(t, api.Timetable{Stops: []api.Stop{}, Routes: []api.Route{}, Calendars: []api.Calendar{}, Trips: []api.Trip{}, Paths: []api.Footpath{}})
	checkWarnings(t, api.Timetable{Fares: api.Fares{Products: []api.Product{{ID: "p", Rides: 1, Zones: 1, Modes: 1}}, Cap: 5}})
}

func TestNoTrips(t *testing.T) {
	x := withTrips()
	x.Paths = []api.Footpath{{From: 4, To: 1, Seconds: 5}}
	x.Calendars[1].Week = [7]bool{}
	checkWarnings(t, x,
		lint.Warning{unusedStop, 0, 0}, lint.Warning{unusedStop, 2, 0}, lint.Warning{unusedStop, 3, 0},
		lint.Warning{unusedRoute, 0, 0}, lint.Warning{unusedRoute, 1, 0}, lint.Warning{unusedRoute, 2, 0},
		lint.Warning{unusedCalendar, 0, 0}, lint.Warning{unusedCalendar, 1, 0}, lint.Warning{unusedCalendar, 2, 0},
		lint.Warning{unreachable, 0, 0}, lint.Warning{unreachable, 2, 0}, lint.Warning{unreachable, 3, 0}, lint.Warning{unreachable, 4, 0})
	checkAll(t, x)
	checkWarnings(t, api.Timetable{Stops: stops(1)}, lint.Warning{unusedStop, 0, 0}, lint.Warning{unreachable, 0, 0})
	checkWarnings(t, api.Timetable{Routes: routes(1)}, lint.Warning{unusedRoute, 0, 0})
	checkWarnings(t, api.Timetable{Calendars: calendars(1)}, lint.Warning{unusedCalendar, 0, 0})
	all := longest(false)
	checkKind(t, all, unusedStop, made(64, func(i int) int { return i })...)
	checkKind(t, all, unusedRoute, made(64, func(i int) int { return i })...)
	checkKind(t, all, unusedCalendar, made(64, func(i int) int { return i })...)
	checkKind(t, all, unreachable, made(64, func(i int) int { return i })...)
	for _, kind := range []int{neverRuns, overtaking, noProduct} {
		checkKind(t, all, kind)
	}
}

// UnusedStop

func TestUnusedStop(t *testing.T) {
	for i, c := range []struct {
		trips []string
		paths []api.Footpath
		want  []int
	}{
		{[]string{"0ba 1ba"}, nil, []int{2, 3, 4}},
		{[]string{"0ba 1ba"}, []api.Footpath{{From: 2, To: 0, Seconds: 1}}, []int{3, 4}},
		{[]string{"0ba 1ba"}, []api.Footpath{{From: 0, To: 2, Seconds: 1}}, []int{3, 4}},
		{[]string{"0ba 1ba"}, []api.Footpath{{From: 0, To: 3, Seconds: 14400, StepFree: true}}, []int{2, 4}},
		{[]string{"0ba 1ba"}, []api.Footpath{{From: 4, To: 3, Seconds: 14400}, {From: 4, To: 2, Seconds: 1}}, nil},
		{[]string{"0ba 1ba"}, []api.Footpath{{From: 0, To: 1, Seconds: 1}, {From: 1, To: 0, Seconds: 1}}, []int{2, 3, 4}},
		{[]string{"0ba 4 1ba"}, nil, []int{2, 3}},
		{[]string{"0 1"}, nil, []int{2, 3, 4}},
		{[]string{"3 1"}, nil, []int{0, 2, 4}},
		{[]string{"3 4"}, nil, []int{0, 1, 2}},
		{[]string{"3b 1a", "1b 4a"}, nil, []int{0, 2}},
		{[]string{"1b 2a 0"}, nil, []int{3, 4}},
		{[]string{"1b 2a", "2b 1a", "1 0 2 4 1 3"}, nil, nil},
		{[]string{"1b 2a 1a 2a", "2b 1a"}, nil, []int{0, 3, 4}},
		{[]string{"0b 1a", "1b 2a", "2b 3a"}, nil, []int{4}},
		{nil, nil, []int{0, 1, 2, 3, 4}},
		{nil, []api.Footpath{{From: 0, To: 1, Seconds: 1}}, []int{2, 3, 4}},
	} {
		x := withTrips(c.trips...)
		x.Paths = c.paths
		if checkKind(t, x, unusedStop, c.want...); t.Failed() {
			t.Fatalf("case %d", i)
		}
	}
}

// Each stop is used by one call or at one end of a footpath alone.
func TestUnusedStopAtEachPlace(t *testing.T) {
	for n := 2; n <= 32; n++ {
		for place := range n {
			x := withTrips("0ba 1ba", strings.Repeat("0 1 ", n/2)+strings.Repeat("0 ", n%2), "1ba 0ba")
			x.Trips[1].Calls[place].Stop = 3
			checkKind(t, x, unusedStop, 2, 4)
		}
	}
	for used := range 5 {
		for other := range 5 {
			if other == used {
				continue
			}
			x := withTrips()
			want := slices.DeleteFunc([]int{0, 1, 2, 3, 4}, func(i int) bool { return i == used || i == other })
			x.Paths = []api.Footpath{{From: used, To: other, Seconds: 60}}
			checkKind(t, x, unusedStop, want...)
		}
	}
}

// UnusedRoute and UnusedCalendar

// missing returns the integers from 0 to 3 that a list does not have.
func missing(l ...int) []int {
	return slices.DeleteFunc([]int{0, 1, 2, 3}, func(i int) bool { return slices.Contains(l, i) })
}

// All routes, or all calendars, that three trips can have.
func TestUnusedRouteAndCalendar(t *testing.T) {
	for n := range 4 * 4 * 4 {
		first, middle, last := n%4, n/4%4, n/16
		x := withTrips("0b 1a", "1b 2a", "2b 3a")
		x.Routes, x.Calendars = routes(4), calendars(4)
		x.Trips[0].Route, x.Trips[1].Route, x.Trips[2].Route = first, middle, last
		x.Trips[0].Calendar, x.Trips[1].Calendar, x.Trips[2].Calendar = last, first, middle
		checkKind(t, x, unusedRoute, missing(first, middle, last)...)
		checkKind(t, x, unusedCalendar, missing(first, middle, last)...)
		x.Trips[0].Calendar, x.Trips[1].Calendar, x.Trips[2].Calendar = 2, 2, 2
		checkKind(t, x, unusedRoute, missing(first, middle, last)...)
		checkKind(t, x, unusedCalendar, 0, 1, 3)
	}
}

// A calendar is not used by an exception that names it, nor a route by a product that has its mode.
func TestNamedButUnused(t *testing.T) {
	x := withTrips("0b 1a", "1b 0a")
	x.Exceptions = []api.Exception{{Calendar: 2, Day: 5, Added: true}, {Calendar: 2, Day: 6}, {Calendar: 1, Day: 6}}
	x.Fares.Products = []api.Product{{ID: "p", Rides: 1, Zones: 1, Modes: 255}}
	x.Frequencies = []api.Frequency{{Trip: 0, From: 5000, To: 6000, Every: 100}, {Trip: 1, From: 5000, To: 6000, Every: 100}}
	checkKind(t, x, unusedCalendar, 1, 2)
	checkKind(t, x, unusedRoute, 1, 2)
	x.Trips[1].Calendar, x.Trips[1].Route = 2, 1
	checkKind(t, x, unusedCalendar, 1)
	checkKind(t, x, unusedRoute, 2)
	x.Trips = nil
	x.Frequencies = nil
	checkKind(t, x, unusedCalendar, 0, 1, 2)
	checkKind(t, x, unusedRoute, 0, 1, 2)
}

// One element of a table with as many elements as can be valid is not used.
func TestUnusedInLongTables(t *testing.T) {
	for i := range 64 {
		x := longest(true)
		for k := range x.Trips {
			if x.Trips[k].Route == i {
				x.Trips[k].Route = (i + 1) % 64
			}
			if x.Trips[k].Calendar == i {
				x.Trips[k].Calendar = (i + 63) % 64
			}
		}
		var got []lint.Warning
		for _, w := range lint.Warnings(x) {
			if w.Kind <= unusedCalendar {
				got = append(got, w)
			}
		}
		if want := []lint.Warning{{unusedRoute, i, 0}, {unusedCalendar, i, 0}}; !slices.Equal(got, want) {
			t.Errorf("the warnings are %v; want %v", got, want)
		}
	}
}

// NeverRuns

// withCalendar returns a timetable in which the trips 1 and 3 have the calendar 1, which is given, and the trips 0 and 2 one that is active.
func withCalendar(c api.Calendar, exceptions ...api.Exception) api.Timetable {
	x := withTrips("0b 1a", "1b 2a", "2b 3a", "3b 4a")
	c.ID = "given"
	x.Calendars[1] = c
	x.Trips[1].Calendar, x.Trips[3].Calendar = 1, 1
	x.Exceptions = exceptions
	return x
}

// removed returns exceptions that remove n days of the calendar 1 from that day on.
func removed(from, n int) []api.Exception {
	return made(n, func(i int) api.Exception { return api.Exception{Calendar: 1, Day: from + i} })
}

// week returns a week in which only that day, from 0 for Monday to 6, is active.
func week(day int) [7]bool {
	var w [7]bool
	w[day] = true
	return w
}

func TestNeverRuns(t *testing.T) {
	added := func(calendar, day int) api.Exception {
		return api.Exception{Calendar: calendar, Day: day, Added: true}
	}
	for i, c := range []struct {
		calendar   api.Calendar
		exceptions []api.Exception
		want       bool
	}{
		{api.Calendar{Week: every(true)}, nil, false},
		{api.Calendar{Week: every(true), To: mostDay}, nil, false},
		{api.Calendar{Week: every(true), From: mostDay, To: mostDay}, nil, false},
		{api.Calendar{Week: every(false), To: mostDay}, nil, true},
		{api.Calendar{Week: every(false)}, nil, true},
		// Day 0 was a Saturday, and day 36524 will be a Thursday.
		{api.Calendar{Week: week(5)}, nil, false},
		{api.Calendar{Week: week(6)}, nil, true},
		{api.Calendar{Week: week(4), To: 5}, nil, true},
		{api.Calendar{Week: week(4), To: 6}, nil, false},
		{api.Calendar{Week: week(3), From: mostDay, To: mostDay}, nil, false},
		{api.Calendar{Week: week(2), From: mostDay, To: mostDay}, nil, true},
		{api.Calendar{Week: week(4), From: mostDay - 5, To: mostDay}, nil, true},
		{api.Calendar{Week: week(4), From: mostDay - 6, To: mostDay}, nil, false},
		// All days are removed, or all but one.
		{api.Calendar{Week: every(true)}, removed(0, 1), true},
		{api.Calendar{Week: every(true), From: 3, To: 3}, removed(3, 1), true},
		{api.Calendar{Week: every(true), From: 3, To: 3}, removed(2, 1), false},
		{api.Calendar{Week: every(true), From: 3, To: 4}, removed(3, 2), true},
		{api.Calendar{Week: every(true), From: 3, To: 4}, removed(4, 2), false},
		{api.Calendar{Week: every(true), From: 3, To: 4}, removed(2, 2), false},
		{api.Calendar{Week: every(true), From: 100, To: 355}, removed(100, 256), true},
		{api.Calendar{Week: every(true), From: 100, To: 356}, removed(100, 256), false},
		{api.Calendar{Week: every(true), From: 99, To: 354}, removed(100, 256), false},
		{api.Calendar{Week: every(true), From: mostDay - 255, To: mostDay}, removed(mostDay-255, 256), true},
		{api.Calendar{Week: every(true), From: mostDay - 256, To: mostDay}, removed(mostDay-256, 256), false},
		{api.Calendar{Week: week(0), From: 0, To: 15}, []api.Exception{{Calendar: 1, Day: 2}, {Calendar: 1, Day: 9}}, true},
		{api.Calendar{Week: week(0), From: 0, To: 16}, []api.Exception{{Calendar: 1, Day: 2}, {Calendar: 1, Day: 9}}, false},
		// The exceptions are for another calendar.
		{api.Calendar{Week: every(true)}, []api.Exception{{Calendar: 2, Day: 0}}, false},
		{api.Calendar{Week: every(false)}, []api.Exception{added(0, 0), added(2, 0)}, true},
		// Only an exception makes it active.
		{api.Calendar{Week: every(false)}, []api.Exception{added(1, 0)}, false},
		{api.Calendar{Week: every(false)}, []api.Exception{added(1, mostDay)}, false},
		{api.Calendar{Week: every(false)}, []api.Exception{added(1, 20000)}, false},
		{api.Calendar{Week: every(false), To: mostDay}, []api.Exception{added(2, 0), added(1, mostDay)}, false},
		{api.Calendar{Week: every(false), From: mostDay, To: mostDay}, []api.Exception{{Calendar: 1, Day: 1}, added(1, 0)}, false},
		{api.Calendar{Week: every(true), From: 5, To: 6}, append(removed(5, 2), added(1, 7)), false},
		{api.Calendar{Week: every(true), From: 5, To: 6}, append(removed(5, 2), added(0, 7)), true},
		{api.Calendar{Week: every(true), From: 5, To: 6}, append(removed(5, 1), added(1, 6)), false},
	} {
		var want []int
		if c.want {
			want = []int{1, 3}
		}
		if checkKind(t, withCalendar(c.calendar, c.exceptions...), neverRuns, want...); t.Failed() {
			t.Fatalf("case %d", i)
		}
	}
}

// A calendar of which a trip has frequencies, and one that no trip has.
func TestNeverRunsOfOtherTrips(t *testing.T) {
	x := withCalendar(api.Calendar{To: 100})
	x.Frequencies = []api.Frequency{{Trip: 3, From: 5000, To: 6000, Every: 500}}
	x.Calendars[2].Week = every(false)
	checkKind(t, x, neverRuns, 1, 3)
	x.Trips[0].Calendar = 2
	checkKind(t, x, neverRuns, 0, 1, 3)
	x.Exceptions = []api.Exception{{Calendar: 2, Day: mostDay, Added: true}}
	checkKind(t, x, neverRuns, 1, 3)
	x.Calendars[0].Week = every(false)
	checkKind(t, x, neverRuns, 1, 2, 3)
	all := longest(true)
	checkKind(t, all, neverRuns, made(256, func(i int) int { return i })...)
	// Each calendar becomes active on one day, and some do not.
	for i := range 64 {
		all.Exceptions[64*(i%4)+i].Added = i%9 != 0
	}
	checkKind(t, all, neverRuns, slices.DeleteFunc(made(256, func(i int) int { return i }), func(i int) bool { return i*7%64%9 != 0 })...)
}

// All weeks, and periods of 1 to 7 days from each day of the week on, compared with the definition for all days that there are.
func TestNeverRunsOfAllWeeks(t *testing.T) {
	for n := range 128 {
		x := withTrips()
		x.Calendars = made(49, func(i int) api.Calendar {
			c := api.Calendar{ID: name("c", i), From: 700 + i%7, To: 700 + i%7 + i/7}
			for day := range c.Week {
				c.Week[day] = n>>day&1 == 1
			}
			return c
		})
		x.Trips = made(49, func(i int) api.Trip {
			return api.Trip{ID: name("t", i), Calendar: i, Calls: calls("0b 1a")}
		})
		var want []int
		for i, c := range x.Calendars {
			active := false
			for day := c.From; day <= c.To; day++ {
				active = active || c.Week[(day+5)%7]
			}
			if !active {
				want = append(want, i)
			}
		}
		checkKind(t, x, neverRuns, want...)
	}
}

// The test's own definition looks only at some days; here it is compared with that for all days.
func TestIdleCalendars(t *testing.T) {
	count := [2]int{}
	for seed := range 300 {
		x := scattered(source(seed))
		for i := range x.Calendars {
			active := false
			for day := 0; day <= mostDay && !active; day++ {
				active = isActive(x, i, day)
			}
			if isIdle(x, i) == active {
				t.Errorf("calendar %d of %s is active: %v", i, text(x), active)
			}
			if active {
				count[1]++
			} else {
				count[0]++
			}
		}
	}
	if min(count[0], count[1]) < 50 {
		t.Errorf("the numbers of calendars are %v", count)
	}
}

// Overtaking

// pair returns a timetable with two trips with those calls, and with two other trips before and behind them at other stops.
func pair(a, b []api.Call) api.Timetable {
	return withCalls(calls("3b 4a"), a, b, calls("4b 3a"))
}

func TestOvertaking(t *testing.T) {
	for i, c := range []struct {
		a, b []api.Call
		want [][2]int
	}{
		{timed("0b 1a", 100, 100, 200, 200), timed("0b 1a", 110, 110, 190, 190), [][2]int{{2, 1}}},
		{timed("0b 1a", 110, 110, 190, 190), timed("0b 1a", 100, 100, 200, 200), [][2]int{{1, 2}}},
		{timed("0b 1a", 100, 100, 200, 200), timed("0b 1a", 100, 100, 200, 200), nil},
		{timed("0b 1a", 100, 100, 200, 200), timed("0b 1a", 100, 100, 190, 190), nil},
		{timed("0b 1a", 100, 100, 200, 200), timed("0b 1a", 110, 110, 200, 200), nil},
		{timed("0b 1a", 100, 100, 200, 200), timed("0b 1a", 110, 110, 210, 210), nil},
		{timed("0b 1a", 100, 100, 200, 200), timed("0b 1a", 101, 101, 199, 199), [][2]int{{2, 1}}},
		// Within a call.
		{timed("0b 1a", 100, 120, 200, 200), timed("0b 1a", 110, 110, 200, 200), [][2]int{{2, 1}}},
		{timed("0b 1a", 100, 100, 200, 220), timed("0b 1a", 100, 100, 210, 210), [][2]int{{2, 1}}},
		// Each overtakes the other.
		{timed("0b 1 2a", 100, 100, 200, 200, 300, 300), timed("0b 1 2a", 110, 110, 190, 190, 310, 310), [][2]int{{1, 2}, {2, 1}}},
		{timed("0b 1a", 100, 120, 200, 220), timed("0b 1a", 110, 110, 210, 210), [][2]int{{1, 2}, {2, 1}}},
		// Other patterns: fewer calls, other stops, other flags.
		{timed("0b 1a", 100, 100, 200, 200), timed("0b 1a 2a", 110, 110, 190, 190, 400, 400), nil},
		{timed("0b 1a 2a", 110, 110, 190, 190, 400, 400), timed("0b 1a", 100, 100, 200, 200), nil},
		{timed("0b 1a", 100, 100, 200, 200), timed("0b 2a", 110, 110, 190, 190), nil},
		{timed("2b 1a", 100, 100, 200, 200), timed("0b 1a", 110, 110, 190, 190), nil},
		{timed("0b 1a", 100, 100, 200, 200), timed("0 1a", 110, 110, 190, 190), nil},
		{timed("0b 1a", 100, 100, 200, 200), timed("0b 1", 110, 110, 190, 190), nil},
		{timed("0b 1a", 100, 100, 200, 200), timed("0ba 1a", 110, 110, 190, 190), nil},
		{timed("0b 1ba", 100, 100, 200, 200), timed("0b 1a", 110, 110, 190, 190), nil},
		{timed("0 1", 100, 100, 200, 200), timed("0 1", 110, 110, 190, 190), [][2]int{{2, 1}}},
		{timed("0b 1a", 0, 0, mostTime, mostTime), timed("0b 1a", 1, 1, mostTime-1, mostTime-1), [][2]int{{2, 1}}},
	} {
		if checkOvertakings(t, pair(c.a, c.b), c.want...); t.Failed() {
			t.Fatalf("case %d", i)
		}
	}
}

// Calendars, frequencies and other fields of two trips that overtake each other.
func TestOvertakingOfOtherTrips(t *testing.T) {
	slow, fast := timed("0b 1 2a", 1000, 1000, 1100, 1100, 1300, 1300), timed("0b 1 2a", 1010, 1010, 1090, 1090, 1310, 1310)
	often := func(trips ...int) []api.Frequency {
		return made(len(trips), func(i int) api.Frequency {
			return api.Frequency{Trip: trips[i], From: 5000 + i, To: 5001 + i, Every: 9}
		})
	}
	both := [][2]int{{1, 2}, {2, 1}}
	for i, c := range []struct {
		change func(x *api.Timetable)
		want   [][2]int
	}{
		{func(x *api.Timetable) {}, both},
		{func(x *api.Timetable) { x.Trips[1].Calendar = 1 }, nil},
		{func(x *api.Timetable) { x.Trips[2].Calendar = 1 }, nil},
		{func(x *api.Timetable) { x.Trips[1].Calendar, x.Trips[2].Calendar = 2, 1 }, nil},
		{func(x *api.Timetable) { x.Trips[1].Calendar, x.Trips[2].Calendar = 2, 2 }, both},
		{func(x *api.Timetable) { x.Trips[2].Calendar, x.Calendars[1].To = 1, 100 }, nil},
		{func(x *api.Timetable) { x.Calendars[0].Week = every(false) }, both},
		{func(x *api.Timetable) { x.Frequencies = often(1) }, nil},
		{func(x *api.Timetable) { x.Frequencies = often(2) }, nil},
		{func(x *api.Timetable) { x.Frequencies = often(1, 2) }, nil},
		{func(x *api.Timetable) { x.Frequencies = often(2, 2, 1) }, nil},
		{func(x *api.Timetable) { x.Frequencies = often(0) }, both},
		{func(x *api.Timetable) { x.Frequencies = often(3, 0, 3) }, both},
		{func(x *api.Timetable) { x.Frequencies = often(3, 0, 2) }, nil},
		{func(x *api.Timetable) { x.Trips[1].Calendar, x.Frequencies = 1, often(1) }, nil},
		{func(x *api.Timetable) { x.Trips[1].Route = 1 }, both},
		{func(x *api.Timetable) { x.Trips[1].Route, x.Trips[2].Route = 1, 2 }, both},
		{func(x *api.Timetable) { x.Trips[1].StepFree = true }, both},
		{func(x *api.Timetable) { x.Trips[1].ID, x.Trips[2].ID = "z", "a" }, both},
		{func(x *api.Timetable) {
			x.Trips[3].Calls = timed("2b 3a", 1300, 1300, 1400, 1400)
			x.Throughs = []api.Through{{From: 1, To: 3}}
			x.Guarantees = []api.Guarantee{{From: 1, To: 3, Stop: 2}}
		}, both},
	} {
		x := pair(slow, fast)
		c.change(&x)
		if checkOvertakings(t, x, c.want...); t.Failed() {
			t.Fatalf("case %d", i)
		}
	}
}

// All differences of -1, 0 and 1 at the events of two trips with two or three calls, of one calendar or two, with frequencies and without.
func TestOvertakingDifferences(t *testing.T) {
	words := "0b 1ba 2a"
	for n, size := range []int{9 * 9, 27 * 27} {
		base := []int{100, 110, 200, 210, 300, 310}[:4+2*n]
		stops := words[:6+3*n]
		for code := range size {
			times := slices.Clone(base)
			for i, rest := 0, code; i < len(times); i, rest = i+1, rest/3 {
				times[i] += rest%3 - 1
			}
			for kind := range 8 {
				x := pair(timed(stops, base...), timed(stops, times...))
				x.Trips[2].Calendar = kind % 2
				if kind/2%2 == 1 {
					x.Frequencies = append(x.Frequencies, api.Frequency{Trip: 1, From: 500, To: 501, Every: 1})
				}
				if kind/4 == 1 {
					x.Frequencies = append(x.Frequencies, api.Frequency{Trip: 2, From: 500, To: 501, Every: 1})
				}
				checkDefinition(t, x)
			}
		}
	}
}

// Three trips, all of whose pairs are in order of A and then B.
func TestOvertakingOrder(t *testing.T) {
	words := "0b 1 2a"
	x := withCalls(
		timed(words, 100, 100, 200, 200, 300, 300),
		timed(words, 110, 110, 190, 190, 310, 310),
		timed(words, 120, 120, 180, 180, 320, 320))
	checkOvertakings(t, x, [2]int{0, 1}, [2]int{0, 2}, [2]int{1, 0}, [2]int{1, 2}, [2]int{2, 0}, [2]int{2, 1})
	x = withCalls(timed("0b 1a", 100, 100, 200, 200), timed("0b 1a", 110, 110, 190, 190), timed("0b 1a", 120, 120, 180, 180))
	checkOvertakings(t, x, [2]int{1, 0}, [2]int{2, 0}, [2]int{2, 1})
}

// Each two of as many trips as there can be, with as many calls as there can be.
func TestOvertakingOfAllTrips(t *testing.T) {
	x := longest(true)
	x.Frequencies = nil
	for i := range x.Trips {
		x.Trips[i].Calendar = 5
	}
	var want [][2]int
	for a := range 256 {
		for b := range 256 {
			if a != b {
				want = append(want, [2]int{a, b})
			}
		}
	}
	var got [][2]int
	for _, w := range lint.Warnings(x) {
		if w.Kind == overtaking {
			got = append(got, [2]int{w.A, w.B})
		}
	}
	if !slices.Equal(got, want) {
		t.Errorf("there are %d overtakings; want %d", len(got), len(want))
	}
}

// Unreachable

func TestUnreachable(t *testing.T) {
	for i, c := range []struct {
		trips []string
		paths []api.Footpath
		want  []int
	}{
		{nil, nil, []int{0, 1, 2, 3, 4}},
		{[]string{"0b 1a"}, nil, []int{0, 2, 3, 4}},
		// Alight at the first call, alone and together with a later one.
		{[]string{"0ba 1a"}, nil, []int{0, 2, 3, 4}},
		{[]string{"0ba 1a", "0a 1a"}, nil, []int{0, 2, 3, 4}},
		{[]string{"0ba 1a", "1b 0a"}, nil, []int{2, 3, 4}},
		{[]string{"1b 0a 2a", "0a 1"}, nil, []int{1, 3, 4}},
		// The last call, and one between.
		{[]string{"0b 1 2 3a"}, nil, []int{0, 1, 2, 4}},
		{[]string{"0b 1 2a 3"}, nil, []int{0, 1, 3, 4}},
		{[]string{"0b 1a 2 3"}, nil, []int{0, 2, 3, 4}},
		{[]string{"0ba 1 2 3"}, nil, []int{0, 1, 2, 3, 4}},
		// A stop at which a trip calls twice.
		{[]string{"0ba 1 0"}, nil, []int{0, 1, 2, 3, 4}},
		{[]string{"0 1 0a"}, nil, []int{1, 2, 3, 4}},
		{[]string{"0ba 1 0a"}, nil, []int{1, 2, 3, 4}},
		{[]string{"1b 0 1 0a"}, nil, []int{1, 2, 3, 4}},
		{[]string{"1b 0a 1 0"}, nil, []int{1, 2, 3, 4}},
		// Only boarding is allowed, or nothing.
		{[]string{"0b 1b 2b 3b"}, nil, []int{0, 1, 2, 3, 4}},
		{[]string{"0b 1b 2a", "2b 3 0a"}, nil, []int{1, 3, 4}},
		{[]string{"0 1 2 3 4"}, nil, []int{0, 1, 2, 3, 4}},
		{[]string{"0a 1ba 2ba 3ba 4ba", "4a 3ba 2a 1a 0a"}, nil, nil},
		// Footpaths that begin there, or end there.
		{[]string{"0b 1a"}, []api.Footpath{{From: 0, To: 1, Seconds: 1}}, []int{0, 2, 3, 4}},
		{[]string{"0b 1a"}, []api.Footpath{{From: 1, To: 0, Seconds: 1}}, []int{2, 3, 4}},
		{[]string{"0b 1a"}, []api.Footpath{{From: 3, To: 4, Seconds: 14400}}, []int{0, 2, 3}},
		{[]string{"0b 1a"}, []api.Footpath{{From: 3, To: 4, Seconds: 14400, StepFree: true}, {From: 2, To: 3, Seconds: 5}}, []int{0, 2}},
		{nil, []api.Footpath{{From: 1, To: 2, Seconds: 60}, {From: 2, To: 1, Seconds: 60}}, []int{0, 3, 4}},
	} {
		x := withTrips(c.trips...)
		x.Paths = c.paths
		if checkKind(t, x, unreachable, c.want...); t.Failed() {
			t.Fatalf("case %d", i)
		}
	}
}

// Alight at one call alone, at each place of a trip with each number of calls.
func TestUnreachableAtEachPlace(t *testing.T) {
	for n := 2; n <= 32; n++ {
		for place := range n {
			x := withTrips("0b 1b", strings.Repeat("0b 1b ", n/2)+strings.Repeat("0b ", n%2))
			x.Trips[1].Calls[place] = api.Call{Stop: 3, Arrive: x.Trips[1].Calls[place].Arrive, Depart: x.Trips[1].Calls[place].Depart, Alight: true}
			if place == 0 {
				checkKind(t, x, unreachable, 0, 1, 2, 3, 4)
			} else {
				checkKind(t, x, unreachable, 0, 1, 2, 4)
			}
		}
	}
	checkKind(t, longest(true), unreachable, append(made(32, func(i int) int { return i }), 63)...)
}

// NoProduct

// All sets of modes of one product, with one route of each mode.
func TestNoProductModes(t *testing.T) {
	for set := range 256 {
		x := withTrips("0b 1a", "0b 1a", "0b 1a", "0b 1a", "0b 1a", "0b 1a", "0b 1a", "0b 1a")
		x.Routes = routes(8)
		for i := range x.Trips {
			x.Trips[i].Route = i
		}
		if set > 0 {
			x.Fares.Products = []api.Product{{ID: "p", Rides: 1, Zones: 1, Modes: set}}
		}
		var want []int
		for mode := range 8 {
			if set>>mode%2 == 0 {
				want = append(want, mode)
			}
		}
		checkKind(t, x, noProduct, want...)
	}
}

// One route of each mode, with products for it alone, for the others alone, and for several modes.
func TestNoProductOfEachMode(t *testing.T) {
	for mode := range 8 {
		own := 1 << mode
		rest := 255 - own
		for i, c := range []struct {
			sets []int
			want bool
		}{
			{nil, true},
			{[]int{own}, false},
			{[]int{rest}, true},
			{[]int{255}, false},
			{[]int{rest, own}, false},
			{[]int{own, rest}, false},
			{[]int{own, own, own}, false},
			{[]int{rest, rest, rest}, true},
			{[]int{1 << ((mode + 1) % 8), 1 << ((mode + 7) % 8)}, true},
			{[]int{1 << ((mode + 1) % 8), own | 1<<((mode+7)%8)}, false},
			{append(slices.Repeat([]int{rest}, 15), own), false},
			{slices.Repeat([]int{rest}, 16), true},
		} {
			x := withTrips("0b 1a")
			x.Routes = []api.Route{{ID: "other", Mode: (mode + 1) % 8}, {ID: "r", Mode: mode}}
			x.Trips[0].Route = 1
			x.Fares.Products = made(len(c.sets), func(i int) api.Product {
				return api.Product{ID: name("p", i), Price: 100 * i, Rides: 1, Zones: 1, Modes: c.sets[i]}
			})
			want := []int{1}
			if !c.want {
				want = nil
			}
			if checkKind(t, x, noProduct, want...); t.Failed() {
				t.Fatalf("mode %d, case %d", mode, i)
			}
		}
	}
}

// Routes without trips have no such warning; those of several trips, in any order, have one.
func TestNoProductRoutes(t *testing.T) {
	x := withTrips("0b 1a", "0b 1a", "0b 1a", "0b 1a")
	x.Routes = []api.Route{{ID: "a"}, {ID: "b"}, {ID: "c", Mode: 7}, {ID: "d"}, {ID: "e"}}
	for i, c := range []struct {
		routes [4]int
		want   []int
	}{
		{[4]int{0, 0, 0, 0}, []int{0}},
		{[4]int{4, 4, 4, 4}, []int{4}},
		{[4]int{3, 2, 1, 0}, []int{0, 1, 2, 3}},
		{[4]int{4, 1, 4, 1}, []int{1, 4}},
		{[4]int{1, 4, 4, 1}, []int{1, 4}},
		{[4]int{2, 2, 1, 2}, []int{1, 2}},
	} {
		for k := range x.Trips {
			x.Trips[k].Route = c.routes[k]
		}
		x.Fares.Products = nil
		if checkKind(t, x, noProduct, c.want...); t.Failed() {
			t.Fatalf("case %d", i)
		}
		x.Fares.Products = []api.Product{{ID: "p", Rides: 1, Zones: 1, Modes: 128}}
		checkKind(t, x, noProduct, slices.DeleteFunc(slices.Clone(c.want), func(i int) bool { return i == 2 })...)
		x.Fares.Products[0].Modes = 1
		checkKind(t, x, noProduct, slices.DeleteFunc(slices.Clone(c.want), func(i int) bool { return i != 2 })...)
	}
	x.Trips = nil
	checkKind(t, x, noProduct)
	all := longest(true)
	checkKind(t, all, noProduct, slices.DeleteFunc(made(64, func(i int) int { return i }), func(i int) bool { return i%8 == 1 })...)
}

// The order of the warnings, and each of them once.

// checkOrder checks that each warning is less than the next one.
func checkOrder(t *testing.T, l []lint.Warning) {
	t.Helper()
	for i := range l[:max(len(l)-1, 0)] {
		a, b := l[i], l[i+1]
		if a.Kind > b.Kind || a.Kind == b.Kind && a.A > b.A || a.Kind == b.Kind && a.A == b.A && a.B >= b.B {
			t.Errorf("%v comes before %v", a, b)
		}
	}
}

func TestOrder(t *testing.T) {
	for _, x := range samples() {
		checkOrder(t, lint.Warnings(x))
	}
	// The trips have the routes, calendars and stops in descending order.
	x := withTrips()
	x.Stops, x.Routes, x.Calendars = stops(16), routes(40), made(40, func(i int) api.Calendar { return api.Calendar{ID: name("c", i), To: i} })
	x.Trips = made(80, func(i int) api.Trip {
		return api.Trip{ID: name("t", 79-i), Route: 38 - i%38, Calendar: 38 - i%38, Calls: calls(fmt.Sprintf("%d %d", 14-i%10, 13-i%10))}
	})
	checkOrder(t, lint.Warnings(x))
	count := [8]int{}
	for _, w := range checkDefinition(t, x) {
		count[w.Kind]++
	}
	if count != [8]int{unusedStop: 5, unusedRoute: 2, unusedCalendar: 2, neverRuns: 80, unreachable: 16, noProduct: 38} {
		t.Errorf("the numbers of warnings are %v", count)
	}
}

// The order of the elements in a table, but for the indices, does not matter.
func TestOtherOrdersOfTables(t *testing.T) {
	for seed := range 400 {
		next := source(seed)
		x := scattered(next)
		want := lint.Warnings(x)
		for range 3 {
			y := duplicate(x, 0)
			for i := range y.Exceptions {
				k := next(i + 1)
				y.Exceptions[i], y.Exceptions[k] = y.Exceptions[k], y.Exceptions[i]
			}
			for i := range y.Paths {
				k := next(i + 1)
				y.Paths[i], y.Paths[k] = y.Paths[k], y.Paths[i]
			}
			for i := range y.Fares.Products {
				k := next(i + 1)
				y.Fares.Products[i], y.Fares.Products[k] = y.Fares.Products[k], y.Fares.Products[i]
			}
			slices.Reverse(y.Frequencies)
			slices.Reverse(y.Guarantees)
			checkWarnings(t, y, want...)
		}
	}
}

// Warnings, compared with the definitions.

func TestAgainstDefinitions(t *testing.T) {
	var count [8]int
	for seed := range 6000 {
		for _, w := range checkAll(t, scattered(source(seed))) {
			count[w.Kind]++
		}
	}
	if slices.Min(count[1:]) < 2000 {
		t.Errorf("the numbers of warnings of the kinds are %v", count)
	}
	for _, x := range []api.Timetable{longest(false), longest(true)} {
		checkDefinition(t, x)
	}
}

// Each field of full has other values, with which the timetable is valid or not.
func TestFieldsOfFull(t *testing.T) {
	x := full()
	valid, refused := 0, 0
	for _, leaf := range leavesOf(&x) {
		before := reflect.ValueOf(leaf.Interface())
		for _, other := range others(leaf) {
			leaf.Set(other)
			checkDefinition(t, x)
			if _, _, e := timetable.Check(x); e == api.OK {
				valid++
			} else {
				refused++
			}
		}
		leaf.Set(before)
	}
	checkWarnings(t, x, fullWarnings()...)
	if min(valid, refused) < 1000 {
		t.Errorf("%d timetables are valid, and %d are not", valid, refused)
	}
}

// Scattered timetables with one or two changed fields.
func TestScatteredChanges(t *testing.T) {
	valid := 0
	for seed := range 4000 {
		next := source(seed)
		x := scattered(next)
		l := leavesOf(&x)
		for range 1 + next(2) {
			leaf := l[next(len(l))]
			values := others(leaf)
			leaf.Set(values[next(len(values))])
		}
		checkAll(t, x)
		if _, _, e := timetable.Check(x); e == api.OK {
			valid++
		}
	}
	if valid < 500 || valid > 3500 {
		t.Errorf("%d timetables are valid", valid)
	}
}
