package lint

import (
	"iter"

	"transit/api"
	"transit/calendar"
	"transit/footpath"
	"transit/trip"
)

// The functions of this file that return warnings are for valid timetables only.

// unusedStops yields a warning for each stop at which no trip calls and no footpath begins or ends.
func unusedStops(t api.Timetable) iter.Seq[Warning] {
	begins, ends := pathStops(t)
	called := map[int]bool{}
	for _, x := range t.Trips {
		for _, stop := range trip.Pattern(x) {
			called[stop] = true
		}
	}
	return selected(UnusedStop, len(t.Stops), func(i int) bool { return !called[i] && !begins[i] && !ends[i] })
}

// unusedRoutes yields a warning for each route that no trip has.
func unusedRoutes(t api.Timetable) iter.Seq[Warning] {
	used := map[int]bool{}
	for _, x := range t.Trips {
		used[x.Route] = true
	}
	return selected(UnusedRoute, len(t.Routes), func(i int) bool { return !used[i] })
}

// unusedCalendars yields a warning for each calendar that no trip has.
func unusedCalendars(t api.Timetable) iter.Seq[Warning] {
	used := map[int]bool{}
	for _, x := range t.Trips {
		used[x.Calendar] = true
	}
	return selected(UnusedCalendar, len(t.Calendars), func(i int) bool { return !used[i] })
}

// idleTrips yields a warning for each trip whose calendar is active on no day.
func idleTrips(t api.Timetable) iter.Seq[Warning] {
	active := map[int]bool{}
	// Many trips have the same calendar, and the search for an active day may go through all days.
	for i := range t.Calendars {
		_, active[i] = calendar.Next(t.Calendars, t.Exceptions, i, 0)
	}
	return selected(NeverRuns, len(t.Trips), func(i int) bool { return !active[t.Trips[i].Calendar] })
}

// overtakings yields a warning for each trip that overtakes another one with the same calendar, if neither of them has a frequency.
func overtakings(t api.Timetable) iter.Seq[Warning] {
	repeated := map[int]bool{}
	for _, f := range t.Frequencies {
		repeated[f.Trip] = true
	}
	overtakes := func(a, b int) bool {
		x, y := t.Trips[a], t.Trips[b]
		return x.Calendar == y.Calendar && !repeated[a] && !repeated[b] && trip.Overtakes(x, y)
	}
	return func(yield func(Warning) bool) {
		for a := range t.Trips {
			for b := range t.Trips {
				if overtakes(a, b) && !yield(Warning{Kind: Overtaking, A: a, B: b}) {
					return
				}
			}
		}
	}
}

// unreachableStops yields a warning for each stop at which no passenger can arrive, neither by a trip nor on a footpath.
func unreachableStops(t api.Timetable) iter.Seq[Warning] {
	_, reached := pathStops(t)
	for _, x := range t.Trips {
		for _, c := range x.Calls[1:] {
			if c.Alight {
				reached[c.Stop] = true
			}
		}
	}
	return selected(Unreachable, len(t.Stops), func(i int) bool { return !reached[i] })
}

// unpaidRoutes yields a warning for the route of each trip if no product has its mode; a route with several trips comes several times.
func unpaidRoutes(t api.Timetable) iter.Seq[Warning] {
	modes := 0
	for _, p := range t.Fares.Products {
		modes |= p.Modes
	}
	return func(yield func(Warning) bool) {
		for _, x := range t.Trips {
			mode := t.Routes[x.Route].Mode
			if modes>>mode&1 == 0 && !yield(Warning{Kind: NoProduct, A: x.Route}) {
				return
			}
		}
	}
}

// selected yields a warning of the kind for each of n elements for which holds returns true.
func selected(kind int, n int, holds func(i int) bool) iter.Seq[Warning] {
	return func(yield func(Warning) bool) {
		for i := range n {
			if holds(i) && !yield(Warning{Kind: kind, A: i}) {
				return
			}
		}
	}
}

// pathStops returns the stops at which a footpath begins, and those at which one ends.
func pathStops(t api.Timetable) (map[int]bool, map[int]bool) {
	begins, ends := map[int]bool{}, map[int]bool{}
	for from := range t.Stops {
		for _, to := range footpath.Around(t.Paths, from, api.MaxWalk, false) {
			begins[from], ends[to] = true, true
		}
	}
	return begins, ends
}
