package lint_test

import (
	"strings"
	"testing"

	"transit/api"
	"transit/lint"
)

// P24.2 (Text)

// different returns a timetable whose lists have different lengths and IDs that differ from each other.
func different() api.Timetable {
	return api.Timetable{
		Stops:     made(3, func(i int) api.Stop { return api.Stop{ID: name("stop", i)} }),
		Routes:    made(5, func(i int) api.Route { return api.Route{ID: name("route", i)} }),
		Calendars: made(7, func(i int) api.Calendar { return api.Calendar{ID: name("calendar", i)} }),
		Trips:     made(9, func(i int) api.Trip { return api.Trip{ID: name("trip", i)} }),
		Fares:     api.Fares{Products: made(11, func(i int) api.Product { return api.Product{ID: name("product", i)} })},
	}
}

// Kinds and lists as the document names them: each kind with the number of elements that its A can be, and the texts for the first and the last one.
func TestTexts(t *testing.T) {
	x := different()
	for _, c := range []struct {
		kind, size  int
		first, last string
	}{
		{lint.UnusedStop, 3, "stop stop0 is not used", "stop stop2 is not used"},
		{lint.UnusedRoute, 5, "route route0 is not used", "route route4 is not used"},
		{lint.UnusedCalendar, 7, "calendar calendar0 is not used", "calendar calendar6 is not used"},
		{lint.NeverRuns, 9, "trip trip0 never runs", "trip trip8 never runs"},
		{lint.Overtaking, 9, "trip trip0 overtakes trip trip0", "trip trip8 overtakes trip trip0"},
		{lint.Unreachable, 3, "stop stop0 cannot be reached", "stop stop2 cannot be reached"},
		{lint.NoProduct, 5, "route route0 has no product", "route route4 has no product"},
	} {
		checkText(t, x, lint.Warning{Kind: c.kind}, c.first)
		checkText(t, x, lint.Warning{Kind: c.kind, A: c.size - 1}, c.last)
		for _, a := range []int{least, least + 1, -c.size, -2, -1, c.size, c.size + 1, 1 << 32, greatest - 1, greatest} {
			checkText(t, x, lint.Warning{Kind: c.kind, A: a}, "")
		}
		if c.kind == lint.Overtaking {
			continue
		}
		for _, b := range []int{least, -1, 1, 2, c.size - 1, c.size, 1 << 32, greatest} {
			checkText(t, x, lint.Warning{Kind: c.kind, B: b}, "")
			checkText(t, x, lint.Warning{Kind: c.kind, A: b, B: b}, "")
		}
	}
}

func TestOvertakingTexts(t *testing.T) {
	x := different()
	for a, trip := range x.Trips {
		for b, other := range x.Trips {
			checkText(t, x, lint.Warning{Kind: 5, A: a, B: b}, "trip "+trip.ID+" overtakes trip "+other.ID)
		}
		for _, b := range []int{least, -9, -1, 9, 10, 1 << 32, greatest} {
			checkText(t, x, lint.Warning{Kind: 5, A: a, B: b}, "")
			checkText(t, x, lint.Warning{Kind: 5, A: b, B: a}, "")
			checkText(t, x, lint.Warning{Kind: 5, A: b, B: b}, "")
		}
	}
}

func TestOtherKinds(t *testing.T) {
	x := different()
	for _, kind := range edges(8, 9, 100) {
		if kind >= 1 && kind <= 7 {
			continue
		}
		for a := -1; a < 10; a++ {
			checkText(t, x, lint.Warning{Kind: kind, A: a}, "")
			checkText(t, x, lint.Warning{Kind: kind, A: a, B: 1}, "")
		}
	}
}

// All kinds and indices at the limits, compared with the definition.
func TestTextAgainstDefinition(t *testing.T) {
	for _, x := range []api.Timetable{different(), full(), {}, {Stops: stops(64)}, {Routes: routes(70)}, {Calendars: calendars(1)}, {Trips: make([]api.Trip, 300)}} {
		indices := edges(len(x.Stops), len(x.Routes), len(x.Calendars), len(x.Trips))
		checkTexts(t, x, indices...)
		for _, kind := range edges(3, 5) {
			for _, a := range indices {
				for _, b := range []int{least, -1, 0, 1, greatest} {
					w := lint.Warning{Kind: kind, A: a, B: b}
					checkText(t, x, w, wantedText(x, w))
				}
			}
		}
	}
}

// Each of the four lists alone, without the others.
func TestTextsOfOneList(t *testing.T) {
	all := different()
	for i, x := range []api.Timetable{{Stops: all.Stops}, {Routes: all.Routes}, {Calendars: all.Calendars}, {Trips: all.Trips}, {Fares: all.Fares}} {
		list := map[int]int{unusedStop: 0, unreachable: 0, unusedRoute: 1, noProduct: 1, unusedCalendar: 2, neverRuns: 3, overtaking: 3}
		for kind := 1; kind <= 7; kind++ {
			for a := range 10 {
				w := lint.Warning{Kind: kind, A: a}
				want := ""
				if list[kind] == i {
					want = lint.Text(all, w)
				}
				checkText(t, x, w, want)
			}
		}
	}
}

// IDs of each length and with any bytes, which may be those of the texts themselves.
func TestTextsOfAnyIDs(t *testing.T) {
	ids := []string{"", " ", "\x00", "\n", "\xff", "ä", "%s", "%!d(x)", "\"", "\\", ",", "is not used", "trip ", "\xc3\x28", "a\x00b", "𝄞"}
	for n := range 70 {
		ids = append(ids, strings.Repeat("x", n), strings.Repeat("ö", n))
	}
	ids = append(ids, strings.Repeat("abc", 100000))
	for b := range 256 {
		ids = append(ids, string([]byte{byte(b)}), string([]byte{'x', byte(b), byte(b), 'y'}))
	}
	for i, id := range ids {
		other := ids[len(ids)-1-i]
		x := api.Timetable{
			Stops: []api.Stop{{ID: other}, {ID: id}}, Routes: []api.Route{{ID: other}, {ID: id}},
			Calendars: []api.Calendar{{ID: other}, {ID: id}}, Trips: []api.Trip{{ID: other}, {ID: id}},
		}
		checkText(t, x, lint.Warning{Kind: 1, A: 1}, "stop "+id+" is not used")
		checkText(t, x, lint.Warning{Kind: 2, A: 1}, "route "+id+" is not used")
		checkText(t, x, lint.Warning{Kind: 3, A: 1}, "calendar "+id+" is not used")
		checkText(t, x, lint.Warning{Kind: 4, A: 1}, "trip "+id+" never runs")
		checkText(t, x, lint.Warning{Kind: 5, A: 1, B: 0}, "trip "+id+" overtakes trip "+other)
		checkText(t, x, lint.Warning{Kind: 5, A: 0, B: 1}, "trip "+other+" overtakes trip "+id)
		checkText(t, x, lint.Warning{Kind: 5, A: 1, B: 1}, "trip "+id+" overtakes trip "+id)
		checkText(t, x, lint.Warning{Kind: 6, A: 1}, "stop "+id+" cannot be reached")
		checkText(t, x, lint.Warning{Kind: 7, A: 1}, "route "+id+" has no product")
	}
}

// Warnings that the timetable does not have, of elements that have the same ID, and in tables that are not valid or longer than any that is valid.
func TestTextsOfOtherWarnings(t *testing.T) {
	x := full()
	for w, want := range map[lint.Warning]string{
		{unusedStop, 0, 0}:     "stop s0 is not used",
		{unusedRoute, 0, 0}:    "route r0 is not used",
		{unusedCalendar, 0, 0}: "calendar daily is not used",
		{neverRuns, 0, 0}:      "trip slow never runs",
		{overtaking, 2, 3}:     "trip next overtakes trip idle",
		{overtaking, 4, 4}:     "trip often overtakes trip often",
		{unreachable, 1, 0}:    "stop s1 cannot be reached",
		{noProduct, 1, 0}:      "route r1 has no product",
	} {
		if holds(x, w) {
			t.Errorf("%v is a warning of the timetable", w)
		}
		checkText(t, x, w, want)
	}
	x.Trips[3].Route, x.Trips[3].Calendar, x.Trips[3].Calls = -1, greatest, nil
	checkText(t, x, lint.Warning{Kind: neverRuns, A: 3}, "trip idle never runs")
	checkText(t, x, lint.Warning{Kind: overtaking, A: 3, B: 3}, "trip idle overtakes trip idle")
	x.Stops[0].ID, x.Stops[1].ID = "same", "same"
	checkText(t, x, lint.Warning{Kind: unreachable, A: 0}, "stop same cannot be reached")
	checkText(t, x, lint.Warning{Kind: unreachable, A: 1}, "stop same cannot be reached")
	x.Stops, x.Routes, x.Calendars, x.Trips = make([]api.Stop, 100000), make([]api.Route, 90000), make([]api.Calendar, 80000), make([]api.Trip, 70000)
	x.Stops[99999].ID, x.Routes[89999].ID, x.Calendars[79999].ID, x.Trips[69999].ID = "s", "r", "c", "t"
	checkText(t, x, lint.Warning{Kind: unusedStop, A: 99999}, "stop s is not used")
	checkText(t, x, lint.Warning{Kind: unusedRoute, A: 89999}, "route r is not used")
	checkText(t, x, lint.Warning{Kind: unusedCalendar, A: 79999}, "calendar c is not used")
	checkText(t, x, lint.Warning{Kind: neverRuns, A: 69999}, "trip t never runs")
	checkText(t, x, lint.Warning{Kind: overtaking, A: 69999, B: 1}, "trip t overtakes trip ")
	checkText(t, x, lint.Warning{Kind: unreachable, A: 100000}, "")
	checkText(t, x, lint.Warning{Kind: noProduct, A: 90000}, "")
	checkWarnings(t, x)
}
