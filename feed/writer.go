package feed

import (
	"transit/api"
	"transit/clock"
	"transit/date"
	"transit/field"
	"transit/number"
	"transit/route"
)

// writer collects the lines of a feed.
type writer struct {
	lines []string
}

// canonical returns the lines of the canonical feed of a valid timetable.
func canonical(t api.Timetable) []string {
	var w writer
	w.service(t)
	w.trips(t)
	w.connections(t)
	w.fares(t.Fares)
	return w.lines
}

// record writes a record.
func (w *writer) record(fields ...string) {
	w.lines = append(w.lines, form(field.Join(fields)))
}

// service writes the stops, routes, calendars and exceptions.
func (w *writer) service(t api.Timetable) {
	for _, s := range t.Stops {
		w.record(stopKind, s.ID, number.Format(s.Zone), flag(s.StepFree), number.Format(s.Change))
	}
	for _, r := range t.Routes {
		mode, _ := route.ModeName(r.Mode)
		w.record(routeKind, r.ID, mode, flag(r.Bicycles))
	}
	for _, c := range t.Calendars {
		w.record(calendarKind, c.ID, week(c.Week), day(c.From), day(c.To))
	}
	for _, x := range t.Exceptions {
		w.record(exceptionKind, t.Calendars[x.Calendar].ID, day(x.Day), choice(x.Added, added, removed))
	}
}

// trips writes the trips, each with its calls.
func (w *writer) trips(t api.Timetable) {
	for _, x := range t.Trips {
		w.record(tripKind, x.ID, t.Routes[x.Route].ID, t.Calendars[x.Calendar].ID, flag(x.StepFree))
		for _, c := range x.Calls {
			w.record(callKind, t.Stops[c.Stop].ID, time(c.Arrive), time(c.Depart), permission(c))
		}
	}
}

// connections writes the frequencies, through services, guaranteed changes and footpaths.
func (w *writer) connections(t api.Timetable) {
	for _, f := range t.Frequencies {
		w.record(frequencyKind, t.Trips[f.Trip].ID, time(f.From), time(f.To), duration(f.Every))
	}
	for _, x := range t.Throughs {
		w.record(throughKind, t.Trips[x.From].ID, t.Trips[x.To].ID)
	}
	for _, g := range t.Guarantees {
		w.record(guaranteeKind, t.Trips[g.From].ID, t.Trips[g.To].ID, t.Stops[g.Stop].ID)
	}
	for _, p := range t.Paths {
		w.record(pathKind, t.Stops[p.From].ID, t.Stops[p.To].ID, duration(p.Seconds), flag(p.StepFree))
	}
}

// fares writes the rules of the fares, if they are not all 0, and the products.
func (w *writer) fares(f api.Fares) {
	if f.Discount != 0 || f.Within != 0 || f.Cap != 0 {
		w.record(faresKind, price(f.Discount), duration(f.Within), price(f.Cap))
	}
	for _, p := range f.Products {
		modes := form(route.FormatModes(p.Modes))
		w.record(productKind, p.ID, price(p.Price), number.Format(p.Rides), number.Format(p.Zones), duration(p.Seconds), modes)
	}
}

// form returns a text without its error: everything in a valid timetable can be written.
func form(text string, _ api.Errno) string {
	return text
}

// time returns the text of a time of day.
func time(t int) string {
	return form(clock.Format(t))
}

// duration returns the text of a duration.
func duration(n int) string {
	return form(clock.FormatDuration(n))
}

// day returns the text of a day.
func day(n int) string {
	return form(date.Format(n))
}

// price returns the form of a price.
func price(cents int) string {
	return form(number.FormatPrice(cents))
}

// flag returns yes or no.
func flag(ok bool) string {
	return choice(ok, yes, no)
}

// choice returns the first word, or otherwise the second one.
func choice(first bool, word, other string) string {
	if first {
		return word
	}
	return other
}

// week returns the weekdays of a calendar as text.
func week(days [7]bool) string {
	var text [7]byte
	for i, ok := range days {
		text[i] = inactive
		if ok {
			text[i] = active
		}
	}
	return string(text[:])
}

// permission returns the word for what passengers may do at a call.
func permission(c api.Call) string {
	switch {
	case c.Board && c.Alight:
		return both
	case c.Board:
		return board
	case c.Alight:
		return alight
	}
	return none
}
