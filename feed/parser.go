package feed

import (
	"strings"

	"transit/api"
	"transit/field"
)

// ignoredMark is what a line begins with that is ignored although it is not empty.
const ignoredMark = "#"

// kinds has the kind of the records of each part of a timetable at the number of the part.
var kinds = [...]string{
	stopKind, routeKind, calendarKind, exceptionKind, tripKind,
	frequencyKind, throughKind, guaranteeKind, pathKind, productKind,
}

// indices has the index of the first entity with each identifier.
type indices map[string]int

// parser builds a timetable from records.
type parser struct {
	reader
	timetable api.Timetable
	// lines has the numbers of the lines of all records of each kind.
	lines map[string][]int
	// last is the kind of the last record.
	last string

	stops, routes, calendars, trips indices
}

// newParser returns a parser that has not read any record.
func newParser() *parser {
	return &parser{lines: map[string][]int{}, stops: indices{}, routes: indices{}, calendars: indices{}, trips: indices{}}
}

// isIgnored reports whether a line is not a record.
func isIgnored(line string) bool {
	return line == "" || strings.HasPrefix(line, ignoredMark)
}

// record reads the record in the line of that number. No record can be read after an error.
func (p *parser) record(line string, number int) api.Errno {
	fields, e := field.Split(line)
	if e != api.OK {
		return e
	}
	p.rest = fields
	kind := p.text()
	p.add(kind)
	p.lines[kind] = append(p.lines[kind], number)
	p.last = kind
	return p.err
}

// add adds what a record of that kind describes to the timetable.
func (p *parser) add(kind string) {
	switch kind {
	case stopKind:
		p.addStop()
	case routeKind:
		p.addRoute()
	case calendarKind:
		p.addCalendar()
	case exceptionKind:
		p.addException()
	case tripKind:
		p.addTrip()
	case callKind:
		p.addCall()
	case frequencyKind:
		p.addFrequency()
	case throughKind:
		p.addThrough()
	case guaranteeKind:
		p.addGuarantee()
	case pathKind:
		p.addPath()
	case productKind:
		p.addProduct()
	case faresKind:
		p.setFares()
	default:
		p.require(false, api.ErrCommand)
	}
}

// lineOf returns the number of the line of the record that describes the element of a part with that index; the index of the rules of the fares is -1.
func (p *parser) lineOf(part, index int) int {
	if index < 0 {
		return p.lines[faresKind][0]
	}
	return p.lines[kinds[part]][index]
}

// enter makes an entity the one with its ID, unless there is an earlier one.
func (x indices) enter(id string, index int) {
	if _, ok := x[id]; !ok {
		x[id] = index
	}
}

// The functions in a composite literal are called from left to right: each of the following methods reads the fields of a record in their order.

// addStop adds the stop of a record.
func (p *parser) addStop() {
	p.expect(4)
	s := api.Stop{ID: p.text(), Zone: p.number(), StepFree: p.flag(), Change: p.number()}
	p.stops.enter(s.ID, len(p.timetable.Stops))
	p.timetable.Stops = append(p.timetable.Stops, s)
}

// addRoute adds the route of a record.
func (p *parser) addRoute() {
	p.expect(3)
	r := api.Route{ID: p.text(), Mode: p.mode(), Bicycles: p.flag()}
	p.routes.enter(r.ID, len(p.timetable.Routes))
	p.timetable.Routes = append(p.timetable.Routes, r)
}

// addCalendar adds the calendar of a record.
func (p *parser) addCalendar() {
	p.expect(4)
	c := api.Calendar{ID: p.text(), Week: p.week(), From: p.day(), To: p.day()}
	p.calendars.enter(c.ID, len(p.timetable.Calendars))
	p.timetable.Calendars = append(p.timetable.Calendars, c)
}

// addException adds the exception of a record.
func (p *parser) addException() {
	p.expect(3)
	x := api.Exception{Calendar: p.reference(p.calendars), Day: p.day(), Added: p.addition()}
	p.timetable.Exceptions = append(p.timetable.Exceptions, x)
}

// addTrip adds the trip of a record, which has no calls yet.
func (p *parser) addTrip() {
	p.expect(4)
	t := api.Trip{ID: p.text(), Route: p.reference(p.routes), Calendar: p.reference(p.calendars), StepFree: p.flag()}
	p.trips.enter(t.ID, len(p.timetable.Trips))
	p.timetable.Trips = append(p.timetable.Trips, t)
}

// addCall adds the call of a record to the last trip.
func (p *parser) addCall() {
	p.expect(4)
	p.require(p.last == tripKind || p.last == callKind, api.ErrOrder)
	c := api.Call{Stop: p.reference(p.stops), Arrive: p.time(), Depart: p.time()}
	c.Board, c.Alight = p.permission()
	// There may be no trip if there is an error.
	if p.err == api.OK {
		t := &p.timetable.Trips[len(p.timetable.Trips)-1]
		t.Calls = append(t.Calls, c)
	}
}

// addFrequency adds the frequency of a record.
func (p *parser) addFrequency() {
	p.expect(4)
	f := api.Frequency{Trip: p.reference(p.trips), From: p.time(), To: p.time(), Every: p.duration()}
	p.timetable.Frequencies = append(p.timetable.Frequencies, f)
}

// addThrough adds the through service of a record.
func (p *parser) addThrough() {
	p.expect(2)
	t := api.Through{From: p.reference(p.trips), To: p.reference(p.trips)}
	p.timetable.Throughs = append(p.timetable.Throughs, t)
}

// addGuarantee adds the guaranteed change of a record.
func (p *parser) addGuarantee() {
	p.expect(3)
	g := api.Guarantee{From: p.reference(p.trips), To: p.reference(p.trips), Stop: p.reference(p.stops)}
	p.timetable.Guarantees = append(p.timetable.Guarantees, g)
}

// addPath adds the footpath of a record.
func (p *parser) addPath() {
	p.expect(4)
	w := api.Footpath{From: p.reference(p.stops), To: p.reference(p.stops), Seconds: p.duration(), StepFree: p.flag()}
	p.timetable.Paths = append(p.timetable.Paths, w)
}

// addProduct adds the product of a record.
func (p *parser) addProduct() {
	p.expect(6)
	x := api.Product{ID: p.text(), Price: p.price(), Rides: p.number(), Zones: p.number(), Seconds: p.duration(), Modes: p.modes()}
	p.timetable.Fares.Products = append(p.timetable.Fares.Products, x)
}

// setFares sets the rules of the fares to those of a record.
func (p *parser) setFares() {
	p.expect(3)
	p.require(len(p.lines[faresKind]) == 0, api.ErrDuplicate)
	f := &p.timetable.Fares
	f.Discount, f.Within, f.Cap = p.price(), p.duration(), p.price()
}
