package feed_test

import (
	"fmt"
	"math"
	"reflect"
	"regexp"
	"slices"
	"strconv"
	"strings"
	"testing"
	"time"

	"transit/api"
	"transit/clock"
	"transit/date"
	"transit/feed"
	"transit/field"
	"transit/number"
	"transit/route"
	"transit/timetable"
)

// mostText is the greatest number of bytes of a feed as the document states it.
const mostText = 65536

const (
	least    = math.MinInt
	greatest = math.MaxInt
)

// The chapter's definitions.

// layouts has the forms of the fields behind the kind of each record. The form of a reference is the kind of what it refers to.
var layouts = map[string][]string{
	"stop":      {"id", "number", "flag", "number"},
	"route":     {"id", "mode", "flag"},
	"calendar":  {"id", "week", "day", "day"},
	"exception": {"calendar", "day", "change"},
	"trip":      {"id", "route", "calendar", "flag"},
	"call":      {"stop", "time", "time", "permission"},
	"frequency": {"trip", "time", "time", "duration"},
	"through":   {"trip", "trip"},
	"guarantee": {"trip", "trip", "stop"},
	"path":      {"stop", "stop", "duration", "flag"},
	"product":   {"id", "price", "number", "number", "duration", "modes"},
	"fares":     {"price", "duration", "price"},
}

// tables has the kind of the records of each part of a timetable, and the name of its list.
var tables = []struct{ kind, list string }{
	{"stop", "Stops"}, {"route", "Routes"}, {"calendar", "Calendars"}, {"exception", "Exceptions"}, {"trip", "Trips"},
	{"frequency", "Frequencies"}, {"through", "Throughs"}, {"guarantee", "Guarantees"}, {"path", "Paths"}, {"product", "Products"},
}

var modeNames = []string{"bus", "tram", "metro", "rail", "ferry", "coach", "cable", "funicular"}

// permissions has what Board and Alight are for each word.
var permissions = map[string][2]bool{"both": {true, true}, "board": {true, false}, "alight": {false, true}, "none": {false, false}}

var weekForm = regexp.MustCompile(`\A[01]{7}\z`)

// record is a record of a feed that has been read.
type record struct {
	kind   string
	fields []string
	values []any
	line   int
}

// isIgnored reports whether a line is not a record.
func isIgnored(line string) bool {
	return len(line) == 0 || line[0] == '#'
}

// entity returns the index of the first entity of a kind with an ID, or -1.
func entity(kind, id string, earlier []record) int {
	i := 0
	for _, r := range earlier {
		if r.kind != kind {
			continue
		}
		if r.fields[0] == id {
			return i
		}
		i++
	}
	return -1
}

// oneOf returns a value, or the error for a field that is no word of its form.
func oneOf(value any, ok bool) (any, api.Errno) {
	if !ok {
		return nil, api.ErrSyntax
	}
	return value, api.OK
}

// wantedValue returns what a field of a form stands for.
func wantedValue(form, s string, earlier []record) (any, api.Errno) {
	var n int
	var e api.Errno
	switch form {
	case "id":
		return s, api.OK
	case "mode":
		return oneOf(slices.Index(modeNames, s), slices.Contains(modeNames, s))
	case "flag":
		return oneOf(s == "yes", s == "yes" || s == "no")
	case "change":
		return oneOf(s == "added", s == "added" || s == "removed")
	case "permission":
		both, ok := permissions[s]
		return oneOf(both, ok)
	case "week":
		var week [7]bool
		for i := range min(len(s), len(week)) {
			week[i] = s[i] == '1'
		}
		return oneOf(week, weekForm.MatchString(s))
	case "number":
		n, e = number.Parse(s)
	case "time":
		n, e = clock.Parse(s)
	case "duration":
		n, e = clock.ParseDuration(s)
	case "day":
		n, e = date.Parse(s)
	case "price":
		n, e = number.ParsePrice(s)
	case "modes":
		n, e = route.ParseModes(s)
	default:
		if n = entity(form, s, earlier); n < 0 {
			e = api.ErrReference
		}
	}
	return n, e
}

// wantedRecord returns the record in a line, or its error.
func wantedRecord(line string, at int, earlier []record) (record, api.Errno) {
	fields, e := field.Split(line)
	if e != api.OK {
		return record{}, e
	}
	forms, ok := layouts[fields[0]]
	r := record{kind: fields[0], fields: fields[1:], line: at}
	before := ""
	if len(earlier) > 0 {
		before = earlier[len(earlier)-1].kind
	}
	switch {
	case !ok:
		return record{}, api.ErrCommand
	case len(r.fields) != len(forms):
		return record{}, api.ErrArgument
	case r.kind == "call" && before != "trip" && before != "call":
		return record{}, api.ErrOrder
	case r.kind == "fares" && len(linesOf("fares", earlier)) > 0:
		return record{}, api.ErrDuplicate
	}
	for i, form := range forms {
		value, e := wantedValue(form, r.fields[i], earlier)
		if e != api.OK {
			return record{}, e
		}
		r.values = append(r.values, value)
	}
	return r, api.OK
}

// linesOf returns the lines of the records of a kind.
func linesOf(kind string, l []record) []int {
	var lines []int
	for _, r := range l {
		if r.kind == kind {
			lines = append(lines, r.line)
		}
	}
	return lines
}

// fill sets the fields of a struct to values, of which a permission is for two fields.
func fill(v reflect.Value, values []any) {
	i := 0
	for _, value := range values {
		if both, ok := value.([2]bool); ok {
			v.Field(i).SetBool(both[0])
			i++
			value = both[1]
		}
		v.Field(i).Set(reflect.ValueOf(value))
		i++
	}
}

// listOf returns the list of a part of a timetable.
func listOf(t *api.Timetable, part int) reflect.Value {
	if tables[part].kind == "product" {
		return reflect.ValueOf(&t.Fares.Products).Elem()
	}
	return reflect.ValueOf(t).Elem().FieldByName(tables[part].list)
}

// appendTo appends an element with those values to a list.
func appendTo(list reflect.Value, values []any) {
	element := reflect.New(list.Type().Elem()).Elem()
	fill(element, values)
	list.Set(reflect.Append(list, element))
}

// partOf returns the number of the part to which records of a kind add, or -1.
func partOf(kind string) int {
	return slices.IndexFunc(tables, func(x struct{ kind, list string }) bool { return x.kind == kind })
}

// wantedTimetable returns the timetable that records describe.
func wantedTimetable(l []record) api.Timetable {
	var t api.Timetable
	for _, r := range l {
		switch r.kind {
		case "call":
			appendTo(reflect.ValueOf(&t.Trips[len(t.Trips)-1].Calls).Elem(), r.values)
		case "fares":
			t.Fares.Discount, t.Fares.Within, t.Fares.Cap = r.values[0].(int), r.values[1].(int), r.values[2].(int)
		default:
			appendTo(listOf(&t, partOf(r.kind)), r.values)
		}
	}
	return t
}

// wantedParse returns what Parse must return.
func wantedParse(text string) (api.Timetable, int, api.Errno) {
	lines, e := field.Lines(text)
	if e != api.OK {
		return api.Timetable{}, 0, e
	}
	var l []record
	for i, line := range lines {
		if isIgnored(line) {
			continue
		}
		r, e := wantedRecord(line, i+1, l)
		if e != api.OK {
			return api.Timetable{}, i + 1, e
		}
		l = append(l, r)
	}
	t := wantedTimetable(l)
	part, i, e := timetable.Check(t)
	switch {
	case e == api.OK:
		return t, 0, api.OK
	case i == -1:
		return api.Timetable{}, linesOf("fares", l)[0], e
	}
	return api.Timetable{}, linesOf(tables[part].kind, l)[i], e
}

// written returns a value in a form.
func written(form string, value reflect.Value, t api.Timetable) string {
	switch form {
	case "id":
		return value.String()
	case "number":
		return strconv.FormatInt(value.Int(), 10)
	case "mode":
		return modeNames[value.Int()]
	case "flag":
		return map[bool]string{true: "yes", false: "no"}[value.Bool()]
	case "change":
		return map[bool]string{true: "added", false: "removed"}[value.Bool()]
	case "week":
		return strings.NewReplacer("true", "1", "false", "0", " ", "", "[", "", "]", "").Replace(fmt.Sprint(value.Interface()))
	case "day":
		return time.Date(2000, 1, 1+int(value.Int()), 0, 0, 0, 0, time.UTC).Format(time.DateOnly)
	case "time":
		return fmt.Sprintf("%02d:%02d:%02d", value.Int()/3600, value.Int()/60%60, value.Int()%60)
	case "duration":
		text, _ := clock.FormatDuration(int(value.Int()))
		return text
	case "price":
		return fmt.Sprintf("%d.%02d", value.Int()/100, value.Int()%100)
	case "modes":
		var names []string
		for i, name := range modeNames {
			if value.Int()>>i&1 == 1 {
				names = append(names, name)
			}
		}
		return strings.Join(names, "+")
	}
	return listOf(&t, partOf(form)).Index(int(value.Int())).FieldByName("ID").String()
}

// permissionOf returns the word for two bools.
func permissionOf(board, alight bool) string {
	for word, both := range permissions {
		if both == [2]bool{board, alight} {
			return word
		}
	}
	return ""
}

// lineFor returns the line of the record for an element of a timetable.
func lineFor(kind string, element reflect.Value, t api.Timetable) string {
	fields := []string{kind}
	for i, form := range layouts[kind] {
		if form == "permission" {
			fields = append(fields, permissionOf(element.Field(i).Bool(), element.Field(i+1).Bool()))
			continue
		}
		fields = append(fields, written(form, element.Field(i), t))
	}
	line, _ := field.Join(fields)
	return line + "\n"
}

// faresLine returns the line of the record for the rules of fares.
func faresLine(f api.Fares) string {
	rules := struct{ discount, within, most int }{f.Discount, f.Within, f.Cap}
	return lineFor("fares", reflect.ValueOf(rules), api.Timetable{})
}

// units returns the lines of each part of a timetable; the line of a trip is followed by those of its calls.
func units(t api.Timetable) [][]string {
	all := make([][]string, len(tables))
	for part, x := range tables {
		list := listOf(&t, part)
		for i := range list.Len() {
			lines := lineFor(x.kind, list.Index(i), t)
			if x.kind == "trip" {
				for _, c := range t.Trips[i].Calls {
					lines += lineFor("call", reflect.ValueOf(c), t)
				}
			}
			all[part] = append(all[part], lines)
		}
	}
	return all
}

// canonical returns the canonical feed of a valid timetable, however long it is.
func canonical(t api.Timetable) string {
	var text strings.Builder
	for part, l := range units(t) {
		if tables[part].kind == "product" && (t.Fares.Discount != 0 || t.Fares.Within != 0 || t.Fares.Cap != 0) {
			text.WriteString(faresLine(t.Fares))
		}
		text.WriteString(strings.Join(l, ""))
	}
	return text.String()
}

// wantedFormat returns what Format must return.
func wantedFormat(t api.Timetable) (string, api.Errno) {
	if _, _, e := timetable.Check(t); e != api.OK {
		return "", e
	}
	text := canonical(t)
	if len(text) > mostText {
		return "", api.ErrLimit
	}
	return text, api.OK
}

// Feeds.

// whole returns the lines of a canonical feed with records of all kinds.
func whole() []string {
	return []string{
		"stop,A,0,yes,0",
		"stop,B,1,no,120",
		"stop,C,15,yes,3600",
		"route,R,bus,no",
		"route,S,funicular,yes",
		"calendar,W,1111100,2000-01-01,2099-12-31",
		"calendar,E,0000011,2025-01-01,2025-12-31",
		"exception,W,2025-01-01,removed",
		"exception,E,2025-01-01,added",
		"trip,T,R,W,yes",
		"call,A,08:00:00,08:00:00,board",
		"call,B,08:30:00,08:31:00,both",
		"call,C,09:00:00,09:00:00,alight",
		"trip,U,S,W,no",
		"call,C,09:00:00,09:05:10,both",
		"call,A,10:00:00,10:00:00,both",
		"trip,V,R,E,no",
		"call,B,00:00:00,00:00:00,none",
		"call,C,01:40:00,01:40:00,none",
		"frequency,V,06:00:00,07:00:00,20m00s",
		"frequency,V,26:00:00,46:20:00,1h00m00s",
		"through,T,U",
		"guarantee,T,U,C",
		"path,A,B,10m00s,no",
		"path,B,A,4h00m00s,yes",
		"fares,0.50,30m00s,9.00",
		"product,single,2.50,1,16,0s,bus+tram",
		"product,day-ticket,9.00,8,2,24h00m00s,bus+tram+metro+rail+ferry+coach+cable+funicular",
	}
}

// wholeTimetable returns the timetable that whole describes.
func wholeTimetable() api.Timetable {
	return api.Timetable{
		Stops:  []api.Stop{{ID: "A", StepFree: true}, {ID: "B", Zone: 1, Change: 120}, {ID: "C", Zone: 15, StepFree: true, Change: 3600}},
		Routes: []api.Route{{ID: "R"}, {ID: "S", Mode: 7, Bicycles: true}},
		Calendars: []api.Calendar{
			{ID: "W", Week: [7]bool{true, true, true, true, true}, From: 0, To: 36524},
			{ID: "E", Week: [7]bool{5: true, 6: true}, From: 9132, To: 9496},
		},
		Exceptions: []api.Exception{{Calendar: 0, Day: 9132}, {Calendar: 1, Day: 9132, Added: true}},
		Trips: []api.Trip{
			{ID: "T", StepFree: true, Calls: []api.Call{
				{Stop: 0, Arrive: 28800, Depart: 28800, Board: true},
				{Stop: 1, Arrive: 30600, Depart: 30660, Board: true, Alight: true},
				{Stop: 2, Arrive: 32400, Depart: 32400, Alight: true},
			}},
			{ID: "U", Route: 1, Calls: []api.Call{
				{Stop: 2, Arrive: 32400, Depart: 32710, Board: true, Alight: true},
				{Stop: 0, Arrive: 36000, Depart: 36000, Board: true, Alight: true},
			}},
			{ID: "V", Calendar: 1, Calls: []api.Call{{Stop: 1, Arrive: 0, Depart: 0}, {Stop: 2, Arrive: 6000, Depart: 6000}}},
		},
		Frequencies: []api.Frequency{{Trip: 2, From: 21600, To: 25200, Every: 1200}, {Trip: 2, From: 93600, To: 166800, Every: 3600}},
		Throughs:    []api.Through{{From: 0, To: 1}},
		Guarantees:  []api.Guarantee{{From: 0, To: 1, Stop: 2}},
		Paths:       []api.Footpath{{From: 0, To: 1, Seconds: 600}, {From: 1, To: 0, Seconds: 14400, StepFree: true}},
		Fares: api.Fares{
			Products: []api.Product{
				{ID: "single", Price: 250, Rides: 1, Zones: 16, Seconds: 0, Modes: 3},
				{ID: "day-ticket", Price: 900, Rides: 8, Zones: 2, Seconds: 86400, Modes: 255},
			},
			Discount: 50, Within: 1800, Cap: 900,
		},
	}
}

// textOf returns the text that consists of the lines.
func textOf(lines ...string) string {
	var text strings.Builder
	for _, line := range lines {
		text.WriteString(line + "\n")
	}
	return text.String()
}

// fieldsOf returns the fields of a line.
func fieldsOf(line string) []string {
	fields, e := field.Split(line)
	if e != api.OK {
		panic(line)
	}
	return fields
}

// lineOf returns the line of fields.
func lineOf(fields ...string) string {
	line, e := field.Join(fields)
	if e != api.OK {
		panic(fmt.Sprint(fields))
	}
	return line
}

// replaced returns a line with another field.
func replaced(line string, i int, s string) string {
	fields := fieldsOf(line)
	fields[i] = s
	return lineOf(fields...)
}

// with returns the lines with another line in the place of line i.
func with(lines []string, i int, line string) []string {
	lines = slices.Clone(lines)
	lines[i] = line
	return lines
}

// ignoredLines returns lines that are ignored.
func ignoredLines() []string {
	return []string{"", "#", "##", "# stop,A,0,yes,0", "#stop,A,0,yes,0", "#,", "# \x00\xff\t\"\r", "#\"", "# call", "#" + strings.Repeat("-", 300)}
}

// marked returns the lines of a text, in which a line can be marked by an exclamation mark, and the number of that line.
func marked(text string) ([]string, int) {
	lines := strings.Split(text, "\n")
	at := slices.IndexFunc(lines, func(line string) bool { return strings.HasPrefix(line, "!") })
	if at >= 0 {
		lines[at] = lines[at][1:]
	}
	return lines, at + 1
}

// Inputs without a pattern.

// source returns a function that returns integers from 0, up to the one before below, without a pattern.
func source(seed int) func(below int) int {
	state := uint64(seed)
	return func(below int) int {
		state = state*6364136223846793005 + 1442695040888963407
		return int(state>>33) % below
	}
}

// pick returns an element of a list.
func pick[T any](next func(below int) int, l []T) T {
	return l[next(len(l))]
}

// grow appends elements to a list of a timetable, without those that are not valid.
func grow[T any](t *api.Timetable, l *[]T, tries int, element func() T) {
	for range tries {
		*l = append(*l, element())
		if _, _, e := timetable.Check(*t); e != api.OK {
			*l = (*l)[:len(*l)-1]
		}
	}
}

// scatterer makes a valid timetable without a pattern.
type scatterer struct {
	next func(below int) int
	t    api.Timetable
}

// id returns an identifier.
func (s *scatterer) id() string {
	const characters = "ABCXYZabcxyz0189-_."
	id := make([]byte, 1+s.next(3)*s.next(2))
	if s.next(40) == 0 {
		id = make([]byte, 32)
	}
	for i := range id {
		id[i] = characters[s.next(len(characters))]
	}
	return string(id)
}

func (s *scatterer) flag() bool {
	return s.next(2) == 0
}

func (s *scatterer) tables() {
	t := &s.t
	grow(t, &t.Stops, 2+s.next(5), func() api.Stop {
		return api.Stop{ID: s.id(), Zone: s.next(16), StepFree: s.flag(), Change: s.next(3601)}
	})
	grow(t, &t.Routes, 1+s.next(4), func() api.Route {
		return api.Route{ID: s.id(), Mode: s.next(8), Bicycles: s.flag()}
	})
	grow(t, &t.Calendars, 1+s.next(3), func() api.Calendar {
		c := api.Calendar{ID: s.id(), From: s.next(36525)}
		c.To = c.From + s.next(36525-c.From)
		for i := range c.Week {
			c.Week[i] = s.flag()
		}
		return c
	})
	grow(t, &t.Exceptions, s.next(6), func() api.Exception {
		return api.Exception{Calendar: s.next(len(t.Calendars)), Day: s.next(36525), Added: s.flag()}
	})
}

// trip returns a trip; every other one begins where and when an earlier one ends.
func (s *scatterer) trip() api.Trip {
	x := api.Trip{ID: s.id(), Route: s.next(len(s.t.Routes)), Calendar: s.next(len(s.t.Calendars)), StepFree: s.flag()}
	at, now := s.next(len(s.t.Stops)), s.next(3)*s.next(85000)
	if len(s.t.Trips) > 0 && s.flag() {
		earlier := pick(s.next, s.t.Trips)
		last := earlier.Calls[len(earlier.Calls)-1]
		x.Calendar, at, now = earlier.Calendar, last.Stop, last.Arrive+s.next(2)
	}
	for range 2 + s.next(4) {
		c := api.Call{Stop: at, Arrive: now, Depart: now + s.next(3)*s.next(100), Board: s.next(4) > 0, Alight: s.next(4) > 0}
		x.Calls = append(x.Calls, c)
		at, now = s.next(len(s.t.Stops)), c.Depart+s.next(3)*s.next(1000)
	}
	return x
}

// links adds through services, guaranteed changes and frequencies.
func (s *scatterer) links() {
	t := &s.t
	trips := len(t.Trips)
	if trips == 0 {
		return
	}
	grow(t, &t.Throughs, s.next(50), func() api.Through { return api.Through{From: s.next(trips), To: s.next(trips)} })
	grow(t, &t.Guarantees, s.next(50), func() api.Guarantee {
		return api.Guarantee{From: s.next(trips), To: s.next(trips), Stop: s.next(len(t.Stops))}
	})
	grow(t, &t.Frequencies, s.next(12), func() api.Frequency {
		from, every := s.next(100000), 1+s.next(5)*s.next(20000)
		return api.Frequency{Trip: s.next(trips), From: from, To: from + s.next(min(72801, 30*every)), Every: every}
	})
}

func (s *scatterer) rest() {
	t := &s.t
	grow(t, &t.Paths, s.next(8), func() api.Footpath {
		return api.Footpath{From: s.next(len(t.Stops)), To: s.next(len(t.Stops)), Seconds: 1 + s.next(14400), StepFree: s.flag()}
	})
	f := &t.Fares
	f.Discount, f.Within, f.Cap = s.next(2)*s.next(1000001), s.next(2)*s.next(86401), s.next(2)*s.next(1000001)
	grow(t, &f.Products, s.next(5), func() api.Product {
		return api.Product{ID: s.id(), Price: s.next(1000001), Rides: 1 + s.next(8), Zones: 1 + s.next(16), Seconds: s.next(86401), Modes: 1 + s.next(255)}
	})
}

// scattered returns a valid timetable without a pattern.
func scattered(next func(below int) int) api.Timetable {
	s := &scatterer{next: next}
	if next(20) == 0 {
		return s.t
	}
	s.tables()
	grow(&s.t, &s.t.Trips, next(12), s.trip)
	s.links()
	s.rest()
	return s.t
}

// unit is a record that can be moved, a trip with its calls; needs are the numbers of earlier elements of each part that it refers to.
type unit struct {
	lines string
	needs [10]int
}

// need notes that a unit refers to an element of the parts of a kind.
func (u *unit) need(kind string, index int) {
	part := partOf(kind)
	u.needs[part] = max(u.needs[part], index+1)
}

// unitsOf returns the units of each part of a timetable.
func unitsOf(t api.Timetable) [][]unit {
	all := make([][]unit, len(tables))
	for part, l := range units(t) {
		list := listOf(&t, part)
		for i, lines := range l {
			u := unit{lines: lines}
			for j, form := range layouts[tables[part].kind] {
				if partOf(form) >= 0 {
					u.need(form, int(list.Index(i).Field(j).Int()))
				}
			}
			if tables[part].kind == "trip" {
				for _, c := range t.Trips[i].Calls {
					u.need("stop", c.Stop)
				}
			}
			all[part] = append(all[part], u)
		}
	}
	return all
}

// shuffled returns a feed of a valid timetable in which the records of different parts are in another order, with ignored lines between them.
func shuffled(next func(below int) int, t api.Timetable) string {
	all := unitsOf(t)
	if t.Fares.Discount != 0 || t.Fares.Within != 0 || t.Fares.Cap != 0 || next(2) == 0 {
		all = append(all, []unit{{lines: faresLine(t.Fares)}})
	}
	left := 0
	for _, l := range all {
		left += len(l)
	}
	var text strings.Builder
	written := make([]int, len(all))
	for left > 0 {
		part := next(len(all))
		if written[part] == len(all[part]) {
			continue
		}
		u := all[part][written[part]]
		if slices.ContainsFunc([]int{0, 1, 2, 3, 4, 5, 6, 7, 8, 9}, func(p int) bool { return u.needs[p] > written[p] }) {
			continue
		}
		written[part]++
		left--
		for _, line := range strings.SplitAfter(u.lines, "\n") {
			if next(5) == 0 {
				line = pick(next, ignoredLines()) + "\n" + line
			}
			text.WriteString(line)
		}
	}
	return text.String()
}

// fault is a field that is not of a form, with its error.
type fault struct {
	s string
	e api.Errno
}

// faults has the faults of each form.
var faults = map[string][]fault{
	"number": {
		{"", api.ErrSyntax}, {"x", api.ErrSyntax}, {"-0", api.ErrSyntax}, {"+1", api.ErrSyntax}, {"01", api.ErrSyntax}, {"1.0", api.ErrSyntax}, {" 1", api.ErrSyntax},
		{"9223372036854775808", api.ErrRange}, {"-9223372036854775809", api.ErrRange},
	},
	"time": {
		{"", api.ErrSyntax}, {"8:00:00", api.ErrSyntax}, {"08:00", api.ErrSyntax}, {"0", api.ErrSyntax}, {"08-00-00", api.ErrSyntax},
		{"08:60:00", api.ErrTime}, {"08:00:60", api.ErrTime}, {"48:00:01", api.ErrTime}, {"99:00:00", api.ErrTime},
	},
	"duration": {
		{"", api.ErrSyntax}, {"90m00s", api.ErrSyntax}, {"60", api.ErrSyntax}, {"60s", api.ErrSyntax}, {"-1s", api.ErrSyntax}, {"08:00:00", api.ErrSyntax},
		{"100h00m00s", api.ErrRange}, {"99999999999999999999h00m00s", api.ErrRange},
	},
	"day": {
		{"", api.ErrSyntax}, {"2025-2-01", api.ErrSyntax}, {"2025-02-01 ", api.ErrSyntax}, {"9132", api.ErrSyntax}, {"2025-01-01T00:00:00", api.ErrSyntax},
		{"2025-02-29", api.ErrDate}, {"1999-12-31", api.ErrDate}, {"2100-01-01", api.ErrDate}, {"2025-13-01", api.ErrDate},
	},
	"price": {
		{"", api.ErrSyntax}, {"0.5", api.ErrSyntax}, {".50", api.ErrSyntax}, {"250", api.ErrSyntax}, {"-0.50", api.ErrSyntax}, {"01.00", api.ErrSyntax},
		{"10000.01", api.ErrRange}, {"99999999999999999999.00", api.ErrRange},
	},
	"modes": {
		{"", api.ErrSyntax}, {"rail+bus", api.ErrSyntax}, {"bus+bus", api.ErrSyntax}, {"bus+", api.ErrSyntax}, {"+bus", api.ErrSyntax}, {"bus tram", api.ErrSyntax}, {"3", api.ErrSyntax}, {"all", api.ErrSyntax},
	},
	"mode": {
		{"", api.ErrSyntax}, {"BUS", api.ErrSyntax}, {"bus ", api.ErrSyntax}, {"bus+tram", api.ErrSyntax}, {"buses", api.ErrSyntax}, {"bu", api.ErrSyntax}, {"0", api.ErrSyntax}, {"8", api.ErrSyntax}, {"none", api.ErrSyntax},
	},
	"flag": {
		{"", api.ErrSyntax}, {"Yes", api.ErrSyntax}, {"NO", api.ErrSyntax}, {"ye", api.ErrSyntax}, {"yess", api.ErrSyntax}, {"n", api.ErrSyntax}, {"not", api.ErrSyntax}, {" no", api.ErrSyntax}, {"true", api.ErrSyntax}, {"1", api.ErrSyntax}, {"yesno", api.ErrSyntax}, {"added", api.ErrSyntax},
	},
	"change": {
		{"", api.ErrSyntax}, {"Added", api.ErrSyntax}, {"REMOVED", api.ErrSyntax}, {"add", api.ErrSyntax}, {"addedd", api.ErrSyntax}, {"remove", api.ErrSyntax}, {"removed ", api.ErrSyntax}, {"yes", api.ErrSyntax}, {"no", api.ErrSyntax}, {"both", api.ErrSyntax},
	},
	"permission": {
		{"", api.ErrSyntax}, {"Both", api.ErrSyntax}, {"NONE", api.ErrSyntax}, {"boards", api.ErrSyntax}, {"boar", api.ErrSyntax}, {"alights", api.ErrSyntax}, {"non", api.ErrSyntax}, {"board+alight", api.ErrSyntax}, {"yes", api.ErrSyntax}, {"no", api.ErrSyntax}, {"both ", api.ErrSyntax}, {"11", api.ErrSyntax},
	},
	"week": {
		{"", api.ErrSyntax}, {"111110", api.ErrSyntax}, {"11111000", api.ErrSyntax}, {"1111102", api.ErrSyntax}, {"/111100", api.ErrSyntax}, {"111 100", api.ErrSyntax}, {"yes", api.ErrSyntax}, {"11111\xc3\xa9", api.ErrSyntax},
	},
	"stop":     unknown,
	"route":    unknown,
	"calendar": unknown,
	"trip":     unknown,
}

// unknown has IDs that whole does not have.
var unknown = []fault{{"", api.ErrReference}, {"?", api.ErrReference}, {"a", api.ErrReference}, {"0", api.ErrReference}, {"single", api.ErrReference}, {"A,", api.ErrReference}, {" T", api.ErrReference}, {"TT", api.ErrReference}}

// rights has, for each form but references, fields of that form.
var rights = map[string][]string{
	"id":         {"A", "T", "a b", "", ",", "\"", "\\", " ", "#", "\n", "\x00", "ä", "stop", strings.Repeat("x", 32), strings.Repeat("x", 33)},
	"number":     {"0", "1", "8", "16", "17", "3600", "3601", "-1", "9223372036854775807", "-9223372036854775808"},
	"time":       {"00:00:00", "08:00:00", "08:30:00", "24:00:00", "48:00:00"},
	"duration":   {"0s", "1s", "59s", "1m00s", "4h00m00s", "4h00m01s", "24h00m00s", "24h00m01s", "99h59m59s"},
	"day":        {"2000-01-01", "2025-01-01", "2024-02-29", "2099-12-31"},
	"price":      {"0.00", "0.01", "9.99", "10000.00"},
	"modes":      {"none", "bus", "tram+funicular", "bus+tram+metro+rail+ferry+coach+cable+funicular"},
	"mode":       modeNames,
	"flag":       {"yes", "no"},
	"change":     {"added", "removed"},
	"permission": {"both", "board", "alight", "none"},
	"week":       {"0000000", "1111111", "1000000", "0000001", "0101010"},
}

// edit changes a line, or the lines around it.
func edit(next func(below int) int, lines []string) []string {
	if len(lines) == 0 {
		return []string{pick(next, whole())}
	}
	i := next(len(lines))
	fields, e := field.Split(lines[i])
	if e != api.OK || len(fields) == 0 {
		return slices.Delete(lines, i, i+1)
	}
	j := next(len(fields))
	switch next(14) {
	case 0:
		return slices.Delete(lines, i, i+1)
	case 1:
		return slices.Insert(lines, next(len(lines)+1), lines[i])
	case 2:
		k := next(len(lines))
		lines[i], lines[k] = lines[k], lines[i]
		return lines
	case 3:
		return slices.Insert(lines, i, pick(next, ignoredLines()))
	case 4:
		return slices.Insert(lines, i, pick(next, whole()))
	case 5:
		lines[i] = pick(next, []string{" ", "stop", "Stop", "\"stop\",A", "stop ,A", ",", "call,", "\"", " #", "x#", "calls", "\"#\"", "\"# \"", strings.Repeat("a,", 64) + "a", strings.Repeat("a,", 63) + "a"})
		return lines
	case 6:
		fields = slices.Delete(fields, j, j+1)
	case 7:
		fields = slices.Insert(fields, j, "0")
	case 8:
		fields[j] = fields[next(len(fields))]
	case 9:
		other := fieldsOf(pick(next, whole()))
		fields[j] = other[next(len(other))]
	case 10:
		fields[j] += pick(next, []string{"0", " ", "s", ",", "+bus"})
	default:
		forms := layouts[fields[0]]
		if j == 0 || j > len(forms) {
			return lines
		}
		if l := rights[forms[j-1]]; len(l) > 0 && next(2) == 0 {
			fields[j] = pick(next, l)
		} else if l := faults[forms[j-1]]; len(l) > 0 {
			fields[j] = pick(next, l).s
		}
	}
	lines[i] = lineOf(fields...)
	return lines
}

// disturbed returns a feed that is not canonical, and most often not right.
func disturbed(next func(below int) int) string {
	text := textOf(whole()...)
	if next(3) > 0 {
		text = canonical(scattered(next))
	}
	if next(3) == 0 {
		text = shuffled(next, scattered(next))
	}
	lines := strings.Split(strings.TrimSuffix(text, "\n"), "\n")
	for range next(4) {
		lines = edit(next, lines)
	}
	text = textOf(lines...)
	if next(60) == 0 {
		text = text[:next(len(text)+1)]
	}
	return text
}

// Checks.

// short returns a text, or its beginning, for a report.
func short(text string) string {
	return fmt.Sprintf("%.1500q", text)
}

// isZero reports whether a timetable has nothing.
func isZero(t api.Timetable) bool {
	return timetable.Equal(t, api.Timetable{})
}

// checkError checks that Parse returns a line and an error.
func checkError(t *testing.T, text string, line int, e api.Errno) {
	t.Helper()
	x, n, got := feed.Parse(text)
	if n != line || got != e || e != api.OK && !isZero(x) {
		t.Errorf("Parse(%s) = %+v, %d, %d, not %d, %d", short(text), x, n, got, line, e)
	}
}

// checkTimetable checks that Parse returns a timetable.
func checkTimetable(t *testing.T, text string, want api.Timetable) {
	t.Helper()
	x, n, e := feed.Parse(text)
	if !reflect.DeepEqual(timetable.Clone(x), timetable.Clone(want)) || n != 0 || e != api.OK {
		t.Errorf("Parse(%s) = %+v, %d, %d, not %+v", short(text), x, n, e, want)
	}
}

// checkFormat checks that Format returns a text and an error.
func checkFormat(t *testing.T, x api.Timetable, want string, e api.Errno) {
	t.Helper()
	before := timetable.Clone(x)
	text, got := feed.Format(x)
	if text != want || got != e {
		t.Errorf("Format(%.1500s) = %s, %d, not %s, %d", fmt.Sprint(x), short(text), got, short(want), e)
	}
	if !timetable.Equal(x, before) {
		t.Errorf("Format has changed %.1500s", fmt.Sprint(before))
	}
}

// checkFormatted checks that Format returns what it must return.
func checkFormatted(t *testing.T, x api.Timetable) api.Errno {
	t.Helper()
	want, e := wantedFormat(x)
	checkFormat(t, x, want, e)
	return e
}

// checkParsed checks that Parse returns what it must return.
func checkParsed(t *testing.T, text string) (int, api.Errno) {
	t.Helper()
	want, n, e := wantedParse(text)
	if e == api.OK {
		checkTimetable(t, text, want)
	} else {
		checkError(t, text, n, e)
	}
	return n, e
}

// checkLine checks the number of the line that Parse returns.
func checkLine(t *testing.T, text string) {
	t.Helper()
	_, n, e := feed.Parse(text)
	isText := len(text) <= mostText && (text == "" || strings.HasSuffix(text, "\n"))
	if (n == 0) != (e == api.OK || !isText) {
		t.Errorf("Parse(%s) = %d, %d", short(text), n, e)
	}
	if n == 0 {
		return
	}
	if lines := strings.Split(text, "\n"); n < 0 || n >= len(lines) || isIgnored(lines[n-1]) {
		t.Errorf("Parse(%s) = %d, %d: there is no such record", short(text), n, e)
	}
}

// checkRoundTrip checks that what Parse returns is valid, and that its canonical feed is read as the same timetable.
func checkRoundTrip(t *testing.T, text string) {
	t.Helper()
	x, _, e := feed.Parse(text)
	if e != api.OK {
		return
	}
	if part, i, e := timetable.Check(x); e != api.OK {
		t.Errorf("Parse(%s) is not valid: %d, %d, %d", short(text), part, i, e)
	}
	again, e := feed.Format(x)
	if e == api.ErrLimit && again == "" {
		return
	}
	if e != api.OK {
		t.Errorf("Format returns %d for what Parse(%s) returns", e, short(text))
	}
	checkTimetable(t, again, x)
	checkFormat(t, x, again, api.OK)
}

// checkIgnored checks what an additional line that is ignored changes.
func checkIgnored(t *testing.T, text string, before int, line string) {
	t.Helper()
	lines := strings.SplitAfter(text, "\n")
	more := strings.Join(slices.Insert(lines, before, line+"\n"), "")
	if len(more) > mostText {
		return
	}
	x, n, e := feed.Parse(text)
	if n > before {
		n++
	}
	y, m, f := feed.Parse(more)
	if !timetable.Equal(x, y) || m != n || f != e {
		t.Errorf("Parse(%s) = %d, %d, not %d, %d", short(more), m, f, n, e)
	}
}

// checkAll checks a text in all ways.
func checkAll(t *testing.T, text string, next func(below int) int) (int, api.Errno) {
	t.Helper()
	n, e := checkParsed(t, text)
	checkLine(t, text)
	checkRoundTrip(t, text)
	if strings.HasSuffix(text, "\n") {
		checkIgnored(t, text, next(strings.Count(text, "\n")+1), pick(next, ignoredLines()))
	}
	return n, e
}

func TestInputs(t *testing.T) {
	if x := wholeTimetable(); canonical(x) != textOf(whole()...) {
		t.Errorf("the canonical feed of the whole timetable is %s", canonical(x))
	}
	var sizes [11]int
	next := source(1)
	for range 300 {
		x := scattered(next)
		if part, i, e := timetable.Check(x); e != api.OK {
			t.Fatalf("%+v is not valid: %d, %d, %d", x, part, i, e)
		}
		for i, n := range timetable.Sizes(x) {
			sizes[i] += n
		}
	}
	if slices.Min(sizes[:]) < 100 {
		t.Errorf("there are only %v elements", sizes)
	}
	for kind, forms := range layouts {
		for _, form := range forms {
			if form != "id" && len(faults[form]) == 0 || partOf(form) < 0 && len(rights[form]) == 0 {
				t.Errorf("%s: no fields of the form %s", kind, form)
			}
		}
	}
}
