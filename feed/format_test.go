package feed_test

import (
	"fmt"
	"reflect"
	"slices"
	"strings"
	"testing"

	"transit/api"
	"transit/feed"
	"transit/timetable"
)

func TestFormatExamples(t *testing.T) {
	lines := textOf(example()...)
	x, _, _ := feed.Parse(lines)
	checkFormat(t, x, lines, api.OK)
	checkFormat(t, wholeTimetable(), textOf(whole()...), api.OK)
	checkFormat(t, api.Timetable{}, "", api.OK)
}

// TestFormatFields writes each field with several values.
func TestFormatFields(t *testing.T) {
	for _, c := range []struct {
		x    api.Timetable
		want string
	}{
		{api.Timetable{Stops: []api.Stop{{ID: "A"}}}, "stop,A,0,no,0"},
		{api.Timetable{Stops: []api.Stop{{ID: "-.9", Zone: 15, StepFree: true, Change: 3600}}}, "stop,-.9,15,yes,3600"},
		{api.Timetable{Stops: []api.Stop{{ID: strings.Repeat("x", 32)}}}, "stop," + strings.Repeat("x", 32) + ",0,no,0"},
		{api.Timetable{Routes: []api.Route{{ID: "R", Bicycles: true}, {ID: "S", Mode: 5}}}, "route,R,bus,yes\nroute,S,coach,no"},
		{api.Timetable{Calendars: []api.Calendar{{ID: "C"}}}, "calendar,C,0000000,2000-01-01,2000-01-01"},
		{api.Timetable{Calendars: []api.Calendar{{ID: "C", Week: [7]bool{0: true}, From: 59, To: 60}}}, "calendar,C,1000000,2000-02-29,2000-03-01"},
		{api.Timetable{Calendars: []api.Calendar{{ID: "C", Week: [7]bool{6: true}, From: 36524, To: 36524}}}, "calendar,C,0000001,2099-12-31,2099-12-31"},
		{api.Timetable{Calendars: []api.Calendar{{ID: "C"}, {ID: "D"}}, Exceptions: []api.Exception{{Calendar: 1, Day: 366, Added: true}, {Calendar: 0, Day: 0}}},
			"calendar,C,0000000,2000-01-01,2000-01-01\ncalendar,D,0000000,2000-01-01,2000-01-01\nexception,D,2001-01-01,added\nexception,C,2000-01-01,removed"},
		{api.Timetable{Stops: []api.Stop{{ID: "A"}, {ID: "B"}}, Paths: []api.Footpath{{From: 1, To: 0, Seconds: 59, StepFree: true}, {From: 0, To: 1, Seconds: 3600}}},
			"stop,A,0,no,0\nstop,B,0,no,0\npath,B,A,59s,yes\npath,A,B,1h00m00s,no"},
		{api.Timetable{Fares: api.Fares{Discount: 1}}, "fares,0.01,0s,0.00"},
		{api.Timetable{Fares: api.Fares{Within: 86400}}, "fares,0.00,24h00m00s,0.00"},
		{api.Timetable{Fares: api.Fares{Cap: 1000000}}, "fares,0.00,0s,10000.00"},
		{api.Timetable{Fares: api.Fares{Products: []api.Product{{ID: "P", Rides: 1, Zones: 1, Modes: 128}}}}, "product,P,0.00,1,1,0s,funicular"},
		{api.Timetable{Fares: api.Fares{Cap: 105, Products: []api.Product{{ID: "P", Price: 1000000, Rides: 8, Zones: 16, Seconds: 61, Modes: 9}}}}, "fares,0.00,0s,1.05\nproduct,P,10000.00,8,16,1m01s,bus+rail"},
	} {
		checkFormat(t, c.x, c.want+"\n", api.OK)
		checkTimetable(t, c.want+"\n", c.x)
	}
}

// TestFormatRules has the record of the fares exactly if one of its numbers is not 0.
func TestFormatRules(t *testing.T) {
	for _, products := range []int{0, 1, 2} {
		for rules := range 8 {
			x := wholeTimetable()
			x.Fares = api.Fares{Products: x.Fares.Products[:products], Discount: rules & 1, Within: rules >> 1 & 1, Cap: rules >> 2}
			lines := whole()[:25]
			if rules != 0 {
				lines = append(lines, fmt.Sprintf("fares,0.0%d,%ds,0.0%d", rules&1, rules>>1&1, rules>>2))
			}
			lines = append(lines, whole()[26:26+products]...)
			checkFormat(t, x, textOf(lines...), api.OK)
		}
	}
}

func TestFormatPermissions(t *testing.T) {
	for word, both := range permissions {
		x := wholeTimetable()
		x.Trips[0].Calls[1].Board, x.Trips[0].Calls[1].Alight = both[0], both[1]
		checkFormat(t, x, textOf(with(whole(), 11, "call,B,08:30:00,08:31:00,"+word)...), api.OK)
	}
}

// TestFormatWithoutOnePart has timetables of which one part is empty.
func TestFormatWithoutOnePart(t *testing.T) {
	right := 0
	for part := range tables {
		for _, length := range []int{-1, 0} {
			x := wholeTimetable()
			list := listOf(&x, part)
			list.SetZero()
			if length == 0 {
				list.Set(reflect.MakeSlice(list.Type(), 0, 5))
			}
			if e := checkFormatted(t, x); e == api.OK {
				right++
			}
			x = api.Timetable{}
			whole := wholeTimetable()
			listOf(&x, part).Set(listOf(&whole, part))
			checkFormatted(t, x)
		}
	}
	if right < 12 {
		t.Errorf("only %d timetables are valid without a part", right)
	}
	x := wholeTimetable()
	x.Trips[1].Calls = nil
	checkFormat(t, x, "", api.ErrLimit)
}

// TestFormatOrder has the elements of each list in another order.
func TestFormatOrder(t *testing.T) {
	right := 0
	for part := range tables {
		x := wholeTimetable()
		list := listOf(&x, part)
		if list.Len() > 1 {
			reflect.Swapper(list.Interface())(0, 1)
		}
		if e := checkFormatted(t, x); e == api.OK {
			right++
		}
	}
	if right < 7 {
		t.Errorf("only %d timetables are valid with another order", right)
	}
	x := wholeTimetable()
	slices.Reverse(x.Fares.Products)
	lines := whole()
	slices.Reverse(lines[26:])
	checkFormat(t, x, textOf(lines...), api.OK)
}

// ofSize returns a valid timetable with a canonical feed of n bytes.
func ofSize(t *testing.T, n int) api.Timetable {
	t.Helper()
	var calls []api.Call
	for i := range 32 {
		calls = append(calls, api.Call{Stop: i % 2, Arrive: i, Depart: i, Board: true})
	}
	x := api.Timetable{Stops: []api.Stop{{ID: "A"}, {ID: "B"}}, Routes: []api.Route{{ID: "R"}}, Calendars: []api.Calendar{{ID: "C"}}}
	for len(canonical(x)) < n-1200 {
		x.Trips = append(x.Trips, api.Trip{ID: fmt.Sprint("T", 1000+len(x.Trips)), Calls: calls})
	}
	missing := n - len(canonical(x))
	for i := range x.Trips {
		more := min(missing, 32-len(x.Trips[i].ID))
		x.Trips[i].ID += strings.Repeat("x", more)
		missing -= more
	}
	if len(canonical(x)) != n {
		t.Fatalf("the feed has %d bytes, not %d", len(canonical(x)), n)
	}
	return x
}

func TestFormatLengths(t *testing.T) {
	for n := mostText - 2; n <= mostText; n++ {
		x := ofSize(t, n)
		checkFormat(t, x, canonical(x), api.OK)
		checkTimetable(t, canonical(x), x)
	}
	for _, n := range []int{mostText + 1, mostText + 2, 70000, 2 * mostText} {
		x := ofSize(t, n)
		checkFormat(t, x, "", api.ErrLimit)
		// A timetable that is not valid has the error of its check.
		x.Stops[1].ID = "A"
		checkFormat(t, x, "", api.ErrDuplicate)
	}
}

// TestFormatLongest has the greatest timetable that is valid.
func TestFormatLongest(t *testing.T) {
	x := ofSize(t, 2*mostText)
	for len(x.Trips) < 256 {
		trip := x.Trips[0]
		trip.ID = fmt.Sprint("U", len(x.Trips))
		x.Trips = append(x.Trips, trip)
	}
	checkFormat(t, x, "", api.ErrLimit)
	x.Trips = append(x.Trips, x.Trips[0])
	x.Trips[256].ID = "one-more"
	checkFormat(t, x, "", api.ErrLimit)
	// The error of the check comes first: the stops are checked before the trips.
	x.Stops[0].Zone = 16
	checkFormat(t, x, "", api.ErrRange)
}

func TestFormatRefusals(t *testing.T) {
	refused := 0
	for _, c := range refusals() {
		lines, _ := marked(c.text)
		var l []record
		for i, line := range lines {
			r, e := wantedRecord(line, i+1, l)
			if e != api.OK {
				t.Fatalf("%q: %d", line, e)
			}
			l = append(l, r)
		}
		checkFormat(t, wantedTimetable(l), "", c.e)
		refused++
	}
	if refused < 60 {
		t.Errorf("there are only %d refusals", refused)
	}
	for _, c := range []struct {
		x api.Timetable
		e api.Errno
	}{
		{api.Timetable{Stops: []api.Stop{{}}}, api.ErrName},
		{api.Timetable{Stops: []api.Stop{{ID: "a,b"}}}, api.ErrName},
		{api.Timetable{Routes: []api.Route{{ID: "R", Mode: 8}}}, api.ErrRange},
		{api.Timetable{Routes: []api.Route{{ID: "R", Mode: -1}}}, api.ErrRange},
		{api.Timetable{Calendars: []api.Calendar{{ID: "C", From: -1}}}, api.ErrDate},
		{api.Timetable{Calendars: []api.Calendar{{ID: "C", To: 36525}}}, api.ErrDate},
		{api.Timetable{Exceptions: []api.Exception{{}}}, api.ErrReference},
		{api.Timetable{Trips: []api.Trip{{}}}, api.ErrName},
		{api.Timetable{Trips: []api.Trip{{ID: "T"}}}, api.ErrReference},
		{api.Timetable{Frequencies: []api.Frequency{{}}}, api.ErrReference},
		{api.Timetable{Throughs: []api.Through{{}}}, api.ErrReference},
		{api.Timetable{Guarantees: []api.Guarantee{{}}}, api.ErrReference},
		{api.Timetable{Paths: []api.Footpath{{}}}, api.ErrReference},
		{api.Timetable{Fares: api.Fares{Cap: -1}}, api.ErrRange},
		{api.Timetable{Fares: api.Fares{Discount: 1000001}}, api.ErrRange},
		{api.Timetable{Fares: api.Fares{Products: []api.Product{{}}}}, api.ErrName},
	} {
		checkFormat(t, c.x, "", c.e)
	}
}

// leaves calls do with each string, integer and bool of a value.
func leaves(v reflect.Value, do func(leaf reflect.Value)) {
	switch v.Kind() {
	case reflect.Struct:
		for i := range v.NumField() {
			leaves(v.Field(i), do)
		}
	case reflect.Slice, reflect.Array:
		for i := range v.Len() {
			leaves(v.Index(i), do)
		}
	default:
		do(v)
	}
}

// leavesOf returns the strings, integers and bools of a timetable.
func leavesOf(x *api.Timetable) []reflect.Value {
	var l []reflect.Value
	leaves(reflect.ValueOf(x).Elem(), func(leaf reflect.Value) { l = append(l, leaf) })
	return l
}

// others returns other values for a leaf.
func others(leaf reflect.Value) []any {
	switch leaf.Kind() {
	case reflect.Int:
		n := int(leaf.Int())
		return []any{least, least + 1, -1, 0, 1, 2, 7, 8, 16, n - 1, n + 1, 3601, 14401, 36525, 86400, 86401, 172800, 172801, 1000000, 1000001, 1 << 32, greatest}
	case reflect.String:
		return []any{"", "A", "x", "a b", "a,b", "\"", strings.Repeat("x", 32), strings.Repeat("x", 33)}
	}
	return []any{!leaf.Bool()}
}

// TestFormatEachField changes each field of a timetable to other values, integers at both ends among them.
func TestFormatEachField(t *testing.T) {
	right, errors := 0, map[api.Errno]int{}
	n := wholeTimetable()
	for i := range leavesOf(&n) {
		x := wholeTimetable()
		leaf := leavesOf(&x)[i]
		for _, other := range others(leaf) {
			leaf.Set(reflect.ValueOf(other))
			if e := checkFormatted(t, x); e == api.OK {
				right++
				text, _ := feed.Format(x)
				checkTimetable(t, text, x)
			} else {
				errors[e]++
			}
		}
	}
	if right < 150 || len(errors) < 9 {
		t.Errorf("%d timetables are valid, and the errors are %v", right, errors)
	}
}

// TestFormatDoesNotChange has lists with more elements behind their ends.
func TestFormatDoesNotChange(t *testing.T) {
	longer := wholeTimetable()
	before := timetable.Clone(longer)
	x := longer
	for _, kind := range []string{"exception", "frequency", "through", "guarantee", "path", "product"} {
		list := listOf(&x, partOf(kind))
		list.Set(list.Slice(0, list.Len()-1))
	}
	x.Trips = slices.Clone(x.Trips)
	x.Trips[0].Calls = x.Trips[0].Calls[:2]
	if e := checkFormatted(t, x); e != api.OK {
		t.Errorf("Format(%v) = %d", x, e)
	}
	if !timetable.Equal(longer, before) {
		t.Errorf("Format has changed %v", before)
	}
}
