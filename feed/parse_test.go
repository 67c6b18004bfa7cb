package feed_test

import (
	"fmt"
	"slices"
	"strings"
	"testing"

	"transit/api"
	"transit/feed"
	"transit/number"
)

// example has the lines of the chapter's example.
func example() []string {
	return []string{
		"stop,A,0,yes,0", "stop,B,1,no,120", "route,R,bus,no", "calendar,C,1111100,2025-01-01,2025-12-31", "trip,T,R,C,yes",
		"call,A,08:00:00,08:00:00,board", "call,B,08:30:00,08:31:00,alight", "path,A,B,10m00s,no", "product,single,2.50,1,16,0s,bus+tram",
	}
}

func TestParseExamples(t *testing.T) {
	lines := example()
	checkTimetable(t, textOf(lines...), api.Timetable{
		Stops:     []api.Stop{{ID: "A", StepFree: true}, {ID: "B", Zone: 1, Change: 120}},
		Routes:    []api.Route{{ID: "R"}},
		Calendars: []api.Calendar{{ID: "C", Week: [7]bool{true, true, true, true, true}, From: 9132, To: 9496}},
		Trips: []api.Trip{{ID: "T", StepFree: true, Calls: []api.Call{
			{Stop: 0, Arrive: 28800, Depart: 28800, Board: true},
			{Stop: 1, Arrive: 30600, Depart: 30660, Alight: true},
		}}},
		Paths: []api.Footpath{{From: 0, To: 1, Seconds: 600}},
		Fares: api.Fares{Products: []api.Product{{ID: "single", Price: 250, Rides: 1, Zones: 16, Modes: 3}}},
	})
	checkError(t, textOf(slices.Delete(slices.Clone(lines), 2, 3)...), 4, api.ErrReference)
	lines[1] = "stop,A,1,no,120"
	checkError(t, textOf(lines...), 7, api.ErrReference)
	lines[6], lines[7] = "call,A,08:30:00,08:31:00,alight", "path,A,A,10m00s,no"
	checkError(t, textOf(lines...), 2, api.ErrDuplicate)
}

func TestParseWhole(t *testing.T) {
	checkTimetable(t, textOf(whole()...), wholeTimetable())
}

func TestParseTexts(t *testing.T) {
	checkTimetable(t, "", api.Timetable{})
	checkTimetable(t, "\n", api.Timetable{})
	checkTimetable(t, textOf(ignoredLines()...), api.Timetable{})
	checkTimetable(t, "stop,A,0,no,0\n", api.Timetable{Stops: []api.Stop{{ID: "A"}}})
	for _, text := range []string{"#", " ", "stop,A,0,no,0", "\n#", "stop,A,0,no,0\nstop,B,0,no,0", "stops\nstop,A,0,no,0\n ", "\r", "a\x00"} {
		checkError(t, text, 0, api.ErrTruncated)
	}
	text := textOf(whole()...)
	for i := 1; i < len(text)-1; i++ {
		if text[i-1] != '\n' {
			checkError(t, text[:i], 0, api.ErrTruncated)
		}
	}
}

func TestParseLengths(t *testing.T) {
	lines := textOf(whole()...)
	for _, before := range []string{"", lines} {
		filling := mostText - len(before) - len("#\n")
		full := before + "#" + strings.Repeat("x", filling) + "\n"
		want := api.Timetable{}
		if before != "" {
			want = wholeTimetable()
		}
		checkTimetable(t, full, want)
		checkTimetable(t, before+strings.Repeat("\n", mostText-len(before)), want)
		checkTimetable(t, strings.Repeat("\n", mostText-len(before))+before, want)
		checkError(t, full+"\n", 0, api.ErrLimit)
		checkError(t, "#"+full, 0, api.ErrLimit)
		checkError(t, full+"x", 0, api.ErrLimit)
		checkError(t, full[:len(full)-1], 0, api.ErrTruncated)
		checkError(t, full[:len(full)-1]+"x", 0, api.ErrTruncated)
		checkError(t, full[:len(full)-1]+"xx", 0, api.ErrLimit)
	}
	checkError(t, strings.Repeat("\n", mostText-6)+"stops\n", mostText-5, api.ErrCommand)
	checkError(t, strings.Repeat("x", mostText-1)+"\n", 1, api.ErrCommand)
	checkError(t, strings.Repeat("x", 10*mostText)+"\n", 0, api.ErrLimit)
}

func TestParseLongID(t *testing.T) {
	const around = len("stop,,0,no,0\n")
	checkError(t, "stop,"+strings.Repeat("x", mostText-around)+",0,no,0\n", 1, api.ErrName)
	checkError(t, "stop,"+strings.Repeat("x", mostText-around+1)+",0,no,0\n", 0, api.ErrLimit)
}

func TestParseIgnoredLines(t *testing.T) {
	lines := whole()
	for _, line := range ignoredLines() {
		for i := range len(lines) + 1 {
			checkTimetable(t, textOf(slices.Insert(slices.Clone(lines), i, line)...), wholeTimetable())
			checkTimetable(t, textOf(slices.Insert(slices.Clone(lines), i, line, "", line)...), wholeTimetable())
		}
		var all []string
		for _, other := range lines {
			all = append(all, line, other, line)
		}
		checkTimetable(t, textOf(all...), wholeTimetable())
	}
}

func TestParseSimilarToIgnored(t *testing.T) {
	for _, c := range []struct {
		line string
		e    api.Errno
	}{
		{" ", api.ErrSyntax},
		{" #", api.ErrSyntax},
		{"\t#", api.ErrSyntax},
		{"\r", api.ErrSyntax},
		{"\x00", api.ErrSyntax},
		{"\"#\"", api.ErrSyntax},
		{"\"# \"", api.ErrCommand},
		{"\"\"", api.ErrCommand},
		{"x#", api.ErrCommand},
		{"//", api.ErrCommand},
		{";", api.ErrCommand},
		{",#", api.ErrSyntax},
		{"\"\",#", api.ErrCommand},
		{"stop#", api.ErrCommand},
		{"stop,#", api.ErrArgument},
		{"stop,A,0,no,0#", api.ErrSyntax},
		{"stop,A,0,no,0 # stop", api.ErrSyntax},
		{"stop,A,0,no,0,#", api.ErrArgument},
		{"stop,#,0,no,0", api.ErrName},
		{"stop,#A,0,no,0", api.ErrName},
		{"path,#,A,1s,no", api.ErrReference},
	} {
		checkError(t, textOf(c.line), 1, c.e)
		checkError(t, textOf("", c.line, "#"), 2, c.e)
		checkError(t, textOf("stop,X,0,no,0", "", "#", c.line), 4, c.e)
	}
}

// unsplit returns lines that field.Split refuses, with its errors.
func unsplit() []fault {
	return []fault{
		{"\"stop\",A,0,no,0", api.ErrSyntax},
		{"stop,\"A\",0,no,0", api.ErrSyntax},
		{"stop,A,0,no,\"0\"", api.ErrSyntax},
		{"\"stop,A,0,no,0", api.ErrSyntax},
		{"stop,\"A ,0,no,0", api.ErrSyntax},
		{"stop,A,0,no,0,", api.ErrSyntax},
		{",stop", api.ErrSyntax},
		{"stop,A,,no,0", api.ErrSyntax},
		{"stop, A,0,no,0", api.ErrSyntax},
		{"stop ,A,0,no,0", api.ErrSyntax},
		{"stop,A,0,no,0\r", api.ErrSyntax},
		{"\"a \"b", api.ErrSyntax},
		{"stop\\", api.ErrSyntax},
		{"st\"op", api.ErrSyntax},
		{"nothing,\"A\"", api.ErrSyntax},
		{"call,\"A\"", api.ErrSyntax},
		{"fares,\"A\"", api.ErrSyntax},
		{"stop" + strings.Repeat(",x", 64), api.ErrLimit},
		{"nothing" + strings.Repeat(",x", 64), api.ErrLimit},
		{"call" + strings.Repeat(",", 64), api.ErrSyntax},
		{"stop" + strings.Repeat(",x", 64) + ",\"x\"", api.ErrLimit},
		{"stop" + strings.Repeat(",x", 62) + ",\"x\"" + ",x", api.ErrSyntax},
	}
}

func TestParseLinesThatCannotBeSplit(t *testing.T) {
	for _, c := range unsplit() {
		checkError(t, textOf(c.s), 1, c.e)
		checkError(t, textOf("fares,0.00,0s,0.00", "#", c.s), 3, c.e)
		for _, wrong := range []fault{{"nothing", api.ErrCommand}, {"stop", api.ErrArgument}, {"call,A,00:00:00,00:00:00,both", api.ErrOrder}, {"path,A,B,1s,no", api.ErrReference}} {
			checkError(t, textOf(c.s, wrong.s), 1, c.e)
			checkError(t, textOf(wrong.s, c.s), 1, wrong.e)
			checkError(t, textOf("", wrong.s, "", c.s), 2, wrong.e)
			checkError(t, textOf("", c.s, "", wrong.s), 2, c.e)
		}
	}
	// The greatest number of fields is no error of field.Split.
	checkError(t, textOf("stop"+strings.Repeat(",x", 63)), 1, api.ErrArgument)
	checkError(t, textOf("nothing"+strings.Repeat(",x", 63)), 1, api.ErrCommand)
}

func TestParseKinds(t *testing.T) {
	for _, line := range whole() {
		fields := fieldsOf(line)
		kind := fields[0]
		for _, other := range []string{
			strings.ToUpper(kind), strings.ToUpper(kind[:1]) + kind[1:], kind + " ", " " + kind, kind + "s", kind[1:], kind[:len(kind)-1], kind + "," + kind, kind + "\x00", "_" + kind, kind + ":", kind + "#",
		} {
			if layouts[other] != nil {
				continue
			}
			checkError(t, textOf(lineOf(append([]string{other}, fields[1:]...)...)), 1, api.ErrCommand)
			checkError(t, textOf(lineOf(other)), 1, api.ErrCommand)
			checkError(t, textOf("stop,A,0,no,0", "", lineOf(other, "x", "", "y")), 3, api.ErrCommand)
		}
		// A kind is plain, so that it is not written in quotes.
		checkError(t, textOf("\""+kind+"\""+line[len(kind):]), 1, api.ErrSyntax)
	}
	for _, kind := range []string{"", "?", "0", "A", "id", "stop,", "rules", "mode", "zone", "transfer", "timetable", "product\\"} {
		checkError(t, textOf(lineOf(kind, "A", "0", "no", "0")), 1, api.ErrCommand)
	}
}

func TestParseNumbersOfFields(t *testing.T) {
	lines := whole()
	for i, line := range lines {
		fields := fieldsOf(line)
		for n := 1; n < 10; n++ {
			changed := slices.Clone(fields[:min(n, len(fields))])
			for len(changed) < n {
				changed = append(changed, pick(source(n), []string{"A", "0", "no", "", "0s"}))
			}
			want, e := i+1, api.ErrArgument
			if n == len(fields) {
				want, e = 0, api.OK
			}
			checkError(t, textOf(with(lines, i, lineOf(changed...))...), want, e)
		}
		checkError(t, textOf(with(lines, i, line+",\"\"")...), i+1, api.ErrArgument)
		checkError(t, textOf(with(lines, i, lineOf(slices.Delete(fields, 1, 2)...))...), i+1, api.ErrArgument)
	}
}

func TestParseCallsOutOfOrder(t *testing.T) {
	const call = "call,A,47:00:00,47:00:00,both"
	checkError(t, textOf(call), 1, api.ErrOrder)
	checkError(t, textOf("#", call), 2, api.ErrOrder)
	lines := whole()
	seen := map[string]bool{}
	for i, line := range lines {
		kind := fieldsOf(line)[0]
		seen[kind] = true
		for _, between := range [][]string{nil, {""}, {"#"}, {"# x", "", "", "#"}} {
			text := textOf(slices.Concat(lines[:i+1], between, []string{call}, lines[i+1:])...)
			if kind != "trip" && kind != "call" {
				checkError(t, text, i+2+len(between), api.ErrOrder)
				continue
			}
			if _, n, e := feed.Parse(text); e == api.ErrOrder {
				t.Errorf("Parse(%s) = %d, %d", text, n, e)
			}
			checkParsed(t, text)
		}
	}
	if len(seen) != len(layouts) {
		t.Errorf("there are only the kinds %v", seen)
	}
}

func TestParseCallsOfTrips(t *testing.T) {
	head := []string{"stop,A,0,no,0", "stop,B,0,no,0", "route,R,bus,no", "calendar,C,1111111,2025-01-01,2025-01-01"}
	first := []string{"call,A,08:00:00,08:00:00,both", "call,B,09:00:00,09:00:00,none"}
	second := []string{"call,B,10:00:00,10:00:00,board", "call,A,11:00:00,11:00:00,alight", "call,B,12:00:00,12:00:00,both"}
	want := api.Timetable{
		Stops:     []api.Stop{{ID: "A"}, {ID: "B"}},
		Routes:    []api.Route{{ID: "R"}},
		Calendars: []api.Calendar{{ID: "C", Week: [7]bool{true, true, true, true, true, true, true}, From: 9132, To: 9132}},
		Trips: []api.Trip{
			{ID: "T", Calls: []api.Call{{Stop: 0, Arrive: 28800, Depart: 28800, Board: true, Alight: true}, {Stop: 1, Arrive: 32400, Depart: 32400}}},
			{ID: "U", Calls: []api.Call{
				{Stop: 1, Arrive: 36000, Depart: 36000, Board: true},
				{Stop: 0, Arrive: 39600, Depart: 39600, Alight: true},
				{Stop: 1, Arrive: 43200, Depart: 43200, Board: true, Alight: true},
			}},
		},
	}
	for _, between := range [][]string{nil, {""}, {"#", ""}, {"stop,C,0,no,0"}, {"fares,0.00,0s,0.00"}} {
		text := textOf(slices.Concat(head, []string{"trip,T,R,C,no"}, first, between, []string{"trip,U,R,C,no"}, second)...)
		x := want
		if len(between) > 0 && between[0] == "stop,C,0,no,0" {
			x.Stops = append(slices.Clone(x.Stops), api.Stop{ID: "C"})
		}
		checkTimetable(t, text, x)
	}
	for i := range second {
		for _, between := range []string{"stop,C,0,no,0", "fares,0.00,0s,0.00", "path,A,B,1s,no", "exception,C,2025-01-01,added", "through,T,T"} {
			text := textOf(slices.Concat(head, []string{"trip,T,R,C,no"}, first, []string{"trip,U,R,C,no"}, second[:i], []string{between}, second[i:])...)
			checkError(t, text, len(head)+6+i, api.ErrOrder)
		}
	}
}

func TestParseSecondFares(t *testing.T) {
	const fares = "fares,0.50,30m00s,9.00"
	checkError(t, textOf(fares, fares), 2, api.ErrDuplicate)
	checkError(t, textOf(fares, "", "# x", fares), 4, api.ErrDuplicate)
	checkError(t, textOf("fares,0.00,0s,0.00", "fares,0.00,0s,0.00"), 2, api.ErrDuplicate)
	checkError(t, textOf("fares,0.00,0s,0.00", fares, fares), 2, api.ErrDuplicate)
	lines := slices.DeleteFunc(whole(), func(line string) bool { return line == fares })
	for i := range len(lines) + 1 {
		one := slices.Insert(slices.Clone(lines), i, fares)
		first := api.OK
		if i > 0 && i < len(lines) && strings.HasPrefix(lines[i], "call") {
			first = api.ErrOrder
		}
		if first == api.OK {
			checkTimetable(t, textOf(one...), wholeTimetable())
		}
		for j := i + 1; j < len(one)+1; j++ {
			if first == api.OK {
				checkError(t, textOf(slices.Insert(slices.Clone(one), j, "fares,0.00,0s,0.01")...), j+1, api.ErrDuplicate)
			}
		}
	}
}

func TestParseEachWrongField(t *testing.T) {
	lines := whole()
	for i, line := range lines {
		for j, form := range layouts[fieldsOf(line)[0]] {
			for _, c := range faults[form] {
				checkError(t, textOf(with(lines, i, replaced(line, j+1, c.s))...), i+1, c.e)
			}
		}
	}
}

func TestParseTwoWrongFields(t *testing.T) {
	lines := whole()
	for i, line := range lines {
		forms := layouts[fieldsOf(line)[0]]
		for j, form := range forms {
			for k, other := range forms[:j] {
				for _, left := range faults[other] {
					for _, right := range faults[form] {
						checkError(t, textOf(with(lines, i, replaced(replaced(line, j+1, right.s), k+1, left.s))...), i+1, left.e)
					}
				}
			}
		}
	}
}

func TestParseAllFieldsWrong(t *testing.T) {
	lines := whole()
	for i, line := range lines {
		wanted := api.OK
		for j, form := range layouts[fieldsOf(line)[0]] {
			if l := faults[form]; len(l) > 0 {
				line = replaced(line, j+1, l[len(l)-1].s)
				if wanted == api.OK {
					wanted = l[len(l)-1].e
				}
			}
		}
		checkError(t, textOf(with(lines, i, line)...), i+1, wanted)
	}
}

// TestParseSeveralFaults has records with several faults, and the error of the one that P23.1 names first.
func TestParseSeveralFaults(t *testing.T) {
	const fares = "fares,0.00,0s,0.00"
	for _, c := range []struct {
		before, line string
		e            api.Errno
	}{
		{"", "nothing,\"x\"", api.ErrSyntax},
		{"", "stop,\"x\"", api.ErrSyntax},
		{"", "call,\"x\"", api.ErrSyntax},
		{fares, "fares,\"x\"", api.ErrSyntax},
		{"", "stop,A,x,\"yes\",x", api.ErrSyntax},
		{"", "path,A,B,x,y,\"x\"", api.ErrSyntax},
		{"", "calls,x", api.ErrCommand},
		{"", "call", api.ErrArgument},
		{"", "call,x", api.ErrArgument},
		{"", "call,x,y,z,both,both", api.ErrArgument},
		{"", "stop,A,x,yes", api.ErrArgument},
		{"", "stop,A,0,maybe,0,0", api.ErrArgument},
		{"", "path,A,B,1s", api.ErrArgument},
		{"", "through,A", api.ErrArgument},
		{fares, "fares", api.ErrArgument},
		{fares, "fares,0.00,0s", api.ErrArgument},
		{fares, "fares,x,y,z,0", api.ErrArgument},
		{"", "call,A,x,y,z", api.ErrOrder},
		{"", "call,A,08:00:00,08:00:00,both", api.ErrOrder},
		{fares, "call,A,99:00:00,08:00:00,both", api.ErrOrder},
		{fares, "fares,x,y,z", api.ErrDuplicate},
		{fares, "fares,99999.00,1s,z", api.ErrDuplicate},
		{"", "exception,?,2025-02-29,x", api.ErrReference},
		{"", "calendar,?,x,2025-02-29,2025-02-29", api.ErrSyntax},
		{"", "calendar,?,0000000,2025-02-29,x", api.ErrDate},
		{"", "stop,?,99999999999999999999,x,x", api.ErrRange},
		{"", "trip,?,R,C,x", api.ErrReference},
		{"", "product,?,10000.01,x,x,x,x", api.ErrRange},
		{"", "product,?,1.00,x,99999999999999999999,x,x", api.ErrSyntax},
		{"", "fares,10000.01,x,x", api.ErrRange},
		{"", "fares,x,100h00m00s,10000.01", api.ErrSyntax},
	} {
		if c.before == "" {
			checkError(t, textOf(c.line), 1, c.e)
		}
		checkError(t, textOf(c.before, c.line), 2, c.e)
		checkError(t, textOf("stop,?,99,no,-1", c.before, "#", c.line), 4, c.e)
	}
}

func TestParseSeveralWrongRecords(t *testing.T) {
	wrong := []fault{
		{"\"stop\"", api.ErrSyntax}, {"nothing", api.ErrCommand}, {"stop", api.ErrArgument}, {"call,A,08:00:00,08:00:00,both", api.ErrOrder},
		{"route,A,x,no", api.ErrSyntax}, {"path,A,X,1s,no", api.ErrReference}, {"fares,10000.01,0s,0.00", api.ErrRange}, {"calendar,C,1111111,2025-02-29,x", api.ErrDate},
		{"stop" + strings.Repeat(",0", 64), api.ErrLimit},
	}
	invalid := []fault{{"stop,?,0,no,0", api.ErrName}, {"stop,A,16,no,0", api.ErrRange}, {"product,P,0.00,9,1,0s,bus", api.ErrRange}, {"stop,A,0,no,0\nstop,A,0,no,0", api.ErrDuplicate}}
	for _, a := range wrong {
		for _, b := range wrong {
			checkError(t, textOf(a.s, b.s), 1, a.e)
			checkError(t, textOf("#", a.s, "", b.s), 2, a.e)
		}
		for _, b := range invalid {
			checkError(t, textOf(a.s, b.s), 1, a.e)
			checkError(t, textOf(b.s, a.s), 2+strings.Count(b.s, "\n"), a.e)
			checkError(t, textOf(b.s, "", "#", a.s), 4+strings.Count(b.s, "\n"), a.e)
		}
	}
}

// parsed returns what Parse returns for lines that are right.
func parsed(t *testing.T, lines ...string) api.Timetable {
	t.Helper()
	x, n, e := feed.Parse(textOf(lines...))
	if n != 0 || e != api.OK {
		t.Errorf("Parse(%q) = %d, %d", lines, n, e)
	}
	return x
}

func TestParseWeeks(t *testing.T) {
	for days := range 128 {
		digits := fmt.Sprintf("%07b", days)
		x := parsed(t, "calendar,C,"+digits+",2025-01-01,2025-01-01")
		for i, ok := range x.Calendars[0].Week {
			if ok != (digits[i] == '1') {
				t.Errorf("day %d of %s is %v", i, digits, ok)
			}
		}
	}
	for _, digits := range []string{"0000000", "1111111", "1010101"} {
		for i := range 8 {
			for _, s := range []string{"", "2", "/", ":", "a", " ", "\x00", "x1", ",", "é", "-", "11", "00"} {
				for length := 0; length < 2 && i+length <= 7; length++ {
					week := digits[:i] + s + digits[i+length:]
					if !weekForm.MatchString(week) {
						checkError(t, textOf(lineOf("calendar", "C", week, "2025-01-01", "2025-01-01")), 1, api.ErrSyntax)
					}
				}
			}
		}
	}
}

func TestParseWords(t *testing.T) {
	for mode, name := range modeNames {
		if x := parsed(t, "route,R,"+name+",no"); x.Routes[0] != (api.Route{ID: "R", Mode: mode}) {
			t.Errorf("%s is read as %v", name, x.Routes)
		}
	}
	if x := parsed(t, "stop,A,0,yes,0", "stop,B,0,no,0", "route,R,bus,yes", "route,S,bus,no"); !x.Stops[0].StepFree || x.Stops[1].StepFree || !x.Routes[0].Bicycles || x.Routes[1].Bicycles {
		t.Errorf("the flags are read as %v", x)
	}
	if x := parsed(t, "calendar,C,0000000,2025-01-01,2025-01-01", "exception,C,2025-01-01,added", "exception,C,2025-01-02,removed"); !x.Exceptions[0].Added || x.Exceptions[1].Added {
		t.Errorf("the exceptions are read as %v", x.Exceptions)
	}
	lines := slices.Clone(whole())
	for word, both := range permissions {
		x := parsed(t, with(lines, 11, "call,B,08:30:00,08:31:00,"+word)...)
		if c := x.Trips[0].Calls[1]; c.Board != both[0] || c.Alight != both[1] {
			t.Errorf("%s is read as %v", word, c)
		}
	}
}

func TestParseNumbers(t *testing.T) {
	x := parsed(t, "stop,A,15,no,3600", "stop,B,0,no,0", "product,P,10000.00,8,16,24h00m00s,funicular", "product,Q,0.00,1,1,0s,bus+coach", "fares,10000.00,24h00m00s,0.01")
	if x.Stops[0] != (api.Stop{ID: "A", Zone: 15, Change: 3600}) || x.Stops[1] != (api.Stop{ID: "B"}) {
		t.Errorf("the stops are read as %v", x.Stops)
	}
	if l := x.Fares.Products; l[0] != (api.Product{ID: "P", Price: 1000000, Rides: 8, Zones: 16, Seconds: 86400, Modes: 128}) || l[1] != (api.Product{ID: "Q", Rides: 1, Zones: 1, Modes: 33}) {
		t.Errorf("the products are read as %v", l)
	}
	if f := x.Fares; f.Discount != 1000000 || f.Within != 86400 || f.Cap != 1 {
		t.Errorf("the fares are read as %v", f)
	}
	for _, n := range []int{least, least + 1, -1, 16, 1 << 32, 1 << 62, greatest} {
		s := number.Format(n)
		checkError(t, textOf("#", "stop,A,"+s+",no,0"), 2, api.ErrRange)
		checkError(t, textOf("stop,B,0,no,0", "stop,A,0,no,"+s+"0000"), 2, api.ErrRange)
		checkError(t, textOf("product,P,0.00,"+s+",1,0s,bus"), 1, api.ErrRange)
		checkError(t, textOf("product,P,0.00,1,"+s+"7,0s,bus"), 1, api.ErrRange)
	}
}

// TestParseForms reads every field of every record in each of the forms, right ones and wrong ones.
func TestParseForms(t *testing.T) {
	lines := whole()
	right := 0
	for i, line := range lines {
		for j := range layouts[fieldsOf(line)[0]] {
			for form := range faults {
				for _, s := range rights[form] {
					if _, e := checkParsed(t, textOf(with(lines, i, replaced(line, j+1, s))...)); e == api.OK {
						right++
					}
				}
				for _, c := range faults[form] {
					checkParsed(t, textOf(with(lines, i, replaced(line, j+1, c.s))...))
				}
			}
			for _, s := range rights["id"] {
				checkParsed(t, textOf(with(lines, i, replaced(line, j+1, s))...))
			}
		}
	}
	if right < 200 {
		t.Errorf("only %d feeds are right", right)
	}
}

func TestParseIDs(t *testing.T) {
	for _, id := range []string{"", " ", "a b", ",", "a,b", "\"", "\"a\"", "\\", "\n", "\x00", "#", "# a", "ä", "é\xff", strings.Repeat("x", 33), "a ", " a", "stop,A,0,yes,0"} {
		all := []string{
			lineOf("stop", id, "0", "no", "0"), lineOf("route", id, "bus", "no"), lineOf("calendar", id, "0000000", "2025-01-01", "2025-01-01"),
			lineOf("trip", id, id, id, "no"), lineOf("call", id, "08:00:00", "08:00:00", "both"),
			lineOf("exception", id, "2025-01-01", "added"), lineOf("frequency", id, "08:00:00", "09:00:00", "1s"), lineOf("through", id, id),
			lineOf("guarantee", id, id, id), lineOf("path", id, id, "1s", "no"), lineOf("product", id, "0.00", "1", "1", "0s", "bus"),
		}
		checkError(t, textOf(all...), 1, api.ErrName)
		for i := range all[:4] {
			lines := slices.Delete(slices.Clone(all), i, i+1)
			// The first record that refers to what is missing.
			checkError(t, textOf(lines...), []int{4, 3, 3, 4}[i], []api.Errno{api.ErrReference, api.ErrReference, api.ErrReference, api.ErrOrder}[i])
		}
		checkError(t, textOf("product,A,0.00,1,1,0s,bus", all[10]), 2, api.ErrName)
		checkError(t, textOf("calendar,A,0000000,2025-01-01,2025-01-01", all[2]), 2, api.ErrName)
		checkError(t, textOf("route,A,bus,no", all[1]), 2, api.ErrName)
		for i, line := range whole() {
			if kind := fieldsOf(line)[0]; layouts[kind][0] == "id" {
				checkParsed(t, textOf(with(whole(), i, replaced(line, 1, id))...))
			}
		}
	}
	for _, id := range []string{"a", "0", "-", "_", ".", "...", "-1", "stop", "call", strings.Repeat("x", 32)} {
		lines := whole()
		for i, line := range lines {
			fields := fieldsOf(line)
			for j, field := range fields {
				if form := append([]string{""}, layouts[fields[0]]...)[j]; field == "A" && (form == "id" || form == "stop") {
					lines[i] = replaced(lines[i], j, id)
				}
			}
		}
		want := wholeTimetable()
		want.Stops[0].ID = id
		checkTimetable(t, textOf(lines...), want)
	}
}

// references calls do for each reference in a feed: the line and the field, and the kind of what it refers to.
func references(lines []string, do func(i, j int, kind string)) {
	for i, line := range lines {
		for j, form := range layouts[fieldsOf(line)[0]] {
			if partOf(form) >= 0 {
				do(i, j+1, form)
			}
		}
	}
}

func TestParseReferencesToOtherKinds(t *testing.T) {
	head := []string{"stop,stop,0,no,0", "route,route,bus,no", "calendar,calendar,0000000,2025-01-01,2025-01-01", "product,product,0.00,1,1,0s,bus"}
	lines := append(head, whole()...)
	// A trip can only be behind what it refers to.
	trips := []string{"trip,trip,R,W,no", "call,A,08:00:00,08:00:00,both", "call,B,08:00:00,08:00:00,both"}
	lines = slices.Concat(lines[:len(head)+9], trips, lines[len(head)+9:])
	checkError(t, textOf(lines...), 0, api.OK)
	seen := map[string]int{}
	references(lines, func(i, j int, kind string) {
		for _, other := range []string{"stop", "route", "calendar", "product", "trip"} {
			changed := with(lines, i, replaced(lines[i], j, other))
			_, n, e := feed.Parse(textOf(changed...))
			isEarlier := other != "trip" || i >= len(head)+9 && fieldsOf(lines[i])[0] != "trip"
			if found := e != api.ErrReference || n != i+1; found != (other == kind && isEarlier) && !isSame(lines[i], j, other) {
				t.Errorf("field %d of %q: %d, %d", j, changed[i], n, e)
			}
			seen[kind+" "+other]++
		}
	})
	if len(seen) != 20 {
		t.Errorf("there are only %v", seen)
	}
}

// isSame reports whether the other reference of a record that may not refer twice to the same entity is s.
func isSame(line string, j int, s string) bool {
	fields := fieldsOf(line)
	return (fields[0] == "path" || fields[0] == "through" || fields[0] == "guarantee") && j < 3 && fields[3-j] == s
}

func TestParseSameIDOfAllKinds(t *testing.T) {
	all := []string{"stop,X,0,no,0", "stop,Y,0,no,0", "route,X,bus,no", "calendar,X,0000000,2025-01-01,2025-01-01", "trip,X,X,X,no", "call,X,08:00:00,08:00:00,both", "call,Y,08:00:00,08:00:00,both"}
	rest := []string{"exception,X,2025-01-01,added", "frequency,X,08:00:00,09:00:00,1h00m00s", "path,X,Y,1s,no", "product,X,0.00,1,1,0s,bus"}
	x := parsed(t, append(all, rest...)...)
	if x.Exceptions[0].Calendar != 0 || x.Frequencies[0].Trip != 0 || x.Paths[0] != (api.Footpath{To: 1, Seconds: 1}) || x.Trips[0].Calls[1].Stop != 1 {
		t.Errorf("the references are %v", x)
	}
	for _, line := range []string{"exception,Y,2025-01-01,added", "frequency,Y,08:00:00,09:00:00,1h00m00s", "through,X,Y", "through,Y,X", "guarantee,Y,X,X", "guarantee,X,Y,X", "trip,Z,Y,X,no", "trip,Z,X,Y,no"} {
		checkError(t, textOf(append(all, rest[0], line)...), len(all)+2, api.ErrReference)
		checkError(t, textOf(append(all, "", "#", line)...), len(all)+3, api.ErrReference)
	}
}

func TestParseLaterReferences(t *testing.T) {
	for _, c := range []struct {
		lines []string
		n     int
	}{
		{[]string{"path,A,B,1s,no", "stop,A,0,no,0", "stop,B,0,no,0"}, 1},
		{[]string{"stop,A,0,no,0", "path,A,B,1s,no", "stop,B,0,no,0"}, 2},
		{[]string{"stop,A,0,no,0", "path,B,A,1s,no", "stop,B,0,no,0"}, 2},
		{[]string{"exception,C,2025-01-01,added", "calendar,C,0000000,2025-01-01,2025-01-01"}, 1},
		{[]string{"calendar,C,0000000,2025-01-01,2025-01-01", "trip,T,R,C,no", "route,R,bus,no"}, 2},
		{[]string{"route,R,bus,no", "trip,T,R,C,no", "calendar,C,0000000,2025-01-01,2025-01-01"}, 2},
		{[]string{"frequency,T,08:00:00,09:00:00,1s", "route,R,bus,no", "calendar,C,0000000,2025-01-01,2025-01-01", "trip,T,R,C,no"}, 1},
		{[]string{"route,R,bus,no", "calendar,C,0000000,2025-01-01,2025-01-01", "trip,T,R,C,no", "call,A,08:00:00,08:00:00,both", "stop,A,0,no,0"}, 4},
		{[]string{"route,R,bus,no", "calendar,C,0000000,2025-01-01,2025-01-01", "trip,T,R,C,no", "through,T,U", "trip,U,R,C,no"}, 4},
		{[]string{"route,R,bus,no", "calendar,C,0000000,2025-01-01,2025-01-01", "trip,T,R,C,no", "through,U,T", "trip,U,R,C,no"}, 4},
		{[]string{"route,R,bus,no", "calendar,C,0000000,2025-01-01,2025-01-01", "trip,T,R,C,no", "guarantee,T,T,A", "stop,A,0,no,0"}, 4},
		// The record itself has the ID.
		{[]string{"trip,T,T,T,no"}, 1},
		{[]string{"route,R,bus,no", "trip,T,R,T,no"}, 2},
		{[]string{"calendar,C,0000000,2025-01-01,2025-01-01", "trip,T,T,C,no"}, 2},
	} {
		checkError(t, textOf(c.lines...), c.n, api.ErrReference)
		checkError(t, textOf(append([]string{"#", "product,A,0.00,1,1,0s,bus"}, c.lines...)...), c.n+2, api.ErrReference)
	}
}

// TestParseDuplicates has feeds in which records refer to one of several entities with the same ID.
func TestParseDuplicates(t *testing.T) {
	for _, c := range []struct {
		text string
		e    api.Errno
	}{
		{"stop,A,0,no,0\n!stop,A,1,no,0\nstop,B,0,no,0\npath,A,B,1s,no\npath,B,A,1s,no", api.ErrDuplicate},
		{"stop,A,0,no,0\nstop,B,0,no,0\npath,A,B,1s,no\n!stop,A,1,no,0\npath,A,B,1s,no", api.ErrDuplicate},
		{"stop,A,0,no,0\nroute,R,bus,no\ncalendar,C,0000000,2025-01-01,2025-01-01\n!route,R,tram,no\ntrip,T,R,C,no", api.ErrDuplicate},
		{"route,R,bus,no\ncalendar,C,0000000,2025-01-01,2025-01-01\n!calendar,C,1111111,2025-01-01,2025-01-01\nexception,C,2025-01-01,added\nexception,C,2025-01-01,added\ntrip,T,R,C,no", api.ErrDuplicate},
		{"stop,A,0,no,0\nstop,B,0,no,0\nroute,R,bus,no\ncalendar,C,0000000,2025-01-01,2025-01-01\ntrip,T,R,C,no\ncall,A,08:00:00,08:00:00,both\ncall,B,08:00:00,08:00:00,both\n!trip,T,R,C,no\ncall,B,08:00:00,08:00:00,both\ncall,A,08:00:00,08:00:00,both\nfrequency,T,08:00:00,09:00:00,1h00m00s\nthrough,T,T\nguarantee,T,T,A", api.ErrDuplicate},
		{"product,P,0.00,1,1,0s,bus\n#\n!product,P,0.00,1,1,0s,bus\nproduct,P,0.00,1,1,0s,bus", api.ErrDuplicate},
	} {
		lines, at := marked(c.text)
		checkError(t, textOf(lines...), at, c.e)
	}
}
