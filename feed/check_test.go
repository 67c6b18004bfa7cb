package feed_test

import (
	"fmt"
	"slices"
	"strings"
	"testing"

	"transit/api"
	"transit/feed"
	"transit/timetable"
)

// refusal is a feed that describes a timetable with a part that is not valid; the line of the error is marked.
type refusal struct {
	part int
	text string
	e    api.Errno
}

// base has what trips and footpaths refer to, and trips: A1 and B1 from A to B, B2 from B to A when B1 ends, and D from B to A with another calendar.
const base = "stop,A,0,no,0\nstop,B,0,no,0\nstop,Z,0,no,0\nroute,R,bus,no\ncalendar,C,1111111,2025-01-01,2025-01-01\ncalendar,D,1111111,2025-01-01,2025-01-01\n" +
	"trip,A1,R,C,no\ncall,A,08:00:00,08:00:00,both\ncall,B,08:30:00,08:30:00,both\n" +
	"trip,B1,R,C,no\ncall,A,09:00:00,09:00:00,both\ncall,B,09:30:00,09:30:00,both\n" +
	"trip,B2,R,C,no\ncall,B,09:30:00,09:30:00,both\ncall,A,10:00:00,10:00:00,both\n" +
	"trip,D,R,D,no\ncall,B,11:00:00,11:00:00,both\ncall,A,12:00:00,12:00:00,both\n" +
	"trip,Q,R,C,no\ncall,A,12:00:00,12:00:00,both\ncall,B,12:00:00,12:00:00,both\n" +
	"trip,Q1,R,C,no\ncall,B,12:00:00,12:00:00,both\ncall,A,12:00:00,12:00:00,both\n" +
	"trip,F,R,C,no\ncall,A,12:00:00,12:00:00,both\ncall,B,13:00:00,13:00:00,both\n"

// many returns n lines, with numbers in the place of %d, of which the first one is marked.
func many(n int, line string) string {
	var lines []string
	for i := range n {
		if strings.Contains(line, "%d") {
			lines = append(lines, fmt.Sprintf(line, i))
		} else {
			lines = append(lines, line)
		}
	}
	return "!" + strings.Join(lines, "\n")
}

// refusalsOfTables returns refusals of stops, routes, calendars and exceptions.
func refusalsOfTables() []refusal {
	const calendar = "calendar,C,1111111,2025-01-01,2025-01-01\n"
	return []refusal{
		{0, "stop,A,0,no,0\n!stop,B?,0,no,0\nstop,A,0,no,0", api.ErrName},
		{0, "stop,A,0,no,0\nstop,a,0,no,0\n!stop,A,0,no,0\nstop,?,0,no,0", api.ErrDuplicate},
		{0, "!stop,A,16,no,0", api.ErrRange},
		{0, "!stop,A,-1,no,0", api.ErrRange},
		{0, "stop,A,0,no,3600\n!stop,B,0,no,3601", api.ErrRange},
		{0, "stop,A,0,no,0\n!stop,B,0,no,-1", api.ErrRange},
		{0, many(65, "stop,S%d,0,no,0"), api.ErrLimit},
		{1, "route,R,bus,no\n!route," + strings.Repeat("r", 33) + ",bus,no", api.ErrName},
		{1, "route,R,bus,no\nroute,S,bus,no\n!route,R,bus,no", api.ErrDuplicate},
		{1, many(65, "route,S%d,tram,no"), api.ErrLimit},
		{2, calendar + "!calendar,c c,1111111,2025-01-01,2025-01-01", api.ErrName},
		{2, calendar + "!calendar,C,0000000,2025-01-01,2025-01-01", api.ErrDuplicate},
		{2, calendar + "!calendar,D,0000000,2025-01-02,2025-01-01", api.ErrDate},
		{2, many(65, "calendar,C%d,1111111,2025-01-01,2025-01-01"), api.ErrLimit},
		{3, calendar + "exception,C,2025-01-01,added\nexception,C,2025-01-02,added\n!exception,C,2025-01-01,removed", api.ErrDuplicate},
		{3, calendar + many(257, "exception,C,2025-01-01,added"), api.ErrLimit},
	}
}

// refusalsOfTrips returns refusals of trips with their calls, and of frequencies.
func refusalsOfTrips() []refusal {
	const call = "\ncall,A,13:00:00,13:00:00,both\ncall,B,14:00:00,14:00:00,both"
	return []refusal{
		{4, base + "!trip,?,R,C,no" + call, api.ErrName},
		{4, base + "!trip,A1,R,C,no" + call, api.ErrDuplicate},
		{4, base + "!trip,T,R,C,no", api.ErrLimit},
		{4, base + "!trip,T,R,C,no\ncall,A,13:00:00,13:00:00,both", api.ErrLimit},
		{4, base + "!trip,T,R,C,no" + strings.Repeat(call, 16) + "\ncall,A,13:00:00,13:00:00,both", api.ErrLimit},
		{4, base + "!trip,T,R,C,no" + call + "\ncall,B,15:00:00,15:00:00,both", api.ErrStop},
		{4, base + "!trip,T,R,C,no" + call + "\ncall,A,13:59:59,15:00:00,both", api.ErrTime},
		{4, base + "!trip,T,R,C,no" + call + "\ncall,A,15:00:01,15:00:00,both", api.ErrTime},
		{4, base + "trip,T,R,C,no" + call + "\n!trip,U,R,C,no\ntrip,V,R,C,no" + call, api.ErrLimit},
		{4, "stop,A,0,no,0\nstop,B,0,no,0\nroute,R,bus,no\ncalendar,C,1111111,2025-01-01,2025-01-01\n" + many(257, "trip,T%d,R,C,no\ncall,A,13:00:00,13:00:00,both\ncall,B,14:00:00,14:00:00,both"), api.ErrLimit},
		{5, base + "!frequency,F,07:00:00,07:00:00,1s", api.ErrTime},
		{5, base + "frequency,F,07:00:00,07:00:01,1s\n!frequency,F,08:00:00,07:00:00,1s", api.ErrTime},
		{5, base + "!frequency,F,07:00:00,08:00:00,0s", api.ErrTime},
		{5, base + "!frequency,F,07:00:00,08:00:00,24h00m01s", api.ErrTime},
		{5, base + "!frequency,F,47:00:01,47:00:02,1s", api.ErrTime},
		{5, base + "!frequency,F,07:00:00,07:04:17,1s", api.ErrFrequency},
		{5, base + "frequency,F,07:00:00,08:00:00,1h00m00s\n!frequency,F,07:59:59,08:00:00,1h00m00s", api.ErrOrder},
		{5, base + many(65, "frequency,F,07:00:00,08:00:00,1h00m00s"), api.ErrLimit},
	}
}

// refusalsOfLinks returns refusals of through services, guaranteed changes and footpaths.
func refusalsOfLinks() []refusal {
	const repeated = base + "frequency,F,07:00:00,08:00:00,1h00m00s\n"
	return []refusal{
		{6, base + "!through,A1,A1", api.ErrReference},
		{6, repeated + "!through,F,D", api.ErrFrequency},
		{6, repeated + "!through,B2,F", api.ErrFrequency},
		{6, base + "!through,B1,D", api.ErrCalendar},
		{6, base + "through,B1,B2\n!through,A1,B1", api.ErrStop},
		{6, base + "!through,Q,B2", api.ErrTime},
		{6, base + "through,A1,B2\n!through,A1,Q1", api.ErrDuplicate},
		{6, base + "through,A1,B2\n!through,B1,B2", api.ErrDuplicate},
		{6, base + "through,Q,Q1\n!through,Q1,Q", api.ErrLink},
		{6, base + many(129, "through,B1,B2"), api.ErrLimit},
		{7, base + "!guarantee,A1,A1,A", api.ErrReference},
		{7, repeated + "guarantee,A1,B2,B\n!guarantee,F,D,B", api.ErrFrequency},
		{7, repeated + "guarantee,A1,B2,B\n!guarantee,B2,F,A", api.ErrFrequency},
		{7, base + "!guarantee,B2,A1,A", api.ErrLink},
		{7, base + "guarantee,B1,B2,B\n!guarantee,B1,B2,Z", api.ErrLink},
		{7, base + "guarantee,B1,B2,B\nguarantee,A1,B2,B\n!guarantee,B1,B2,B", api.ErrDuplicate},
		{7, base + many(129, "guarantee,B1,B2,B"), api.ErrLimit},
		{8, base + "!path,A,A,1s,no", api.ErrReference},
		{8, base + "path,A,B,1s,no\n!path,A,B,0s,yes", api.ErrRange},
		{8, base + "path,A,B,1s,no\n!path,B,A,4h00m01s,no", api.ErrRange},
		{8, base + "path,A,B,1s,no\npath,A,B,1s,yes\n!path,A,B,2s,no", api.ErrDuplicate},
		{8, base + many(513, "path,A,B,1s,no"), api.ErrLimit},
	}
}

// refusalsOfFares returns refusals of the fares.
func refusalsOfFares() []refusal {
	const product = "product,P,0.00,1,1,0s,bus\n"
	return []refusal{
		{9, "!fares,0.00,24h00m01s,0.00", api.ErrRange},
		{9, product + "!fares,0.00,99h59m59s,0.00", api.ErrRange},
		{9, "!fares,0.00,25h00m00s,0.00\n" + product + "product,P,0.00,1,1,0s,bus", api.ErrRange},
		{9, product + "product,?,0.00,1,1,0s,bus\n!fares,0.00,25h00m00s,0.00\nproduct,P,0.00,1,1,0s,bus", api.ErrRange},
		{9, product + "!product,?,0.00,1,1,0s,bus", api.ErrName},
		{9, "fares,1.00,1s,1.00\n" + product + "!product,?,0.00,1,1,0s,bus", api.ErrName},
		{9, product + "!product,?,0.00,1,1,0s,bus\nfares,1.00,1s,1.00", api.ErrName},
		{9, product + "fares,1.00,1s,1.00\n!product,P,0.00,1,1,0s,bus", api.ErrDuplicate},
		{9, product + "!product,Q,0.00,0,1,0s,bus", api.ErrRange},
		{9, product + "!product,Q,0.00,9,1,0s,bus", api.ErrRange},
		{9, product + "!product,Q,0.00,1,0,0s,bus", api.ErrRange},
		{9, product + "!product,Q,0.00,1,17,0s,bus", api.ErrRange},
		{9, "!product,Q,0.00,1,1,24h00m01s,bus", api.ErrRange},
		{9, "!product,Q,0.00,1,1,0s,none\n" + product + "product,P,0.00,1,1,0s,bus", api.ErrRange},
		{9, many(17, "product,P%d,0.00,1,1,0s,bus"), api.ErrLimit},
		{9, "fares,0.00,0s,0.00\n" + many(17, "product,P%d,0.00,1,1,0s,bus") + "\nroute,X,bus,no", api.ErrLimit},
	}
}

func refusals() []refusal {
	return slices.Concat(refusalsOfTables(), refusalsOfTrips(), refusalsOfLinks(), refusalsOfFares())
}

// TestParseRefusals has, for each part, feeds of timetables that are not valid.
func TestParseRefusals(t *testing.T) {
	var parts [10]int
	for _, c := range refusals() {
		lines, at := marked(c.text)
		checkError(t, textOf(lines...), at, c.e)
		checkParsed(t, textOf(lines...))
		parts[c.part]++
	}
	if slices.Min(parts[:]) < 2 {
		t.Errorf("there are only %v refusals", parts)
	}
}

func TestParseRefusalsAndIgnoredLines(t *testing.T) {
	for _, c := range refusals() {
		lines, at := marked(c.text)
		for i := range len(lines) + 1 {
			want := at
			if i < at {
				want++
			}
			checkError(t, textOf(slices.Insert(slices.Clone(lines), i, ignoredLines()[i%9])...), want, c.e)
		}
		var all []string
		for _, line := range lines {
			all = append(all, "#", line, "")
		}
		checkError(t, textOf(all...), 3*at-1, c.e)
	}
}

// TestParseRefusalsBetweenOtherRecords has records of other parts before, between and behind the records of the part that is not valid.
func TestParseRefusalsBetweenOtherRecords(t *testing.T) {
	others := []struct {
		part int
		line string
	}{{0, "stop,X%d,0,no,0"}, {1, "route,X%d,rail,no"}, {2, "calendar,X%d,0000000,2025-01-01,2025-01-01"}, {9, "product,X%d,0.00,1,1,0s,bus"}}
	for _, c := range refusals() {
		lines, at := marked(c.text)
		for _, other := range others {
			if other.part == c.part {
				continue
			}
			var all []string
			want, n := 0, 0
			for i, line := range append(lines, "") {
				if n < 15 && !strings.HasPrefix(line, "call") {
					all = append(all, fmt.Sprintf(other.line, n))
					n++
				}
				all = append(all, line)
				if i+1 == at {
					want = len(all)
				}
			}
			checkError(t, textOf(all...), want, c.e)
		}
	}
}

// renamed returns lines in which all IDs and references are other ones.
func renamed(lines []string) []string {
	var l []string
	for _, line := range lines {
		for j, form := range layouts[fieldsOf(line)[0]] {
			if form == "id" || partOf(form) >= 0 {
				line = replaced(line, j+1, "x"+fieldsOf(line)[j+1])
			}
		}
		l = append(l, line)
	}
	return l
}

// TestParseTwoRefusals has two parts that are not valid: the error of the first part is told, wherever its records are.
func TestParseTwoRefusals(t *testing.T) {
	for _, a := range refusals() {
		for _, b := range refusals() {
			if a.part >= b.part {
				continue
			}
			first, at := marked(a.text)
			second, _ := marked(b.text)
			if strings.HasPrefix(a.text, "!fares") || strings.Count(a.text+b.text, "\nfares") > 1 {
				continue
			}
			// Together they have more of something than either of them alone.
			if a.e == api.ErrLimit || b.e == api.ErrLimit {
				continue
			}
			checkError(t, textOf(append(renamed(second), first...)...), at+len(second), a.e)
			checkError(t, textOf(append(first, renamed(second)...)...), at, a.e)
		}
	}
}

// TestParseAfterRefusals has a record that is wrong behind records whose timetable is not valid.
func TestParseAfterRefusals(t *testing.T) {
	for _, c := range refusals() {
		lines, _ := marked(c.text)
		checkError(t, textOf(append(lines, "nothing")...), len(lines)+1, api.ErrCommand)
		checkError(t, textOf(append(lines, "stop,A,x,no,0")...), len(lines)+1, api.ErrSyntax)
		checkError(t, textOf(append([]string{"path,A,A,1s,no"}, lines...)...), 1, api.ErrReference)
	}
}

// TestParseAtLimits has as many entities as are allowed.
func TestParseAtLimits(t *testing.T) {
	var lines []string
	add := func(n int, line string) {
		for i := range n {
			if strings.Contains(line, "%") {
				lines = append(lines, fmt.Sprintf(line, i))
			} else {
				lines = append(lines, line)
			}
		}
	}
	add(64, "stop,S%d,0,no,0")
	add(64, "route,R%d,bus,no")
	add(64, "calendar,C%d,0000000,2025-01-01,2025-01-01")
	for i := range 256 {
		add(1, fmt.Sprintf("exception,C%d,2025-01-%02d,added", i%64, 1+i/64))
	}
	add(1, "trip,L,R0,C0,no")
	for i := range 32 {
		add(1, fmt.Sprintf("call,S%d,%02d:00:00,%02d:00:00,both", i, i, i))
	}
	for i := range 255 {
		add(1, fmt.Sprintf("trip,T%d,R63,C63,no", i))
		add(1, "call,S0,00:00:00,00:00:00,both")
		add(1, "call,S63,00:00:01,00:00:01,both")
	}
	for i := range 64 {
		add(1, fmt.Sprintf("frequency,T254,%02d:00:%02d,%02d:00:%02d,1h00m00s", i/2, i%2*30, i/2, i%2*30+29))
	}
	for i := range 512 {
		add(1, fmt.Sprintf("path,S%d,S%d,1s,no", i/63, i/63+1+i%63-(i/63+1+i%63)/64*64))
	}
	add(16, "product,P%d,0.00,1,1,0s,bus")
	x := parsed(t, lines...)
	if sizes := timetable.Sizes(x); sizes != [11]int{64, 64, 64, 256, 256, 32 + 510, 64, 0, 0, 512, 16} {
		t.Errorf("the sizes are %v", sizes)
	}
	checkParsed(t, textOf(lines...))
	// One more of each part is too many: the line of the first one is told.
	for kind, more := range map[string]string{
		"stop": "stop,X,0,no,0", "route": "route,X,bus,no", "calendar": "calendar,X,0000000,2025-01-01,2025-01-01", "exception": "exception,C0,2025-02-01,added",
		"trip": "trip,X,R0,C0,no", "frequency": "frequency,T253,00:00:00,00:00:01,1s", "path": "path,S63,S62,1s,no", "product": "product,X,0.00,1,1,0s,bus",
	} {
		first := slices.IndexFunc(lines, func(line string) bool { return fieldsOf(line)[0] == kind })
		checkError(t, textOf(append(slices.Clone(lines), more)...), first+1, api.ErrLimit)
	}
}

// TestParseLinksAtLimits has as many through services and guaranteed changes as are allowed.
func TestParseLinksAtLimits(t *testing.T) {
	lines := []string{"stop,A,0,no,0", "stop,B,0,no,0", "route,R,bus,no", "calendar,C,0000000,2025-01-01,2025-01-01"}
	stops := []string{"A", "B"}
	for i := range 130 {
		lines = append(lines, fmt.Sprintf("trip,T%d,R,C,no", i), "call,"+stops[i%2]+",12:00:00,12:00:00,both", "call,"+stops[1-i%2]+",12:00:00,12:00:00,both")
	}
	head := len(lines)
	for i := range 128 {
		lines = append(lines, fmt.Sprintf("through,T%d,T%d", i, i+1), fmt.Sprintf("guarantee,T%d,T%d,%s", i, i+1, stops[1-i%2]))
	}
	if sizes := timetable.Sizes(parsed(t, lines...)); sizes != [11]int{2, 1, 1, 0, 130, 260, 0, 128, 128} {
		t.Errorf("the sizes are %v", sizes)
	}
	checkError(t, textOf(append(slices.Clone(lines), "through,T128,T129")...), head+1, api.ErrLimit)
	checkError(t, textOf(append(slices.Clone(lines), "guarantee,T128,T129,B")...), head+2, api.ErrLimit)
}

// TestParseZeroTimetableWithErrors checks that nothing is returned together with an error.
func TestParseZeroTimetableWithErrors(t *testing.T) {
	errors := map[api.Errno]int{}
	check := func(text string) {
		x, n, e := feed.Parse(text)
		if e == api.OK || !isZero(x) {
			t.Errorf("Parse(%s) = %+v, %d, %d", short(text), x, n, e)
		}
		errors[e]++
	}
	before := textOf(whole()...)
	check(before[:len(before)-1])
	check(before + strings.Repeat("#", mostText))
	for _, line := range []string{"\"stop\"", "nothing", "stop", "call,A,08:00:00,08:00:00,both", "fares,0.00,0s,0.00", "path,A,X,1s,no", "route,X,x,no", "fares,10000.01,0s,0.00", "stop,X,99999999999999999999,no,0", "exception,W,2025-02-29,added", "stop,A,0,no,0", "stop,?,0,no,0", "stop,X,99,no,0", "through,U,T", "guarantee,U,T,C", "frequency,T,50:00:00,49:00:00,1s", "frequency,T,09:00:00,08:00:00,1s"} {
		check(before + line + "\n")
	}
	for _, c := range refusals() {
		lines, _ := marked(c.text)
		check(textOf(lines...))
	}
	if len(errors) < 15 {
		t.Errorf("there are only the errors %v", errors)
	}
}
