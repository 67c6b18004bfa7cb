package feed_test

import (
	"cmp"
	"reflect"
	"slices"
	"strings"
	"testing"

	"transit/api"
	"transit/feed"
	"transit/timetable"
)

// TestRoundTrips reads the canonical feeds of valid timetables.
func TestRoundTrips(t *testing.T) {
	next := source(2)
	for range 1500 {
		x := scattered(next)
		before := timetable.Clone(x)
		text, e := feed.Format(x)
		if want := canonical(x); text != want || e != api.OK {
			t.Fatalf("Format(%+v) = %s, %d, not %s", x, short(text), e, short(want))
		}
		checkTimetable(t, text, x)
		checkRoundTrip(t, text)
		if !timetable.Equal(x, before) {
			t.Fatalf("Format has changed %+v", before)
		}
	}
}

// TestRoundTripsOfOtherFeeds reads feeds that are not canonical.
func TestRoundTripsOfOtherFeeds(t *testing.T) {
	next := source(3)
	different := 0
	for range 1500 {
		x := scattered(next)
		text := shuffled(next, x)
		checkTimetable(t, text, x)
		checkRoundTrip(t, text)
		checkLine(t, text)
		if again, _ := feed.Format(x); again != text {
			different++
		}
	}
	if different < 1200 {
		t.Errorf("only %d feeds are not canonical", different)
	}
}

func TestNotCanonical(t *testing.T) {
	lines := whole()
	rules := api.Timetable{}
	checkTimetable(t, "fares,0.00,0s,0.00\n", rules)
	checkFormat(t, rules, "", api.OK)
	for _, c := range []struct{ text, want string }{
		{"\n#\nstop,A,0,no,0\n\n# x\nstop,B,0,no,0\n\n", "stop,A,0,no,0\nstop,B,0,no,0\n"},
		{"product,P,0.00,1,1,0s,bus\nfares,0.00,0s,0.00\nstop,A,0,no,0\n", "stop,A,0,no,0\nproduct,P,0.00,1,1,0s,bus\n"},
		{"product,P,0.00,1,1,0s,bus\nfares,0.00,1s,0.00\nproduct,O,0.00,1,1,0s,bus\n", "fares,0.00,1s,0.00\nproduct,P,0.00,1,1,0s,bus\nproduct,O,0.00,1,1,0s,bus\n"},
		{"route,R,bus,no\nstop,B,0,no,0\ncalendar,C,0000000,2025-01-01,2025-01-01\nroute,Q,bus,no\nexception,C,2025-01-01,added\nstop,A,0,no,0\n",
			"stop,B,0,no,0\nstop,A,0,no,0\nroute,R,bus,no\nroute,Q,bus,no\ncalendar,C,0000000,2025-01-01,2025-01-01\nexception,C,2025-01-01,added\n"},
		{textOf(slices.Concat(lines[20:20], lines[3:7], lines[:3], lines[7:9], lines[9:13], lines[25:26], lines[13:19], lines[26:], lines[24:25], lines[22:24], lines[19:22])...),
			textOf(slices.Concat(lines[:23], lines[24:25], lines[23:24], lines[25:])...)},
	} {
		x, n, e := feed.Parse(c.text)
		if n != 0 || e != api.OK {
			t.Errorf("Parse(%s) = %d, %d", short(c.text), n, e)
		}
		checkFormat(t, x, c.want, api.OK)
		checkRoundTrip(t, c.text)
		checkParsed(t, c.text)
	}
}

// samples returns feeds, right ones and wrong ones.
func samples() []string {
	l := []string{"", "\n", "#\n", textOf(whole()...), textOf(example()...), "nothing\n", "stop,A,0,no,0\n\n#\nstop,A,0,no,0\n"}
	for _, c := range refusals() {
		lines, _ := marked(c.text)
		l = append(l, textOf(lines...))
	}
	lines := whole()
	for i, line := range lines {
		l = append(l, textOf(with(lines, i, line+",x")...), textOf(slices.Delete(slices.Clone(lines), i, i+1)...))
	}
	return l
}

// TestAdditionalIgnoredLines adds one line before each line and behind the last one.
func TestAdditionalIgnoredLines(t *testing.T) {
	for _, text := range samples() {
		for before := range strings.Count(text, "\n") + 1 {
			checkIgnored(t, text, before, ignoredLines()[before%9])
		}
	}
}

func TestLines(t *testing.T) {
	for _, text := range samples() {
		checkLine(t, text)
		checkLine(t, "\n#\n"+text+"#\n\n")
		checkLine(t, text+"x")
		checkLine(t, text+strings.Repeat("#", mostText)+"\n")
		checkRoundTrip(t, text)
	}
}

// TestAgainstDefinitions compares Parse with the chapter for feeds that are right and feeds that are wrong.
func TestAgainstDefinitions(t *testing.T) {
	next := source(4)
	type wrong struct {
		kind string
		e    api.Errno
	}
	right, errors := 0, map[wrong]int{}
	for range 6000 {
		text := disturbed(next)
		n, e := checkAll(t, text, next)
		if t.Failed() {
			t.Fatal(short(text))
		}
		if e == api.OK {
			right++
		}
		if n > 0 {
			kind, _, _ := strings.Cut(strings.Split(text, "\n")[n-1], ",")
			if layouts[kind] == nil {
				kind = "none"
			}
			errors[wrong{kind, e}]++
		}
	}
	if right < 1500 || len(errors) < 50 {
		t.Errorf("%d feeds are right, and there are %d errors: %v", right, len(errors), errors)
	}
}

// blocksOf returns the beginnings and the ends of the memory of the lists of timetables, up to their capacities.
func blocksOf(l ...*api.Timetable) [][2]uintptr {
	var blocks [][2]uintptr
	add := func(list reflect.Value) {
		if list.Cap() > 0 {
			blocks = append(blocks, [2]uintptr{list.Pointer(), list.Pointer() + uintptr(list.Cap())*list.Type().Elem().Size()})
		}
	}
	for _, x := range l {
		for part := range tables {
			add(listOf(x, part))
		}
		for _, trip := range x.Trips {
			add(reflect.ValueOf(trip.Calls))
		}
	}
	return blocks
}

// TestMemory checks that no two lists of results have memory in common.
func TestMemory(t *testing.T) {
	text := textOf(whole()...)
	x, _, _ := feed.Parse(text)
	y, _, _ := feed.Parse(text)
	blocks := blocksOf(&x, &y)
	if len(blocks) != 26 {
		t.Errorf("there are %d lists", len(blocks))
	}
	slices.SortFunc(blocks, func(a, b [2]uintptr) int { return cmp.Compare(a[0], b[0]) })
	for i := range blocks[1:] {
		if blocks[i][1] > blocks[i+1][0] {
			t.Errorf("two lists have memory in common")
		}
	}
	for _, leaf := range leavesOf(&x) {
		leaf.Set(reflect.ValueOf(others(leaf)[0]))
	}
	checkTimetable(t, text, wholeTimetable())
	if !timetable.Equal(y, wholeTimetable()) {
		t.Errorf("a change of a result has changed another one: %v", y)
	}
}

// TestCallsDoNotAffectEachOther reads and writes other feeds between two calls.
func TestCallsDoNotAffectEachOther(t *testing.T) {
	l := samples()
	next := source(5)
	for range 300 {
		text, other := pick(next, l), pick(next, l)
		x, n, e := feed.Parse(text)
		y, _, _ := feed.Parse(other)
		feed.Format(y)
		z, m, f := feed.Parse(text)
		if !timetable.Equal(x, z) || n != m || e != f {
			t.Errorf("Parse(%s) = %d, %d, and then %d, %d", short(text), n, e, m, f)
		}
	}
}

// fromBytes returns a function that returns integers from 0, up to the one before below, that the bytes give, and then 0.
func fromBytes(data []byte) func(below int) int {
	return func(below int) int {
		if len(data) == 0 {
			return 0
		}
		n := int(data[0])
		data = data[1:]
		if below > 256 && len(data) > 0 {
			n = n<<8 + int(data[0])
			data = data[1:]
		}
		return n % below
	}
}

func FuzzFeed(f *testing.F) {
	for seed, text := range samples() {
		f.Add(text, []byte{}, 0, least+seed)
		next := source(seed)
		data := make([]byte, next(400))
		for i := range data {
			data[i] = byte(next(256))
		}
		f.Add(disturbed(next), data, next(300), greatest-next(100000))
		f.Add(shuffled(next, scattered(next)), data, next(300), next(100))
	}
	f.Fuzz(func(t *testing.T, text string, data []byte, place, n int) {
		checkAll(t, text, source(n))
		x := scattered(fromBytes(data[:min(len(data), 2000)]))
		checkTimetable(t, shuffled(source(place), x), x)
		checkFormatted(t, x)
		if l := leavesOf(&x); len(l) > 0 {
			leaf := l[uint(place)%uint(len(l))]
			switch leaf.Kind() {
			case reflect.Int:
				leaf.SetInt(int64(n))
			case reflect.String:
				leaf.SetString(text)
			default:
				leaf.SetBool(!leaf.Bool())
			}
		}
		checkFormatted(t, x)
	})
}
