package lint_test

import (
	"reflect"
	"slices"
	"testing"

	"transit/api"
	"transit/lint"
	"transit/timetable"
)

// P24.3: each warning can be verified on its own, and there are no more than elements.

// verify checks each warning of a valid timetable by its definition, each fact of the definitions by its warning, and the numbers of the warnings.
func verify(t *testing.T, x api.Timetable) {
	t.Helper()
	l := lint.Warnings(x)
	var count [8]int
	for _, w := range l {
		if !holds(x, w) {
			t.Errorf("%v is no warning of %s", w, text(x))
		}
		count[w.Kind]++
	}
	for kind := range 9 {
		for a := -1; a <= sizeOf(x, kind); a++ {
			for b := -1; b <= len(x.Trips); b++ {
				if w := (lint.Warning{Kind: kind, A: a, B: b}); holds(x, w) != slices.Contains(l, w) {
					t.Errorf("%v is in the warnings of %s: %v", w, text(x), slices.Contains(l, w))
				}
			}
		}
	}
	most := [8]int{0, len(x.Stops), len(x.Routes), len(x.Calendars), len(x.Trips), len(x.Trips) * len(x.Trips), len(x.Stops), len(x.Routes)}
	for kind, n := range count {
		if n > most[kind] {
			t.Errorf("%s has %d warnings of the kind %d", text(x), n, kind)
		}
	}
}

func TestEachWarning(t *testing.T) {
	verify(t, full())
	verify(t, api.Timetable{})
	for seed := range 1500 {
		verify(t, scattered(source(seed)))
	}
}

// P24.4: a timetable without its last trip.

// isBound reports whether the trip is in a frequency, a through service or a guaranteed change.
func isBound(t api.Timetable, trip int) bool {
	return isRepeated(t, trip) ||
		slices.ContainsFunc(t.Throughs, func(x api.Through) bool { return x.From == trip || x.To == trip }) ||
		slices.ContainsFunc(t.Guarantees, func(x api.Guarantee) bool { return x.From == trip || x.To == trip })
}

// checkShorter checks the timetable without its last trip, which it has, and reports whether this trip is bound.
func checkShorter(t *testing.T, x api.Timetable) bool {
	t.Helper()
	n := len(x.Trips) - 1
	shorter := x
	shorter.Trips = x.Trips[:n]
	if isBound(x, n) {
		checkRefused(t, shorter)
		return true
	}
	if part, i, e := timetable.Check(shorter); e != api.OK {
		t.Errorf("%s is not valid without its last trip: %d, %d, %d", text(x), part, i, e)
	}
	l := checkDefinition(t, shorter)
	for _, w := range lint.Warnings(x) {
		switch w.Kind {
		case unusedStop, unusedRoute, unusedCalendar, unreachable:
			if !slices.Contains(l, w) {
				t.Errorf("%s has the warning %v, but not without its last trip", text(x), w)
			}
		}
	}
	return false
}

func TestWithoutLastTrip(t *testing.T) {
	bound, free := 0, 0
	for seed := range 3000 {
		for x := scattered(source(seed)); len(x.Trips) > 0; x.Trips = x.Trips[:len(x.Trips)-1] {
			if checkShorter(t, x) {
				bound++
				break
			}
			free++
		}
	}
	if min(bound, free) < 300 {
		t.Errorf("the last trip is bound %d times, and free %d times", bound, free)
	}
	x := longest(true)
	x.Frequencies = nil
	checkShorter(t, x)
}

// The last trip is bound in each way alone.
func TestWithoutLastTripOfEachKind(t *testing.T) {
	for i, change := range []func(x *api.Timetable){
		func(x *api.Timetable) {},
		func(x *api.Timetable) { x.Frequencies = []api.Frequency{{Trip: 2, From: 5000, To: 6000, Every: 600}} },
		func(x *api.Timetable) { x.Throughs = []api.Through{{From: 1, To: 2}} },
		func(x *api.Timetable) { x.Throughs = []api.Through{{From: 2, To: 1}} },
		func(x *api.Timetable) { x.Guarantees = []api.Guarantee{{From: 0, To: 2, Stop: 1}} },
		func(x *api.Timetable) { x.Guarantees = []api.Guarantee{{From: 2, To: 0, Stop: 1}} },
		// Other trips are bound.
		func(x *api.Timetable) { x.Frequencies = []api.Frequency{{Trip: 1, From: 5000, To: 6000, Every: 600}} },
		func(x *api.Timetable) { x.Throughs = []api.Through{{From: 0, To: 1}} },
		func(x *api.Timetable) { x.Guarantees = []api.Guarantee{{From: 0, To: 1, Stop: 1}} },
	} {
		x := withCalls(timed("1b 0 1a", 100, 100, 100, 100, 100, 100), timed("1b 3 1a", 100, 100, 100, 100, 100, 100), timed("1b 4 1a", 100, 100, 100, 100, 100, 100))
		x.Trips[2].Route, x.Trips[2].Calendar = 1, 2
		x.Trips[0].Calendar, x.Trips[1].Calendar = 2, 2
		change(&x)
		if checkKind(t, x, unusedStop, 2); t.Failed() {
			t.Fatalf("case %d", i)
		}
		if got := checkShorter(t, x); got != (i >= 1 && i <= 5) {
			t.Errorf("case %d: the last trip is bound: %v", i, got)
		}
	}
}

// P24.5: overtaking.

func TestOvertakingTrips(t *testing.T) {
	n := 0
	for _, x := range append(made(3000, func(i int) api.Timetable { return scattered(source(i)) }), full(), longest(true)) {
		for _, w := range lint.Warnings(x) {
			if w.Kind != overtaking {
				continue
			}
			n++
			a, b := x.Trips[w.A], x.Trips[w.B]
			if w.A == w.B || len(a.Calls) != len(b.Calls) {
				t.Fatalf("%v of %s", w, text(x))
			}
			earlier, later := false, false
			for i, time := range eventsOf(a) {
				earlier = earlier || time < eventsOf(b)[i]
				later = later || time > eventsOf(b)[i]
			}
			if !earlier || !later {
				t.Errorf("%v of %s", w, text(x))
			}
		}
	}
	if n < 1000 {
		t.Errorf("there are %d overtakings", n)
	}
}

// Rules: arguments are neither changed nor retained, results are new memory, and calls do not affect each other.

func TestArgumentsAreNotChanged(t *testing.T) {
	for _, original := range samples()[:120] {
		x := duplicate(original, 3)
		before := duplicate(whole(x), 0)
		l := lint.Warnings(x)
		for _, w := range append(l, lint.Warning{}, lint.Warning{Kind: 5, A: 1}) {
			lint.Text(x, w)
		}
		if !reflect.DeepEqual(duplicate(whole(x), 0), before) {
			t.Fatalf("%s was changed to %s", text(original), text(x))
		}
	}
}

// whole returns the timetable with all that is in the memory of its slices, up to their capacities.
func whole(t api.Timetable) api.Timetable {
	t.Stops, t.Routes, t.Calendars, t.Exceptions = up(t.Stops), up(t.Routes), up(t.Calendars), up(t.Exceptions)
	t.Trips = slices.Clone(up(t.Trips))
	for i := range t.Trips {
		t.Trips[i].Calls = up(t.Trips[i].Calls)
	}
	t.Frequencies, t.Throughs, t.Guarantees = up(t.Frequencies), up(t.Throughs), up(t.Guarantees)
	t.Paths, t.Fares.Products = up(t.Paths), up(t.Fares.Products)
	return t
}

// up returns a slice up to its capacity.
func up[T any](l []T) []T {
	return l[:cap(l)]
}

func TestWarningsShareNoMemory(t *testing.T) {
	x := full()
	first, second := lint.Warnings(x), lint.Warnings(x)
	clear(first[:cap(first)])
	if !slices.Equal(second, fullWarnings()) {
		t.Errorf("two results share memory: %v", second)
	}
	_ = append(second, lint.Warning{Kind: 9})
	checkWarnings(t, x, fullWarnings()...)
	third := lint.Warnings(x)
	clear(x.Stops)
	clear(x.Trips)
	clear(x.Routes)
	clear(x.Fares.Products)
	if !slices.Equal(third, fullWarnings()) {
		t.Errorf("the result changed with the timetable: %v", third)
	}
}

func TestCallsDoNotAffectEachOther(t *testing.T) {
	refused := full()
	refused.Stops[0].ID = "s1"
	for range 3 {
		checkWarnings(t, full(), fullWarnings()...)
		checkWarnings(t, refused)
		checkWarnings(t, api.Timetable{})
		checkText(t, full(), lint.Warning{Kind: 1, A: 6}, "stop s6 is not used")
		checkText(t, api.Timetable{}, lint.Warning{Kind: 1}, "")
		checkText(t, refused, lint.Warning{Kind: 1}, "stop s1 is not used")
		checkDefinition(t, longest(true))
	}
	// The order does not depend on that of a map.
	x := longest(true)
	want := lint.Warnings(x)
	for range 20 {
		checkWarnings(t, x, want...)
	}
}

// P1: both functions terminate and do not panic.

func FuzzLint(f *testing.F) {
	for seed := range 12 {
		next := source(seed)
		data := make([]byte, 100*seed)
		for i := range data {
			data[i] = byte(next(256))
		}
		f.Add(data, seed*seed, least+seed, seed, seed%8, 0)
		f.Add(data, 1000*seed, greatest-seed, seed%8, seed-1, seed)
		f.Add(data, 77*seed, seed-3, 5, seed, seed/2)
	}
	f.Fuzz(func(t *testing.T, data []byte, place, n, kind, a, b int) {
		x := scattered(fromBytes(data[:min(len(data), 3000)]))
		checkAll(t, x)
		if len(x.Trips) > 0 {
			checkShorter(t, x)
		}
		l := leavesOf(&x)
		switch leaf := l[uint(place)%uint(len(l))]; leaf.Kind() {
		case reflect.String:
			leaf.SetString(string(data[:min(len(data), 40)]))
		case reflect.Int:
			leaf.SetInt(int64(n))
		case reflect.Bool:
			leaf.SetBool(!leaf.Bool())
		}
		checkAll(t, x)
		w := lint.Warning{Kind: kind, A: a, B: b}
		checkText(t, x, w, wantedText(x, w))
	})
}
