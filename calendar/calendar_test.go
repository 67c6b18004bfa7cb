package calendar

import (
	"fmt"
	"math"
	"regexp"
	"slices"
	"strings"
	"testing"
	"time"

	"transit/api"
)

// The limits as the document states them.
const (
	mostCalendars  = 64
	mostExceptions = 256
	lastDay        = 36524
	longest        = 32
)

const (
	least    = math.MinInt
	greatest = math.MaxInt
)

// The weekdays, from Monday on.
const (
	monday = iota
	tuesday
	wednesday
	thursday
	friday
	saturday
	sunday
)

// The chapter's definitions.

// nameForm is the form of an identifier.
var nameForm = regexp.MustCompile(`\A[A-Za-z0-9_.-]{1,32}\z`)

// isDay reports whether n is a day.
func isDay(n int) bool {
	return n >= 0 && n <= lastDay
}

// weekdayOf returns the weekday of a day, from 0 for Monday, by Go's own calendar.
func weekdayOf(day int) int {
	return (int(time.Date(2000, time.January, 1+day, 0, 0, 0, 0, time.UTC).Weekday()) + 6) % 7
}

// dayOf returns the day with that date.
func dayOf(year int, month time.Month, day int) int {
	return int(time.Date(year, month, day, 0, 0, 0, 0, time.UTC).Sub(time.Date(2000, time.January, 1, 0, 0, 0, 0, time.UTC)).Hours()) / 24
}

// weekdays has the weekdays of all days.
var weekdays = func() []int {
	var list []int
	for day := range lastDay + 1 {
		list = append(list, weekdayOf(day))
	}
	return list
}()

// wantedCheck returns what Check must return.
func wantedCheck(l []api.Calendar) (int, api.Errno) {
	if len(l) > mostCalendars {
		return 0, api.ErrLimit
	}
	for i, c := range l {
		if !nameForm.MatchString(c.ID) {
			return i, api.ErrName
		}
		if slices.ContainsFunc(l[:i], func(earlier api.Calendar) bool { return earlier.ID == c.ID }) {
			return i, api.ErrDuplicate
		}
		if !isDay(c.From) || !isDay(c.To) || c.From > c.To {
			return i, api.ErrDate
		}
	}
	return 0, api.OK
}

// wantedCheckExceptions returns what CheckExceptions must return.
func wantedCheckExceptions(x []api.Exception, calendars int) (int, api.Errno) {
	if len(x) > mostExceptions {
		return 0, api.ErrLimit
	}
	for i, e := range x {
		if e.Calendar < 0 || e.Calendar > calendars-1 {
			return i, api.ErrReference
		}
		if !isDay(e.Day) {
			return i, api.ErrDate
		}
		if slices.ContainsFunc(x[:i], func(earlier api.Exception) bool { return earlier.Calendar == e.Calendar && earlier.Day == e.Day }) {
			return i, api.ErrDuplicate
		}
	}
	return 0, api.OK
}

// patternReason returns the reason for a day of a calendar to which no exception refers.
func patternReason(c api.Calendar, day int) int {
	switch {
	case day < c.From, day > c.To:
		return Outside
	case c.Week[weekdays[day]]:
		return Pattern
	}
	return OffDay
}

// wantedReason returns what Reason must return.
func wantedReason(l []api.Calendar, x []api.Exception, i int, day int) int {
	if i < 0 || i >= len(l) || !isDay(day) {
		return Unknown
	}
	for _, e := range x {
		if e.Calendar == i && e.Day == day {
			return exceptionReason(e)
		}
	}
	return patternReason(l[i], day)
}

// exceptionReason returns the reason that an exception gives.
func exceptionReason(e api.Exception) int {
	if e.Added {
		return Added
	}
	return Removed
}

// isActive reports whether a calendar is active for that reason.
func isActive(reason int) bool {
	return reason == Pattern || reason == Added
}

// wantedReasons returns the reasons of calendar i for all days: an exception replaces those of the later ones.
func wantedReasons(l []api.Calendar, x []api.Exception, i int) []int {
	list := make([]int, lastDay+1)
	if i < 0 || i >= len(l) {
		return list
	}
	for day := range list {
		list[day] = patternReason(l[i], day)
	}
	for _, e := range slices.Backward(x) {
		if e.Calendar == i && isDay(e.Day) {
			list[e.Day] = exceptionReason(e)
		}
	}
	return list
}

// activeDays returns the days with those reasons on which a calendar is active.
func activeDays(reasons []int) []int {
	var list []int
	for day, reason := range reasons {
		if isActive(reason) {
			list = append(list, day)
		}
	}
	return list
}

// inRange returns the part of a list of days in increasing order that is from from to to.
func inRange(days []int, from, to int) []int {
	if from > to {
		return nil
	}
	first, _ := slices.BinarySearch(days, from)
	behind, found := slices.BinarySearch(days, to)
	if found {
		behind++
	}
	return days[first:behind]
}

// Inputs.

// integers returns different integers at the limits of this chapter and at those of the integer types.
func integers() []int {
	list := []int{least, least + 1, greatest, greatest - 1}
	for _, n := range []int{0, 7, mostCalendars, mostExceptions, 365, lastDay} {
		list = append(list, n-1, n, n+1, -n)
	}
	for shift := range 63 {
		n := 1 << shift
		list = append(list, n-1, n, n+1, n+lastDay, -n-1, -n, -n+1)
	}
	slices.Sort(list)
	return slices.Compact(list)
}

// edgeDays returns integers that are the first or last days, or near them, and some that are far outside.
func edgeDays() []int {
	return []int{least, least + 1, -1 << 32, -lastDay, -8, -7, -1, 0, 1, 2, 6, 7, 8, 13, 14, 365, 366, 20000, lastDay - 7, lastDay - 1, lastDay, lastDay + 1, lastDay + 7, 1 << 32, greatest - 1, greatest}
}

// week returns the week whose weekdays are the bits of a number, Monday first.
func week(bits int) [7]bool {
	var w [7]bool
	for i := range w {
		w[i] = bits>>i&1 == 1
	}
	return w
}

// The weeks of all days, of no day, and of Monday to Friday.
var (
	daily   = week(127)
	never   = week(0)
	workday = week(31)
)

// table returns a table of n calendars, valid if they are not too many, with identifiers of different lengths; some are parts of others.
func table(n int) []api.Calendar {
	var l []api.Calendar
	for i := range n {
		from := i * 547 % (lastDay + 1)
		l = append(l, api.Calendar{ID: fmt.Sprintf("%b", i), Week: week(i * 37 % 128), From: from, To: min(from+i*i*11, lastDay)})
	}
	return l
}

// exceptions returns a list of n exceptions, valid for calendars if they are not too many; many have the same calendar, or the same day.
func exceptions(n int, calendars int) []api.Exception {
	var x []api.Exception
	for i := range n {
		x = append(x, api.Exception{Calendar: i % calendars, Day: i / calendars * 37 % (lastDay + 1), Added: i%3 == 1})
	}
	return x
}

// kinds returns calendars that are valid alone, and calendars that are not, two and more of them with the same ID.
func kinds() []api.Calendar {
	return []api.Calendar{
		{ID: "A", Week: workday, To: 13},
		{ID: "A", From: 5, To: lastDay},
		{ID: "a", Week: daily, From: lastDay, To: lastDay},
		{ID: "AB", Week: week(96)},
		{ID: "A", Week: daily, From: 6, To: 5},
		{ID: "B", Week: week(3), From: -1, To: 20},
		{ID: "", Week: daily, To: 5},
		{ID: "A B", From: 3, To: lastDay + 1, Week: week(64)},
	}
}

// exceptionKinds returns exceptions that are valid alone for two calendars, and exceptions that are not; some are the same but for Added.
func exceptionKinds() []api.Exception {
	return []api.Exception{
		{Calendar: 0, Day: 2},
		{Calendar: 0, Day: 2, Added: true},
		{Calendar: 1, Day: 2, Added: true},
		{Calendar: 1, Day: lastDay},
		{Calendar: 2, Day: 2, Added: true},
		{Calendar: -1, Day: 2},
		{Calendar: 0, Day: lastDay + 1, Added: true},
		{Calendar: 1, Day: -1},
	}
}

// lists returns all lists of up to length of the elements.
func lists[T any](elements []T, length int) [][]T {
	all := [][]T{nil}
	for from := 0; length > 0; length-- {
		to := len(all)
		for _, l := range all[from:to] {
			for _, e := range elements {
				all = append(all, append(slices.Clone(l), e))
			}
		}
		from = to
	}
	return all
}

// numbers returns a function that returns numbers without a pattern, each below its argument.
func numbers(seed int) func(below int) int {
	state := uint64(seed)
	return func(below int) int {
		state = state*6364136223846793005 + 1442695040888963407
		return int(state>>33) % below
	}
}

// scattered returns n calendars without a pattern; all of them are valid but for one in rare, and many identifiers are equal if there are few of them.
func scattered(seed, n, names, rare int) []api.Calendar {
	next := numbers(seed)
	wrong := integers()
	var l []api.Calendar
	for range n {
		c := api.Calendar{ID: fmt.Sprintf("c%x", next(names)), Week: week(next(128)), From: next(lastDay + 1)}
		c.To = c.From + next(lastDay+1-c.From)
		if next(rare) == 0 {
			switch next(4) {
			case 0:
				c.ID += "?"
			case 1:
				c.From = wrong[next(len(wrong))]
			case 2:
				c.To = wrong[next(len(wrong))]
			case 3:
				c.From, c.To = c.To, c.From
			}
		}
		l = append(l, c)
	}
	return l
}

// scatteredExceptions returns n exceptions without a pattern for calendars, on days of which there are so many; all of them are valid but for one in rare and those that are equal.
func scatteredExceptions(seed, n, calendars, days, rare int) []api.Exception {
	next := numbers(seed)
	wrong := integers()
	first := next(lastDay + 2 - days)
	var x []api.Exception
	for range n {
		e := api.Exception{Calendar: next(calendars), Day: first + next(days), Added: next(2) == 0}
		if next(rare) == 0 {
			if next(2) == 0 {
				e.Calendar = wrong[next(len(wrong))]
			} else {
				e.Day = wrong[next(len(wrong))]
			}
		}
		x = append(x, e)
	}
	return x
}

// tables returns valid tables of calendars, and tables that are not.
func tables() [][]api.Calendar {
	all := lists(kinds(), 4)
	for n := range mostCalendars + 3 {
		all = append(all, table(n), scattered(n, n, 1000000, 1000000), scattered(n, n, 100, 1000000), scattered(n, n, 1000000, 64), scattered(n, n, 8, 8))
	}
	for _, n := range []int{100, 127, 128, 129, 255, 256, 257, 1000} {
		all = append(all, table(n), scattered(n, n, 100, 8))
	}
	return all
}

// exceptionLists returns valid lists of exceptions, and lists that are not.
func exceptionLists() [][]api.Exception {
	all := lists(exceptionKinds(), 4)
	for n := range mostExceptions + 3 {
		all = append(all, exceptions(n, 1+n%mostCalendars), scatteredExceptions(n, n, mostCalendars, lastDay+1, 1000000), scatteredExceptions(n, n, 3, 50, 1000000), scatteredExceptions(n, n, 2, lastDay+1, 256), scatteredExceptions(n, n, 5, 8, 8))
	}
	for _, n := range []int{511, 512, 513, 1000, 5000} {
		all = append(all, exceptions(n, 7), scatteredExceptions(n, n, 2, 100, 8))
	}
	return all
}

// with returns the list with another element at the index i.
func with[T any](l []T, i int, e T) []T {
	l = slices.Clone(l)
	l[i] = e
	return l
}

// text returns a list, or its beginning, for a report.
func text[T any](l []T) string {
	return fmt.Sprintf("%.200s of %d", fmt.Sprintf("%+v", l), len(l))
}

// work returns the calendar and the exceptions of the chapter's examples.
func work() ([]api.Calendar, []api.Exception) {
	return []api.Calendar{{ID: "work", Week: workday, From: 0, To: 13}}, []api.Exception{{Calendar: 0, Day: 2}, {Calendar: 0, Day: 7, Added: true}}
}

// Checks.

func checkCheck(t *testing.T, l []api.Calendar, index int, e api.Errno) {
	t.Helper()
	if i, got := Check(l); i != index || got != e {
		t.Errorf("Check(%s) = %d, %d; want %d, %d", text(l), i, got, index, e)
	}
}

func checkCheckExceptions(t *testing.T, x []api.Exception, calendars int, index int, e api.Errno) {
	t.Helper()
	if i, got := CheckExceptions(x, calendars); i != index || got != e {
		t.Errorf("CheckExceptions(%s, %d) = %d, %d; want %d, %d", text(x), calendars, i, got, index, e)
	}
}

// checkReason checks Reason and Active.
func checkReason(t *testing.T, l []api.Calendar, x []api.Exception, i, day int, want int) {
	t.Helper()
	if got := Reason(l, x, i, day); got != want {
		t.Errorf("Reason(%s, %s, %d, %d) = %d; want %d", text(l), text(x), i, day, got, want)
	}
	if got := Active(l, x, i, day); got != (want == 1 || want == 2) {
		t.Errorf("Active(%s, %s, %d, %d) = %v, but the reason is %d", text(l), text(x), i, day, got, want)
	}
}

// checkDays also checks that the list is nil if it has no days.
func checkDays(t *testing.T, l []api.Calendar, x []api.Exception, i, from, to int, want ...int) {
	t.Helper()
	got := Days(l, x, i, from, to)
	if !slices.Equal(got, want) || len(want) == 0 && got != nil {
		t.Errorf("Days(%s, %s, %d, %d, %d) = %s; want %s", text(l), text(x), i, from, to, text(got), text(want))
	}
}

func checkNext(t *testing.T, l []api.Calendar, x []api.Exception, i, day int, want int, found bool) {
	t.Helper()
	if got, ok := Next(l, x, i, day); got != want || ok != found {
		t.Errorf("Next(%s, %s, %d, %d) = %d, %v; want %d, %v", text(l), text(x), i, day, got, ok, want, found)
	}
}

func checkPrevious(t *testing.T, l []api.Calendar, x []api.Exception, i, day int, want int, found bool) {
	t.Helper()
	if got, ok := Previous(l, x, i, day); got != want || ok != found {
		t.Errorf("Previous(%s, %s, %d, %d) = %d, %v; want %d, %v", text(l), text(x), i, day, got, ok, want, found)
	}
}

// checkRange compares Days with the active days that are in a range.
func checkRange(t *testing.T, l []api.Calendar, x []api.Exception, i, from, to int, active []int) {
	t.Helper()
	checkDays(t, l, x, i, from, to, inRange(active, from, to)...)
}

// checkSearch compares Next and Previous from one day with the active days.
func checkSearch(t *testing.T, l []api.Calendar, x []api.Exception, i, day int, active []int) {
	t.Helper()
	if later := inRange(active, day, greatest); len(later) > 0 {
		checkNext(t, l, x, i, day, later[0], true)
	} else {
		checkNext(t, l, x, i, day, 0, false)
	}
	if earlier := inRange(active, least, day); len(earlier) > 0 {
		checkPrevious(t, l, x, i, day, earlier[len(earlier)-1], true)
	} else {
		checkPrevious(t, l, x, i, day, 0, false)
	}
}

// placesOf returns the days at and beside the ends of calendar i and those at and beside the days of the first exceptions.
func placesOf(l []api.Calendar, x []api.Exception, i int) []int {
	list := []int{least, -1, 0, 1, lastDay - 1, lastDay, lastDay + 1, greatest}
	if i >= 0 && i < len(l) {
		list = append(list, l[i].From-1, l[i].From, l[i].From+1, l[i].To-1, l[i].To, l[i].To+1)
	}
	for _, e := range x[:min(len(x), 5)] {
		list = append(list, e.Day-1, e.Day, e.Day+1)
	}
	slices.Sort(list)
	return slices.Compact(list)
}

// checkAll compares the functions for calendar i with the definitions: on each day by Days, and at the places where something changes.
func checkAll(t *testing.T, l []api.Calendar, x []api.Exception, i int) {
	t.Helper()
	reasons := wantedReasons(l, x, i)
	active := activeDays(reasons)
	checkRange(t, l, x, i, least, greatest, active)
	days := placesOf(l, x, i)
	for k, day := range days {
		want := Unknown
		if isDay(day) {
			want = reasons[day]
		}
		checkReason(t, l, x, i, day, want)
		if wantedReason(l, x, i, day) != want {
			t.Fatalf("the definitions differ for %s, %s, %d, %d", text(l), text(x), i, day)
		}
		checkSearch(t, l, x, i, day, active)
		checkRange(t, l, x, i, day, days[(k+1)%len(days)], active)
		checkRange(t, l, x, i, day, days[(k*7+3)%len(days)], active)
	}
}

// P14.1 (Check)

func TestCheckExamples(t *testing.T) {
	l, _ := work()
	checkCheck(t, l, 0, api.OK)
	checkCheck(t, append(l, api.Calendar{ID: "b", From: 5, To: 5}), 0, api.OK)
	checkCheck(t, append(l, api.Calendar{ID: "b", From: 5, To: 4}), 1, api.ErrDate)
	checkCheck(t, append(l, api.Calendar{ID: "work", From: 5, To: 6}), 1, api.ErrDuplicate)
	checkCheck(t, append(l, api.Calendar{ID: "work days", From: 5, To: 6}), 1, api.ErrName)
}

func TestCheckLimit(t *testing.T) {
	checkCheck(t, nil, 0, api.OK)
	checkCheck(t, []api.Calendar{}, 0, api.OK)
	checkCheck(t, []api.Calendar{{ID: "A"}}, 0, api.OK)
	for n := range mostCalendars + 1 {
		checkCheck(t, table(n), 0, api.OK)
	}
	for _, n := range []int{mostCalendars + 1, mostCalendars + 2, 2 * mostCalendars, 255, 256, 257, 256 + mostCalendars, 65536, 65537, 100000} {
		checkCheck(t, table(n), 0, api.ErrLimit)
		checkCheck(t, table(n)[:mostCalendars], 0, api.OK)
		// No calendar of a list that is too long is valid, or all of them have the same ID.
		checkCheck(t, make([]api.Calendar, n), 0, api.ErrLimit)
		checkCheck(t, slices.Repeat([]api.Calendar{{ID: "A"}}, n), 0, api.ErrLimit)
	}
	for i := range mostCalendars + 1 {
		for _, c := range []api.Calendar{{}, {ID: "0"}, {ID: "111"}, {ID: "A", From: 2, To: 1}, {ID: "A", To: lastDay + 1}} {
			checkCheck(t, with(table(mostCalendars+1), i, c), 0, api.ErrLimit)
		}
	}
}

func TestCheckName(t *testing.T) {
	full := strings.Repeat("a", longest)
	for _, id := range []string{"a", "z", "A", "Z", "0", "9", "-", "_", ".", "Sat-1.a", "007", "-1", "..", full, full[1:], strings.Repeat(".9Z_", longest/4), "A1", "AA", "1A", "A-", "-A"} {
		checkCheck(t, []api.Calendar{{ID: id}}, 0, api.OK)
		checkCheck(t, []api.Calendar{{ID: "other", To: 1}, {ID: id, Week: daily}}, 0, api.OK)
	}
	for _, id := range []string{
		"", " ", "a b", " a", "a ", "a\n", "\n", "\x00", "a\x00", "a\tb", "\x7f", "a,b", "a;b", "a:b", "a/b", "a\\b", "a@b", "a[b", "a]b", "a`b", "a{b", "a}b", "a|b", "a~b", "a^b", "a+b", "a*b", "a=b", "a<b", "a>b", "a(b", "a)b", "a&b", "a%b", "a$b", "a#b", "a!b", "?", `"a"`, "'a'",
		"ä", "Märzmontage", "月曜日", "\u0430", "\uff21", "\u0663", "\u2010", "a\u0301", "\u00a0", "\x80", "\xff", "a\xffb", "\xc1\x81",
		full + "a", full + ".", full + " ", full[1:] + " ", " " + full[1:], full + full, strings.Repeat("a", 256+1), strings.Repeat("a", 1000000),
	} {
		checkCheck(t, []api.Calendar{{ID: id}}, 0, api.ErrName)
		checkCheck(t, []api.Calendar{{ID: "A"}, {ID: id}, {ID: "B"}}, 1, api.ErrName)
		checkCheck(t, []api.Calendar{{ID: "A"}, {ID: id}, {ID: id}}, 1, api.ErrName)
	}
}

func TestCheckNameEachByte(t *testing.T) {
	valid := "ABCDEFGHIJKLMNOPQRSTUVWXYZabcdefghijklmnopqrstuvwxyz0123456789-_."
	for b := range 256 {
		index, e := 1, api.ErrName
		if strings.IndexByte(valid, byte(b)) >= 0 {
			index, e = 0, api.OK
		}
		for _, id := range [][]byte{{byte(b)}, {byte(b), 'a'}, {'a', byte(b)}, {'a', byte(b), 'a'}} {
			checkCheck(t, []api.Calendar{{ID: "first"}, {ID: string(id)}}, index, e)
		}
	}
}

func TestCheckDates(t *testing.T) {
	for _, c := range []struct {
		from, to int
		e        api.Errno
	}{
		{0, 0, api.OK}, {0, 1, api.OK}, {0, lastDay, api.OK}, {1, 1, api.OK}, {5, 5, api.OK}, {5, 6, api.OK}, {lastDay - 1, lastDay, api.OK}, {lastDay, lastDay, api.OK},
		{1, 0, api.ErrDate}, {6, 5, api.ErrDate}, {lastDay, 0, api.ErrDate}, {lastDay, lastDay - 1, api.ErrDate}, {greatest, least, api.ErrDate},
		{-1, -1, api.ErrDate}, {-1, 0, api.ErrDate}, {-1, lastDay, api.ErrDate}, {0, -1, api.ErrDate}, {least, 5, api.ErrDate}, {5, least, api.ErrDate}, {least, least, api.ErrDate}, {-7, -1, api.ErrDate},
		{0, lastDay + 1, api.ErrDate}, {lastDay, lastDay + 1, api.ErrDate}, {lastDay + 1, lastDay + 1, api.ErrDate}, {lastDay + 1, lastDay, api.ErrDate}, {lastDay + 1, 0, api.ErrDate}, {5, greatest, api.ErrDate}, {greatest, 5, api.ErrDate}, {greatest, greatest, api.ErrDate}, {-1, lastDay + 1, api.ErrDate}, {least, greatest, api.ErrDate},
	} {
		checkCheck(t, []api.Calendar{{ID: "A", From: c.from, To: c.to}}, 0, c.e)
	}
	for _, from := range integers() {
		for _, to := range integers() {
			index, e := 1, api.ErrDate
			if 0 <= from && from <= to && to <= lastDay {
				index, e = 0, api.OK
			}
			checkCheck(t, []api.Calendar{{ID: "A"}, {ID: "B", Week: workday, From: from, To: to}}, index, e)
		}
	}
}

// Any week is valid, and no week makes a calendar valid.
func TestCheckWeek(t *testing.T) {
	for bits := range 128 {
		w := week(bits)
		checkCheck(t, []api.Calendar{{ID: "A", Week: w}, {ID: "B", Week: w, From: 3, To: lastDay}}, 0, api.OK)
		checkCheck(t, []api.Calendar{{ID: "A", Week: w}, {ID: "", Week: w}}, 1, api.ErrName)
		checkCheck(t, []api.Calendar{{ID: "A", Week: w}, {ID: "A", Week: daily}}, 1, api.ErrDuplicate)
		checkCheck(t, []api.Calendar{{ID: "A", Week: w}, {ID: "B", Week: w, From: 4, To: 3}}, 1, api.ErrDate)
	}
}

func TestCheckDuplicate(t *testing.T) {
	// The two calendars with the same ID are at all places, and differ in all that an ID leaves open.
	for j := range mostCalendars {
		for i := range j {
			l := table(mostCalendars)
			l[j].ID = l[i].ID
			checkCheck(t, l, j, api.ErrDuplicate)
			checkCheck(t, l[:j+1], j, api.ErrDuplicate)
			checkCheck(t, l[:j], 0, api.OK)
			checkCheck(t, l[i+1:], 0, api.OK)
		}
	}
	full := strings.Repeat("a", longest)
	for _, id := range []string{"a", "-", full, "Sat-1.a"} {
		checkCheck(t, []api.Calendar{{ID: id}, {ID: id}}, 1, api.ErrDuplicate)
		checkCheck(t, []api.Calendar{{ID: id, To: 1}, {ID: "b"}, {ID: strings.Clone(id), Week: daily}}, 2, api.ErrDuplicate)
	}
	// Calendars may be the same but for their identifiers.
	for _, ids := range [][]string{{"a", "A"}, {"a", "aa", "aaa"}, {"aaa", "aa", "a"}, {"Sat", "Sat-1", "Sat-1.a"}, {"ab", "b", "a", "ba"}, {"1", "01", "001"}, {"a-b", "a_b", "a.b"}, {full, full[1:], full[1:] + "b", "b" + full[1:]}} {
		var l []api.Calendar
		for _, id := range ids {
			l = append(l, api.Calendar{ID: id, Week: workday, From: 5, To: 50})
		}
		checkCheck(t, l, 0, api.OK)
		for _, id := range ids {
			checkCheck(t, append(slices.Clone(l), api.Calendar{ID: id}), len(l), api.ErrDuplicate)
		}
	}
}

// Of several errors of one calendar, ErrName comes first, then ErrDuplicate.
func TestCheckErrorsOfOneCalendar(t *testing.T) {
	for _, c := range []struct {
		c api.Calendar
		e api.Errno
	}{
		{api.Calendar{ID: "", From: 1}, api.ErrName}, {api.Calendar{ID: "?", From: -1, To: -1}, api.ErrName}, {api.Calendar{ID: " A", To: lastDay + 1}, api.ErrName}, {api.Calendar{ID: "A ", From: greatest, To: least}, api.ErrName},
		{api.Calendar{ID: "A", From: 1}, api.ErrDuplicate}, {api.Calendar{ID: "A", From: -1}, api.ErrDuplicate}, {api.Calendar{ID: "A", To: lastDay + 1}, api.ErrDuplicate}, {api.Calendar{ID: "A", From: greatest, To: least}, api.ErrDuplicate},
		{api.Calendar{ID: "B", From: 1}, api.ErrDate}, {api.Calendar{ID: "B", From: -1}, api.ErrDate}, {api.Calendar{ID: "B", To: lastDay + 1}, api.ErrDate},
	} {
		checkCheck(t, []api.Calendar{{ID: "A"}, c.c}, 1, c.e)
		checkCheck(t, []api.Calendar{{ID: "A"}, c.c, {ID: "C"}}, 1, c.e)
	}
}

// Of the errors of several calendars, the one of the first calendar comes first.
func TestCheckErrorsOfTwoCalendars(t *testing.T) {
	wrong := []struct {
		c api.Calendar
		e api.Errno
	}{{api.Calendar{}, api.ErrName}, {api.Calendar{ID: "?"}, api.ErrName}, {api.Calendar{ID: "0"}, api.ErrDuplicate}, {api.Calendar{ID: "X", From: 1}, api.ErrDate}, {api.Calendar{ID: "Y", To: -1}, api.ErrDate}, {api.Calendar{ID: "0", From: -1}, api.ErrDuplicate}}
	for j := 2; j < mostCalendars; j++ {
		for i := 1; i < j; i++ {
			for k, first := range wrong {
				second := wrong[(i+j+k)%len(wrong)]
				checkCheck(t, with(with(table(mostCalendars), i, first.c), j, second.c), i, first.e)
			}
		}
	}
	// The first calendar, of which no earlier one can have the ID.
	for _, second := range wrong {
		checkCheck(t, []api.Calendar{{ID: ""}, second.c}, 0, api.ErrName)
		checkCheck(t, []api.Calendar{{ID: "0", From: 1}, second.c}, 0, api.ErrDate)
		checkCheck(t, []api.Calendar{{ID: "0", To: lastDay + 1}, second.c}, 0, api.ErrDate)
	}
}

// P14.2 (CheckExceptions)

func TestCheckExceptionsExamples(t *testing.T) {
	_, x := work()
	checkCheckExceptions(t, x, 1, 0, api.OK)
	checkCheckExceptions(t, x, 0, 0, api.ErrReference)
	checkCheckExceptions(t, append(x, x[0]), 1, 2, api.ErrDuplicate)
	checkCheckExceptions(t, append(x, api.Exception{Calendar: 1}), 1, 2, api.ErrReference)
	checkCheckExceptions(t, append(x, api.Exception{Calendar: 1}), 2, 0, api.OK)
	checkCheckExceptions(t, append(x, api.Exception{Day: lastDay + 1}), 1, 2, api.ErrDate)
}

func TestCheckExceptionsLimit(t *testing.T) {
	for _, calendars := range []int{least, -1, 0, 1, mostCalendars, greatest} {
		checkCheckExceptions(t, nil, calendars, 0, api.OK)
		checkCheckExceptions(t, []api.Exception{}, calendars, 0, api.OK)
	}
	for n := range mostExceptions + 1 {
		checkCheckExceptions(t, exceptions(n, 1), 1, 0, api.OK)
		checkCheckExceptions(t, exceptions(n, 7), 7, 0, api.OK)
		checkCheckExceptions(t, exceptions(n, mostCalendars), mostCalendars, 0, api.OK)
	}
	for _, n := range []int{mostExceptions + 1, mostExceptions + 2, 2 * mostExceptions, 511, 512, 513, 65535, 65536, 65536 + mostExceptions, 100000} {
		x := exceptions(n, mostCalendars)
		checkCheckExceptions(t, x, mostCalendars, 0, api.ErrLimit)
		checkCheckExceptions(t, x[:mostExceptions], mostCalendars, 0, api.OK)
		checkCheckExceptions(t, make([]api.Exception, n), 1, 0, api.ErrLimit)
		for _, calendars := range []int{least, -1, 0, 1, greatest} {
			checkCheckExceptions(t, x, calendars, 0, api.ErrLimit)
		}
	}
	for i := range mostExceptions + 1 {
		for _, e := range []api.Exception{{Calendar: -1}, {Calendar: mostCalendars}, {Day: -1}, {Day: lastDay + 1}, {}} {
			checkCheckExceptions(t, with(exceptions(mostExceptions+1, mostCalendars), i, e), mostCalendars, 0, api.ErrLimit)
		}
	}
}

func TestCheckExceptionsReference(t *testing.T) {
	for _, c := range []struct {
		calendar, calendars int
		e                   api.Errno
	}{
		{0, 1, api.OK}, {0, 2, api.OK}, {1, 2, api.OK}, {63, 64, api.OK}, {64, 65, api.OK}, {greatest - 1, greatest, api.OK}, {0, greatest, api.OK},
		{0, 0, api.ErrReference}, {1, 1, api.ErrReference}, {2, 1, api.ErrReference}, {2, 2, api.ErrReference}, {64, 64, api.ErrReference}, {65, 64, api.ErrReference}, {greatest, greatest, api.ErrReference},
		{-1, 0, api.ErrReference}, {-1, 1, api.ErrReference}, {-1, greatest, api.ErrReference}, {least, 64, api.ErrReference}, {least, greatest, api.ErrReference},
		{0, -1, api.ErrReference}, {-1, -1, api.ErrReference}, {-2, -1, api.ErrReference}, {least, least, api.ErrReference}, {0, least, api.ErrReference}, {greatest, least, api.ErrReference}, {least, -1, api.ErrReference}, {greatest, 64, api.ErrReference},
	} {
		checkCheckExceptions(t, []api.Exception{{Calendar: c.calendar}}, c.calendars, 0, c.e)
		checkCheckExceptions(t, []api.Exception{{Calendar: c.calendar, Day: lastDay, Added: true}}, c.calendars, 0, c.e)
	}
	for _, calendar := range integers() {
		for _, calendars := range integers() {
			e := api.ErrReference
			if calendar >= 0 && calendar < calendars {
				e = api.OK
			}
			checkCheckExceptions(t, []api.Exception{{Calendar: calendar, Day: 5}}, calendars, 0, e)
		}
	}
}

func TestCheckExceptionsDay(t *testing.T) {
	for _, c := range []struct {
		day int
		e   api.Errno
	}{{0, api.OK}, {1, api.OK}, {366, api.OK}, {lastDay - 1, api.OK}, {lastDay, api.OK}, {-1, api.ErrDate}, {-lastDay, api.ErrDate}, {lastDay + 1, api.ErrDate}, {lastDay + 7, api.ErrDate}, {least, api.ErrDate}, {greatest, api.ErrDate}} {
		checkCheckExceptions(t, []api.Exception{{Day: c.day}}, 1, 0, c.e)
	}
	for _, day := range integers() {
		index, e := 1, api.ErrDate
		if isDay(day) {
			index, e = 0, api.OK
		}
		for _, added := range []bool{false, true} {
			checkCheckExceptions(t, []api.Exception{{Calendar: 1, Day: 3}, {Day: day, Added: added}}, 2, index, e)
		}
	}
}

func TestCheckExceptionsDuplicate(t *testing.T) {
	x := exceptions(mostExceptions, 16)
	for j := range mostExceptions {
		for i := range j {
			changed := x[j]
			x[j].Calendar, x[j].Day, x[j].Added = x[i].Calendar, x[i].Day, (i+j)%2 == 0
			checkCheckExceptions(t, x[:j+1], 16, j, api.ErrDuplicate)
			x[j] = changed
		}
	}
	for _, i := range []int{0, 1, 100, mostExceptions - 2} {
		for j := i + 1; j < mostExceptions; j++ {
			checkCheckExceptions(t, with(x, j, x[i]), 16, j, api.ErrDuplicate)
			checkCheckExceptions(t, with(x, j, x[i])[i+1:], 16, 0, api.OK)
		}
	}
	// Neither the same calendar nor the same day nor the same numbers in the other order are a duplicate.
	for _, a := range []int{0, 1, 5, 62, 63} {
		for _, b := range []int{0, 1, 5, 62, 63} {
			if a != b {
				checkCheckExceptions(t, []api.Exception{{Calendar: a, Day: b}, {Calendar: b, Day: a}, {Calendar: a, Day: a}, {Calendar: b, Day: b}}, mostCalendars, 0, api.OK)
				checkCheckExceptions(t, []api.Exception{{Calendar: a, Day: b}, {Calendar: a, Day: a}, {Calendar: a, Day: b, Added: true}}, mostCalendars, 2, api.ErrDuplicate)
			}
			checkCheckExceptions(t, []api.Exception{{Calendar: a, Day: b, Added: true}, {Calendar: a, Day: b}}, mostCalendars, 1, api.ErrDuplicate)
		}
	}
	// Calendars and days that agree in their sum, their last bits, or the text of one behind the other.
	checkCheckExceptions(t, []api.Exception{{Calendar: 1, Day: 12}, {Calendar: 11, Day: 2}, {Calendar: 2, Day: 11}, {Calendar: 3, Day: 10}, {Calendar: 0, Day: 256}, {Calendar: 1, Day: 0}, {Calendar: 0, Day: 0}, {Calendar: 1, Day: 256}, {Calendar: 1 << 32, Day: 0}, {Calendar: 1 << 32, Day: 12}, {Calendar: lastDay + 1, Day: 0}}, greatest, 0, api.OK)
}

// Of several errors of one exception, ErrReference comes first, then ErrDate. An exception that is a duplicate has no other error, as the earlier one would have it as well.
func TestCheckExceptionsErrorsOfOneException(t *testing.T) {
	for _, day := range []int{least, -1, lastDay + 1, greatest} {
		for _, calendar := range []int{least, -1, 3, greatest} {
			checkCheckExceptions(t, []api.Exception{{Calendar: 1}, {Calendar: calendar, Day: day}}, 3, 1, api.ErrReference)
			checkCheckExceptions(t, []api.Exception{{Calendar: calendar, Day: day}, {Calendar: calendar, Day: day}}, 3, 0, api.ErrReference)
			checkCheckExceptions(t, []api.Exception{{Calendar: calendar, Day: 5}, {Calendar: calendar, Day: 5}}, 3, 0, api.ErrReference)
		}
		checkCheckExceptions(t, []api.Exception{{Calendar: 1}, {Calendar: 2, Day: day, Added: true}}, 3, 1, api.ErrDate)
		checkCheckExceptions(t, []api.Exception{{Calendar: 2, Day: day}, {Calendar: 2, Day: day}}, 3, 0, api.ErrDate)
	}
}

// Of the errors of several exceptions, the one of the first exception comes first.
func TestCheckExceptionsErrorsOfTwoExceptions(t *testing.T) {
	wrong := []struct {
		x api.Exception
		e api.Errno
	}{{api.Exception{Calendar: -1}, api.ErrReference}, {api.Exception{Calendar: 16}, api.ErrReference}, {api.Exception{Day: -1}, api.ErrDate}, {api.Exception{Day: lastDay + 1}, api.ErrDate}, {api.Exception{}, api.ErrDuplicate}, {api.Exception{Added: true}, api.ErrDuplicate}, {api.Exception{Calendar: 17, Day: -1}, api.ErrReference}}
	for j := 2; j < mostExceptions; j += 1 + j/20 {
		for i := 1; i < j; i += 1 + i/20 {
			for k, first := range wrong {
				second := wrong[(i+j+k)%len(wrong)]
				checkCheckExceptions(t, with(with(exceptions(mostExceptions, 16), i, first.x), j, second.x), 16, i, first.e)
			}
		}
	}
	for _, second := range wrong {
		checkCheckExceptions(t, []api.Exception{{Calendar: 16}, second.x}, 16, 0, api.ErrReference)
		checkCheckExceptions(t, []api.Exception{{Day: -1}, second.x}, 16, 0, api.ErrDate)
	}
}

// P14.3 (Reason, Active)

func TestReasonExamples(t *testing.T) {
	l, x := work()
	for _, c := range []struct{ i, day, want int }{{0, 2, Removed}, {0, 3, Pattern}, {0, 8, OffDay}, {0, 7, Added}, {0, 14, Outside}, {1, 3, Unknown}, {0, -1, Unknown}} {
		checkReason(t, l, x, c.i, c.day, c.want)
	}
	for day, want := range []int{OffDay, OffDay, Removed, Pattern, Pattern, Pattern, Pattern, Added, OffDay, Pattern, Pattern, Pattern, Pattern, Pattern, Outside, Outside, Outside} {
		checkReason(t, l, x, 0, day, want)
	}
}

func TestReasonNumbers(t *testing.T) {
	for i, got := range []int{Unknown, Pattern, Added, Removed, OffDay, Outside} {
		if got != i {
			t.Errorf("reason %d is %d", i, got)
		}
	}
}

func TestReasonUnknown(t *testing.T) {
	for _, n := range []int{0, 1, 2, mostCalendars, mostCalendars + 1, 300} {
		l := table(n)
		x := []api.Exception{{Calendar: n, Day: 5, Added: true}, {Calendar: -1, Day: 5, Added: true}, {Calendar: 0, Day: -1, Added: true}, {Calendar: 0, Day: lastDay + 1, Added: true}, {Calendar: least, Day: least, Added: true}, {Calendar: greatest, Day: greatest, Added: true}, {Calendar: 0, Day: least, Added: true}, {Calendar: greatest, Day: 5, Added: true}, {Calendar: 0, Day: greatest, Added: true}}
		for _, i := range integers() {
			for _, day := range integers() {
				if i >= 0 && i < n && isDay(day) {
					checkReason(t, l, x, i, day, patternReason(l[i], day))
				} else {
					checkReason(t, l, x, i, day, Unknown)
				}
			}
		}
	}
	// There is no day before the first and behind the last one, even if a calendar that is not valid contains it.
	l := []api.Calendar{{ID: "A", Week: daily, From: least, To: greatest}}
	for _, day := range integers() {
		if isDay(day) {
			checkReason(t, l, nil, 0, day, Pattern)
		} else {
			checkReason(t, l, nil, 0, day, Unknown)
			checkReason(t, l, []api.Exception{{Day: day, Added: true}}, 0, day, Unknown)
		}
	}
}

// Each weekday, on the first and the last days, across the ends of all years and around each leap day.
func TestReasonWeekdays(t *testing.T) {
	days := []int{0, 1, 2, 3, 4, 5, 6, 7, lastDay - 7, lastDay - 6, lastDay - 5, lastDay - 4, lastDay - 3, lastDay - 2, lastDay - 1, lastDay}
	for year := 2001; year <= 2099; year++ {
		for _, first := range []int{dayOf(year, time.January, 1), dayOf(year, time.March, 1)} {
			days = append(days, first-2, first-1, first, first+1)
		}
	}
	for weekday := range 7 {
		only, others := week(1<<weekday), week(127&^(1<<weekday))
		l := []api.Calendar{{ID: "only", Week: only, To: lastDay}, {ID: "others", Week: others, To: lastDay}}
		for _, day := range days {
			if weekdayOf(day) == weekday {
				checkReason(t, l, nil, 0, day, Pattern)
				checkReason(t, l, nil, 1, day, OffDay)
			} else {
				checkReason(t, l, nil, 0, day, OffDay)
				checkReason(t, l, nil, 1, day, Pattern)
			}
		}
	}
}

// The weekdays of a few dates as anyone can look them up.
func TestReasonDates(t *testing.T) {
	for _, c := range []struct {
		year, month, day, weekday int
	}{{2000, 1, 1, saturday}, {2000, 1, 2, sunday}, {2000, 1, 3, monday}, {2000, 2, 29, tuesday}, {2000, 12, 31, sunday}, {2001, 1, 1, monday}, {2004, 2, 29, sunday}, {2024, 2, 29, thursday}, {2026, 11, 19, thursday}, {2099, 12, 31, thursday}, {2099, 12, 30, wednesday}, {2099, 12, 27, sunday}, {2099, 12, 25, friday}} {
		day := dayOf(c.year, time.Month(c.month), c.day)
		for weekday := range 7 {
			want := OffDay
			if weekday == c.weekday {
				want = Pattern
			}
			checkReason(t, []api.Calendar{{ID: "A", Week: week(1 << weekday), To: lastDay}}, nil, 0, day, want)
		}
	}
	if day := dayOf(2099, time.December, 31); day != lastDay || dayOf(2000, time.January, 1) != 0 {
		t.Errorf("December 31, 2099 is day %d", day)
	}
}

// Each week, over two weeks in the middle of a calendar and at both ends of it.
func TestReasonWeeks(t *testing.T) {
	for bits := range 128 {
		l := []api.Calendar{{ID: "A", Week: week(bits), From: 100, To: 113}}
		for day := 90; day < 125; day++ {
			want := OffDay
			if day < 100 || day > 113 {
				want = Outside
			} else if bits>>weekdayOf(day)&1 == 1 {
				want = Pattern
			}
			checkReason(t, l, nil, 0, day, want)
		}
	}
}

// The lists need not be valid: a calendar may end before it begins, or have ends that are no days.
func TestReasonOutside(t *testing.T) {
	for _, from := range edgeDays() {
		for _, to := range edgeDays() {
			for _, w := range [][7]bool{daily, never, workday} {
				l := []api.Calendar{{ID: "", Week: w, From: from, To: to}}
				for _, day := range edgeDays() {
					want := Outside
					if !isDay(day) {
						want = Unknown
					} else if from <= day && day <= to {
						want = OffDay
						if w[weekdayOf(day)] {
							want = Pattern
						}
					}
					checkReason(t, l, nil, 0, day, want)
				}
			}
		}
	}
}

// An exception counts before From, after To, on any weekday, and on the days of the pattern.
func TestReasonExceptions(t *testing.T) {
	// Day 100 is a Monday, day 105 a Saturday.
	l := []api.Calendar{{ID: "A", Week: workday, From: 100, To: 107}, {ID: "B", Week: never, From: 107, To: 100}, {ID: "C", Week: daily, To: lastDay}}
	before := []int{Outside, Pattern, Pattern, Pattern, Pattern, Pattern, OffDay, OffDay, Pattern, Outside}
	for k, want := range before {
		day := 99 + k
		checkReason(t, l, nil, 0, day, want)
		checkReason(t, l, nil, 1, day, Outside)
		checkReason(t, l, nil, 2, day, Pattern)
		for i := range l {
			for _, added := range []bool{false, true} {
				x := []api.Exception{{Calendar: (i + 1) % 3, Day: day, Added: !added}, {Calendar: i, Day: day + 1, Added: !added}, {Calendar: i, Day: day, Added: added}, {Calendar: i, Day: day - 1, Added: !added}}
				if added {
					checkReason(t, l, x, i, day, Added)
				} else {
					checkReason(t, l, x, i, day, Removed)
				}
			}
		}
	}
	for _, day := range []int{0, lastDay} {
		for i := range l {
			checkReason(t, l, []api.Exception{{Calendar: i, Day: day}}, i, day, Removed)
			checkReason(t, l, []api.Exception{{Calendar: i, Day: day, Added: true}}, i, day, Added)
		}
	}
}

// Of several exceptions for the same calendar and day, the first one counts, next to the others or far from them.
func TestReasonFirstException(t *testing.T) {
	l := []api.Calendar{{ID: "A", Week: daily, To: lastDay}, {ID: "B", Week: never, To: lastDay}}
	for bits := range 64 {
		var x []api.Exception
		for k := range 6 {
			x = append(x, api.Exception{Calendar: k % 2, Day: 5, Added: bits>>k&1 == 1})
		}
		for i := range l {
			checkReason(t, l, x, i, 5, exceptionReason(x[i]))
			checkReason(t, l, x[2:], i, 5, exceptionReason(x[2+i]))
			checkReason(t, l, x[4:], i, 5, exceptionReason(x[4+i]))
			checkReason(t, l, x, i, 6, patternReason(l[i], 6))
		}
	}
	for n := range 600 {
		x := exceptions(600, 2)
		for i := range l {
			for _, added := range []bool{false, true} {
				x[n] = api.Exception{Calendar: i, Day: 20000, Added: added}
				x[599-n%300] = api.Exception{Calendar: i, Day: 20000, Added: !added}
				checkReason(t, l, x, i, 20000, wantedReason(l, x, i, 20000))
				if n < 300 {
					checkReason(t, l, x, i, 20000, exceptionReason(x[n]))
				}
			}
		}
	}
}

// P14.4 (Days)

func TestDaysExamples(t *testing.T) {
	l, x := work()
	checkDays(t, l, x, 0, 0, 7, 3, 4, 5, 6, 7)
	checkDays(t, l, x, 0, -5, 7, 3, 4, 5, 6, 7)
	checkDays(t, l, x, 0, 3, 3, 3)
	checkDays(t, l, x, 0, 0, lastDay, 3, 4, 5, 6, 7, 9, 10, 11, 12, 13)
	checkDays(t, l, nil, 0, 0, lastDay, 2, 3, 4, 5, 6, 9, 10, 11, 12, 13)
	checkDays(t, l, x, 1, 0, lastDay)
}

// Ranges of all kinds: before the first day, behind the last one, of one day, empty and reversed.
func TestDaysRanges(t *testing.T) {
	all := make([]int, lastDay+1)
	for day := range all {
		all[day] = day
	}
	l := []api.Calendar{{ID: "A", Week: daily, To: lastDay}, {ID: "B", Week: week(1<<saturday | 1<<thursday), To: lastDay}, {ID: "C", Week: daily, From: 1, To: lastDay - 1}, {ID: "D", Week: daily, From: 7, To: 8}}
	x := []api.Exception{{Calendar: 1, Day: 1, Added: true}, {Calendar: 1, Day: lastDay}, {Calendar: 2, Day: lastDay, Added: true}, {Calendar: 3, Day: 0, Added: true}}
	for i := range l {
		active := activeDays(wantedReasons(l, x, i))
		for _, from := range edgeDays() {
			for _, to := range edgeDays() {
				checkRange(t, l, x, i, from, to, active)
				if from > to || to < 0 || from > lastDay {
					checkDays(t, l, x, i, from, to)
				}
			}
		}
	}
	checkDays(t, l, nil, 0, least, greatest, all...)
	checkDays(t, l, nil, 0, 0, lastDay, all...)
	checkDays(t, l, nil, 0, 1, lastDay-1, all[1:lastDay]...)
	checkDays(t, l, nil, 0, -1, 0, 0)
	checkDays(t, l, nil, 0, 0, 0, 0)
	checkDays(t, l, nil, 0, least, 1, 0, 1)
	checkDays(t, l, nil, 0, lastDay, lastDay, lastDay)
	checkDays(t, l, nil, 0, lastDay, greatest, lastDay)
	checkDays(t, l, nil, 0, lastDay-1, lastDay+1, lastDay-1, lastDay)
	for _, r := range [][2]int{{least, least}, {least, -1}, {-1, -1}, {lastDay + 1, lastDay + 1}, {lastDay + 1, greatest}, {greatest, greatest}, {greatest, least}, {lastDay, 0}, {1, 0}, {0, -1}, {lastDay + 1, lastDay}, {greatest, 0}, {5, 4}} {
		checkDays(t, l, nil, 0, r[0], r[1])
	}
}

// Days returns nil if there is no active day, for each reason for which there may be none.
func TestDaysWithoutDays(t *testing.T) {
	for _, l := range [][]api.Calendar{nil, {}, {{ID: "A", Week: never, To: lastDay}}, {{ID: "A", Week: daily, From: 6, To: 5}}, {{ID: "A", Week: daily, From: lastDay + 1, To: greatest}}, {{ID: "A", Week: daily, From: least, To: -1}}} {
		for _, i := range []int{least, -1, 0, 1, greatest} {
			for _, x := range [][]api.Exception{nil, {}, {{Calendar: i, Day: -1, Added: true}, {Calendar: i, Day: lastDay + 1, Added: true}, {Calendar: i + 1, Day: 5, Added: true}, {Calendar: i, Day: 5}, {Calendar: i, Day: 5, Added: true}}} {
				checkDays(t, l, x, i, least, greatest)
				checkDays(t, l, x, i, 0, lastDay)
				checkDays(t, l, x, i, 5, 5)
				checkNext(t, l, x, i, least, 0, false)
				checkNext(t, l, x, i, 0, 0, false)
				checkPrevious(t, l, x, i, greatest, 0, false)
				checkPrevious(t, l, x, i, lastDay, 0, false)
			}
		}
	}
	// All days of the calendar are removed.
	l := []api.Calendar{{ID: "A", Week: daily, From: 10, To: 12}}
	x := []api.Exception{{Day: 12}, {Day: 10}, {Day: 11}}
	checkDays(t, l, x, 0, least, greatest)
	checkNext(t, l, x, 0, 0, 0, false)
	checkPrevious(t, l, x, 0, lastDay, 0, false)
	checkDays(t, l, x[:2], 0, least, greatest, 11)
}

// There are no days for an index without a calendar, not even days that an exception adds.
func TestDaysOfOtherIndices(t *testing.T) {
	for _, n := range []int{0, 1, 2, mostCalendars, mostCalendars + 1} {
		l := slices.Repeat([]api.Calendar{{ID: "A", Week: daily, To: lastDay}}, n)
		for _, i := range []int{least, least + 1, -n - 1, -n, -1, 0, 1, n - 1, n, n + 1, 2*n + 1, mostExceptions, 1 << 32, greatest - 1, greatest} {
			x := []api.Exception{{Calendar: i, Day: 5, Added: true}, {Calendar: i, Day: 6}}
			if i >= 0 && i < n {
				checkDays(t, l, x, i, 4, 7, 4, 5, 7)
				checkNext(t, l, x, i, 6, 7, true)
				checkPrevious(t, l, x, i, 6, 5, true)
				continue
			}
			checkDays(t, l, x, i, 4, 7)
			checkDays(t, l, x, i, least, greatest)
			for _, day := range []int{least, -1, 0, 5, lastDay, lastDay + 1, greatest} {
				checkNext(t, l, x, i, day, 0, false)
				checkPrevious(t, l, x, i, day, 0, false)
			}
		}
	}
}

// The order of the exceptions is not that of the days.
func TestDaysWithExceptionsOnly(t *testing.T) {
	l := []api.Calendar{{ID: "A", Week: never, From: 20, To: 30}, {ID: "B", Week: daily, From: 9, To: 8}}
	x := []api.Exception{{Day: lastDay, Added: true}, {Day: 25, Added: true}, {Day: 0, Added: true}, {Calendar: 1, Day: 26, Added: true}, {Day: 31, Added: true}, {Day: 25}, {Day: 19, Added: true}, {Day: 22}, {Day: 22, Added: true}}
	checkDays(t, l, x, 0, least, greatest, 0, 19, 25, 31, lastDay)
	checkDays(t, l, x, 0, 1, lastDay-1, 19, 25, 31)
	checkDays(t, l, x, 0, 20, 30, 25)
	checkDays(t, l, x, 0, 26, 30)
	checkDays(t, l, x, 1, 0, lastDay, 26)
	for _, c := range []struct {
		day, next, previous int
		after, before       bool
	}{{least, 0, 0, true, false}, {-1, 0, 0, true, false}, {0, 0, 0, true, true}, {1, 19, 0, true, true}, {18, 19, 0, true, true}, {19, 19, 19, true, true}, {22, 25, 19, true, true}, {25, 25, 25, true, true}, {30, 31, 25, true, true}, {32, lastDay, 31, true, true}, {lastDay, lastDay, lastDay, true, true}, {lastDay + 1, 0, lastDay, false, true}, {greatest, 0, lastDay, false, true}} {
		checkNext(t, l, x, 0, c.day, c.next, c.after)
		checkPrevious(t, l, x, 0, c.day, c.previous, c.before)
	}
}

// P14.5 (Next, Previous)

func TestNextAndPreviousExamples(t *testing.T) {
	l, x := work()
	checkNext(t, l, x, 0, 0, 3, true)
	checkPrevious(t, l, x, 0, 8, 7, true)
	checkNext(t, l, x, 0, 14, 0, false)
	checkPrevious(t, l, x, 0, 2, 0, false)
	checkNext(t, l, x, 0, 3, 3, true)
	checkPrevious(t, l, x, 0, 3, 3, true)
	checkNext(t, l, x, 0, -9, 3, true)
	checkPrevious(t, l, x, 0, 99999, 13, true)
	checkNext(t, l, x, 1, 0, 0, false)
	checkPrevious(t, l, x, 1, lastDay, 0, false)
}

// From days far outside there are the first and the last active day, or nothing.
func TestNextAndPreviousFromOutside(t *testing.T) {
	for _, c := range []struct{ from, to int }{{0, 0}, {0, 1}, {0, lastDay}, {5, 9}, {lastDay - 1, lastDay}, {lastDay, lastDay}} {
		l := []api.Calendar{{ID: "A", Week: daily, From: c.from, To: c.to}}
		for _, day := range integers() {
			switch {
			case day < c.from:
				checkNext(t, l, nil, 0, day, c.from, true)
				checkPrevious(t, l, nil, 0, day, 0, false)
			case day > c.to:
				checkNext(t, l, nil, 0, day, 0, false)
				checkPrevious(t, l, nil, 0, day, c.to, true)
			default:
				checkNext(t, l, nil, 0, day, day, true)
				checkPrevious(t, l, nil, 0, day, day, true)
			}
		}
	}
}

// Day 0 and true is not the same as 0 and false.
func TestNextAndPreviousOnTheFirstDay(t *testing.T) {
	l := []api.Calendar{{ID: "A", Week: week(1 << saturday)}}
	checkNext(t, l, nil, 0, 0, 0, true)
	checkNext(t, l, nil, 0, least, 0, true)
	checkNext(t, l, nil, 0, 1, 0, false)
	checkPrevious(t, l, nil, 0, 0, 0, true)
	checkPrevious(t, l, nil, 0, greatest, 0, true)
	checkPrevious(t, l, nil, 0, -1, 0, false)
	x := []api.Exception{{Day: 0}}
	checkNext(t, l, x, 0, 0, 0, false)
	checkPrevious(t, l, x, 0, greatest, 0, false)
}

// Each weekday has its next and previous day within a week, also across the end of a year.
func TestNextAndPreviousWeekday(t *testing.T) {
	for weekday := range 7 {
		l := []api.Calendar{{ID: "A", Week: week(1 << weekday), To: lastDay}}
		for _, first := range []int{0, 7, 360, dayOf(2026, time.December, 28), dayOf(2096, time.February, 26), lastDay - 13} {
			for day := first; day < first+7; day++ {
				ahead := (weekday - weekdayOf(day) + 7) % 7
				checkNext(t, l, nil, 0, day, day+ahead, true)
				if behind := (7 - ahead) % 7; behind <= day {
					checkPrevious(t, l, nil, 0, day, day-behind, true)
				} else {
					checkPrevious(t, l, nil, 0, day, 0, false)
				}
			}
		}
	}
}

// P14.6 (days), P14.7 (weeks) and P14.8 (exceptions)

// sample is a pair of lists and the index of a calendar.
type sample struct {
	l []api.Calendar
	x []api.Exception
	i int
}

// samples returns pairs of calendars and exceptions, some of them valid, with the calendar to look at.
func samples() []sample {
	l, x := work()
	all := []sample{{l, x, 0}, {l, x, 1}, {nil, x, 0}, {l, nil, 0}}
	for seed := range 30 {
		all = append(all,
			sample{scattered(seed, 1+seed%mostCalendars, 1000000, 1000000), scatteredExceptions(seed, seed, 1+seed%mostCalendars, lastDay+1, 1000000), seed % (1 + seed%mostCalendars)},
			sample{scattered(seed, 3, 1000000, 2), scatteredExceptions(seed, 4*seed, 3, 40, 16), seed % 3},
			sample{[]api.Calendar{{ID: "A", Week: week(seed * 37 % 128), From: seed, To: seed + 30}}, scatteredExceptions(seed, 20, 1, 1+seed, 8), 0},
			sample{table(mostCalendars), exceptions(mostExceptions, mostCalendars), seed},
		)
	}
	return all
}

func TestDaysAreTheActiveDays(t *testing.T) {
	for _, s := range samples() {
		for _, r := range [][2]int{{least, greatest}, {0, lastDay}, {5, 50}, {-3, 3}, {1000, 2000}, {lastDay - 5, lastDay + 5}} {
			days := Days(s.l, s.x, s.i, r[0], r[1])
			k := 0
			for day := max(r[0], -2); day <= min(r[1], lastDay+2); day++ {
				if Active(s.l, s.x, s.i, day) {
					if k >= len(days) || days[k] != day {
						t.Fatalf("day %d is active, but Days(%s, %s, %d, %d, %d) = %s", day, text(s.l), text(s.x), s.i, r[0], r[1], text(days))
					}
					k++
				}
			}
			if k != len(days) {
				t.Errorf("Days(%s, %s, %d, %d, %d) = %s, of which only %d are active", text(s.l), text(s.x), s.i, r[0], r[1], text(days), k)
			}
		}
	}
}

func TestNextAndPreviousAreTheEndsOfDays(t *testing.T) {
	for _, s := range samples() {
		for _, day := range placesOf(s.l, s.x[:min(len(s.x), 1)], s.i) {
			if days := Days(s.l, s.x, s.i, day, lastDay); len(days) > 0 {
				checkNext(t, s.l, s.x, s.i, day, days[0], true)
			} else {
				checkNext(t, s.l, s.x, s.i, day, 0, false)
			}
			if days := Days(s.l, s.x, s.i, 0, day); len(days) > 0 {
				checkPrevious(t, s.l, s.x, s.i, day, days[len(days)-1], true)
			} else {
				checkPrevious(t, s.l, s.x, s.i, day, 0, false)
			}
		}
	}
}

func TestWeeksRepeat(t *testing.T) {
	for seed := range 3 {
		for _, l := range [][]api.Calendar{scattered(seed, 40, 1000000, 1000000), table(mostCalendars)} {
			for i, c := range l {
				for day := c.From; day+7 <= c.To; day++ {
					if now, later := Active(l, nil, i, day), Active(l, nil, i, day+7); now != later {
						t.Fatalf("%+v is active on day %d: %v, and a week later: %v", c, day, now, later)
					}
				}
			}
		}
	}
}

func TestExceptionChangesItsDayOnly(t *testing.T) {
	changes := map[int]int{}
	for seed := range 400 {
		next := numbers(seed)
		l := scattered(seed, 3, 1000000, 5)
		for i := range l {
			// Many exceptions are on days of the calendars, some outside.
			l[i].From, l[i].To = next(10), 5+next(15)
		}
		x := scatteredExceptions(seed, next(12), 3, 20, 10)
		for k := range x {
			if isDay(x[k].Day) {
				x[k].Day = next(20)
			}
		}
		e := api.Exception{Calendar: next(5) - 1, Day: next(22) - 1, Added: next(2) == 0}
		at := next(len(x) + 1)
		longer := slices.Insert(slices.Clone(x), at, e)
		hidden := slices.ContainsFunc(x[:at], func(earlier api.Exception) bool { return earlier.Calendar == e.Calendar && earlier.Day == e.Day })
		for i := -2; i <= len(l)+1; i++ {
			for day := -2; day <= 24; day++ {
				want := Reason(l, x, i, day)
				if i == e.Calendar && day == e.Day && !hidden && want != Unknown {
					want = exceptionReason(e)
					changes[want]++
				} else if i == e.Calendar && day == e.Day {
					changes[Unknown]++
				}
				checkReason(t, l, longer, i, day, want)
			}
		}
	}
	if changes[Added] < 50 || changes[Removed] < 50 || changes[Unknown] < 50 {
		t.Errorf("the exceptions changed only %v", changes)
	}
}

func TestEachExceptionOfAFullList(t *testing.T) {
	l, x := table(mostCalendars), exceptions(mostExceptions, mostCalendars)
	checkCheck(t, l, 0, api.OK)
	checkCheckExceptions(t, x, len(l), 0, api.OK)
	for k, e := range x {
		checkReason(t, l, x, e.Calendar, e.Day, exceptionReason(e))
		without := slices.Delete(slices.Clone(x), k, k+1)
		checkReason(t, l, without, e.Calendar, e.Day, patternReason(l[e.Calendar], e.Day))
		for i := range l {
			if i != e.Calendar {
				checkReason(t, l, without, i, e.Day, wantedReason(l, x, i, e.Day))
			}
		}
	}
}

// All functions, compared with the definitions.

func TestCheckAgainstDefinitions(t *testing.T) {
	count := map[api.Errno]int{}
	for _, l := range tables() {
		index, e := wantedCheck(l)
		checkCheck(t, l, index, e)
		count[e]++
	}
	for seed := range 1000 {
		for _, rare := range []int{2, 20, 200, 2000} {
			l := scattered(seed, seed%(mostCalendars+2), 1+seed*seed, rare)
			index, e := wantedCheck(l)
			checkCheck(t, l, index, e)
			count[e]++
		}
	}
	for _, e := range []api.Errno{api.OK, api.ErrLimit, api.ErrName, api.ErrDuplicate, api.ErrDate} {
		if count[e] < 50 {
			t.Errorf("Check returned %d only %d times", e, count[e])
		}
	}
}

func TestCheckExceptionsAgainstDefinitions(t *testing.T) {
	count := map[api.Errno]int{}
	for _, x := range exceptionLists() {
		for _, calendars := range []int{-1, 0, 1, 2, 3, 5, mostCalendars} {
			index, e := wantedCheckExceptions(x, calendars)
			checkCheckExceptions(t, x, calendars, index, e)
			count[e]++
		}
	}
	for seed := range 500 {
		for _, rare := range []int{2, 20, 200, 2000} {
			calendars := 1 + seed%mostCalendars
			x := scatteredExceptions(seed, seed%(mostExceptions+2), calendars, 1+seed*seed%lastDay, rare)
			index, e := wantedCheckExceptions(x, calendars)
			checkCheckExceptions(t, x, calendars, index, e)
			count[e]++
		}
	}
	for _, e := range []api.Errno{api.OK, api.ErrLimit, api.ErrReference, api.ErrDate, api.ErrDuplicate} {
		if count[e] < 50 {
			t.Errorf("CheckExceptions returned %d only %d times", e, count[e])
		}
	}
}

// All lists of up to two calendars and two exceptions of a few kinds, and of up to four exceptions for two calendars, on a few days.
func TestReasonAgainstDefinitions(t *testing.T) {
	for _, l := range lists(kinds(), 2) {
		for _, x := range lists(exceptionKinds(), 2) {
			for i := -1; i <= len(l); i++ {
				for _, day := range []int{-1, 0, 2, 3, 13, lastDay, lastDay + 1} {
					checkReason(t, l, x, i, day, wantedReason(l, x, i, day))
				}
			}
		}
	}
	l := []api.Calendar{{ID: "A", Week: workday, To: 13}, {ID: "B", Week: week(96), From: 2, To: lastDay}}
	for _, x := range lists(exceptionKinds(), 4) {
		for i := -1; i <= len(l); i++ {
			for _, day := range []int{-1, 2, lastDay, lastDay + 1} {
				checkReason(t, l, x, i, day, wantedReason(l, x, i, day))
			}
		}
	}
}

func TestAgainstDefinitions(t *testing.T) {
	for _, s := range samples() {
		checkAll(t, s.l, s.x, s.i)
	}
	for _, l := range lists(kinds(), 1) {
		for _, x := range lists(exceptionKinds(), 2) {
			checkAll(t, l, x, 0)
		}
	}
}

// Every day of a few calendars.
func TestEveryDayAgainstDefinitions(t *testing.T) {
	for _, s := range samples()[:40] {
		reasons := wantedReasons(s.l, s.x, s.i)
		for day := -2; day <= lastDay+2; day++ {
			if want := wantedReason(s.l, s.x, s.i, day); !isDay(day) || reasons[day] != want {
				checkReason(t, s.l, s.x, s.i, day, want)
			} else if got := Reason(s.l, s.x, s.i, day); got != want {
				checkReason(t, s.l, s.x, s.i, day, want)
			}
		}
	}
}

// Rules: arguments are neither changed nor retained, and results share no memory.

func TestArgumentsAreNotChanged(t *testing.T) {
	for _, s := range append(samples()[:40], sample{table(mostCalendars + 1), exceptions(mostExceptions+1, 3), 2}, sample{scattered(1, 50, 10, 2), scatteredExceptions(1, 200, 10, 10, 2), 3}) {
		l := append(make([]api.Calendar, 0, 2*len(s.l)), s.l...)
		x := append(make([]api.Exception, 0, 2*len(s.x)), s.x...)
		calendarsBefore, exceptionsBefore := slices.Clone(l[:cap(l)]), slices.Clone(x[:cap(x)])
		Check(l)
		CheckExceptions(x, len(l))
		CheckExceptions(x, greatest)
		Reason(l, x, s.i, 5)
		Active(l, x, s.i, 6)
		days := Days(l, x, s.i, 0, lastDay)
		Next(l, x, s.i, 10)
		Previous(l, x, s.i, 10)
		for k := range days[:cap(days)] {
			days[:cap(days)][k] = -1
		}
		if !slices.Equal(l[:cap(l)], calendarsBefore) {
			t.Errorf("%s was changed to %s", text(calendarsBefore), text(l[:cap(l)]))
		}
		if !slices.Equal(x[:cap(x)], exceptionsBefore) {
			t.Errorf("%s was changed to %s", text(exceptionsBefore), text(x[:cap(x)]))
		}
	}
}

func TestResultsShareNoMemory(t *testing.T) {
	l, x := work()
	first, second, other := Days(l, x, 0, 0, 7), Days(l, x, 0, 0, 7), Days(l, x, 0, 5, 9)
	// Whatever is behind the elements belongs to the result as well.
	for k := range first[:cap(first)] {
		first[:cap(first)][k] = -1
	}
	if !slices.Equal(second, []int{3, 4, 5, 6, 7}) || !slices.Equal(other, []int{5, 6, 7, 9}) {
		t.Errorf("results share memory: %v, %v", second, other)
	}
	checkDays(t, l, x, 0, 0, 7, 3, 4, 5, 6, 7)
	// A change of the lists changes no result.
	l[0].Week[4], x[1].Added = false, false
	if !slices.Equal(second, []int{3, 4, 5, 6, 7}) {
		t.Errorf("a result changed with the lists to %v", second)
	}
	checkDays(t, l, x, 0, 0, 7, 3, 4, 5)
}

// The results of a call depend only on its arguments: nothing is known from an earlier call.
func TestCallsDoNotAffectEachOther(t *testing.T) {
	l, x := table(mostCalendars), exceptions(mostExceptions, mostCalendars)
	doubleCalendar, doubleException := append(slices.Clone(l[:10]), l[3]), append(slices.Clone(x[:10]), x[3])
	for range 3 {
		checkCheck(t, l, 0, api.OK)
		checkCheck(t, doubleCalendar, 10, api.ErrDuplicate)
		checkCheck(t, doubleCalendar[4:], 0, api.OK)
		checkCheck(t, table(mostCalendars+1), 0, api.ErrLimit)
		checkCheckExceptions(t, x, mostCalendars, 0, api.OK)
		checkCheckExceptions(t, doubleException, mostCalendars, 10, api.ErrDuplicate)
		checkCheckExceptions(t, doubleException[4:], mostCalendars, 0, api.OK)
		checkCheckExceptions(t, x, 5, 5, api.ErrReference)
		checkAll(t, l, x, 3)
		checkAll(t, l, nil, 3)
		checkAll(t, l[3:], x, 3)
	}
}

// P1: every function terminates and does not panic.

func FuzzCalendar(f *testing.F) {
	for k, ids := range []string{"", "A", "A,B", "A,A", "A,?,A", ",", "Sat-1.a,Sat-1,Sat", "\xff,a", strings.Repeat("a", longest) + "," + strings.Repeat("a", longest+1), "a" + strings.Repeat(",b", mostCalendars)} {
		f.Add(ids, []byte{2, 0, 17, 3, 1, 200}, []byte{0, 3, 0, 2, 1, 9, 255}, 0, 0, 20)
		f.Add(ids, []byte{byte(k), 1, 2}, []byte(strings.Repeat("\x02\x01", mostExceptions)), k-1, least, greatest)
	}
	f.Fuzz(func(t *testing.T, ids string, weeks []byte, marks []byte, i, from, to int) {
		var l []api.Calendar
		for k, id := range strings.Split(ids, ",") {
			c := api.Calendar{ID: id, From: from, To: to}
			if len(weeks) > 0 {
				b := int(weeks[k%len(weeks)])
				c.Week = week(b % 128)
				if b < 128 {
					c.From, c.To = b, b*7%256
				}
			}
			l = append(l, c)
		}
		var x []api.Exception
		for k, b := range marks {
			e := api.Exception{Calendar: int(b) % 4, Day: k * 5 % 256, Added: b&16 != 0}
			switch {
			case b == 255:
				e.Calendar, e.Day = i, from
			case b > 240:
				e.Day = to
			}
			x = append(x, e)
		}
		index, e := wantedCheck(l)
		checkCheck(t, l, index, e)
		for _, calendars := range []int{i, len(l), 4} {
			index, e := wantedCheckExceptions(x, calendars)
			checkCheckExceptions(t, x, calendars, index, e)
		}
		for _, k := range []int{i, i & 3} {
			active := activeDays(wantedReasons(l, x, k))
			for _, day := range []int{from, to, from & 255} {
				checkReason(t, l, x, k, day, wantedReason(l, x, k, day))
				checkSearch(t, l, x, k, day, active)
			}
			checkRange(t, l, x, k, from, to, active)
			checkRange(t, l, x, k, from&255, to, active)
		}
	})
}
