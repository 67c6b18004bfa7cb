package stop

import (
	"fmt"
	"math"
	"math/big"
	"regexp"
	"slices"
	"strings"
	"testing"

	"transit/api"
	"transit/bitset"
)

// The limits as the document states them.
const (
	mostStops  = 64
	mostZone   = 15
	mostChange = 3600
	longest    = 32
	elements   = 64
)

const (
	least    = math.MinInt
	greatest = math.MaxInt
)

// The chapter's definitions.

// nameForm is the form of an identifier.
var nameForm = regexp.MustCompile(`\A[A-Za-z0-9_.-]{1,32}\z`)

// wantedError returns the error of the stop i.
func wantedError(l []api.Stop, i int) api.Errno {
	s := l[i]
	if !nameForm.MatchString(s.ID) {
		return api.ErrName
	}
	for _, earlier := range l[:i] {
		if earlier.ID == s.ID {
			return api.ErrDuplicate
		}
	}
	if s.Zone < 0 || s.Zone > mostZone || s.Change < 0 || s.Change > mostChange {
		return api.ErrRange
	}
	return api.OK
}

// wantedCheck returns what Check must return.
func wantedCheck(l []api.Stop) (int, api.Errno) {
	if len(l) > mostStops {
		return 0, api.ErrLimit
	}
	for i := range l {
		if e := wantedError(l, i); e != api.OK {
			return i, e
		}
	}
	return 0, api.OK
}

// wantedIndices returns the indices of the stops for which is is true.
func wantedIndices(l []api.Stop, is func(s api.Stop) bool) []int {
	list := []int{}
	for i, s := range l {
		if is(s) {
			list = append(list, i)
		}
	}
	return list
}

// wantedSet returns the set of those integers of the list that are elements, as the sum of the powers of 2.
func wantedSet(list []int) bitset.Set {
	sum := new(big.Int)
	for i := range elements {
		if slices.Contains(list, i) {
			sum.Add(sum, new(big.Int).Exp(big.NewInt(2), big.NewInt(int64(i)), nil))
		}
	}
	return bitset.Set(sum.Uint64())
}

// Inputs.

// integers returns different integers at the limits of this chapter, at those of sets and at those of the integer types.
func integers() []int {
	list := []int{least, least + 1, greatest, greatest - 1}
	for _, n := range []int{0, mostZone, mostStops, mostChange, 100} {
		list = append(list, n-1, n, n+1, -n)
	}
	for shift := range 63 {
		n := 1 << shift
		list = append(list, n-1, n, n+1, n+mostZone, -n-1, -n, -n+1)
	}
	slices.Sort(list)
	return slices.Compact(list)
}

// between returns the integers from from, up to the one before to.
func between(from, to int) []int {
	var list []int
	for i := from; i < to; i++ {
		list = append(list, i)
	}
	return list
}

// table returns a table of n stops, valid if they are not too many, with identifiers of different lengths; some are parts of others.
func table(n int) []api.Stop {
	var l []api.Stop
	for i := range n {
		l = append(l, api.Stop{ID: fmt.Sprintf("%b", i), Zone: i * 7 % (mostZone + 1), StepFree: i%3 == 1, Change: i * 997 % (mostChange + 1)})
	}
	return l
}

// kinds returns stops that are valid alone, and stops that are not, two and more of them with the same ID.
func kinds() []api.Stop {
	return []api.Stop{
		{ID: "A"},
		{ID: "A", Zone: 15, StepFree: true, Change: 3600},
		{ID: "a", Zone: 1, Change: 120},
		{ID: "AB", Zone: 15, StepFree: true},
		{ID: "A", Zone: 16},
		{ID: "B", Zone: 2, Change: -1, StepFree: true},
		{ID: "", Zone: 63},
		{ID: "A B", Zone: -1, StepFree: true, Change: 3601},
	}
}

// lists returns all lists of up to length of the stops.
func lists(stops []api.Stop, length int) [][]api.Stop {
	all := [][]api.Stop{nil}
	for from := 0; length > 0; length-- {
		to := len(all)
		for _, l := range all[from:to] {
			for _, s := range stops {
				all = append(all, append(slices.Clone(l), s))
			}
		}
		from = to
	}
	return all
}

// scattered returns n stops without a pattern; all of them are valid but for one in rare, and many identifiers are equal if there are few of them.
func scattered(seed, n, names, rare int) []api.Stop {
	state := uint64(seed)
	next := func(below int) int {
		state = state*6364136223846793005 + 1442695040888963407
		return int(state>>33) % below
	}
	wrong := integers()
	var l []api.Stop
	for range n {
		s := api.Stop{ID: fmt.Sprintf("s%x", next(names)), Zone: next(mostZone + 1), StepFree: next(2) == 0, Change: next(mostChange + 1)}
		if next(rare) == 0 {
			switch next(3) {
			case 0:
				s.ID += "?"
			case 1:
				s.Zone = wrong[next(len(wrong))]
			case 2:
				s.Change = wrong[next(len(wrong))]
			}
		}
		l = append(l, s)
	}
	return l
}

// tables returns valid tables, and tables that are not.
func tables() [][]api.Stop {
	all := lists(kinds(), 4)
	for n := range mostStops + 3 {
		all = append(all, table(n), scattered(n, n, 1000000, 1000000), scattered(n, n, 100, 1000000), scattered(n, n, 1000000, 64), scattered(n, n, 8, 8))
	}
	for _, n := range []int{100, 127, 128, 129, 255, 256, 257, 1000} {
		all = append(all, table(n), scattered(n, n, 100, 8))
	}
	return all
}

// with returns the list with another stop at the index i.
func with(l []api.Stop, i int, s api.Stop) []api.Stop {
	l = slices.Clone(l)
	l[i] = s
	return l
}

// text returns a list, or its beginning, for a report.
func text(l []api.Stop) string {
	return fmt.Sprintf("%.200q of %d stops", fmt.Sprint(l), len(l))
}

// Checks.

func checkCheck(t *testing.T, l []api.Stop, index int, e api.Errno) {
	t.Helper()
	if i, got := Check(l); i != index || got != e {
		t.Errorf("Check(%s) = %d, %d; want %d, %d", text(l), i, got, index, e)
	}
}

func checkFind(t *testing.T, l []api.Stop, id string, index int, found bool) {
	t.Helper()
	if i, ok := Find(l, id); i != index || ok != found {
		t.Errorf("Find(%s, %.60q) = %d, %v; want %d, %v", text(l), id, i, ok, index, found)
	}
}

func checkZones(t *testing.T, l []api.Stop, want ...int) {
	t.Helper()
	if got := Zones(l); got != wantedSet(want) {
		t.Errorf("Zones(%s) = %v; want %v", text(l), got.List(), want)
	}
}

func checkInZone(t *testing.T, l []api.Stop, zone int, want ...int) {
	t.Helper()
	if got := InZone(l, zone); !slices.Equal(got, want) {
		t.Errorf("InZone(%s, %d) = %v; want %v", text(l), zone, got, want)
	}
}

func checkStepFree(t *testing.T, l []api.Stop, want ...int) {
	t.Helper()
	if got := StepFree(l); got != wantedSet(want) {
		t.Errorf("StepFree(%s) = %v; want %v", text(l), got.List(), want)
	}
}

// checkFinds compares Find with the definition for each of the identifiers, which need not be any.
func checkFinds(t *testing.T, l []api.Stop, ids ...string) {
	t.Helper()
	for _, id := range ids {
		if same := wantedIndices(l, func(s api.Stop) bool { return s.ID == id }); len(same) > 0 {
			checkFind(t, l, id, same[0], true)
		} else {
			checkFind(t, l, id, 0, false)
		}
	}
}

// checkInZones compares InZone with the definition for each of the zones.
func checkInZones(t *testing.T, l []api.Stop, zones ...int) {
	t.Helper()
	for _, zone := range zones {
		checkInZone(t, l, zone, wantedIndices(l, func(s api.Stop) bool { return s.Zone == zone })...)
	}
}

// checkTable compares all functions with the definitions.
func checkTable(t *testing.T, l []api.Stop) {
	t.Helper()
	index, e := wantedCheck(l)
	checkCheck(t, l, index, e)
	var zones []int
	for _, s := range l {
		zones = append(zones, s.Zone)
		checkFinds(t, l, s.ID)
	}
	checkFinds(t, l, "", "A", "a", "AB", "B", "?", "A B", "s0", "0", "111111")
	checkZones(t, l, zones...)
	checkInZones(t, l, zones...)
	checkInZones(t, l, -1, 0, 1, mostZone, mostZone+1, elements-1, elements)
	checkStepFree(t, l, wantedIndices(l, func(s api.Stop) bool { return s.StepFree })...)
}

// P13.1 (Check)

func TestCheckExamples(t *testing.T) {
	a, b := api.Stop{ID: "A", Zone: 2, Change: 120}, api.Stop{ID: "B", Zone: 2, StepFree: true}
	checkCheck(t, []api.Stop{a, b}, 0, api.OK)
	checkCheck(t, []api.Stop{a, {ID: "A", Zone: 2, StepFree: true}}, 1, api.ErrDuplicate)
	checkCheck(t, []api.Stop{a, {ID: "B", Zone: 16, StepFree: true}}, 1, api.ErrRange)
}

func TestCheckLimit(t *testing.T) {
	checkCheck(t, nil, 0, api.OK)
	checkCheck(t, []api.Stop{}, 0, api.OK)
	checkCheck(t, []api.Stop{{ID: "A"}}, 0, api.OK)
	for n := range mostStops + 1 {
		checkCheck(t, table(n), 0, api.OK)
	}
	for _, n := range []int{mostStops + 1, mostStops + 2, 2 * mostStops, 255, 256, 257, 256 + mostStops, 65536, 65537, 100000} {
		checkCheck(t, table(n), 0, api.ErrLimit)
		checkCheck(t, table(n)[:mostStops], 0, api.OK)
		// No stop of a list that is too long is valid, or all of them have the same ID.
		checkCheck(t, make([]api.Stop, n), 0, api.ErrLimit)
		checkCheck(t, slices.Repeat([]api.Stop{{ID: "A"}}, n), 0, api.ErrLimit)
	}
	for i := range mostStops + 1 {
		for _, s := range []api.Stop{{}, {ID: "0"}, {ID: "111"}, {ID: "A", Zone: 16}, {ID: "A", Change: -1}} {
			checkCheck(t, with(table(mostStops+1), i, s), 0, api.ErrLimit)
		}
	}
}

func TestCheckName(t *testing.T) {
	full := strings.Repeat("a", longest)
	for _, id := range []string{"a", "z", "A", "Z", "0", "9", "-", "_", ".", "Stop-1.a", "007", "-1", "..", full, full[1:], strings.Repeat(".9Z_", longest/4), "A1", "AA", "1A", "A-", "-A"} {
		checkCheck(t, []api.Stop{{ID: id}}, 0, api.OK)
		checkCheck(t, []api.Stop{{ID: "other", Zone: 1}, {ID: id, Zone: 2}}, 0, api.OK)
	}
	for _, id := range []string{
		"", " ", "a b", " a", "a ", "a\n", "\n", "\x00", "a\x00", "a\tb", "\x7f", "a,b", "a;b", "a:b", "a/b", "a\\b", "a@b", "a[b", "a]b", "a`b", "a{b", "a}b", "a|b", "a~b", "a^b", "a+b", "a*b", "a=b", "a<b", "a>b", "a(b", "a)b", "a&b", "a%b", "a$b", "a#b", "a!b", "?", `"a"`, "'a'",
		"ä", "Zürich", "東京", "\u0430", "\uff21", "\u0663", "\u2010", "a\u0301", "\u00a0", "\x80", "\xff", "a\xffb", "\xc1\x81",
		full + "a", full + ".", full + " ", full[1:] + " ", " " + full[1:], full + full, strings.Repeat("a", 256+1), strings.Repeat("a", 1000000),
	} {
		checkCheck(t, []api.Stop{{ID: id}}, 0, api.ErrName)
		checkCheck(t, []api.Stop{{ID: "A"}, {ID: id}, {ID: "B"}}, 1, api.ErrName)
		checkCheck(t, []api.Stop{{ID: "A"}, {ID: id}, {ID: id}}, 1, api.ErrName)
	}
}

func TestCheckNameEachByte(t *testing.T) {
	valid := "ABCDEFGHIJKLMNOPQRSTUVWXYZabcdefghijklmnopqrstuvwxyz0123456789-_."
	for b := range 256 {
		e := api.ErrName
		if strings.IndexByte(valid, byte(b)) >= 0 {
			e = api.OK
		}
		for _, id := range [][]byte{{byte(b)}, {byte(b), 'a'}, {'a', byte(b)}, {'a', byte(b), 'a'}} {
			index := 0
			if e != api.OK {
				index = 1
			}
			checkCheck(t, []api.Stop{{ID: "first"}, {ID: string(id)}}, index, e)
		}
	}
}

func TestCheckZone(t *testing.T) {
	for _, c := range []struct {
		zone int
		e    api.Errno
	}{{-1, api.ErrRange}, {0, api.OK}, {1, api.OK}, {7, api.OK}, {14, api.OK}, {15, api.OK}, {16, api.ErrRange}, {17, api.ErrRange}, {63, api.ErrRange}, {64, api.ErrRange}, {3600, api.ErrRange}, {least, api.ErrRange}, {greatest, api.ErrRange}} {
		checkCheck(t, []api.Stop{{ID: "A", Zone: c.zone}}, 0, c.e)
	}
	for _, zone := range integers() {
		index, e := 0, api.OK
		if zone < 0 || zone > mostZone {
			index, e = 1, api.ErrRange
		}
		checkCheck(t, []api.Stop{{ID: "A"}, {ID: "B", Zone: zone, StepFree: true, Change: 1}}, index, e)
	}
}

func TestCheckChange(t *testing.T) {
	for _, c := range []struct {
		change int
		e      api.Errno
	}{{-1, api.ErrRange}, {0, api.OK}, {1, api.OK}, {120, api.OK}, {3599, api.OK}, {3600, api.OK}, {3601, api.ErrRange}, {-3600, api.ErrRange}, {86400, api.ErrRange}, {least, api.ErrRange}, {greatest, api.ErrRange}} {
		checkCheck(t, []api.Stop{{ID: "A", Change: c.change}}, 0, c.e)
	}
	for _, change := range integers() {
		index, e := 0, api.OK
		if change < 0 || change > mostChange {
			index, e = 1, api.ErrRange
		}
		checkCheck(t, []api.Stop{{ID: "A"}, {ID: "B", Zone: 1, StepFree: true, Change: change}}, index, e)
	}
}

func TestCheckDuplicate(t *testing.T) {
	// The two stops with the same ID are at all places, and differ in all that an ID leaves open.
	for j := range mostStops {
		for i := range j {
			l := table(mostStops)
			l[j].ID = l[i].ID
			checkCheck(t, l, j, api.ErrDuplicate)
			checkCheck(t, l[:j+1], j, api.ErrDuplicate)
			checkCheck(t, l[:j], 0, api.OK)
			checkCheck(t, l[i+1:], 0, api.OK)
		}
	}
	full := strings.Repeat("a", longest)
	for _, id := range []string{"a", "-", full, "Stop-1.a"} {
		checkCheck(t, []api.Stop{{ID: id}, {ID: id}}, 1, api.ErrDuplicate)
		checkCheck(t, []api.Stop{{ID: id, Zone: 1}, {ID: "b"}, {ID: strings.Clone(id), Zone: 2}}, 2, api.ErrDuplicate)
	}
	for _, l := range [][]string{{"a", "A"}, {"a", "aa", "aaa"}, {"aaa", "aa", "a"}, {"Stop", "Stop-1", "Stop-1.a"}, {"ab", "b", "a", "ba"}, {"1", "01", "001"}, {"a-b", "a_b", "a.b"}, {full, full[1:], full[1:] + "b", "b" + full[1:]}} {
		var stops []api.Stop
		for _, id := range l {
			stops = append(stops, api.Stop{ID: id})
		}
		checkCheck(t, stops, 0, api.OK)
		for i, id := range l {
			checkFind(t, stops, id, i, true)
			checkCheck(t, append(slices.Clone(stops), api.Stop{ID: id}), len(l), api.ErrDuplicate)
		}
	}
}

// Of several errors of one stop, ErrName comes first, then ErrDuplicate.
func TestCheckErrorsOfOneStop(t *testing.T) {
	for _, c := range []struct {
		s api.Stop
		e api.Errno
	}{
		{api.Stop{ID: "", Zone: 16}, api.ErrName}, {api.Stop{ID: "?", Zone: -1, Change: -1}, api.ErrName}, {api.Stop{ID: " A", Change: 3601}, api.ErrName}, {api.Stop{ID: "A ", Zone: greatest, Change: least}, api.ErrName},
		{api.Stop{ID: "A", Zone: 16}, api.ErrDuplicate}, {api.Stop{ID: "A", Zone: -1}, api.ErrDuplicate}, {api.Stop{ID: "A", Change: 3601}, api.ErrDuplicate}, {api.Stop{ID: "A", Change: -1}, api.ErrDuplicate}, {api.Stop{ID: "A", Zone: least, Change: greatest}, api.ErrDuplicate},
		{api.Stop{ID: "B", Zone: 16, Change: 3601}, api.ErrRange}, {api.Stop{ID: "B", Zone: 16}, api.ErrRange}, {api.Stop{ID: "B", Change: -1}, api.ErrRange},
	} {
		checkCheck(t, []api.Stop{{ID: "A"}, c.s}, 1, c.e)
		checkCheck(t, []api.Stop{{ID: "A"}, c.s, {ID: "C"}}, 1, c.e)
	}
}

// Of the errors of several stops, the one of the first stop comes first.
func TestCheckErrorsOfTwoStops(t *testing.T) {
	wrong := []struct {
		s api.Stop
		e api.Errno
	}{{api.Stop{}, api.ErrName}, {api.Stop{ID: "?"}, api.ErrName}, {api.Stop{ID: "0"}, api.ErrDuplicate}, {api.Stop{ID: "X", Zone: 16}, api.ErrRange}, {api.Stop{ID: "Y", Change: -1}, api.ErrRange}, {api.Stop{ID: "0", Zone: -1}, api.ErrDuplicate}}
	for j := 2; j < mostStops; j++ {
		for i := 1; i < j; i++ {
			for k, first := range wrong {
				second := wrong[(i+j+k)%len(wrong)]
				checkCheck(t, with(with(table(mostStops), i, first.s), j, second.s), i, first.e)
			}
		}
	}
	// The first stop, of which no earlier one can have the ID.
	for _, second := range wrong {
		checkCheck(t, []api.Stop{{ID: ""}, second.s}, 0, api.ErrName)
		checkCheck(t, []api.Stop{{ID: "0", Zone: 16}, second.s}, 0, api.ErrRange)
		checkCheck(t, []api.Stop{{ID: "0", Change: 3601}, second.s}, 0, api.ErrRange)
	}
}

// P13.2 (Find)

func TestFind(t *testing.T) {
	l := []api.Stop{{ID: "A", Zone: 2, Change: 120}, {ID: "B", Zone: 2, StepFree: true}}
	checkFind(t, l, "A", 0, true)
	checkFind(t, l, "B", 1, true)
	full := strings.Repeat("a", longest)
	for _, id := range []string{"", "C", "a", "b", "AB", "BA", "B ", " B", "B\x00", "Ä", "?", "\xff", full, full + "a", strings.Repeat("B", 1000000)} {
		checkFind(t, l, id, 0, false)
		checkFind(t, nil, id, 0, false)
		checkFind(t, []api.Stop{}, id, 0, false)
	}
	long := []api.Stop{{ID: "a"}, {ID: full + "a"}, {ID: full[1:]}, {ID: full}}
	checkFind(t, long, full, 3, true)
	checkFind(t, long, full[1:], 2, true)
	checkFind(t, long, full+"a", 1, true)
	checkFind(t, long, full[2:], 0, false)
}

func TestFindFirst(t *testing.T) {
	l := []api.Stop{{ID: "X"}, {ID: "A", Zone: 1}, {ID: "A", Zone: 2}, {ID: "B"}, {ID: "A"}, {ID: "B", Change: 5}}
	checkFind(t, l, "A", 1, true)
	checkFind(t, l, "B", 3, true)
	checkFind(t, l, "X", 0, true)
	checkFind(t, l[2:], "A", 0, true)
	checkFind(t, slices.Repeat([]api.Stop{{ID: "A"}}, 100), "A", 0, true)
}

// Neither the table nor the ID need be valid.
func TestFindInvalid(t *testing.T) {
	l := []api.Stop{{ID: "A", Zone: -1}, {ID: "?"}, {ID: ""}, {ID: "Zürich", Change: least}, {ID: "a b", Zone: greatest}, {ID: ""}, {ID: "?"}, {ID: strings.Repeat("a", longest+1)}, {ID: "\xff"}, {ID: "B", Change: -1}}
	for i, s := range l[:5] {
		checkFind(t, l, s.ID, i, true)
	}
	checkFind(t, l, strings.Repeat("a", longest+1), 7, true)
	checkFind(t, l, "\xff", 8, true)
	checkFind(t, l, "B", 9, true)
	for _, id := range []string{"\ufffd", "\xfe", "a", "??", " ", "Zurich", strings.Repeat("a", longest)} {
		checkFind(t, l, id, 0, false)
	}
	long := table(1000)
	for i, s := range long {
		checkFind(t, long, s.ID, i, true)
	}
	checkFind(t, long, fmt.Sprintf("%b", 1000), 0, false)
}

// P13.3 (Zones, InZone)

func TestZones(t *testing.T) {
	l := []api.Stop{{ID: "A", Zone: 2, Change: 120}, {ID: "B", Zone: 2, StepFree: true}}
	checkZones(t, l, 2)
	checkInZone(t, l, 2, 0, 1)
	for _, zone := range integers() {
		if zone != 2 {
			checkInZone(t, l, zone)
		}
	}
	l = []api.Stop{{ID: "A", Zone: 15}, {ID: "B"}, {ID: "C", Zone: 3}, {ID: "D", Zone: 15}, {ID: "E", Zone: 0}, {ID: "F", Zone: 15}}
	checkZones(t, l, 0, 3, 15)
	checkInZone(t, l, 15, 0, 3, 5)
	checkInZone(t, l, 0, 1, 4)
	checkInZone(t, l, 3, 2)
	checkInZone(t, l, 1)
	checkInZone(t, l, 16)
}

func TestZonesWithoutStops(t *testing.T) {
	for _, l := range [][]api.Stop{nil, {}, table(1)[:0]} {
		checkZones(t, l)
		for _, zone := range integers() {
			checkInZone(t, l, zone)
		}
	}
}

// A zone is in the set if it is from 0 to 63, in a valid table or not; InZone takes any zone.
func TestZonesOfAllIntegers(t *testing.T) {
	for zone := -100; zone <= 200; zone++ {
		l := []api.Stop{{ID: "A", Zone: zone}}
		if zone >= 0 && zone <= 63 {
			checkZones(t, l, zone)
		} else {
			checkZones(t, l)
		}
		checkInZone(t, l, zone, 0)
	}
	var l []api.Stop
	list := integers()
	for _, zone := range list {
		l = append(l, api.Stop{Zone: zone})
		checkZones(t, l[len(l)-1:], zone)
	}
	for i, zone := range list {
		checkInZone(t, l, zone, i)
		checkInZone(t, append(slices.Clone(l), l...), zone, i, i+len(l))
		checkInZone(t, slices.Delete(slices.Clone(l), i, i+1), zone)
	}
	checkZones(t, l, list...)
	for _, zone := range []int{-1, 64, 65, 127, 128, 256, 1 << 32, least, greatest} {
		checkZones(t, []api.Stop{{ID: "A", Zone: zone}})
		checkZones(t, []api.Stop{{ID: "A", Zone: 3}, {ID: "B", Zone: zone}, {ID: "C", Zone: 63}}, 3, 63)
	}
}

func TestZonesOfInvalidTables(t *testing.T) {
	l := []api.Stop{{Zone: 63}, {Zone: 63, Change: -1}, {ID: "?", Zone: 16}, {ID: "?", Zone: -1}, {Zone: 64}}
	checkZones(t, l, 16, 63)
	checkInZone(t, l, 63, 0, 1)
	checkInZone(t, l, 16, 2)
	checkInZone(t, l, -1, 3)
	checkInZone(t, l, 64, 4)
	checkInZone(t, l, 0)
	// More stops than a table or a set holds.
	long := make([]api.Stop, 300)
	for i := range long {
		long[i].Zone = i
	}
	for i := range long {
		checkInZone(t, long, i, i)
		checkZones(t, long[i:], between(i, elements)...)
	}
	// The zones of all stops but the last one are in no set.
	for zone := range elements {
		checkZones(t, append(slices.Clone(long[elements:]), api.Stop{Zone: zone}), zone)
	}
	same := make([]api.Stop, 100000)
	checkZones(t, same, 0)
	if list := InZone(same, 0); len(list) != len(same) || list[99999] != 99999 {
		t.Errorf("InZone of %d stops in one zone has %d", len(same), len(list))
	}
}

// P13.4 (StepFree)

func TestStepFree(t *testing.T) {
	checkStepFree(t, []api.Stop{{ID: "A", Zone: 2, Change: 120}, {ID: "B", Zone: 2, StepFree: true}}, 1)
	checkStepFree(t, nil)
	checkStepFree(t, []api.Stop{})
	checkStepFree(t, []api.Stop{{ID: "A"}})
	checkStepFree(t, []api.Stop{{ID: "A", StepFree: true}}, 0)
	for bits := range 1 << 8 {
		l := table(8)
		var want []int
		for i := range l {
			l[i].StepFree = bits>>i&1 == 1
			if l[i].StepFree {
				want = append(want, i)
			}
		}
		checkStepFree(t, l, want...)
	}
}

func TestStepFreeOfInvalidTables(t *testing.T) {
	checkStepFree(t, []api.Stop{{StepFree: true}, {}, {ID: "?", Zone: -1, StepFree: true}, {ID: "A", Change: 3601, StepFree: true}, {ID: "A", StepFree: true}}, 0, 2, 3, 4)
	// Each number of stops, all of them step-free, or one of them.
	for n := range 300 {
		l := make([]api.Stop, n)
		for i := range l {
			l[i].StepFree = true
		}
		checkStepFree(t, l, between(0, min(n, elements))...)
	}
	for i := range 300 {
		l := make([]api.Stop, 300)
		l[i].StepFree = true
		if i <= 63 {
			checkStepFree(t, l, i)
		} else {
			checkStepFree(t, l)
		}
	}
	checkStepFree(t, append(make([]api.Stop, 100000), api.Stop{StepFree: true}))
}

// P13.5 (unique identifiers), P13.6 (first error) and P13.7 (zones)

func TestUniqueIdentifiers(t *testing.T) {
	count := 0
	for _, l := range tables() {
		if _, e := Check(l); e != api.OK {
			continue
		}
		count++
		for i, s := range l {
			checkFind(t, l, s.ID, i, true)
		}
	}
	if count < 200 {
		t.Errorf("only %d tables were valid", count)
	}
}

func TestFirstError(t *testing.T) {
	count := map[api.Errno]int{}
	for _, l := range tables() {
		index, e := Check(l)
		count[e]++
		if e == api.OK || e == api.ErrLimit {
			checkCheck(t, l, 0, e)
		} else if index < 0 || index >= len(l) {
			t.Errorf("Check(%s) = %d, %d", text(l), index, e)
		} else {
			checkCheck(t, l[:index], 0, api.OK)
			checkCheck(t, l[:index+1], index, e)
		}
	}
	for _, e := range []api.Errno{api.OK, api.ErrLimit, api.ErrName, api.ErrDuplicate, api.ErrRange} {
		if count[e] < 10 {
			t.Errorf("Check returned %d only %d times", e, count[e])
		}
	}
	if len(count) != 5 {
		t.Errorf("Check returned other errors: %v", count)
	}
}

func TestZonesContainEveryStop(t *testing.T) {
	for _, l := range tables() {
		if _, e := Check(l); e != api.OK {
			continue
		}
		var all []int
		for zone := range Zones(l).All() {
			list := InZone(l, zone)
			if len(list) == 0 || zone > mostZone {
				t.Errorf("zone %d of %s has the stops %v", zone, text(l), list)
			}
			all = append(all, list...)
		}
		slices.Sort(all)
		if !slices.Equal(all, between(0, len(l))) {
			t.Errorf("the zones of %s contain %v", text(l), all)
		}
	}
}

// All functions, compared with the definitions.

func TestAgainstDefinitions(t *testing.T) {
	for _, l := range tables() {
		checkTable(t, l)
	}
	for seed := range 300 {
		for _, rare := range []int{2, 20, 200, 2000} {
			checkTable(t, scattered(seed, seed%(mostStops+2), 1+seed*seed, rare))
		}
	}
}

// Every pair of zones and changes at the limits, and every identifier that is or is not one.
func TestStopsAgainstDefinitions(t *testing.T) {
	edges := []int{least, -3600, -1, 0, 1, 14, 15, 16, 17, 63, 64, 3599, 3600, 3601, 1 << 32, greatest}
	for _, id := range []string{"", "A", "B", "a", "AA", "?", "B ", strings.Repeat("B", longest), strings.Repeat("B", longest+1)} {
		for _, zone := range edges {
			for _, change := range edges {
				for _, free := range []bool{false, true} {
					s := api.Stop{ID: id, Zone: zone, StepFree: free, Change: change}
					checkTable(t, []api.Stop{s})
					checkTable(t, []api.Stop{{ID: "A"}, s, {ID: "C", Zone: 15}})
				}
			}
		}
	}
}

// Rules: arguments are neither changed nor retained, and results share no memory.

func TestArgumentsAreNotChanged(t *testing.T) {
	for _, original := range [][]api.Stop{table(3), table(5), table(mostStops), table(mostStops + 1), {{ID: "c", Zone: 5}, {ID: "a", Zone: -1}, {ID: "c"}, {}}, scattered(1, 50, 10, 2)} {
		l := append(make([]api.Stop, 0, 2*len(original)), original...)
		before := slices.Clone(l[:cap(l)])
		Check(l)
		Find(l, "c")
		Find(l, "x")
		Zones(l)
		InZone(l, 5)
		StepFree(l)
		if !slices.Equal(l[:cap(l)], before) {
			t.Errorf("%s was changed to %s", text(before), text(l[:cap(l)]))
		}
	}
}

func TestResultsShareNoMemory(t *testing.T) {
	l := []api.Stop{{ID: "A", Zone: 2}, {ID: "B", Zone: 2}, {ID: "C", Zone: 3}, {ID: "D", Zone: 2}}
	before := slices.Clone(l)
	first, second, other := InZone(l, 2), InZone(l, 2), InZone(l, 3)
	// Whatever is behind the elements belongs to the result as well.
	for i := range first[:cap(first)] {
		first[:cap(first)][i] = -1
	}
	if !slices.Equal(second, []int{0, 1, 3}) || !slices.Equal(other, []int{2}) || !slices.Equal(l, before) {
		t.Errorf("results share memory: %v, %v, %v", second, other, l)
	}
	checkInZone(t, l, 2, 0, 1, 3)
	// A change of the table changes no result.
	l[1].Zone = 3
	if !slices.Equal(second, []int{0, 1, 3}) {
		t.Errorf("a result changed with the table to %v", second)
	}
	checkInZone(t, l, 2, 0, 3)
	checkInZone(t, l, 3, 1, 2)
}

// The results of a call depend only on its arguments: no identifier is known from an earlier call.
func TestCallsDoNotAffectEachOther(t *testing.T) {
	l := table(mostStops)
	double := append(slices.Clone(l[:10]), l[3])
	for range 3 {
		checkCheck(t, l, 0, api.OK)
		checkCheck(t, double, 10, api.ErrDuplicate)
		checkCheck(t, double[3:], 7, api.ErrDuplicate)
		checkCheck(t, slices.Clone(l[:10]), 0, api.OK)
		checkCheck(t, table(mostStops+1), 0, api.ErrLimit)
		checkFind(t, l, l[3].ID, 3, true)
		checkTable(t, l)
	}
	for _, l := range slices.Backward(tables()[:600]) {
		checkTable(t, l)
	}
}

// P1: every function terminates and does not panic.

func FuzzStop(f *testing.F) {
	for i, ids := range []string{"", "A", "A,B", "A,A", "A,?,A", ",", "Stop-1.a,Stop-1,Stop", "\xff,a", strings.Repeat("a", longest) + "," + strings.Repeat("a", longest+1), "a" + strings.Repeat(",b", mostStops)} {
		f.Add(ids, []byte{2, 0, 17, 3, 1, 200}, 15, 3600)
		f.Add(ids, []byte{byte(i), 1, 2}, -1, greatest)
	}
	f.Fuzz(func(t *testing.T, ids string, data []byte, zone, change int) {
		var l []api.Stop
		for i, id := range strings.Split(ids, ",") {
			s := api.Stop{ID: id}
			if len(data) > 0 {
				b := int(data[i%len(data)])
				s.Zone, s.StepFree, s.Change = b%18, b&1 == 1, b*15
				if b == 255 {
					s.Zone, s.Change = zone, change
				}
			}
			l = append(l, s)
		}
		checkTable(t, l)
		checkTable(t, append(l, api.Stop{ID: "last", Zone: zone, Change: change, StepFree: zone > change}))
		checkFinds(t, l, ids)
		checkInZones(t, l, zone, change)
	})
}
