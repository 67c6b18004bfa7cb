package route

import (
	"fmt"
	"math"
	"math/big"
	"regexp"
	"slices"
	"strings"
	"testing"

	"transit/api"
	"transit/bitset"
)

// The limits as the document states them.
const (
	mostRoutes = 64
	modeCount  = 8
	mostModes  = 255
	longest    = 32
)

const (
	least    = math.MinInt
	greatest = math.MaxInt
)

// The chapter's definitions.

// modeNames is the definition of the modes: a mode is the index of its name.
var modeNames = strings.Fields("bus tram metro rail ferry coach cable funicular")

// nameForm is the form of an identifier.
var nameForm = regexp.MustCompile(`\A[A-Za-z0-9_.-]{1,32}\z`)

// isMode reports whether mode is one of the modes.
func isMode(mode int) bool {
	return mode >= 0 && mode <= 7
}

// bit returns the bit m of an integer, which is extended by its sign without end.
func bit(n, m int) bool {
	return big.NewInt(int64(n)).Bit(m) == 1
}

// wantedError returns the error of the route i.
func wantedError(l []api.Route, i int) api.Errno {
	if !nameForm.MatchString(l[i].ID) {
		return api.ErrName
	}
	for _, earlier := range l[:i] {
		if earlier.ID == l[i].ID {
			return api.ErrDuplicate
		}
	}
	if !isMode(l[i].Mode) {
		return api.ErrRange
	}
	return api.OK
}

// wantedCheck returns what Check must return.
func wantedCheck(l []api.Route) (int, api.Errno) {
	if len(l) > mostRoutes {
		return 0, api.ErrLimit
	}
	for i := range l {
		if e := wantedError(l, i); e != api.OK {
			return i, e
		}
	}
	return 0, api.OK
}

// wantedIndices returns the indices of the routes for which is is true.
func wantedIndices(l []api.Route, is func(r api.Route) bool) []int {
	list := []int{}
	for i, r := range l {
		if is(r) {
			list = append(list, i)
		}
	}
	return list
}

// wantedModes returns the sum of the bits of the modes that routes of the list have.
func wantedModes(l []api.Route) bitset.Set {
	sum := 0
	for mode, value := range []int{1, 2, 4, 8, 16, 32, 64, 128} {
		if slices.ContainsFunc(l, func(r api.Route) bool { return r.Mode == mode }) {
			sum += value
		}
	}
	return bitset.Set(sum)
}

// wantedWithModes returns what WithModes must return.
func wantedWithModes(l []api.Route, modes int) []int {
	return wantedIndices(l, func(r api.Route) bool {
		return isMode(r.Mode) && (modes == 0 || bit(modes, r.Mode))
	})
}

// wantedText returns the text of a set of modes from 0 to 255.
func wantedText(modes int) string {
	s := ""
	for mode, name := range modeNames {
		if bit(modes, mode) {
			s += "+" + name
		}
	}
	if s == "" {
		return "none"
	}
	return s[1:]
}

// wantedTexts returns the sets of modes by their texts.
func wantedTexts() map[string]int {
	texts := map[string]int{}
	for modes := range mostModes + 1 {
		texts[wantedText(modes)] = modes
	}
	return texts
}

// Inputs.

// integers returns different integers at the limits of this chapter and at those of the integer types.
func integers() []int {
	list := []int{least, least + 1, greatest, greatest - 1}
	for n := range 300 {
		list = append(list, n, -n)
	}
	for shift := range 63 {
		n := 1 << shift
		list = append(list, n-1, n, n+1, n+mostModes, -n-1, -n, -n+1, -n+mostModes)
	}
	slices.Sort(list)
	return slices.Compact(list)
}

// between returns the integers from from, up to the one before to.
func between(from, to int) []int {
	var list []int
	for i := from; i < to; i++ {
		list = append(list, i)
	}
	return list
}

// table returns a table of n routes, valid if they are not too many, with identifiers of different lengths; some are parts of others.
func table(n int) []api.Route {
	var l []api.Route
	for i := range n {
		l = append(l, api.Route{ID: fmt.Sprintf("%b", i), Mode: i * 3 % modeCount, Bicycles: i%5 == 1})
	}
	return l
}

// ofModes returns routes with those modes, and different identifiers.
func ofModes(modes ...int) []api.Route {
	l := table(len(modes))
	for i, mode := range modes {
		l[i].Mode = mode
	}
	return l
}

// kinds returns routes that are valid alone, and routes that are not, two and more of them with the same ID.
func kinds() []api.Route {
	return []api.Route{
		{ID: "A"},
		{ID: "A", Mode: 7, Bicycles: true},
		{ID: "a", Mode: 1},
		{ID: "AB", Mode: 7, Bicycles: true},
		{ID: "A", Mode: 8},
		{ID: "B", Mode: -1, Bicycles: true},
		{ID: "", Mode: 3},
		{ID: "A B", Mode: 63},
	}
}

// lists returns all lists of up to length of the elements.
func lists[T any](elements []T, length int) [][]T {
	all := [][]T{nil}
	for from := 0; length > 0; length-- {
		to := len(all)
		for _, l := range all[from:to] {
			for _, x := range elements {
				all = append(all, append(slices.Clone(l), x))
			}
		}
		from = to
	}
	return all
}

// source returns a function that returns integers from 0, up to the one before below, without a pattern.
func source(seed int) func(below int) int {
	state := uint64(seed)
	return func(below int) int {
		state = state*6364136223846793005 + 1442695040888963407
		return int(state>>33) % below
	}
}

// scattered returns n routes without a pattern; all of them are valid but for one in rare, and many identifiers are equal if there are few of them.
func scattered(seed, n, ids, rare int) []api.Route {
	next := source(seed)
	wrong := integers()
	var l []api.Route
	for range n {
		r := api.Route{ID: fmt.Sprintf("r%x", next(ids)), Mode: next(modeCount), Bicycles: next(2) == 0}
		if next(rare) == 0 {
			switch next(2) {
			case 0:
				r.ID += "?"
			case 1:
				r.Mode = wrong[next(len(wrong))]
			}
		}
		l = append(l, r)
	}
	return l
}

// tables returns valid tables, and tables that are not.
func tables() [][]api.Route {
	all := lists(kinds(), 4)
	for n := range mostRoutes + 3 {
		all = append(all, table(n), scattered(n, n, 1000000, 1000000), scattered(n, n, 100, 1000000), scattered(n, n, 1000000, 64), scattered(n, n, 8, 8))
	}
	for _, n := range []int{100, 127, 128, 129, 255, 256, 257, 1000} {
		all = append(all, table(n), scattered(n, n, 100, 8))
	}
	return all
}

// with returns the list with another route at the index i.
func with(l []api.Route, i int, r api.Route) []api.Route {
	l = slices.Clone(l)
	l[i] = r
	return l
}

// neighbours returns the texts that differ from s in one byte that is missing, added or another one, or in the order of two.
func neighbours(s string) []string {
	var list []string
	for i := range len(s) + 1 {
		for _, c := range []byte("abefilnorstuy+ BN\x00,-;\xff") {
			other := string([]byte{c})
			list = append(list, s[:i]+other+s[i:])
			if i < len(s) {
				list = append(list, s[:i]+other+s[i+1:])
			}
		}
		if i < len(s) {
			list = append(list, s[:i]+s[i+1:], s[:i]+strings.ToUpper(s[i:i+1])+s[i+1:])
		}
		if i+1 < len(s) {
			list = append(list, s[:i]+s[i+1:i+2]+s[i:i+1]+s[i+2:])
		}
	}
	return list
}

// text returns a list, or its beginning, for a report.
func text(l []api.Route) string {
	return fmt.Sprintf("%.200q of %d routes", fmt.Sprint(l), len(l))
}

// Checks.

func checkCheck(t *testing.T, l []api.Route, index int, e api.Errno) {
	t.Helper()
	if i, got := Check(l); i != index || got != e {
		t.Errorf("Check(%s) = %d, %d; want %d, %d", text(l), i, got, index, e)
	}
}

func checkFind(t *testing.T, l []api.Route, id string, index int, found bool) {
	t.Helper()
	if i, ok := Find(l, id); i != index || ok != found {
		t.Errorf("Find(%s, %.60q) = %d, %v; want %d, %v", text(l), id, i, ok, index, found)
	}
}

func checkModeName(t *testing.T, mode int, name string, valid bool) {
	t.Helper()
	if got, ok := ModeName(mode); got != name || ok != valid {
		t.Errorf("ModeName(%d) = %q, %v; want %q, %v", mode, got, ok, name, valid)
	}
}

func checkParseMode(t *testing.T, s string, mode int, found bool) {
	t.Helper()
	if got, ok := ParseMode(s); got != mode || ok != found {
		t.Errorf("ParseMode(%.60q) = %d, %v; want %d, %v", s, got, ok, mode, found)
	}
}

func checkModes(t *testing.T, l []api.Route, want bitset.Set) {
	t.Helper()
	if got := Modes(l); got != want {
		t.Errorf("Modes(%s) = %d; want %d", text(l), got, want)
	}
}

func checkWithModes(t *testing.T, l []api.Route, modes int, want ...int) {
	t.Helper()
	if got := WithModes(l, modes); !slices.Equal(got, want) {
		t.Errorf("WithModes(%s, %d) = %v; want %v", text(l), modes, got, want)
	}
}

func checkFormatModes(t *testing.T, modes int, s string, e api.Errno) {
	t.Helper()
	if got, err := FormatModes(modes); got != s || err != e {
		t.Errorf("FormatModes(%d) = %q, %d; want %q, %d", modes, got, err, s, e)
	}
}

func checkParseModes(t *testing.T, s string, modes int, e api.Errno) {
	t.Helper()
	if got, err := ParseModes(s); got != modes || err != e {
		t.Errorf("ParseModes(%.120q) = %d, %d; want %d, %d", s, got, err, modes, e)
	}
}

// checkFinds compares Find with the definition for each of the identifiers, which need not be any.
func checkFinds(t *testing.T, l []api.Route, ids ...string) {
	t.Helper()
	for _, id := range ids {
		if same := wantedIndices(l, func(r api.Route) bool { return r.ID == id }); len(same) > 0 {
			checkFind(t, l, id, same[0], true)
		} else {
			checkFind(t, l, id, 0, false)
		}
	}
}

// checkTable compares all functions of a list with the definitions.
func checkTable(t *testing.T, l []api.Route) {
	t.Helper()
	index, e := wantedCheck(l)
	checkCheck(t, l, index, e)
	for _, r := range l {
		checkFinds(t, l, r.ID)
	}
	checkFinds(t, l, "", "A", "a", "AB", "B", "?", "A B", "r0", "0", "111111")
	checkModes(t, l, wantedModes(l))
	for _, modes := range []int{0, 1, 2, 3, 4, 8, 9, 16, 32, 64, 127, 128, 129, 170, 254, 255, 256, 257, 1024, -1, -2, -128, -256, least, least + 1, greatest, greatest - 8} {
		checkWithModes(t, l, modes, wantedWithModes(l, modes)...)
	}
}

// checkTexts compares ParseMode and ParseModes with the definitions for each of the texts.
func checkTexts(t *testing.T, texts map[string]int, list ...string) {
	t.Helper()
	for _, s := range list {
		if modes, ok := texts[s]; ok {
			checkParseModes(t, s, modes, api.OK)
		} else {
			checkParseModes(t, s, 0, api.ErrSyntax)
		}
		mode := slices.Index(modeNames, s)
		checkParseMode(t, s, max(mode, 0), mode >= 0)
	}
}

// P15.1 (Check)

func TestCheckExamples(t *testing.T) {
	a, b := api.Route{ID: "A", Mode: 3}, api.Route{ID: "B", Bicycles: true}
	checkCheck(t, []api.Route{a, b}, 0, api.OK)
	checkCheck(t, []api.Route{a, {ID: "A", Bicycles: true}}, 1, api.ErrDuplicate)
	checkCheck(t, []api.Route{a, {ID: "B", Mode: 8}}, 1, api.ErrRange)
	checkCheck(t, []api.Route{a, {ID: "", Mode: 3}}, 1, api.ErrName)
	checkCheck(t, []api.Route{{ID: "?"}, b}, 0, api.ErrName)
}

func TestCheckLimit(t *testing.T) {
	checkCheck(t, nil, 0, api.OK)
	checkCheck(t, []api.Route{}, 0, api.OK)
	checkCheck(t, []api.Route{{ID: "A"}}, 0, api.OK)
	for n := range mostRoutes + 1 {
		checkCheck(t, table(n), 0, api.OK)
	}
	for _, n := range []int{mostRoutes + 1, mostRoutes + 2, 2 * mostRoutes, 255, 256, 257, 256 + mostRoutes, 65536, 65537, 100000} {
		checkCheck(t, table(n), 0, api.ErrLimit)
		checkCheck(t, table(n)[:mostRoutes], 0, api.OK)
		// No route of a list that is too long is valid, or all of them have the same ID.
		checkCheck(t, make([]api.Route, n), 0, api.ErrLimit)
		checkCheck(t, slices.Repeat([]api.Route{{ID: "A"}}, n), 0, api.ErrLimit)
	}
	for i := range mostRoutes + 1 {
		for _, r := range []api.Route{{}, {ID: "0"}, {ID: "111"}, {ID: "A", Mode: 8}, {ID: "A", Mode: -1}} {
			checkCheck(t, with(table(mostRoutes+1), i, r), 0, api.ErrLimit)
		}
	}
}

func TestCheckName(t *testing.T) {
	full := strings.Repeat("a", longest)
	for _, id := range []string{"a", "z", "A", "Z", "0", "9", "-", "_", ".", "Line-1.a", "007", "-1", "..", "bus", "none", full, full[1:], strings.Repeat(".9Z_", longest/4), "A1", "AA", "1A", "A-", "-A"} {
		checkCheck(t, []api.Route{{ID: id}}, 0, api.OK)
		checkCheck(t, []api.Route{{ID: "other", Mode: 1}, {ID: id, Mode: 2}}, 0, api.OK)
	}
	for _, id := range []string{
		"", " ", "a b", " a", "a ", "a\n", "\n", "\x00", "a\x00", "a\tb", "\x7f", "a,b", "a;b", "a:b", "a/b", "a\\b", "a@b", "a[b", "a]b", "a`b", "a{b", "a}b", "a|b", "a~b", "a^b", "a+b", "bus+rail", "+", "a*b", "a=b", "a<b", "a>b", "a(b", "a)b", "a&b", "a%b", "a$b", "a#b", "a!b", "?", `"a"`, "'a'",
		"ä", "Zürich", "東京", "\u0430", "\uff21", "\u0663", "\u2010", "a\u0301", "\u00a0", "\x80", "\xff", "a\xffb", "\xc1\x81",
		full + "a", full + ".", full + " ", full[1:] + " ", " " + full[1:], full + full, strings.Repeat("a", 256+1), strings.Repeat("a", 1000000),
	} {
		checkCheck(t, []api.Route{{ID: id}}, 0, api.ErrName)
		checkCheck(t, []api.Route{{ID: "A"}, {ID: id}, {ID: "B"}}, 1, api.ErrName)
		checkCheck(t, []api.Route{{ID: "A"}, {ID: id}, {ID: id}}, 1, api.ErrName)
	}
}

func TestCheckNameEachByte(t *testing.T) {
	valid := "ABCDEFGHIJKLMNOPQRSTUVWXYZabcdefghijklmnopqrstuvwxyz0123456789-_."
	for b := range 256 {
		index, e := 1, api.ErrName
		if strings.IndexByte(valid, byte(b)) >= 0 {
			index, e = 0, api.OK
		}
		for _, id := range [][]byte{{byte(b)}, {byte(b), 'a'}, {'a', byte(b)}, {'a', byte(b), 'a'}} {
			checkCheck(t, []api.Route{{ID: "first"}, {ID: string(id)}}, index, e)
		}
	}
}

func TestCheckMode(t *testing.T) {
	for _, c := range []struct {
		mode int
		e    api.Errno
	}{{-1, api.ErrRange}, {0, api.OK}, {1, api.OK}, {2, api.OK}, {3, api.OK}, {4, api.OK}, {5, api.OK}, {6, api.OK}, {7, api.OK}, {8, api.ErrRange}, {9, api.ErrRange}, {63, api.ErrRange}, {64, api.ErrRange}, {255, api.ErrRange}, {256, api.ErrRange}, {least, api.ErrRange}, {greatest, api.ErrRange}} {
		checkCheck(t, []api.Route{{ID: "A", Mode: c.mode}}, 0, c.e)
	}
	for _, mode := range integers() {
		index, e := 0, api.OK
		if !isMode(mode) {
			index, e = 1, api.ErrRange
		}
		checkCheck(t, []api.Route{{ID: "A"}, {ID: "B", Mode: mode, Bicycles: true}}, index, e)
		checkCheck(t, []api.Route{{ID: "A"}, {ID: "B", Mode: mode}, {ID: "C", Mode: 7}}, index, e)
	}
}

func TestCheckDuplicate(t *testing.T) {
	// The two routes with the same ID are at all places, next to each other and far apart.
	for j := range mostRoutes {
		for i := range j {
			l := table(mostRoutes)
			l[j].ID = l[i].ID
			checkCheck(t, l, j, api.ErrDuplicate)
			checkCheck(t, l[:j+1], j, api.ErrDuplicate)
			checkCheck(t, l[:j], 0, api.OK)
			checkCheck(t, l[i+1:], 0, api.OK)
		}
	}
	full := strings.Repeat("a", longest)
	for _, id := range []string{"a", "-", full, "Line-1.a"} {
		checkCheck(t, []api.Route{{ID: id}, {ID: id}}, 1, api.ErrDuplicate)
		checkCheck(t, []api.Route{{ID: id, Mode: 1}, {ID: "b"}, {ID: strings.Clone(id), Mode: 2, Bicycles: true}}, 2, api.ErrDuplicate)
		checkCheck(t, []api.Route{{ID: "b"}, {ID: id}, {ID: id}, {ID: id}}, 2, api.ErrDuplicate)
	}
	for _, l := range [][]string{{"a", "A"}, {"a", "aa", "aaa"}, {"aaa", "aa", "a"}, {"Line", "Line-1", "Line-1.a"}, {"ab", "b", "a", "ba"}, {"1", "01", "001"}, {"a-b", "a_b", "a.b"}, {full, full[1:], full[1:] + "b", "b" + full[1:]}} {
		var routes []api.Route
		for _, id := range l {
			routes = append(routes, api.Route{ID: id})
		}
		checkCheck(t, routes, 0, api.OK)
		for i, id := range l {
			checkFind(t, routes, id, i, true)
			checkCheck(t, append(slices.Clone(routes), api.Route{ID: id}), len(l), api.ErrDuplicate)
		}
	}
}

// Of several errors of one route, ErrName comes first, then ErrDuplicate.
func TestCheckErrorsOfOneRoute(t *testing.T) {
	for _, c := range []struct {
		r api.Route
		e api.Errno
	}{
		{api.Route{ID: "", Mode: 8}, api.ErrName}, {api.Route{ID: "?", Mode: -1}, api.ErrName}, {api.Route{ID: " A", Mode: greatest}, api.ErrName}, {api.Route{ID: strings.Repeat("A", longest+1), Mode: least}, api.ErrName},
		{api.Route{ID: "A", Mode: 8}, api.ErrDuplicate}, {api.Route{ID: "A", Mode: -1}, api.ErrDuplicate}, {api.Route{ID: "A", Mode: least, Bicycles: true}, api.ErrDuplicate}, {api.Route{ID: "A", Mode: greatest}, api.ErrDuplicate},
		{api.Route{ID: "B", Mode: 8}, api.ErrRange}, {api.Route{ID: "B", Mode: -1}, api.ErrRange}, {api.Route{ID: "a", Mode: 8}, api.ErrRange},
	} {
		checkCheck(t, []api.Route{{ID: "A"}, c.r}, 1, c.e)
		checkCheck(t, []api.Route{{ID: "A"}, c.r, {ID: "C"}}, 1, c.e)
	}
	// A name that is not one twice: the first of the two is wrong already.
	checkCheck(t, []api.Route{{ID: "A"}, {ID: "?"}, {ID: "?", Mode: 8}}, 1, api.ErrName)
	checkCheck(t, []api.Route{{ID: ""}, {ID: ""}}, 0, api.ErrName)
}

// Of the errors of several routes, the one of the first route comes first.
func TestCheckErrorsOfTwoRoutes(t *testing.T) {
	wrong := []struct {
		r api.Route
		e api.Errno
	}{{api.Route{}, api.ErrName}, {api.Route{ID: "?"}, api.ErrName}, {api.Route{ID: "0"}, api.ErrDuplicate}, {api.Route{ID: "X", Mode: 8}, api.ErrRange}, {api.Route{ID: "Y", Mode: -1}, api.ErrRange}, {api.Route{ID: "0", Mode: -1}, api.ErrDuplicate}}
	for j := 2; j < mostRoutes; j++ {
		for i := 1; i < j; i++ {
			for k, first := range wrong {
				second := wrong[(i+j+k)%len(wrong)]
				checkCheck(t, with(with(table(mostRoutes), i, first.r), j, second.r), i, first.e)
			}
		}
	}
	// The first route, of which no earlier one can have the ID.
	for _, second := range wrong {
		checkCheck(t, []api.Route{{ID: ""}, second.r}, 0, api.ErrName)
		checkCheck(t, []api.Route{{ID: "0", Mode: 8}, second.r}, 0, api.ErrRange)
		checkCheck(t, []api.Route{{ID: "0", Mode: -1}, second.r}, 0, api.ErrRange)
	}
}

func TestCheckFirstError(t *testing.T) {
	count := map[api.Errno]int{}
	for _, l := range tables() {
		index, e := Check(l)
		count[e]++
		if e == api.OK || e == api.ErrLimit {
			checkCheck(t, l, 0, e)
		} else if index < 0 || index >= len(l) {
			t.Errorf("Check(%s) = %d, %d", text(l), index, e)
		} else {
			checkCheck(t, l[:index], 0, api.OK)
			checkCheck(t, l[:index+1], index, e)
		}
	}
	for _, e := range []api.Errno{api.OK, api.ErrLimit, api.ErrName, api.ErrDuplicate, api.ErrRange} {
		if count[e] < 10 {
			t.Errorf("Check returned %d only %d times", e, count[e])
		}
	}
	if len(count) != 5 {
		t.Errorf("Check returned other errors: %v", count)
	}
}

// P15.1 (Find)

func TestFind(t *testing.T) {
	l := []api.Route{{ID: "A", Mode: 3}, {ID: "B", Bicycles: true}}
	checkFind(t, l, "A", 0, true)
	checkFind(t, l, "B", 1, true)
	full := strings.Repeat("a", longest)
	for _, id := range []string{"", "C", "a", "b", "AB", "BA", "B ", " B", "B\x00", "Ä", "?", "\xff", full, full + "a", strings.Repeat("B", 1000000)} {
		checkFind(t, l, id, 0, false)
		checkFind(t, nil, id, 0, false)
		checkFind(t, []api.Route{}, id, 0, false)
	}
	long := []api.Route{{ID: "a"}, {ID: full + "a"}, {ID: full[1:]}, {ID: full}}
	checkFind(t, long, full, 3, true)
	checkFind(t, long, full[1:], 2, true)
	checkFind(t, long, full+"a", 1, true)
	checkFind(t, long, full[2:], 0, false)
}

func TestFindFirst(t *testing.T) {
	l := []api.Route{{ID: "X"}, {ID: "A", Mode: 1}, {ID: "A", Mode: 2}, {ID: "B"}, {ID: "A"}, {ID: "B", Mode: 5}}
	checkFind(t, l, "A", 1, true)
	checkFind(t, l, "B", 3, true)
	checkFind(t, l, "X", 0, true)
	checkFind(t, l[2:], "A", 0, true)
	checkFind(t, slices.Repeat([]api.Route{{ID: "A"}}, 100), "A", 0, true)
}

// Neither the table nor the ID need be valid.
func TestFindInvalid(t *testing.T) {
	l := []api.Route{{ID: "A", Mode: -1}, {ID: "?"}, {ID: ""}, {ID: "Zürich", Mode: least}, {ID: "a b", Mode: greatest}, {ID: ""}, {ID: "?"}, {ID: strings.Repeat("a", longest+1)}, {ID: "\xff"}, {ID: "B", Mode: 8}}
	for i, r := range l[:5] {
		checkFind(t, l, r.ID, i, true)
	}
	checkFind(t, l, strings.Repeat("a", longest+1), 7, true)
	checkFind(t, l, "\xff", 8, true)
	checkFind(t, l, "B", 9, true)
	for _, id := range []string{"\ufffd", "\xfe", "a", "??", " ", "Zurich", strings.Repeat("a", longest)} {
		checkFind(t, l, id, 0, false)
	}
	long := table(1000)
	for i, r := range long {
		checkFind(t, long, r.ID, i, true)
	}
	checkFind(t, long, fmt.Sprintf("%b", 1000), 0, false)
}

// In a valid table, Find returns the place of each route.
func TestFindInValidTables(t *testing.T) {
	count := 0
	for _, l := range tables() {
		if _, e := Check(l); e != api.OK {
			continue
		}
		count++
		for i, r := range l {
			checkFind(t, l, r.ID, i, true)
		}
	}
	if count < 200 {
		t.Errorf("only %d tables were valid", count)
	}
}

// P15.2 (ModeName, ParseMode)

func TestModes0To7(t *testing.T) {
	checkModeName(t, 0, "bus", true)
	checkModeName(t, 1, "tram", true)
	checkModeName(t, 2, "metro", true)
	checkModeName(t, 3, "rail", true)
	checkModeName(t, 4, "ferry", true)
	checkModeName(t, 5, "coach", true)
	checkModeName(t, 6, "cable", true)
	checkModeName(t, 7, "funicular", true)
	checkParseMode(t, "bus", 0, true)
	checkParseMode(t, "tram", 1, true)
	checkParseMode(t, "metro", 2, true)
	checkParseMode(t, "rail", 3, true)
	checkParseMode(t, "ferry", 4, true)
	checkParseMode(t, "coach", 5, true)
	checkParseMode(t, "cable", 6, true)
	checkParseMode(t, "funicular", 7, true)
}

func TestModeNameOfOthers(t *testing.T) {
	for _, mode := range []int{-1, 8, 9, 16, 63, 64, -8, 255, 256, 1 << 32, least, greatest} {
		checkModeName(t, mode, "", false)
	}
	for _, mode := range integers() {
		if isMode(mode) {
			checkModeName(t, mode, modeNames[mode], true)
		} else {
			checkModeName(t, mode, "", false)
		}
	}
}

func TestParseModeOfOthers(t *testing.T) {
	for _, s := range []string{"", " ", "+", "0", "3", "8", "none", "train", "boat", "bus+rail", "bus+", "+bus", "busbus", "bustram", "BUS", "Bus", "bUs", "RAIL", "Funicular", "bus ", " bus", "bus\n", "bus\x00", "\xff", "bu\u0455", "\u0184us", "ＢＵＳ", "büs", strings.Repeat("bus", 1000000)} {
		checkParseMode(t, s, 0, false)
	}
	for _, name := range modeNames {
		for i := range name {
			checkParseMode(t, name[:i], 0, false)
			if i > 0 {
				checkParseMode(t, name[i:], 0, false)
			}
		}
		checkParseMode(t, name+name, 0, false)
		checkParseMode(t, name+"s", 0, false)
		checkParseMode(t, strings.ToUpper(name), 0, false)
		checkParseMode(t, strings.ToUpper(name[:1])+name[1:], 0, false)
		// A name that is a copy, and not the same memory, is the name as well.
		checkParseMode(t, strings.Clone(name), slices.Index(modeNames, name), true)
	}
}

// All words of up to four small letters.
func TestParseModeOfAllShortWords(t *testing.T) {
	found := []string{}
	for _, letters := range lists([]byte("abcdefghijklmnopqrstuvwxyz"), 4) {
		if mode, ok := ParseMode(string(letters)); ok {
			found = append(found, string(letters))
		} else if mode != 0 {
			t.Errorf("ParseMode(%q) = %d, false", letters, mode)
		}
	}
	if !slices.Equal(found, []string{"bus", "rail", "tram"}) {
		t.Errorf("the short names of modes are %q", found)
	}
}

// P15.3 (Modes)

func TestModesOfRoutes(t *testing.T) {
	checkModes(t, nil, 0)
	checkModes(t, []api.Route{}, 0)
	checkModes(t, table(3)[:0], 0)
	checkModes(t, ofModes(3, 0, 3), 9)
	checkModes(t, ofModes(0, 1, 2, 3, 4, 5, 6, 7), 255)
	checkModes(t, ofModes(7, 6, 5, 4, 3, 2, 1), 254)
	for mode := range modeCount {
		checkModes(t, ofModes(mode), 1<<mode)
		checkModes(t, ofModes(mode, mode, mode), 1<<mode)
		checkModes(t, slices.Repeat(ofModes(mode), 1000), 1<<mode)
	}
}

func TestModesIgnoresOtherModes(t *testing.T) {
	for _, mode := range []int{-1, 8, 9, 15, 16, 31, 32, 62, 63, 64, 65, 128, 256, -8, 1 << 32, least, greatest} {
		checkModes(t, ofModes(mode), 0)
		checkModes(t, ofModes(mode, mode), 0)
		checkModes(t, ofModes(mode, 3), 8)
		checkModes(t, ofModes(3, mode), 8)
		checkModes(t, ofModes(0, mode, 7, mode), 129)
	}
	checkModes(t, ofModes(integers()...), 255)
	for _, mode := range integers() {
		if isMode(mode) {
			checkModes(t, ofModes(mode), 1<<mode)
		} else {
			checkModes(t, ofModes(mode), 0)
			checkModes(t, ofModes(mode, 7, -mode), wantedModes(ofModes(7, -mode)))
		}
	}
}

// Each set of modes is that of some routes, valid or not.
func TestModesOfEachSet(t *testing.T) {
	for modes := range mostModes + 1 {
		var list []int
		for mode := range modeCount {
			if bit(modes, mode) {
				list = append(list, mode)
			}
		}
		checkModes(t, ofModes(list...), bitset.Set(modes))
		slices.Reverse(list)
		l := append(ofModes(list...), ofModes(list...)...)
		checkModes(t, l, bitset.Set(modes))
		for i := range l {
			l[i].ID = "?"
		}
		checkModes(t, l, bitset.Set(modes))
		checkModes(t, append(l, ofModes(-1, 8, 63, 64)...), bitset.Set(modes))
	}
}

// P15.3 (WithModes)

func TestWithModes(t *testing.T) {
	l := ofModes(3, 0, 3)
	checkWithModes(t, l, 8, 0, 2)
	checkWithModes(t, l, 1, 1)
	checkWithModes(t, l, 9, 0, 1, 2)
	checkWithModes(t, l, 0, 0, 1, 2)
	checkWithModes(t, l, 255, 0, 1, 2)
	checkWithModes(t, l, 2)
	checkWithModes(t, l, 255-9)
	for _, modes := range integers() {
		checkWithModes(t, nil, modes)
		checkWithModes(t, []api.Route{}, modes)
		checkWithModes(t, table(3)[:0], modes)
	}
	every := ofModes(0, 1, 2, 3, 4, 5, 6, 7)
	for mode := range modeCount {
		checkWithModes(t, every, 1<<mode, mode)
		checkWithModes(t, every, 255-1<<mode, slices.Delete(between(0, 8), mode, mode+1)...)
	}
}

// Without a set, routes of all modes are chosen, but never one whose Mode is not one.
func TestWithModes0(t *testing.T) {
	checkWithModes(t, ofModes(3, 0, 3, 8, -1), 0, 0, 1, 2)
	checkWithModes(t, ofModes(8, -1, 63, 64, least, greatest), 0)
	checkWithModes(t, ofModes(-1, 0, 7, 8), 0, 1, 2)
	for _, mode := range integers() {
		if isMode(mode) {
			checkWithModes(t, ofModes(mode, 2), 0, 0, 1)
		} else {
			checkWithModes(t, ofModes(mode, 2), 0, 1)
		}
	}
	checkWithModes(t, table(1000), 0, between(0, 1000)...)
}

// Bits beyond the lowest eight choose nothing, and do not stand in the way of those that do.
func TestWithModesOfOtherBits(t *testing.T) {
	l := ofModes(0, 1, 2, 3, 4, 5, 6, 7, 8, 9, 16, 31, 32, 62, 63, 64, -1, least, greatest, 256, 264)
	for _, modes := range []int{256, 512, 768, 1 << 16, 1 << 31, 1 << 32, 1 << 62, -256, -512, least, greatest - 255, 1<<62 - 256} {
		checkWithModes(t, l, modes)
		checkWithModes(t, l, modes+1, 0)
		checkWithModes(t, l, modes+8, 3)
		checkWithModes(t, l, modes+128, 7)
		checkWithModes(t, l, modes+129, 0, 7)
		checkWithModes(t, l, modes+255, between(0, 8)...)
	}
	checkWithModes(t, l, -1, between(0, 8)...)
	checkWithModes(t, l, greatest, between(0, 8)...)
	checkWithModes(t, l, -2, between(1, 8)...)
	checkWithModes(t, l, -128, 7)
	checkWithModes(t, l, -255, 0)
	checkWithModes(t, l, least+4, 2)
	for shift := range 63 {
		if shift < modeCount {
			checkWithModes(t, l, 1<<shift, shift)
		} else {
			checkWithModes(t, l, 1<<shift)
		}
	}
}

func TestWithModesOfInvalidTables(t *testing.T) {
	checkWithModes(t, []api.Route{{Mode: 2}, {ID: "?", Mode: 2}, {ID: "A", Mode: 2}, {ID: "A", Mode: 2, Bicycles: true}, {ID: "A", Mode: 1}}, 4, 0, 1, 2, 3)
	long := make([]api.Route, 100000)
	for i := range long {
		long[i].Mode = i % 10
	}
	for modes := range 9 {
		want := wantedIndices(long, func(r api.Route) bool { return r.Mode < 8 && (modes == 0 || modes>>r.Mode%2 == 1) })
		checkWithModes(t, long, modes, want...)
	}
}

// All integers at the limits, with routes of all modes at the limits.
func TestWithModesOfAllIntegers(t *testing.T) {
	modes := integers()
	l := ofModes(append(modes, modes...)...)
	for _, set := range modes {
		checkWithModes(t, l, set, wantedWithModes(l, set)...)
	}
}

// P15.4 (FormatModes)

func TestFormatModes(t *testing.T) {
	checkFormatModes(t, 0, "none", api.OK)
	checkFormatModes(t, 1, "bus", api.OK)
	checkFormatModes(t, 2, "tram", api.OK)
	checkFormatModes(t, 3, "bus+tram", api.OK)
	checkFormatModes(t, 9, "bus+rail", api.OK)
	checkFormatModes(t, 116, "metro+ferry+coach+cable", api.OK)
	checkFormatModes(t, 128, "funicular", api.OK)
	checkFormatModes(t, 254, "tram+metro+rail+ferry+coach+cable+funicular", api.OK)
	checkFormatModes(t, 255, "bus+tram+metro+rail+ferry+coach+cable+funicular", api.OK)
	for modes := range mostModes + 1 {
		checkFormatModes(t, modes, wantedText(modes), api.OK)
	}
}

func TestFormatModesRange(t *testing.T) {
	for _, modes := range []int{-1, -2, -255, -256, 256, 257, 264, 511, 512, 1 << 16, 1 << 31, 1 << 32, 1<<32 + 9, 1 << 62, least, least + 9, greatest, greatest - 255} {
		checkFormatModes(t, modes, "", api.ErrRange)
	}
	for _, modes := range integers() {
		if modes < 0 || modes > mostModes {
			checkFormatModes(t, modes, "", api.ErrRange)
		} else {
			checkFormatModes(t, modes, wantedText(modes), api.OK)
		}
	}
}

// P15.4 (ParseModes)

func TestParseModes(t *testing.T) {
	checkParseModes(t, "none", 0, api.OK)
	checkParseModes(t, "bus", 1, api.OK)
	checkParseModes(t, "bus+rail", 9, api.OK)
	checkParseModes(t, "metro+ferry+coach+cable", 116, api.OK)
	checkParseModes(t, "funicular", 128, api.OK)
	checkParseModes(t, "bus+tram+metro+rail+ferry+coach+cable+funicular", 255, api.OK)
	for modes := range mostModes + 1 {
		checkParseModes(t, wantedText(modes), modes, api.OK)
		checkParseModes(t, strings.Clone(wantedText(modes)), modes, api.OK)
	}
}

func TestParseModesSyntax(t *testing.T) {
	for _, s := range []string{
		"rail+bus", "bus+bus", // examples
		"", " ", "+", "++", "+++", "+bus", "bus+", "+bus+", "bus++rail", "bus+rail+", "+bus+rail", "bus+rail++", "++bus",
		"train", "boat", "bus+train", "train+bus", "0", "1", "9", "255", "-1", "a", "\x00", "\xff",
		"Bus", "BUS", "bUS", "Bus+rail", "bus+Rail", "BUS+RAIL", "None", "NONE",
		"b", "bu", "us", "bus+rai", "bu+rail", "us+rail", "bus+ail", "bus+r", "non", "one", "nonee", "funicula", "bus+funicula",
		"tram+bus", "funicular+bus", "bus+rail+tram", "bus+tram+rail+metro", "rail+rail", "bus+rail+bus", "bus+rail+rail", "bus+bus+rail", "tram+rail+bus",
		"none+bus", "bus+none", "none+none", "none+", "+none", "bus+none+rail", "none+bus+rail", "nonebus", "busnone",
		"busrail", "bus rail", "bus,rail", "bus-rail", "bus;rail", "bus|rail", "bus/rail", "bus\trail", "bus\nrail", "bus\x00rail", "bus＋rail", "bus\xffrail",
		" bus", "bus ", "bus +rail", "bus+ rail", " bus+rail", "bus+rail ", "bus+rail\n", "\nbus", "none ", " none", "none\n", "bus\r\n", "\"bus\"", "bus+rail\x00",
		"bus+ferry+coach+cable+funicular+tram", "bus+tram+metro+rail+ferry+coach+cable+funicular+", "bus+tram+metro+rail+ferry+coach+cable+funicular+bus", "bus+tram+metro+rail+ferry+coach+cable+funicular+funicular", "bus+tram+metro+rail+ferry+coach+cable+cable", "funicular+cable+coach+ferry+rail+metro+tram+bus",
	} {
		checkParseModes(t, s, 0, api.ErrSyntax)
	}
}

// Texts that are very long end at the first error, or have the only one at their end.
func TestParseModesOfLongTexts(t *testing.T) {
	all := wantedText(mostModes)
	for _, n := range []int{2, 9, 64, 256, 257, 65536, 1000000} {
		for _, s := range []string{"+", "a", "bus", "bus+", "+bus", all, all + "+", "none", "none+", "\x00", "\xff"} {
			checkParseModes(t, strings.Repeat(s, n), 0, api.ErrSyntax)
		}
		checkParseModes(t, all+strings.Repeat("+", n), 0, api.ErrSyntax)
		checkParseModes(t, all+strings.Repeat("r", n), 0, api.ErrSyntax)
		checkParseModes(t, strings.Repeat(" ", n)+all, 0, api.ErrSyntax)
		checkParseModes(t, all+strings.Repeat("+bus", n), 0, api.ErrSyntax)
	}
}

// Two names: in this order they are a text exactly if the mode of the first one is less.
func TestParseModesOfTwoNames(t *testing.T) {
	for i, first := range modeNames {
		for j, second := range modeNames {
			if i < j {
				checkParseModes(t, first+"+"+second, 1<<i+1<<j, api.OK)
			} else {
				checkParseModes(t, first+"+"+second, 0, api.ErrSyntax)
			}
			checkParseModes(t, first+second, 0, api.ErrSyntax)
			checkParseModes(t, first+"++"+second, 0, api.ErrSyntax)
			checkParseModes(t, first+"+"+second+"+", 0, api.ErrSyntax)
			checkParseModes(t, "+"+first+"+"+second, 0, api.ErrSyntax)
			checkParseModes(t, first+"+none+"+second, 0, api.ErrSyntax)
		}
		checkParseModes(t, first, 1<<i, api.OK)
		checkParseModes(t, first+"+none", 0, api.ErrSyntax)
		checkParseModes(t, "none+"+first, 0, api.ErrSyntax)
	}
}

// All lists of up to four names, none and empty words among them, with plus signs between them.
func TestParseModesOfAllShortLists(t *testing.T) {
	texts := wantedTexts()
	for _, words := range lists(append([]string{"none", "", "Bus"}, modeNames...), 4) {
		checkTexts(t, texts, strings.Join(words, "+"))
	}
}

// All orders of the eight names, and of seven of them with one that is there twice.
func TestParseModesOfAllOrders(t *testing.T) {
	texts := wantedTexts()
	var orders func(rest, words []string)
	orders = func(rest, words []string) {
		if len(rest) == 0 {
			checkTexts(t, texts, strings.Join(words, "+"))
		}
		for i, name := range rest {
			orders(slices.Delete(slices.Clone(rest), i, i+1), append(words, name))
		}
	}
	orders(modeNames, nil)
	for i := range modeNames {
		for j := range modeNames {
			words := slices.Clone(modeNames)
			words[i] = words[j]
			checkTexts(t, texts, strings.Join(words, "+"))
			checkTexts(t, texts, strings.Join(slices.Insert(slices.Clone(modeNames), i, modeNames[j]), "+"))
		}
	}
}

// All strings of up to two bytes, and longer ones of a few bytes that names have.
func TestParseModesOfAllShortStrings(t *testing.T) {
	texts := wantedTexts()
	for a := range 256 {
		checkTexts(t, texts, string([]byte{byte(a)}))
		for b := range 256 {
			checkTexts(t, texts, string([]byte{byte(a), byte(b)}))
		}
	}
	for _, s := range lists([]byte("bus+n"), 7) {
		checkTexts(t, texts, string(s))
	}
	for _, s := range lists([]byte("rail+noe"), 5) {
		checkTexts(t, texts, string(s))
	}
}

// The texts of all sets with one byte that is missing, added, another one or exchanged with the next one.
func TestParseModesOfNeighbours(t *testing.T) {
	texts := wantedTexts()
	for modes := range mostModes + 1 {
		checkTexts(t, texts, neighbours(wantedText(modes))...)
	}
	for _, s := range []string{"bus", "none", "bus+rail", "tram+metro"} {
		for i := range len(s) {
			for b := range 256 {
				checkTexts(t, texts, s[:i]+string([]byte{byte(b)})+s[i:], s[:i]+string([]byte{byte(b)})+s[i+1:])
			}
		}
	}
}

// P15.5

func TestInverses(t *testing.T) {
	for modes := range mostModes + 1 {
		s, e := FormatModes(modes)
		if e != api.OK {
			t.Errorf("FormatModes(%d) = %q, %d", modes, s, e)
		}
		checkParseModes(t, s, modes, api.OK)
	}
	for mode := range modeCount {
		name, ok := ModeName(mode)
		if !ok {
			t.Errorf("ModeName(%d) = %q, false", mode, name)
		}
		checkParseMode(t, name, mode, true)
	}
}

// Texts of which ParseModes makes a set are its text, and texts of which ParseMode makes a mode are its name.
func TestInversesOfTexts(t *testing.T) {
	sets, modes := 0, 0
	for _, words := range lists(append([]string{"none", "", "bus+rail"}, modeNames...), 4) {
		s := strings.Join(words, "+")
		if set, e := ParseModes(s); e == api.OK {
			checkFormatModes(t, set, s, api.OK)
			sets++
		}
		if mode, ok := ParseMode(s); ok {
			checkModeName(t, mode, s, true)
			modes++
		}
	}
	if sets < 8+28+56+70 || modes != 8 {
		t.Errorf("only %d texts of sets and %d names", sets, modes)
	}
}

// For modes from 1 to 254, each route with a mode is in one of the two lists; the others are in none.
func TestComplements(t *testing.T) {
	all := []([]api.Route){nil, table(1), table(mostRoutes), ofModes(3, 0, 3), ofModes(integers()...), ofModes(-1, 0, 7, 8, least, greatest, 63, 64)}
	for seed := range 100 {
		all = append(all, scattered(seed, seed, 1+seed, 1+seed%7))
	}
	for _, l := range append(all, lists(kinds(), 3)...) {
		valid := wantedIndices(l, func(r api.Route) bool { return isMode(r.Mode) })
		for modes := 1; modes <= 254; modes++ {
			both := append(WithModes(l, modes), WithModes(l, 255-modes)...)
			slices.Sort(both)
			if !slices.Equal(both, valid) {
				t.Fatalf("WithModes(%s) with %d and %d have %v; want %v", text(l), modes, 255-modes, both, valid)
			}
		}
		// The complement of all modes is 0, with which nothing is excluded.
		checkWithModes(t, l, 0, valid...)
		checkWithModes(t, l, 255, valid...)
	}
}

// The set of a list and the lists of its modes belong together.
func TestModesAndWithModes(t *testing.T) {
	for _, l := range tables() {
		for mode := range modeCount {
			if some := len(WithModes(l, 1<<mode)) > 0; some != Modes(l).Has(mode) {
				t.Errorf("routes with the mode %d in %s: %v", mode, text(l), some)
			}
		}
		if s, e := FormatModes(int(Modes(l))); e != api.OK || s != wantedText(int(wantedModes(l))) {
			t.Errorf("FormatModes of the modes of %s = %q, %d", text(l), s, e)
		}
	}
}

// All functions, compared with the definitions.

func TestAgainstDefinitions(t *testing.T) {
	for _, l := range tables() {
		checkTable(t, l)
	}
	for seed := range 300 {
		for _, rare := range []int{2, 20, 200, 2000} {
			checkTable(t, scattered(seed, seed%(mostRoutes+2), 1+seed*seed, rare))
		}
	}
}

// Each set with lists of all modes at the limits.
func TestWithModesAgainstDefinition(t *testing.T) {
	for seed := range 60 {
		l := scattered(seed, seed, 10, 1+seed%5)
		for modes := -300; modes <= 600; modes++ {
			checkWithModes(t, l, modes, wantedWithModes(l, modes)...)
		}
		for _, modes := range integers() {
			checkWithModes(t, l, modes, wantedWithModes(l, modes)...)
		}
	}
}

// Every mode at the limits, and every identifier that is or is not one.
func TestRoutesAgainstDefinitions(t *testing.T) {
	for _, id := range []string{"", "A", "B", "a", "AA", "?", "B ", strings.Repeat("B", longest), strings.Repeat("B", longest+1)} {
		for _, mode := range integers() {
			for _, bicycles := range []bool{false, true} {
				r := api.Route{ID: id, Mode: mode, Bicycles: bicycles}
				checkTable(t, []api.Route{r})
				checkTable(t, []api.Route{{ID: "A"}, r, {ID: "C", Mode: 7}})
			}
		}
	}
}

// Texts without a pattern: words and signs in a row.
func TestTextsAgainstDefinitions(t *testing.T) {
	texts := wantedTexts()
	parts := append([]string{"+", "+", "+", "+", "none", "", " ", "B", "s", "\xff", "r"}, modeNames...)
	count := 0
	for seed := range 200000 {
		next := source(seed)
		s := ""
		for range next(10) {
			s += parts[next(len(parts))]
		}
		checkTexts(t, texts, s)
		if _, ok := texts[s]; ok {
			count++
		}
	}
	if count < 1000 {
		t.Errorf("only %d texts were those of sets", count)
	}
}

// Rules: arguments are neither changed nor retained, and results share no memory.

func TestArgumentsAreNotChanged(t *testing.T) {
	for _, original := range [][]api.Route{table(3), table(5), table(mostRoutes), table(mostRoutes + 1), {{ID: "c", Mode: 5}, {ID: "a", Mode: -1}, {ID: "c"}, {}}, scattered(1, 50, 10, 2)} {
		l := append(make([]api.Route, 0, 2*len(original)), original...)
		before := slices.Clone(l[:cap(l)])
		Check(l)
		Find(l, "c")
		Find(l, "x")
		Modes(l)
		for _, modes := range []int{0, 1, 9, 255, 256, -1} {
			WithModes(l, modes)
		}
		if !slices.Equal(l[:cap(l)], before) {
			t.Errorf("%s was changed to %s", text(before), text(l[:cap(l)]))
		}
	}
}

func TestResultsShareNoMemory(t *testing.T) {
	l := ofModes(3, 0, 3, 8, 3)
	before := slices.Clone(l)
	for _, modes := range []int{8, 0, 255, -1} {
		want := wantedWithModes(l, modes)
		first, second, other := WithModes(l, modes), WithModes(l, modes), WithModes(l, 1)
		// Whatever is behind the elements belongs to the result as well.
		for i := range first[:cap(first)] {
			first[:cap(first)][i] = -1
		}
		if !slices.Equal(second, want) || !slices.Equal(other, []int{1}) || !slices.Equal(l, before) {
			t.Errorf("results share memory: %v, %v, %v", second, other, l)
		}
		checkWithModes(t, l, modes, want...)
	}
	// A change of the table changes no result.
	result, set := WithModes(l, 8), Modes(l)
	l[2].Mode = 4
	if !slices.Equal(result, []int{0, 2, 4}) || set != 9 {
		t.Errorf("results changed with the table to %v and %d", result, set)
	}
	checkWithModes(t, l, 8, 0, 4)
	checkWithModes(t, l, 16, 2)
	checkModes(t, l, 25)
}

// The results of a call depend only on its arguments: no identifier and no mode is known from an earlier call.
func TestCallsDoNotAffectEachOther(t *testing.T) {
	l := table(mostRoutes)
	double := append(slices.Clone(l[:10]), l[3])
	for range 3 {
		checkCheck(t, l, 0, api.OK)
		checkCheck(t, double, 10, api.ErrDuplicate)
		checkCheck(t, double[3:], 7, api.ErrDuplicate)
		checkCheck(t, slices.Clone(l[:10]), 0, api.OK)
		checkCheck(t, table(mostRoutes+1), 0, api.ErrLimit)
		checkFind(t, l, l[3].ID, 3, true)
		checkParseModes(t, "rail+bus", 0, api.ErrSyntax)
		checkParseModes(t, "bus+rail", 9, api.OK)
		checkParseModes(t, "bus", 1, api.OK)
		checkParseModes(t, "bus+", 0, api.ErrSyntax)
		checkFormatModes(t, 256, "", api.ErrRange)
		checkFormatModes(t, 128, "funicular", api.OK)
		checkTable(t, l)
	}
	for _, l := range slices.Backward(tables()[:600]) {
		checkTable(t, l)
	}
}

// P1: every function terminates and does not panic.

func FuzzRoute(f *testing.F) {
	for i, ids := range []string{"", "A", "A,B", "A,A", "A,?,A", ",", "Line-1.a,Line-1,Line", "\xff,a", strings.Repeat("a", longest) + "," + strings.Repeat("a", longest+1), "a" + strings.Repeat(",b", mostRoutes)} {
		f.Add(ids, []byte{2, 0, 17, 3, 1, 200}, 15, wantedText(i*27))
		f.Add(ids, []byte{byte(i), 1, 2}, -1, "+bus"+ids)
		f.Add(ids, []byte{255, 7}, greatest, "rail+bus")
	}
	texts := wantedTexts()
	f.Fuzz(func(t *testing.T, ids string, data []byte, n int, s string) {
		var l []api.Route
		for i, id := range strings.Split(ids, ",") {
			r := api.Route{ID: id}
			if len(data) > 0 {
				b := int(data[i%len(data)])
				r.Mode, r.Bicycles = b%10, b&1 == 1
				if b == 255 {
					r.Mode = n
				}
			}
			l = append(l, r)
		}
		checkTable(t, l)
		checkTable(t, append(l, api.Route{ID: "last", Mode: n}))
		checkFinds(t, l, ids, s)
		checkTexts(t, texts, s, ids, s+"+"+ids)
		checkTexts(t, texts, neighbours(wantedText(n&mostModes))...)
		for _, modes := range []int{n, n & mostModes, -n} {
			checkWithModes(t, l, modes, wantedWithModes(l, modes)...)
			if modes < 0 || modes > mostModes {
				checkFormatModes(t, modes, "", api.ErrRange)
			} else {
				checkFormatModes(t, modes, wantedText(modes), api.OK)
			}
			if isMode(modes) {
				checkModeName(t, modes, modeNames[modes], true)
			} else {
				checkModeName(t, modes, "", false)
			}
		}
	})
}
