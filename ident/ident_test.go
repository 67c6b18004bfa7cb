package ident

import (
	"fmt"
	"math"
	"regexp"
	"slices"
	"strings"
	"testing"
	"unsafe"

	"transit/api"
)

// The limit as the document states it.
const longest = 32

// nameForm is the form of an identifier.
var nameForm = regexp.MustCompile(`\A[A-Za-z0-9_.-]{1,32}\z`)

// wantOrder returns what Compare must return, as the chapter defines the order.
func wantOrder(a, b string) int {
	for i := 0; i < len(a) && i < len(b); i++ {
		if a[i] < b[i] {
			return -1
		}
		if a[i] > b[i] {
			return 1
		}
	}
	switch {
	case len(a) < len(b):
		return -1
	case len(a) > len(b):
		return 1
	}
	return 0
}

// wantUnique returns what Unique must return.
func wantUnique(l []string) (int, api.Errno) {
	for i, s := range l {
		if !nameForm.MatchString(s) {
			return i, api.ErrName
		}
		for _, earlier := range l[:i] {
			if earlier == s {
				return i, api.ErrDuplicate
			}
		}
	}
	return 0, api.OK
}

// wantPrefix returns the indices of the strings of l that begin with p, in the order of the strings.
func wantPrefix(l []string, p string) []int {
	var list []int
	for i, s := range l {
		if len(s) < len(p) || s[:len(p)] != p {
			continue
		}
		place := 0
		for place < len(list) && wantOrder(l[list[place]], s) < 0 {
			place++
		}
		list = slices.Insert(list, place, i)
	}
	return list
}

// words returns all words of up to length letters of the alphabet, whose letters are bytes.
func words(alphabet string, length int) []string {
	list := []string{""}
	for from := 0; length > 0; length-- {
		to := len(list)
		for _, w := range list[from:to] {
			for i := range len(alphabet) {
				list = append(list, w+alphabet[i:i+1])
			}
		}
		from = to
	}
	return list
}

// allBytes returns the 256 bytes in ascending order.
func allBytes() string {
	var list []byte
	for b := range 256 {
		list = append(list, byte(b))
	}
	return string(list)
}

// lists returns all lists of up to length of the strings.
func lists(strs []string, length int) [][]string {
	all := [][]string{nil}
	for from := 0; length > 0; length-- {
		to := len(all)
		for _, l := range all[from:to] {
			for _, s := range strs {
				all = append(all, append(slices.Clone(l), s))
			}
		}
		from = to
	}
	return all
}

// scrambled returns n different identifiers in an order that is not theirs.
func scrambled(n int) []string {
	var l []string
	for i := range n {
		l = append(l, fmt.Sprintf("%x.%c", i*7919%n, 'A'+i%3))
	}
	return l
}

// tables returns lists of different identifiers.
func tables() [][]string {
	full := strings.Repeat("a", longest)
	all := [][]string{
		nil, {}, {"a"}, {full}, {"b", "a.2", "a"}, {"a", "a.2", "b"}, {"a", "b", "aa", "ab", "aaa"}, {"B", "a", "b", "A", "0", "9", "z", "Z", "-", "_", "."},
		{"a", "ab", "abc", "b"}, {"abc", "ab", "a"}, {"b", "abc", "ab", "a", "A"}, {"aB", "ab", "a-b", "a.b", "a_b", "a1", "aA", "az"}, {"10", "9", "1", "01", "0"},
		{full, full[1:], full[2:], full[1:] + "b", full[1:] + "A", "b" + full[1:]}, {full[1:], full}, {"-", "--", "_", "."}, {"Stop-1.a", "Stop-1", "Stop", "stop", "Stop-2", "Stop-10", "Stop_1", "Stop1", "Sto"},
		words("ab", 5)[1:], words("-0Aa._", 3)[1:], scrambled(1), scrambled(64), scrambled(1000),
	}
	for _, l := range lists([]string{"a", "b", "a.", "A", "aa", "a.2", "ab"}, 4) {
		if _, e := wantUnique(l); e == api.OK {
			all = append(all, l)
		}
	}
	return all
}

// prefixes returns prefixes of the strings of l and strings near them.
func prefixes(l []string) []string {
	all := append(words("abAB.-_0", 2), "x", "?", " ", "a ", "\x00", "a\x00", "\xff", "a\xff", "ä", "Stop", "Stop-1", "Stop-1.", "Stop-1.a", "Stop-1.ab", strings.Repeat("a", longest), strings.Repeat("a", longest+1), strings.Repeat("a", 1000), strings.Repeat("x", 100000))
	for _, s := range l[:min(len(l), 40)] {
		all = append(all, s, s+"a", s+"?", s+"\x00", s[1:], s[:len(s)-1], s[:len(s)/2], strings.ToUpper(s), strings.ToLower(s))
	}
	return all
}

func checkValid(t *testing.T, s string, want bool) {
	t.Helper()
	if got := Valid(s); got != want {
		t.Errorf("Valid(%.60q) of %d bytes = %v", s, len(s), got)
	}
}

func checkCompare(t *testing.T, a, b string, want int) {
	t.Helper()
	if got := Compare(a, b); got != want {
		t.Errorf("Compare(%.60q, %.60q) = %d; want %d", a, b, got, want)
	}
}

// checkUnique checks Unique, and that New returns the same.
func checkUnique(t *testing.T, l []string, index int, e api.Errno) {
	t.Helper()
	if i, got := Unique(l); i != index || got != e {
		t.Errorf("Unique(%.60q) = %d, %d; want %d, %d", l, i, got, index, e)
	}
	if x, i, got := New(l); i != index || got != e || (x == nil) != (e != api.OK) {
		t.Errorf("New(%.60q) = %v, %d, %d; want %d, %d", l, x, i, got, index, e)
	}
}

func checkFind(t *testing.T, x *Table, s string, index int, found bool) {
	t.Helper()
	if i, ok := x.Find(s); i != index || ok != found {
		t.Errorf("Find(%.60q) = %d, %v; want %d, %v", s, i, ok, index, found)
	}
}

func checkName(t *testing.T, x *Table, i int, name string, exists bool) {
	t.Helper()
	if s, ok := x.Name(i); s != name || ok != exists {
		t.Errorf("Name(%d) = %q, %v; want %q, %v", i, s, ok, name, exists)
	}
}

func checkPrefix(t *testing.T, x *Table, p string, want ...int) {
	t.Helper()
	if got := x.Prefix(p); !slices.Equal(got, want) {
		t.Errorf("Prefix(%.60q) = %v; want %v", p, got, want)
	}
}

func checkSorted(t *testing.T, x *Table, want ...int) {
	t.Helper()
	if got := x.Sorted(); !slices.Equal(got, want) {
		t.Errorf("Sorted() = %v; want %v", got, want)
	}
}

// checkTable checks all methods of the table of l, except for Sorted and Prefix.
func checkTable(t *testing.T, x *Table, l []string) {
	t.Helper()
	if x.Len() != len(l) {
		t.Errorf("Len() of %.60q = %d", l, x.Len())
	}
	for i, s := range l {
		checkFind(t, x, s, i, true)
		checkName(t, x, i, s, true)
	}
	for _, s := range prefixes(l) {
		if !slices.Contains(l, s) {
			checkFind(t, x, s, 0, false)
		}
	}
	for _, i := range []int{-1, -2, -len(l), -len(l) - 1, len(l), len(l) + 1, 2*len(l) + 1, math.MinInt, math.MaxInt, math.MinInt32, math.MaxInt32, 1 << 32, 1 << 62} {
		if i < 0 || i >= len(l) {
			checkName(t, x, i, "", false)
		}
	}
}

// newTable returns the table of l, which must be valid.
func newTable(t *testing.T, l ...string) *Table {
	t.Helper()
	x, i, e := New(l)
	if x == nil || i != 0 || e != api.OK {
		t.Fatalf("New(%.60q) = %v, %d, %d", l, x, i, e)
	}
	return x
}

// P5.1 (Valid)

func TestValid(t *testing.T) {
	full := strings.Repeat("a", longest)
	for _, s := range []string{"a", "z", "A", "Z", "0", "9", "-", "_", ".", "Stop-1.a", "a.2", "--", "..", "__", "-a", "a-", "_a", ".a", "a.", "007", "0", "-1", "1e5", "con", "nil", "A_b-C.d", "ABCDEFGHIJKLMNOPQRSTUVWXYZ", "abcdefghijklmnopqrstuvwxyz", "0123456789-_.", full, full[1:], strings.Repeat("-", longest), strings.Repeat(".9Z_", longest/4)} {
		checkValid(t, s, true)
	}
}

func TestValidInvalid(t *testing.T) {
	full := strings.Repeat("a", longest)
	for _, s := range []string{
		"", " ", "a b", " a", "a ", "a\n", "\na", "a\x00", "\x00", "a,b", "a/b", "a:b", "a@b", "a[b", "a`b", "a{b", "a+b", "a~b", "a\x7f", "a\\", `"a"`, "'a'", "?", "!", "#", "$", "%", "&", "(", ")", "*", ";", "<", "=", ">", "]", "^", "|", "}",
		"ä", "é", "Zürich", "ß", "東京", "\u017f", "\u212a", "\u0430", "\uff10", "\uff21", "\uff41", "\u0663", "\u2010", "\u2013", "\u00b7", "\uff0e", "\uff3f", "a\u0301", "\u00a0", "\x80", "\xff", "a\x80", "\xc1\x81", "\xe1", "a\xffb", "\x2d\x80",
		full + "a", full + ".", full + "\n", full + " ", full + "\xff", " " + full, full[1:] + " ", " " + full[1:], full[1:] + "ä", full + full, strings.Repeat("a", 1000), strings.Repeat("a", 65536), strings.Repeat("a", 65536+longest), strings.Repeat(" ", 1<<20), strings.Repeat("a", 256+1), strings.Repeat("a", 256),
	} {
		checkValid(t, s, false)
	}
}

// The bytes beside the ranges of letters and digits, and beside the three signs, are among all bytes.
func TestValidEachByte(t *testing.T) {
	valid := "ABCDEFGHIJKLMNOPQRSTUVWXYZabcdefghijklmnopqrstuvwxyz0123456789-_."
	for b := range 256 {
		one := string([]byte{byte(b)})
		isPart := strings.IndexByte(valid, byte(b)) >= 0
		checkValid(t, one, isPart)
		for _, length := range []int{2, 3, longest - 1, longest} {
			for i := range length {
				s := []byte(strings.Repeat("a", length))
				s[i] = byte(b)
				checkValid(t, string(s), isPart)
			}
		}
		checkValid(t, strings.Repeat(one, longest), isPart)
		checkValid(t, strings.Repeat(one, longest+1), false)
		checkValid(t, strings.Repeat("a", longest)+one, false)
	}
}

func TestValidAgainstForm(t *testing.T) {
	for _, s := range append(words(allBytes(), 2), words("aZ0-_. \n\x80\xc3\xa4", 5)...) {
		checkValid(t, s, nameForm.MatchString(s))
	}
}

func TestValidLength(t *testing.T) {
	for length := range 1000 {
		for _, part := range []string{"a", "0", ".", "Zb-_"} {
			checkValid(t, strings.Repeat(part, length)[:length], length >= 1 && length <= longest)
		}
	}
}

// P5.2 (Compare)

func TestCompare(t *testing.T) {
	// Strings in strictly increasing order.
	full := strings.Repeat("a", longest)
	order := []string{
		"", "\x00", "\x00\x00", "\x00\x01", "\x01", "\n", " ", "  ", "-", "-a", ".", "0", "00", "01", "1", "10", "2", "9", ":", "A", "AZ", "Aa", "B", "Z", "_", "a", "a\x00", "a ", "a-", "a-b", "a.2", "a1", "aB", "a_", "aa", "aaa", full, full + "a", full + "b", "aab", "ab", "abc", "ac", "a\x7f", "aä", "a\xff", "a\xff\x00", "b", "z", "~", "\x7f", "\x80", "\xbf", "ä", "ä\x00", "東", "\xff", "\xff\x00", "\xff\xff",
	}
	for i, a := range order {
		for j, b := range order {
			want := 0
			if i < j {
				want = -1
			} else if i > j {
				want = 1
			}
			checkCompare(t, a, b, want)
		}
	}
}

func TestCompareAgainstDefinition(t *testing.T) {
	bytes := words(allBytes(), 1)
	for _, a := range bytes {
		for _, b := range bytes {
			checkCompare(t, a, b, wantOrder(a, b))
			checkCompare(t, "a"+a, "a"+b, wantOrder(a, b))
			checkCompare(t, a+"a", b+"a", wantOrder(a+"a", b+"a"))
			checkCompare(t, a+"\x00", b, wantOrder(a+"\x00", b))
		}
	}
	short := words("aB\x00\x80", 4)
	for _, a := range short {
		for _, b := range short {
			checkCompare(t, a, b, wantOrder(a, b))
		}
	}
}

func TestCompareLong(t *testing.T) {
	long := strings.Repeat("ab", 100000)
	checkCompare(t, long, long, 0)
	checkCompare(t, long, strings.Clone(long), 0)
	checkCompare(t, long, long+"\x00", -1)
	checkCompare(t, long+"\x00", long, 1)
	checkCompare(t, long+"a", long+"b", -1)
	checkCompare(t, long+"\x80", long+"a", 1)
	checkCompare(t, "b", long, 1)
	checkCompare(t, "", long, -1)
}

// P5.3 (Unique)

func TestUnique(t *testing.T) {
	for _, l := range tables() {
		checkUnique(t, l, 0, api.OK)
	}
}

func TestUniqueInvalid(t *testing.T) {
	full := strings.Repeat("a", longest)
	for _, c := range []struct {
		l     []string
		index int
		e     api.Errno
	}{
		{[]string{""}, 0, api.ErrName}, {[]string{" "}, 0, api.ErrName}, {[]string{"?"}, 0, api.ErrName}, {[]string{"ä"}, 0, api.ErrName}, {[]string{full + "a"}, 0, api.ErrName}, {[]string{full, full + "a"}, 1, api.ErrName},
		{[]string{"a", ""}, 1, api.ErrName}, {[]string{"a", "b", "c d"}, 2, api.ErrName}, {[]string{"a", "b ", "c"}, 1, api.ErrName}, {[]string{"\xff", "a"}, 0, api.ErrName},
		{[]string{"a", "a"}, 1, api.ErrDuplicate}, {[]string{"a", "b", "a"}, 2, api.ErrDuplicate}, {[]string{"a", "b", "b"}, 2, api.ErrDuplicate}, {[]string{"b", "b", "a"}, 1, api.ErrDuplicate}, {[]string{full, "a", full}, 2, api.ErrDuplicate},
		{[]string{"a", "a", "a"}, 1, api.ErrDuplicate}, {[]string{"a", "b", "b", "a"}, 2, api.ErrDuplicate}, {[]string{"a", "b", "a", "b"}, 2, api.ErrDuplicate}, {[]string{"-", "_", ".", "-"}, 3, api.ErrDuplicate},
		// Both errors in one list, in either order.
		{[]string{"a", "?", "a"}, 1, api.ErrName}, {[]string{"a", "a", "?"}, 1, api.ErrDuplicate}, {[]string{"a", "b", "a", ""}, 2, api.ErrDuplicate}, {[]string{"a", "b", "", "a"}, 2, api.ErrName},
		// A string that is not an identifier has this error wherever it is.
		{[]string{"", ""}, 0, api.ErrName}, {[]string{"?", "?"}, 0, api.ErrName}, {[]string{"a", "?", "?"}, 1, api.ErrName}, {[]string{"?", "a", "a"}, 0, api.ErrName},
	} {
		checkUnique(t, c.l, c.index, c.e)
	}
}

// Identifiers that differ only in case, at their ends or in one byte are different.
func TestUniqueNear(t *testing.T) {
	full := strings.Repeat("a", longest)
	for _, l := range [][]string{{"a", "A"}, {"Stop", "stop", "STOP"}, {"a", "aa"}, {"aa", "a"}, {"1", "01", "001"}, {"a-b", "a_b", "a.b"}, {full, full[1:]}, {full, full[1:] + "b"}, {full, "b" + full[1:]}, {"ab", "ba"}} {
		checkUnique(t, l, 0, api.OK)
	}
}

func TestUniqueAgainstDefinition(t *testing.T) {
	for _, l := range lists([]string{"a", "b", "A", "", "?", "ab"}, 5) {
		index, e := wantUnique(l)
		checkUnique(t, l, index, e)
	}
}

func TestUniqueLong(t *testing.T) {
	l := scrambled(20000)
	checkUnique(t, l, 0, api.OK)
	checkUnique(t, append(slices.Clone(l), l[0]), 20000, api.ErrDuplicate)
	checkUnique(t, append(slices.Clone(l), l[19999]), 20000, api.ErrDuplicate)
	checkUnique(t, append(slices.Clone(l), "?", l[0]), 20000, api.ErrName)
	checkUnique(t, append(slices.Clone(l), l[7], "?"), 20000, api.ErrDuplicate)
	checkUnique(t, slices.Repeat([]string{"a"}, 1000000), 1, api.ErrDuplicate)
	checkUnique(t, []string{"a", strings.Repeat("b", 10000000)}, 1, api.ErrName)
}

// P5.4 (New, Find, Name, Len) and P5.7 (table)

func TestTable(t *testing.T) {
	for _, l := range tables() {
		checkTable(t, newTable(t, l...), l)
	}
}

func TestTableExample(t *testing.T) {
	x := newTable(t, "b", "a.2", "a")
	if x.Len() != 3 {
		t.Errorf("Len() = %d", x.Len())
	}
	checkFind(t, x, "b", 0, true)
	checkFind(t, x, "a.2", 1, true)
	checkFind(t, x, "a", 2, true)
	for _, s := range []string{"", "c", "a.", "a.22", "A", "B", "b ", " b", "b\x00", "?", "\xff", strings.Repeat("b", longest+1), strings.Repeat("b", 1000000)} {
		checkFind(t, x, s, 0, false)
	}
	checkName(t, x, 0, "b", true)
	checkName(t, x, 2, "a", true)
	checkName(t, x, -1, "", false)
	checkName(t, x, 3, "", false)
}

// The error and its index are those of Unique, and there is no table.
func TestNewInvalid(t *testing.T) {
	for _, c := range []struct {
		l     []string
		index int
		e     api.Errno
	}{{[]string{"a", "a"}, 1, api.ErrDuplicate}, {[]string{"a", ""}, 1, api.ErrName}, {[]string{""}, 0, api.ErrName}, {[]string{"a", "b", "?", "a"}, 2, api.ErrName}, {[]string{"a", "b", "a", "?"}, 2, api.ErrDuplicate}} {
		if x, i, e := New(c.l); x != nil || i != c.index || e != c.e {
			t.Errorf("New(%q) = %v, %d, %d; want nil, %d, %d", c.l, x, i, e, c.index, c.e)
		}
	}
}

func TestTableLong(t *testing.T) {
	l := scrambled(20000)
	x := newTable(t, l...)
	checkTable(t, x, l)
	list := x.Sorted()
	if len(list) != len(l) {
		t.Fatalf("Sorted() has %d indices", len(list))
	}
	for i := 1; i < len(list); i++ {
		if l[list[i-1]] >= l[list[i]] {
			t.Fatalf("%q is before %q", l[list[i-1]], l[list[i]])
		}
	}
}

func TestEmptyTable(t *testing.T) {
	for _, l := range [][]string{nil, {}, make([]string, 0, 5)} {
		x := newTable(t, l...)
		checkTable(t, x, nil)
		checkSorted(t, x)
		checkPrefix(t, x, "")
		checkPrefix(t, x, "a")
	}
}

func TestNilTable(t *testing.T) {
	var x *Table
	checkTable(t, x, nil)
	checkFind(t, x, "a", 0, false)
	checkFind(t, x, "", 0, false)
	checkName(t, x, 0, "", false)
	for _, list := range [][]int{x.Sorted(), x.Prefix(""), x.Prefix("a"), x.Prefix("?")} {
		if len(list) != 0 {
			t.Errorf("a nil table returned %v", list)
		}
	}
}

// A table does not change with the slice from which it was made.
func TestTableKeepsIdentifiers(t *testing.T) {
	original := []string{"b", "a.2", "a", "c"}
	l := append(make([]string, 0, 10), original...)
	x := newTable(t, l...)
	for _, change := range [][]string{{"a", "b", "c", "d"}, {"", "", "", ""}, {"x", "x", "x", "x"}} {
		copy(l, change)
		checkTable(t, x, original)
		checkSorted(t, x, 2, 1, 0, 3)
		checkPrefix(t, x, "a", 2, 1)
		checkFind(t, x, "x", 0, false)
		checkPrefix(t, x, "x")
	}
	l = append(l[:1], "z", "y")
	checkTable(t, x, original)
	checkSorted(t, x, 2, 1, 0, 3)
}

// Tables do not affect each other.
func TestManyTables(t *testing.T) {
	var made []*Table
	all := tables()
	for _, l := range all {
		made = append(made, newTable(t, l...))
	}
	for i, x := range made {
		checkTable(t, x, all[i])
	}
}

// P5.5 (Sorted, Prefix)

func TestSorted(t *testing.T) {
	for _, l := range tables() {
		checkSorted(t, newTable(t, l...), wantPrefix(l, "")...)
	}
}

func TestSortedExamples(t *testing.T) {
	checkSorted(t, newTable(t, "b", "a.2", "a"), 2, 1, 0)
	checkSorted(t, newTable(t, "a"), 0)
	checkSorted(t, newTable(t, "a", "b", "c"), 0, 1, 2)
	checkSorted(t, newTable(t, "c", "b", "a"), 2, 1, 0)
	checkSorted(t, newTable(t, "abc", "ab", "a"), 2, 1, 0)
	checkSorted(t, newTable(t, "a", "B", "_", "9", ".", "-"), 5, 4, 3, 1, 2, 0)
	checkSorted(t, newTable(t, "10", "9", "1"), 2, 0, 1)
}

func TestPrefix(t *testing.T) {
	for _, l := range tables() {
		x := newTable(t, l...)
		for _, p := range prefixes(l) {
			checkPrefix(t, x, p, wantPrefix(l, p)...)
		}
	}
}

func TestPrefixExamples(t *testing.T) {
	x := newTable(t, "b", "a.2", "a", "A", "a.10", "ab", "ba")
	checkPrefix(t, x, "", 3, 2, 4, 1, 5, 0, 6)
	checkPrefix(t, x, "a", 2, 4, 1, 5)
	checkPrefix(t, x, "a.", 4, 1)
	checkPrefix(t, x, "a.1", 4)
	checkPrefix(t, x, "a.2", 1)
	checkPrefix(t, x, "a.20")
	checkPrefix(t, x, "b", 0, 6)
	checkPrefix(t, x, "ba", 6)
	checkPrefix(t, x, "A", 3)
	checkPrefix(t, x, "B")
	for _, p := range []string{"x", ".", "2", " ", "?", "a ", "a\x00", "a\xff", "\xff", "ä", strings.Repeat("a", longest), strings.Repeat("a", longest+1), strings.Repeat("a", 1000000)} {
		checkPrefix(t, x, p)
	}
	full := strings.Repeat("a", longest)
	long := newTable(t, full, full[1:]+"b", full[1:])
	checkPrefix(t, long, full, 0)
	checkPrefix(t, long, full[1:], 2, 0, 1)
	checkPrefix(t, long, full+"a")
}

// P5.6 (total order)

func TestTotalOrder(t *testing.T) {
	list := append(words("ab\x00", 3), "\xff", "a\xff", "B", "aB", "ä", "-", "_", ".", "Stop-1", "Stop-1.a", strings.Repeat("a", longest), strings.Repeat("a", longest+1))
	for _, a := range list {
		for _, b := range list {
			n := Compare(a, b)
			if n != -Compare(b, a) || n < -1 || n > 1 || (n == 0) != (a == b) {
				t.Errorf("Compare(%q, %q) = %d, Compare(%q, %q) = %d", a, b, n, b, a, Compare(b, a))
			}
			for _, c := range list {
				if n <= 0 && Compare(b, c) <= 0 && Compare(a, c) > 0 {
					t.Errorf("%q, %q and %q are not in order", a, b, c)
				}
			}
		}
	}
}

// P5.7 (table)

func TestFindInvertsName(t *testing.T) {
	for _, l := range tables() {
		x := newTable(t, l...)
		for i := -2; i <= x.Len()+2; i++ {
			if s, ok := x.Name(i); ok {
				checkFind(t, x, s, i, true)
			} else if i >= 0 && i < x.Len() {
				t.Errorf("Name(%d) is false", i)
			}
		}
		for _, s := range prefixes(l) {
			if i, ok := x.Find(s); ok {
				checkName(t, x, i, s, true)
			}
		}
		list := x.Sorted()
		if len(list) != x.Len() {
			t.Errorf("Sorted() of %.60q has %d indices", l, len(list))
		}
		for i := 1; i < len(list); i++ {
			a, _ := x.Name(list[i-1])
			b, _ := x.Name(list[i])
			if Compare(a, b) != -1 {
				t.Errorf("%q is before %q", a, b)
			}
		}
	}
}

// P5.8 (sections)

// isSection reports whether part consists of consecutive elements of whole.
func isSection(part, whole []int) bool {
	for from := 0; from+len(part) <= len(whole); from++ {
		if slices.Equal(part, whole[from:from+len(part)]) {
			return true
		}
	}
	return false
}

func TestSections(t *testing.T) {
	for _, l := range tables() {
		x := newTable(t, l...)
		sorted := x.Sorted()
		if !slices.Equal(x.Prefix(""), sorted) {
			t.Errorf("Prefix of the empty string is %v; Sorted is %v", x.Prefix(""), sorted)
		}
		for _, p := range prefixes(l) {
			if len(p) > longest+1 {
				continue
			}
			longer := x.Prefix(p)
			if !isSection(longer, sorted) {
				t.Errorf("Prefix(%q) = %v is not a section of %v", p, longer, sorted)
			}
			for length := len(p) - 1; length >= 0; length-- {
				shorter := x.Prefix(p[:length])
				if !isSection(longer, shorter) {
					t.Errorf("Prefix(%q) = %v is not a section of Prefix(%q) = %v", p, longer, p[:length], shorter)
				}
				longer = shorter
			}
		}
	}
}

// Rules: arguments are neither changed nor retained, and results share no memory.

func TestArgumentsAreNotChanged(t *testing.T) {
	for _, original := range [][]string{{"c", "a", "b"}, {"c", "a", "c", "?"}, {"c", "?", "c", "a"}} {
		l := append(make([]string, 0, 10), original...)
		rest := slices.Clone(l[:10])
		Unique(l)
		if x, _, e := New(l); e == api.OK {
			x.Sorted()
			x.Prefix("a")
		}
		if !slices.Equal(l[:10], rest) {
			t.Errorf("%q was changed to %q", rest, l[:10])
		}
	}
}

func TestResultsShareNoMemory(t *testing.T) {
	x := newTable(t, "c", "a.", "b", "a")
	for name, f := range map[string]func() []int{"Sorted": x.Sorted, "Prefix": func() []int { return x.Prefix("") }, "Prefix of a": func() []int { return x.Prefix("a") }} {
		want := slices.Clone(f())
		first, second := f(), f()
		for i := range first {
			first[i] = -1
		}
		// Whatever is behind the elements belongs to the result as well.
		for i := range first[:cap(first)] {
			first[:cap(first)][i] = -1
		}
		if !slices.Equal(second, want) || !slices.Equal(f(), want) {
			t.Errorf("%s: results share memory", name)
		}
		checkSorted(t, x, 3, 1, 2, 0)
		checkTable(t, x, []string{"c", "a.", "b", "a"})
	}
}

// A table does not keep the text from which its identifiers were cut.
func TestTableDoesNotRetainText(t *testing.T) {
	text := strings.Repeat("abc,", 1000)
	part := text[:3]
	x := newTable(t, part)
	kept := slices.Clone(x.names)
	for name := range x.indices {
		kept = append(kept, name)
	}
	for _, name := range kept {
		if name != part || unsafe.StringData(name) == unsafe.StringData(part) {
			t.Errorf("the table keeps the text of %q", name)
		}
	}
}

// The results of a call depend only on its arguments.
func TestRepetition(t *testing.T) {
	l := words("aB.", 4)[1:]
	want := newTable(t, l...).Sorted()
	for range 20 {
		x := newTable(t, l...)
		checkSorted(t, x, want...)
		checkSorted(t, x, want...)
	}
}

// P1: every function terminates and does not panic.

func FuzzAll(f *testing.F) {
	for _, s := range []string{"", "a", "b,a.2,a", "a,b,a", "a,?,a", "Stop-1.a,Stop-1", "\xff,a", "a,,b", strings.Repeat("a", longest) + "," + strings.Repeat("a", longest+1)} {
		f.Add(s, "a", 0)
		f.Add(s, "", -1)
	}
	f.Fuzz(func(t *testing.T, text, p string, i int) {
		l := strings.Split(text, ",")
		for _, s := range l {
			checkValid(t, s, nameForm.MatchString(s))
			checkCompare(t, s, p, wantOrder(s, p))
		}
		index, e := wantUnique(l)
		checkUnique(t, l, index, e)
		x, _, _ := New(l)
		if x == nil {
			l = nil
		}
		checkTable(t, x, l)
		checkSorted(t, x, wantPrefix(l, "")...)
		checkPrefix(t, x, p, wantPrefix(l, p)...)
		if i < 0 || i >= len(l) {
			checkName(t, x, i, "", false)
		} else {
			checkName(t, x, i, l[i], true)
		}
	})
}
