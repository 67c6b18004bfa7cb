package binenc

import (
	"bytes"
	"encoding/binary"
	"math"
	"math/big"
	"slices"
	"strconv"
	"strings"
	"testing"

	"transit/api"
)

// The chapter's definitions.

// wantedPutUint returns the encoding of n: its bits, written as a text, in groups of seven from the end.
func wantedPutUint(n uint64) []byte {
	digits := strconv.FormatUint(n, 2)
	digits = strings.Repeat("0", (7-len(digits)%7)%7) + digits
	var b []byte
	for ; digits != ""; digits = digits[:len(digits)-7] {
		group, _ := strconv.ParseUint(digits[len(digits)-7:], 2, 8)
		b = append(b, byte(group+128))
	}
	b[len(b)-1] -= 128
	return b
}

// wantedPutInt returns the encoding of n.
func wantedPutInt(n int) []byte {
	u := new(big.Int).Mul(big.NewInt(2), big.NewInt(int64(n)))
	if n < 0 {
		u.Neg(u).Sub(u, big.NewInt(1))
	}
	return wantedPutUint(u.Uint64())
}

// wantedPutBytes returns the encoding of s.
func wantedPutBytes(s []byte) []byte {
	return append(wantedPutUint(uint64(len(s))), s...)
}

// wantedPutInts returns the encoding of l.
func wantedPutInts(l []int) []byte {
	b := wantedPutUint(uint64(len(l)))
	for _, n := range l {
		b = append(b, wantedPutInt(n)...)
	}
	return b
}

// wantedUint returns the unsigned integer at index at of b and the index after it, or the error.
func wantedUint(b []byte, at int) (uint64, int, api.Errno) {
	if at < 0 || at > len(b) {
		return 0, 0, api.ErrRange
	}
	var sum uint64
	// The weight of the eleventh byte would not be a uint64, but the tenth one is the last.
	weight := uint64(1)
	for number, x := range b[at:] {
		if number+1 == 10 && x > 1 {
			return 0, 0, api.ErrSyntax
		}
		if x < 128 && x == 0 && number+1 != 1 {
			return 0, 0, api.ErrSyntax
		}
		sum += uint64(x%128) * weight
		weight *= 128
		if x < 128 {
			return sum, at + number + 1, api.OK
		}
	}
	return 0, 0, api.ErrTruncated
}

// wantedInt returns the integer at index at of b and the index after it, or the error.
func wantedInt(b []byte, at int) (int, int, api.Errno) {
	u, next, e := wantedUint(b, at)
	n := new(big.Int).SetUint64(u)
	if u%2 == 1 {
		n.Add(n, big.NewInt(1)).Neg(n)
	}
	return int(n.Quo(n, big.NewInt(2)).Int64()), next, e
}

// wantedBytes returns the byte string at index at of b and the index after it, or the error.
func wantedBytes(b []byte, at, most int) ([]byte, int, api.Errno) {
	n, next, e := wantedUint(b, at)
	switch {
	case e != api.OK:
		return nil, 0, e
	case isGreater(n, most):
		return nil, 0, api.ErrLimit
	case isGreater(n, len(b)-next):
		return nil, 0, api.ErrTruncated
	}
	return b[next : next+int(n)], next + int(n), api.OK
}

// wantedBool returns the bool at index at of b and the index after it, or the error.
func wantedBool(b []byte, at int) (bool, int, api.Errno) {
	switch {
	case at < 0 || at > len(b):
		return false, 0, api.ErrRange
	case at == len(b):
		return false, 0, api.ErrTruncated
	case b[at] > 1:
		return false, 0, api.ErrSyntax
	}
	return b[at] == 1, at + 1, api.OK
}

// wantedInts returns the list at index at of b and the index after it, or the error.
func wantedInts(b []byte, at, most int) ([]int, int, api.Errno) {
	n, next, e := wantedUint(b, at)
	if e != api.OK {
		return nil, 0, e
	}
	if isGreater(n, most) {
		return nil, 0, api.ErrLimit
	}
	var l []int
	for ; n > 0; n-- {
		var x int
		x, next, e = wantedInt(b, next)
		if e != api.OK {
			return nil, 0, e
		}
		l = append(l, x)
	}
	return l, next, api.OK
}

// isGreater reports whether n is greater than m.
func isGreater(n uint64, m int) bool {
	return new(big.Int).SetUint64(n).Cmp(big.NewInt(int64(m))) > 0
}

// Checks of the functions against the definitions.

// checkPutUint checks PutUint, also against the standard library, and that Uint inverts it.
func checkPutUint(t *testing.T, n uint64) {
	t.Helper()
	want := wantedPutUint(n)
	if got := PutUint(n); !bytes.Equal(got, want) || !bytes.Equal(got, binary.AppendUvarint(nil, n)) {
		t.Fatalf("PutUint(%d) = %v; want %v", n, got, want)
	}
	if got, next, e := Uint(want, 0); got != n || next != len(want) || e != api.OK {
		t.Fatalf("Uint(%v, 0) = %d, %d, %d; want %d", want, got, next, e, n)
	}
}

// checkPutInt checks PutInt, also against the standard library, and that Int inverts it.
func checkPutInt(t *testing.T, n int) {
	t.Helper()
	want := wantedPutInt(n)
	if got := PutInt(n); !bytes.Equal(got, want) || !bytes.Equal(got, binary.AppendVarint(nil, int64(n))) {
		t.Fatalf("PutInt(%d) = %v; want %v", n, got, want)
	}
	if got, next, e := Int(want, 0); got != n || next != len(want) || e != api.OK {
		t.Fatalf("Int(%v, 0) = %d, %d, %d; want %d", want, got, next, e, n)
	}
}

// checkPutBytes checks PutBytes, and that Bytes inverts it.
func checkPutBytes(t *testing.T, s []byte) {
	t.Helper()
	want := wantedPutBytes(s)
	if got := PutBytes(s); !bytes.Equal(got, want) {
		t.Fatalf("PutBytes(%v) = %v; want %v", s, got, want)
	}
	if got, next, e := Bytes(want, 0, len(s)); !bytes.Equal(got, s) || next != len(want) || e != api.OK {
		t.Fatalf("Bytes(%v, 0, %d) = %v, %d, %d; want %v", want, len(s), got, next, e, s)
	}
}

// checkPutInts checks PutInts, and that Ints inverts it.
func checkPutInts(t *testing.T, l []int) {
	t.Helper()
	want := wantedPutInts(l)
	if got := PutInts(l); !bytes.Equal(got, want) {
		t.Fatalf("PutInts(%v) = %v; want %v", l, got, want)
	}
	if got, next, e := Ints(want, 0, len(l)); !slices.Equal(got, l) || next != len(want) || e != api.OK {
		t.Fatalf("Ints(%v, 0, %d) = %v, %d, %d; want %v", want, len(l), got, next, e, l)
	}
}

// checkNumbers checks Uint, Int and Bool, and that encoding what they decode gives the bytes again (P11.8).
func checkNumbers(t *testing.T, b []byte, at int) {
	t.Helper()
	u, next, e := Uint(b, at)
	if want, after, err := wantedUint(b, at); u != want || next != after || e != err {
		t.Fatalf("Uint(%v, %d) = %d, %d, %d; want %d, %d, %d", b, at, u, next, e, want, after, err)
	}
	if e == api.OK && !bytes.Equal(PutUint(u), b[at:next]) {
		t.Fatalf("Uint(%v, %d) = %d, %d, whose encoding is %v", b, at, u, next, PutUint(u))
	}
	n, next, e := Int(b, at)
	if want, after, err := wantedInt(b, at); n != want || next != after || e != err {
		t.Fatalf("Int(%v, %d) = %d, %d, %d; want %d, %d, %d", b, at, n, next, e, want, after, err)
	}
	if e == api.OK && !bytes.Equal(PutInt(n), b[at:next]) {
		t.Fatalf("Int(%v, %d) = %d, %d, whose encoding is %v", b, at, n, next, PutInt(n))
	}
	v, next, e := Bool(b, at)
	if want, after, err := wantedBool(b, at); v != want || next != after || e != err {
		t.Fatalf("Bool(%v, %d) = %v, %d, %d; want %v, %d, %d", b, at, v, next, e, want, after, err)
	}
	if e == api.OK && !bytes.Equal(PutBool(v), b[at:next]) {
		t.Fatalf("Bool(%v, %d) = %v, %d, whose encoding is %v", b, at, v, next, PutBool(v))
	}
}

// checkBytes checks Bytes, and that encoding what it decodes gives the bytes again (P11.8).
func checkBytes(t *testing.T, b []byte, at, most int) {
	t.Helper()
	s, next, e := Bytes(b, at, most)
	if want, after, err := wantedBytes(b, at, most); !bytes.Equal(s, want) || next != after || e != err {
		t.Fatalf("Bytes(%v, %d, %d) = %v, %d, %d; want %v, %d, %d", b, at, most, s, next, e, want, after, err)
	}
	if e == api.OK && !bytes.Equal(PutBytes(s), b[at:next]) {
		t.Fatalf("Bytes(%v, %d, %d) = %v, %d, whose encoding is %v", b, at, most, s, next, PutBytes(s))
	}
}

// checkInts checks Ints, and that encoding what it decodes gives the bytes again (P11.8).
func checkInts(t *testing.T, b []byte, at, most int) {
	t.Helper()
	l, next, e := Ints(b, at, most)
	if want, after, err := wantedInts(b, at, most); !slices.Equal(l, want) || next != after || e != err {
		t.Fatalf("Ints(%v, %d, %d) = %v, %d, %d; want %v, %d, %d", b, at, most, l, next, e, want, after, err)
	}
	if e == api.OK && !bytes.Equal(PutInts(l), b[at:next]) {
		t.Fatalf("Ints(%v, %d, %d) = %v, %d, whose encoding is %v", b, at, most, l, next, PutInts(l))
	}
}

// checkLists checks Bytes and Ints.
func checkLists(t *testing.T, b []byte, at, most int) {
	t.Helper()
	checkBytes(t, b, at, most)
	checkInts(t, b, at, most)
}

// checkPlaces checks all functions that decode at each index of b and at some others, with several limits.
func checkPlaces(t *testing.T, b []byte) {
	t.Helper()
	places := []int{math.MinInt, math.MinInt + 1, -len(b) - 1, -2, -1, len(b) + 1, len(b) + 2, 2*len(b) + 1, math.MaxInt - 1, math.MaxInt}
	for at := range len(b) + 1 {
		places = append(places, at)
	}
	for _, at := range places {
		checkNumbers(t, b, at)
		for _, most := range limits(b, at) {
			checkLists(t, b, at, most)
		}
	}
}

// limits returns limits below, at and above the length that begins at index at of b, and the ends of the ints.
func limits(b []byte, at int) []int {
	n, _, _ := wantedUint(b, at)
	length := int(min(n, math.MaxInt-1))
	return []int{math.MinInt, -1, 0, length - 1, length, length + 1, math.MaxInt}
}

// Values.

// scattered returns numbers without a pattern, each with as many bits as its index tells.
func scattered(seed, n int) []uint64 {
	state := uint64(seed)
	var all []uint64
	for i := range n {
		state = state*6364136223846793005 + 1442695040888963407
		all = append(all, (state^state>>29)>>(i%64))
	}
	return all
}

// unsigned returns unsigned integers: small ones, the powers of 2, among them those of 128, with their neighbours, the greatest one, and others.
func unsigned() []uint64 {
	all := []uint64{math.MaxUint64, math.MaxUint64 - 1, math.MaxInt64, math.MaxInt64 - 1, math.MaxUint32, math.MaxInt32}
	for n := range uint64(300) {
		all = append(all, n)
	}
	for i := range 64 {
		power := uint64(1) << i
		all = append(all, power-2, power-1, power, power+1, 3*power/2, 5*power/3)
	}
	return append(all, scattered(1, 640)...)
}

// signed returns integers: those of unsigned, with both signs, and their halves.
func signed() []int {
	all := []int{math.MinInt, math.MinInt + 1, math.MaxInt, math.MaxInt - 1}
	for _, u := range unsigned() {
		n := int(u)
		all = append(all, n, -n, -n-1, n/2, -(n / 2), -(n/2)-1)
	}
	return all
}

// scatteredBytes returns n bytes without a pattern.
func scatteredBytes(seed, n int) []byte {
	b := make([]byte, n)
	for i, u := range scattered(seed, n) {
		b[i] = byte(u >> 8)
	}
	return b
}

// byteStrings returns byte strings of several lengths and kinds.
func byteStrings() [][]byte {
	all := [][]byte{nil, {}, {0}, {1}, {127}, {128}, {255}, {7, 8}, {0, 0}, {128, 0}, {255, 255, 255}, []byte("transit"), {2, 7, 8}}
	for n := range 40 {
		all = append(all, scatteredBytes(n, n))
	}
	for _, n := range []int{126, 127, 128, 129, 255, 256, 300, 1000, 16383, 16384, 16385} {
		all = append(all, scatteredBytes(n, n), make([]byte, n), bytes.Repeat([]byte{255}, n))
	}
	return all
}

// intLists returns lists of integers of several lengths and kinds.
func intLists() [][]int {
	all := [][]int{nil, {}, {0}, {-1}, {1}, {1, -1}, {-1, 1}, {0, 0, 0}, {63, 64, -64, -65}, {math.MaxInt}, {math.MinInt}, {math.MinInt, 0, math.MaxInt, -1}}
	ints := signed()
	for n := range 40 {
		all = append(all, ints[n*n:n*n+n])
	}
	for _, n := range []int{126, 127, 128, 129, 255, 256, 300} {
		all = append(all, make([]int, n), ints[:n], ints[len(ints)-n:])
	}
	return append(all, ints, make([]int, 16383), make([]int, 16384), make([]int, 16385))
}

// words returns all byte strings of up to length of these bytes.
func words(alphabet []byte, length int) [][]byte {
	all := [][]byte{nil}
	for from := 0; length > 0; length-- {
		to := len(all)
		for _, word := range all[from:to] {
			for _, x := range alphabet {
				all = append(all, append(bytes.Clone(word), x))
			}
		}
		from = to
	}
	return all
}

// P11.1 (PutUint, PutInt, PutBytes, PutBool, PutInts)

func TestPutUint(t *testing.T) {
	tests := []struct {
		n    uint64
		want []byte
	}{
		{0, []byte{0}},
		{1, []byte{1}},
		{2, []byte{2}},
		{127, []byte{127}},
		{128, []byte{128, 1}},
		{129, []byte{129, 1}},
		{255, []byte{255, 1}},
		{256, []byte{128, 2}},
		{300, []byte{172, 2}},
		{16383, []byte{255, 127}},
		{16384, []byte{128, 128, 1}},
		{16385, []byte{129, 128, 1}},
		{1<<21 - 1, []byte{255, 255, 127}},
		{1 << 21, []byte{128, 128, 128, 1}},
		{1 << 28, []byte{128, 128, 128, 128, 1}},
		{1 << 35, []byte{128, 128, 128, 128, 128, 1}},
		{1 << 42, []byte{128, 128, 128, 128, 128, 128, 1}},
		{1 << 49, []byte{128, 128, 128, 128, 128, 128, 128, 1}},
		{1<<56 - 1, []byte{255, 255, 255, 255, 255, 255, 255, 127}},
		{1 << 56, []byte{128, 128, 128, 128, 128, 128, 128, 128, 1}},
		{1<<63 - 1, []byte{255, 255, 255, 255, 255, 255, 255, 255, 127}},
		{1 << 63, []byte{128, 128, 128, 128, 128, 128, 128, 128, 128, 1}},
		{1<<63 + 1, []byte{129, 128, 128, 128, 128, 128, 128, 128, 128, 1}},
		{math.MaxUint64 - 1, []byte{254, 255, 255, 255, 255, 255, 255, 255, 255, 1}},
		{math.MaxUint64, []byte{255, 255, 255, 255, 255, 255, 255, 255, 255, 1}},
	}
	for _, c := range tests {
		if got := PutUint(c.n); !bytes.Equal(got, c.want) {
			t.Errorf("PutUint(%d) = %v; want %v", c.n, got, c.want)
		}
	}
}

func TestPutInt(t *testing.T) {
	tests := []struct {
		n    int
		want []byte
	}{
		{0, []byte{0}},
		{-1, []byte{1}},
		{1, []byte{2}},
		{-2, []byte{3}},
		{2, []byte{4}},
		{63, []byte{126}},
		{-64, []byte{127}},
		{64, []byte{128, 1}},
		{-65, []byte{129, 1}},
		{150, []byte{172, 2}},
		{8191, []byte{254, 127}},
		{-8192, []byte{255, 127}},
		{8192, []byte{128, 128, 1}},
		{math.MaxInt, []byte{254, 255, 255, 255, 255, 255, 255, 255, 255, 1}},
		{math.MaxInt - 1, []byte{252, 255, 255, 255, 255, 255, 255, 255, 255, 1}},
		{math.MinInt, []byte{255, 255, 255, 255, 255, 255, 255, 255, 255, 1}},
		{math.MinInt + 1, []byte{253, 255, 255, 255, 255, 255, 255, 255, 255, 1}},
		{1 << 62, []byte{128, 128, 128, 128, 128, 128, 128, 128, 128, 1}},
		{1<<62 - 1, []byte{254, 255, 255, 255, 255, 255, 255, 255, 127}},
		{-1 << 62, []byte{255, 255, 255, 255, 255, 255, 255, 255, 127}},
	}
	for _, c := range tests {
		if got := PutInt(c.n); !bytes.Equal(got, c.want) {
			t.Errorf("PutInt(%d) = %v; want %v", c.n, got, c.want)
		}
	}
}

func TestPutOfManyIntegers(t *testing.T) {
	for n := range 70000 {
		checkPutUint(t, uint64(n))
		checkPutInt(t, n)
		checkPutInt(t, -n-1)
	}
	for _, n := range unsigned() {
		checkPutUint(t, n)
	}
	for _, n := range signed() {
		checkPutInt(t, n)
	}
	for _, n := range scattered(2, 64000) {
		checkPutUint(t, n)
		checkPutInt(t, int(n))
		checkPutInt(t, -int(n))
	}
}

func TestPutBytes(t *testing.T) {
	tests := []struct{ s, want string }{
		{"", "\x00"},
		{"\x00", "\x01\x00"},
		{"\xFF", "\x01\xFF"},
		{"\x07\x08", "\x02\x07\x08"},
		{"abc", "\x03abc"},
		{strings.Repeat("x", 127), "\x7F" + strings.Repeat("x", 127)},
		{strings.Repeat("x", 128), "\x80\x01" + strings.Repeat("x", 128)},
		{strings.Repeat("x", 300), "\xAC\x02" + strings.Repeat("x", 300)},
		{strings.Repeat("x", 16383), "\xFF\x7F" + strings.Repeat("x", 16383)},
		{strings.Repeat("x", 16384), "\x80\x80\x01" + strings.Repeat("x", 16384)},
	}
	for _, c := range tests {
		if got := PutBytes([]byte(c.s)); string(got) != c.want {
			t.Errorf("PutBytes(%q) = %q; want %q", c.s, got, c.want)
		}
	}
	if got := PutBytes(nil); !bytes.Equal(got, []byte{0}) {
		t.Errorf("PutBytes(nil) = %v", got)
	}
	for _, s := range append(byteStrings(), scatteredBytes(3, 1<<21-1), scatteredBytes(4, 1<<21)) {
		checkPutBytes(t, s)
	}
}

func TestPutBool(t *testing.T) {
	if got := PutBool(false); !bytes.Equal(got, []byte{0}) {
		t.Errorf("PutBool(false) = %v", got)
	}
	if got := PutBool(true); !bytes.Equal(got, []byte{1}) {
		t.Errorf("PutBool(true) = %v", got)
	}
}

func TestPutInts(t *testing.T) {
	tests := []struct {
		l    []int
		want []byte
	}{
		{nil, []byte{0}},
		{[]int{}, []byte{0}},
		{[]int{0}, []byte{1, 0}},
		{[]int{1, -1}, []byte{2, 2, 1}},
		{[]int{-1, 1}, []byte{2, 1, 2}},
		{[]int{64, 0, -65}, []byte{3, 128, 1, 0, 129, 1}},
		{[]int{math.MinInt, 5}, []byte{2, 255, 255, 255, 255, 255, 255, 255, 255, 255, 1, 10}},
		{make([]int, 128), append([]byte{128, 1}, make([]byte, 128)...)},
	}
	for _, c := range tests {
		if got := PutInts(c.l); !bytes.Equal(got, c.want) {
			t.Errorf("PutInts(%v) = %v; want %v", c.l, got, c.want)
		}
	}
	for _, l := range intLists() {
		checkPutInts(t, l)
	}
}

// P11.2 (Uint)

func TestUint(t *testing.T) {
	const nine = "\xFF\xFF\xFF\xFF\xFF\xFF\xFF\xFF\xFF"
	const zeros = "\x80\x80\x80\x80\x80\x80\x80\x80\x80"
	tests := []struct {
		b    string
		at   int
		want uint64
		next int
		e    api.Errno
	}{
		{"\x00", 0, 0, 1, api.OK},
		{"\x7F", 0, 127, 1, api.OK},
		{"\xAC\x02", 0, 300, 2, api.OK},
		{"\xAC\x02", 1, 2, 2, api.OK},
		{"\xAC\x02\x80", 0, 300, 2, api.OK},
		{"\x00\x00", 0, 0, 1, api.OK},
		{"\x00\x00", 1, 0, 2, api.OK},
		{"\xFF\xFF\xAC\x02\xFF", 2, 300, 4, api.OK},
		{nine[1:] + "\x7F", 0, math.MaxInt64, 9, api.OK},
		{zeros[1:] + "\x01", 0, 1 << 56, 9, api.OK},
		{nine + "\x01", 0, math.MaxUint64, 10, api.OK},
		{zeros + "\x01", 0, 1 << 63, 10, api.OK},
		{zeros + "\x01\xFF", 0, 1 << 63, 10, api.OK},
		{zeros + "\x01", 1, 1 << 56, 10, api.OK},
		// No further byte.
		{"", 0, 0, 0, api.ErrTruncated},
		{"\x00", 1, 0, 0, api.ErrTruncated},
		{"\x80", 0, 0, 0, api.ErrTruncated},
		{"\xFF", 0, 0, 0, api.ErrTruncated},
		{"\xAC\x82", 0, 0, 0, api.ErrTruncated},
		{nine, 0, 0, 0, api.ErrTruncated},
		{zeros, 0, 0, 0, api.ErrTruncated},
		// The tenth byte is greater than 1.
		{nine + "\x02", 0, 0, 0, api.ErrSyntax},
		{zeros + "\x02", 0, 0, 0, api.ErrSyntax},
		{nine + "\x03", 0, 0, 0, api.ErrSyntax},
		{nine + "\x7F", 0, 0, 0, api.ErrSyntax},
		{nine + "\x80", 0, 0, 0, api.ErrSyntax},
		{nine + "\x81", 0, 0, 0, api.ErrSyntax},
		{nine + "\xFF", 0, 0, 0, api.ErrSyntax},
		{nine + "\x80\x01", 0, 0, 0, api.ErrSyntax},
		{nine + "\x81\x00", 0, 0, 0, api.ErrSyntax},
		{zeros + zeros, 0, 0, 0, api.ErrSyntax},
		{"\x00" + nine + "\x02", 1, 0, 0, api.ErrSyntax},
		// The last byte is 0, and not the first one.
		{"\x80\x00", 0, 0, 0, api.ErrSyntax},
		{"\xAC\x82\x00", 0, 0, 0, api.ErrSyntax},
		{"\x00\x80\x00", 1, 0, 0, api.ErrSyntax},
		{"\x80\x00\x01", 0, 0, 0, api.ErrSyntax},
		{zeros[1:] + "\x00", 0, 0, 0, api.ErrSyntax},
		{nine[1:] + "\x00", 0, 0, 0, api.ErrSyntax},
		{zeros + "\x00", 0, 0, 0, api.ErrSyntax},
		{nine + "\x00", 0, 0, 0, api.ErrSyntax},
		// No index of b.
		{"", 1, 0, 0, api.ErrRange},
		{"", -1, 0, 0, api.ErrRange},
		{"\x00", 2, 0, 0, api.ErrRange},
		{"\x00", -1, 0, 0, api.ErrRange},
		{"\x80\x00", 3, 0, 0, api.ErrRange},
		{"\xAC\x02", math.MaxInt, 0, 0, api.ErrRange},
		{"\xAC\x02", math.MinInt, 0, 0, api.ErrRange},
	}
	for _, c := range tests {
		if got, next, e := Uint([]byte(c.b), c.at); got != c.want || next != c.next || e != c.e {
			t.Errorf("Uint(%q, %d) = %d, %d, %d; want %d, %d, %d", c.b, c.at, got, next, e, c.want, c.next, c.e)
		}
	}
	if got, next, e := Uint(nil, 0); got != 0 || next != 0 || e != api.ErrTruncated {
		t.Errorf("Uint(nil, 0) = %d, %d, %d", got, next, e)
	}
}

func TestAllStringsOfTwoBytes(t *testing.T) {
	for x := range 256 {
		checkPlaces(t, []byte{byte(x)})
		for y := range 256 {
			b := []byte{byte(x), byte(y)}
			for at := range 3 {
				checkNumbers(t, b, at)
				checkLists(t, b, at, 1)
				checkLists(t, b, at, math.MaxInt)
			}
		}
	}
}

func TestShortStrings(t *testing.T) {
	for _, b := range words([]byte{0, 1, 2, 3, 127, 128, 129, 255}, 4) {
		checkPlaces(t, b)
	}
	for _, b := range words([]byte{0, 1, 2, 128}, 6) {
		checkPlaces(t, b)
	}
}

func TestLongEncodings(t *testing.T) {
	for n := 7; n <= 12; n++ {
		for _, x := range []byte{128, 129, 170, 255} {
			head := bytes.Repeat([]byte{x}, n)
			for y := range 256 {
				checkPlaces(t, append(bytes.Clone(head), byte(y)))
				for _, z := range []byte{0, 1, 2, 128} {
					b := append(bytes.Clone(head), byte(y), z)
					for at := range b {
						checkNumbers(t, b, at)
					}
				}
			}
		}
	}
}

// P11.3 (Int)

func TestInt(t *testing.T) {
	const nine = "\xFF\xFF\xFF\xFF\xFF\xFF\xFF\xFF\xFF"
	tests := []struct {
		b    string
		at   int
		want int
		next int
		e    api.Errno
	}{
		{"\x00", 0, 0, 1, api.OK},
		{"\x01", 0, -1, 1, api.OK},
		{"\x02", 0, 1, 1, api.OK},
		{"\x03", 0, -2, 1, api.OK},
		{"\x7E", 0, 63, 1, api.OK},
		{"\x7F", 0, -64, 1, api.OK},
		{"\x80\x01", 0, 64, 2, api.OK},
		{"\x81\x01", 0, -65, 2, api.OK},
		{"\xFF\xFF\x81\x01\xFF", 2, -65, 4, api.OK},
		{nine + "\x01", 0, math.MinInt, 10, api.OK},
		{"\xFE" + nine[1:] + "\x01", 0, math.MaxInt, 10, api.OK},
		{nine[1:] + "\x7F", 0, -1 << 62, 9, api.OK},
		{"\xFE" + nine[2:] + "\x7F", 0, 1<<62 - 1, 9, api.OK},
		{"\x80\x80\x80\x80\x80\x80\x80\x80\x80\x01", 0, 1 << 62, 10, api.OK},
		{"", 0, 0, 0, api.ErrTruncated},
		{"\x02", 1, 0, 0, api.ErrTruncated},
		{"\x81", 0, 0, 0, api.ErrTruncated},
		{nine, 0, 0, 0, api.ErrTruncated},
		{"\x81\x00", 0, 0, 0, api.ErrSyntax},
		{nine + "\x00", 0, 0, 0, api.ErrSyntax},
		{nine + "\x02", 0, 0, 0, api.ErrSyntax},
		{nine + "\xFF\x01", 0, 0, 0, api.ErrSyntax},
		{"", 1, 0, 0, api.ErrRange},
		{"\x01", 2, 0, 0, api.ErrRange},
		{"\x01", -1, 0, 0, api.ErrRange},
		{"\x01", math.MaxInt, 0, 0, api.ErrRange},
		{"\x01", math.MinInt, 0, 0, api.ErrRange},
	}
	for _, c := range tests {
		if got, next, e := Int([]byte(c.b), c.at); got != c.want || next != c.next || e != c.e {
			t.Errorf("Int(%q, %d) = %d, %d, %d; want %d, %d, %d", c.b, c.at, got, next, e, c.want, c.next, c.e)
		}
	}
}

// P11.4 (Bytes)

func TestBytes(t *testing.T) {
	tests := []struct {
		b        string
		at, most int
		want     string
		next     int
		e        api.Errno
	}{
		{"\x00", 0, 0, "", 1, api.OK},
		{"\x00", 0, math.MaxInt, "", 1, api.OK},
		{"\x02\x07\x08", 0, 2, "\x07\x08", 3, api.OK},
		{"\x02\x07\x08", 0, 3, "\x07\x08", 3, api.OK},
		{"\x02\x07\x08", 0, math.MaxInt, "\x07\x08", 3, api.OK},
		{"\x02\x07\x08\x09", 0, 2, "\x07\x08", 3, api.OK},
		{"\xFF\xFF\x02\x07\x08\x09", 2, 2, "\x07\x08", 5, api.OK},
		{"\x02\x00\x08", 1, 0, "", 2, api.OK},
		// The error of Uint comes first.
		{"", 0, 0, "", 0, api.ErrTruncated},
		{"", 0, -1, "", 0, api.ErrTruncated},
		{"\x02", 1, 5, "", 0, api.ErrTruncated},
		{"\x82", 0, -1, "", 0, api.ErrTruncated},
		{"\x82\x00", 0, -1, "", 0, api.ErrSyntax},
		{"\x82\x00\x07\x08", 0, 2, "", 0, api.ErrSyntax},
		{"\x80\x80\x80\x80\x80\x80\x80\x80\x80\x02", 0, 0, "", 0, api.ErrSyntax},
		{"\x02\x07\x08", 4, 2, "", 0, api.ErrRange},
		{"\x02\x07\x08", -1, -1, "", 0, api.ErrRange},
		{"\x02\x07\x08", math.MaxInt, -1, "", 0, api.ErrRange},
		{"\x02\x07\x08", math.MinInt, 2, "", 0, api.ErrRange},
		// The length is greater than most, whether or not the bytes follow.
		{"\x02\x07\x08", 0, 1, "", 0, api.ErrLimit},
		{"\x02\x07\x08", 0, 0, "", 0, api.ErrLimit},
		{"\x02\x07\x08", 0, -1, "", 0, api.ErrLimit},
		{"\x02\x07\x08", 0, math.MinInt, "", 0, api.ErrLimit},
		{"\x02\x07", 0, 1, "", 0, api.ErrLimit},
		{"\x00", 0, -1, "", 0, api.ErrLimit},
		{"\x00", 0, math.MinInt, "", 0, api.ErrLimit},
		{"\x80\x80\x80\x80\x80\x80\x80\x80\x80\x01", 0, math.MaxInt, "", 0, api.ErrLimit},
		{"\xFF\xFF\xFF\xFF\xFF\xFF\xFF\xFF\xFF\x01", 0, math.MaxInt, "", 0, api.ErrLimit},
		{"\xFF\xFF\xFF\xFF\xFF\xFF\xFF\xFF\xFF\x01", 0, 0, "", 0, api.ErrLimit},
		{"\xFF\xFF\xFF\xFF\xFF\xFF\xFF\xFF\x7F", 0, math.MaxInt - 1, "", 0, api.ErrLimit},
		// Fewer bytes follow.
		{"\x02\x07", 0, 2, "", 0, api.ErrTruncated},
		{"\x02", 0, 2, "", 0, api.ErrTruncated},
		{"\x03\x07\x08", 0, math.MaxInt, "", 0, api.ErrTruncated},
		{"\x07\x02\x07", 1, 2, "", 0, api.ErrTruncated},
		{"\xFF\xFF\xFF\xFF\xFF\xFF\xFF\xFF\x7F", 0, math.MaxInt, "", 0, api.ErrTruncated},
		{"\xFF\xFF\xFF\xFF\xFF\xFF\xFF\xFF\x7F\x00\x00", 0, math.MaxInt, "", 0, api.ErrTruncated},
		{"\x80\x80\x80\x80\x10", 0, math.MaxInt, "", 0, api.ErrTruncated},
	}
	for _, c := range tests {
		if got, next, e := Bytes([]byte(c.b), c.at, c.most); string(got) != c.want || next != c.next || e != c.e {
			t.Errorf("Bytes(%q, %d, %d) = %q, %d, %d; want %q, %d, %d", c.b, c.at, c.most, got, next, e, c.want, c.next, c.e)
		}
	}
}

// greatLengths returns lengths that are greater than any slice of a test.
func greatLengths() []uint64 {
	all := []uint64{math.MaxUint64, math.MaxUint64 - 1, math.MaxInt, math.MaxInt - 1, math.MaxInt + 1}
	for i := 24; i < 64; i++ {
		all = append(all, 1<<i, 1<<i-1, 1<<i+1)
	}
	return all
}

func TestGreatLengths(t *testing.T) {
	for _, n := range greatLengths() {
		for _, rest := range [][]byte{nil, {0}, {1, 2, 3}, {4, 128, 0}, {5, 128}, make([]byte, 100), bytes.Repeat([]byte{128}, 9)} {
			b := append(wantedPutUint(n), rest...)
			checkPlaces(t, b)
			checkPlaces(t, append([]byte{255, 1}, b...))
		}
		b := wantedPutUint(n)
		want := api.ErrTruncated
		if n > math.MaxInt {
			want = api.ErrLimit
		}
		if s, next, e := Bytes(b, 0, math.MaxInt); len(s) != 0 || next != 0 || e != want {
			t.Errorf("Bytes(%v, 0, MaxInt) = %v, %d, %d; want %d", b, s, next, e, want)
		}
		if l, next, e := Ints(b, 0, math.MaxInt); len(l) != 0 || next != 0 || e != want {
			t.Errorf("Ints(%v, 0, MaxInt) = %v, %d, %d; want %d", b, l, next, e, want)
		}
	}
}

// P11.5 (Bool)

func TestBool(t *testing.T) {
	tests := []struct {
		b    []byte
		at   int
		want bool
		next int
		e    api.Errno
	}{
		{[]byte{0}, 0, false, 1, api.OK},
		{[]byte{1}, 0, true, 1, api.OK},
		{[]byte{1, 0, 1}, 0, true, 1, api.OK},
		{[]byte{1, 0, 1}, 1, false, 2, api.OK},
		{[]byte{1, 0, 1}, 2, true, 3, api.OK},
		{[]byte{9, 1, 9}, 1, true, 2, api.OK},
		{nil, 0, false, 0, api.ErrTruncated},
		{[]byte{}, 0, false, 0, api.ErrTruncated},
		{[]byte{1}, 1, false, 0, api.ErrTruncated},
		{[]byte{1, 1, 1}, 3, false, 0, api.ErrTruncated},
		{[]byte{2}, 0, false, 0, api.ErrSyntax},
		{[]byte{3}, 0, false, 0, api.ErrSyntax},
		{[]byte{128}, 0, false, 0, api.ErrSyntax},
		{[]byte{129}, 0, false, 0, api.ErrSyntax},
		{[]byte{255}, 0, false, 0, api.ErrSyntax},
		{[]byte{1, 2, 1}, 1, false, 0, api.ErrSyntax},
		{nil, 1, false, 0, api.ErrRange},
		{nil, -1, false, 0, api.ErrRange},
		{[]byte{1}, 2, false, 0, api.ErrRange},
		{[]byte{1}, -1, false, 0, api.ErrRange},
		{[]byte{1}, math.MaxInt, false, 0, api.ErrRange},
		{[]byte{1}, math.MinInt, false, 0, api.ErrRange},
	}
	for _, c := range tests {
		if got, next, e := Bool(c.b, c.at); got != c.want || next != c.next || e != c.e {
			t.Errorf("Bool(%v, %d) = %v, %d, %d; want %v, %d, %d", c.b, c.at, got, next, e, c.want, c.next, c.e)
		}
	}
	for x := 2; x < 256; x++ {
		if got, next, e := Bool([]byte{0, byte(x), 0}, 1); got || next != 0 || e != api.ErrSyntax {
			t.Errorf("Bool of the byte %d = %v, %d, %d", x, got, next, e)
		}
	}
}

// P11.6 (Ints)

func TestInts(t *testing.T) {
	tests := []struct {
		b        []byte
		at, most int
		want     []int
		next     int
		e        api.Errno
	}{
		{[]byte{0}, 0, 0, nil, 1, api.OK},
		{[]byte{0}, 0, math.MaxInt, nil, 1, api.OK},
		{[]byte{2, 2, 1}, 0, 2, []int{1, -1}, 3, api.OK},
		{[]byte{2, 2, 1}, 0, 5, []int{1, -1}, 3, api.OK},
		{[]byte{2, 2, 1}, 0, math.MaxInt, []int{1, -1}, 3, api.OK},
		{[]byte{2, 2, 1}, 1, 2, nil, 0, api.ErrTruncated},
		{[]byte{2, 2, 1}, 2, 1, nil, 0, api.ErrTruncated},
		{[]byte{255, 255, 3, 128, 1, 0, 129, 1, 255}, 2, 3, []int{64, 0, -65}, 8, api.OK},
		{[]byte{1, 255, 255, 255, 255, 255, 255, 255, 255, 255, 1}, 0, 1, []int{math.MinInt}, 11, api.OK},
		// The error of Uint comes first.
		{nil, 0, 0, nil, 0, api.ErrTruncated},
		{nil, 0, -1, nil, 0, api.ErrTruncated},
		{[]byte{130}, 0, -1, nil, 0, api.ErrTruncated},
		{[]byte{130, 0}, 0, -1, nil, 0, api.ErrSyntax},
		{[]byte{130, 0, 2, 1}, 0, 2, nil, 0, api.ErrSyntax},
		{[]byte{2, 2, 1}, 4, -1, nil, 0, api.ErrRange},
		{[]byte{2, 2, 1}, -1, 2, nil, 0, api.ErrRange},
		{[]byte{2, 2, 1}, math.MaxInt, 2, nil, 0, api.ErrRange},
		{[]byte{2, 2, 1}, math.MinInt, 2, nil, 0, api.ErrRange},
		// The length is greater than most, whatever follows.
		{[]byte{2, 2, 1}, 0, 1, nil, 0, api.ErrLimit},
		{[]byte{2, 2, 1}, 0, 0, nil, 0, api.ErrLimit},
		{[]byte{2, 2, 1}, 0, -1, nil, 0, api.ErrLimit},
		{[]byte{2, 2, 1}, 0, math.MinInt, nil, 0, api.ErrLimit},
		{[]byte{0}, 0, -1, nil, 0, api.ErrLimit},
		{[]byte{2}, 0, 1, nil, 0, api.ErrLimit},
		{[]byte{2, 128, 0}, 0, 1, nil, 0, api.ErrLimit},
		{[]byte{255, 255, 255, 255, 255, 255, 255, 255, 255, 1, 128, 0}, 0, math.MaxInt, nil, 0, api.ErrLimit},
		// The first element that cannot be decoded.
		{[]byte{2, 2}, 0, 2, nil, 0, api.ErrTruncated},
		{[]byte{2, 2, 128}, 0, 2, nil, 0, api.ErrTruncated},
		{[]byte{2, 2, 128, 0}, 0, 2, nil, 0, api.ErrSyntax},
		{[]byte{2, 128, 0}, 0, 2, nil, 0, api.ErrSyntax},
		{[]byte{2, 128, 0, 128}, 0, 2, nil, 0, api.ErrSyntax},
		{[]byte{100, 2, 128, 0}, 0, 100, nil, 0, api.ErrSyntax},
		{[]byte{100, 2, 2, 2}, 0, 100, nil, 0, api.ErrTruncated},
		{[]byte{1, 255, 255, 255, 255, 255, 255, 255, 255, 255, 2}, 0, 1, nil, 0, api.ErrSyntax},
		{[]byte{1, 255, 255, 255, 255, 255, 255, 255, 255, 255}, 0, 1, nil, 0, api.ErrTruncated},
		{[]byte{255, 255, 255, 255, 255, 255, 255, 255, 127, 2, 128, 0}, 0, math.MaxInt, nil, 0, api.ErrSyntax},
		{[]byte{255, 255, 255, 255, 255, 255, 255, 255, 127, 2, 2, 128}, 0, math.MaxInt, nil, 0, api.ErrTruncated},
		{[]byte{0, 128, 0}, 0, 5, nil, 1, api.OK},
	}
	for _, c := range tests {
		if got, next, e := Ints(c.b, c.at, c.most); !slices.Equal(got, c.want) || next != c.next || e != c.e {
			t.Errorf("Ints(%v, %d, %d) = %v, %d, %d; want %v, %d, %d", c.b, c.at, c.most, got, next, e, c.want, c.next, c.e)
		}
	}
}

func TestFirstWrongElement(t *testing.T) {
	wrong := [][]byte{{128, 0}, {255, 255, 255, 255, 255, 255, 255, 255, 255, 2}, {128}, {}}
	for n := 1; n <= 20; n++ {
		for i := range n {
			for _, element := range wrong {
				for _, other := range wrong {
					b := wantedPutUint(uint64(n))
					for j := range i {
						b = append(b, wantedPutInt(j*j*j-50)...)
					}
					b = append(append(b, element...), other...)
					checkInts(t, b, 0, n)
					checkInts(t, b, 0, n-1)
					checkInts(t, append([]byte{1, 2, 3}, b...), 3, math.MaxInt)
				}
			}
		}
	}
}

func TestLengthsOfLists(t *testing.T) {
	for _, n := range []int{0, 1, 2, 126, 127, 128, 129, 300, 16383, 16384, 16385} {
		for _, b := range [][]byte{wantedPutBytes(scatteredBytes(5, n)), wantedPutInts(signed()[:min(n, 3000)]), wantedPutInts(make([]int, n))} {
			for _, most := range limits(b, 0) {
				checkLists(t, b, 0, most)
				checkLists(t, b[:len(b)-1], 0, most)
				checkLists(t, append(bytes.Clone(b), 0), 0, most)
				checkLists(t, append([]byte{128, 2}, b...), 2, most)
			}
		}
	}
}

func TestScatteredStrings(t *testing.T) {
	for seed := range 400 {
		b := scatteredBytes(seed, seed%50)
		checkPlaces(t, b)
		for i := range b {
			b[i] %= 4
		}
		checkPlaces(t, b)
		for i := range b {
			b[i] |= 128 * byte(seed>>(i%8)&1)
		}
		checkPlaces(t, b)
	}
}

// P11.7 (round trips)

// value is a value with its encoding.
type value struct {
	encoding []byte
	// decode decodes the value at index at of b; it reports whether the result is the value, and returns the index after it and the error.
	decode func(b []byte, at int) (bool, int, api.Errno)
}

func uintValue(n uint64) value {
	return value{PutUint(n), func(b []byte, at int) (bool, int, api.Errno) {
		got, next, e := Uint(b, at)
		return got == n, next, e
	}}
}

func intValue(n int) value {
	return value{PutInt(n), func(b []byte, at int) (bool, int, api.Errno) {
		got, next, e := Int(b, at)
		return got == n, next, e
	}}
}

func boolValue(v bool) value {
	return value{PutBool(v), func(b []byte, at int) (bool, int, api.Errno) {
		got, next, e := Bool(b, at)
		return got == v, next, e
	}}
}

func bytesValue(s []byte, most int) value {
	return value{PutBytes(s), func(b []byte, at int) (bool, int, api.Errno) {
		got, next, e := Bytes(b, at, most)
		return bytes.Equal(got, s), next, e
	}}
}

func intsValue(l []int, most int) value {
	return value{PutInts(l), func(b []byte, at int) (bool, int, api.Errno) {
		got, next, e := Ints(b, at, most)
		return slices.Equal(got, l), next, e
	}}
}

// values returns values of all kinds but bools.
func values() []value {
	var all []value
	for _, n := range unsigned() {
		all = append(all, uintValue(n))
	}
	for _, n := range signed() {
		all = append(all, intValue(n))
	}
	for _, s := range byteStrings() {
		all = append(all, bytesValue(s, len(s)), bytesValue(s, len(s)+1), bytesValue(s, math.MaxInt))
	}
	for _, l := range intLists() {
		all = append(all, intsValue(l, len(l)), intsValue(l, len(l)+1), intsValue(l, math.MaxInt))
	}
	return all
}

// checkSequence checks that these values are decoded in order when they are encoded one after the other, and then no byte is left.
func checkSequence(t *testing.T, l []value) {
	t.Helper()
	var b []byte
	for _, v := range l {
		b = append(b, v.encoding...)
	}
	at := 0
	for i, v := range l {
		same, next, e := v.decode(b, at)
		if !same || next != at+len(v.encoding) || e != api.OK {
			t.Fatalf("value %d of %d at index %d of %v: %v, %d, %d", i, len(l), at, b, same, next, e)
		}
		at = next
	}
	if at != len(b) {
		t.Fatalf("%d bytes of %v are left", len(b)-at, b)
	}
}

func TestRoundTrips(t *testing.T) {
	checkSequence(t, nil)
	all := append(values(), boolValue(false), boolValue(true))
	checkSequence(t, all)
	slices.Reverse(all)
	checkSequence(t, all)
	for _, v := range all {
		checkSequence(t, []value{v})
		checkSequence(t, []value{v, boolValue(true), v, v})
		checkSequence(t, []value{uintValue(300), v, intValue(-2)})
	}
	for seed, u := range scattered(6, 3000) {
		var l []value
		for _, n := range scattered(seed, int(u%8)) {
			l = append(l, all[n%uint64(len(all))], boolValue(n%3 == 0))
		}
		checkSequence(t, l)
	}
}

func TestPairsOfValues(t *testing.T) {
	var few []value
	for i, v := range values() {
		if i%40 == 0 && len(v.encoding) < 1000 {
			few = append(few, v)
		}
	}
	few = append(few, boolValue(false), boolValue(true), bytesValue(nil, 0), intsValue(nil, 0), uintValue(0), intValue(0))
	for _, v := range few {
		for _, w := range few {
			checkSequence(t, []value{v, w})
		}
	}
}

// P11.8 (uniqueness); checkNumbers and checkLists check it for all bytes that are decoded.

func TestUniqueness(t *testing.T) {
	uints, ints := map[uint64]string{}, map[int]string{}
	lists, texts := map[string]string{}, map[string]string{}
	for _, b := range words([]byte{0, 1, 2, 126, 127, 128, 129, 255}, 5) {
		if n, next, e := Uint(b, 0); e == api.OK {
			checkOnce(t, uints, n, b[:next])
		}
		if n, next, e := Int(b, 0); e == api.OK {
			checkOnce(t, ints, n, b[:next])
		}
		if s, next, e := Bytes(b, 0, len(b)); e == api.OK {
			checkOnce(t, texts, string(s), b[:next])
		}
		if l, next, e := Ints(b, 0, len(b)); e == api.OK {
			var text strings.Builder
			for _, n := range l {
				text.WriteString(strconv.Itoa(n) + ",")
			}
			checkOnce(t, lists, text.String(), b[:next])
		}
	}
}

// checkOnce checks that no value is decoded from two different byte strings.
func checkOnce[K comparable](t *testing.T, seen map[K]string, key K, b []byte) {
	t.Helper()
	if other, ok := seen[key]; ok && other != string(b) {
		t.Fatalf("%v and %v are decoded as %v", []byte(other), b, key)
	}
	seen[key] = string(b)
}

// P11.9 (prefixes)

func TestPrefixes(t *testing.T) {
	for _, v := range values() {
		n := len(v.encoding)
		// Reading a part of a list takes time in proportion to its length: not all parts of long ones are read.
		step := 1
		if n > 2000 {
			step = n / 100
		}
		for i := 0; i < n; i += step {
			checkTruncated(t, v, i)
		}
		checkTruncated(t, v, n-1)
	}
}

// checkTruncated checks that the first n bytes of the encoding of a value, also behind others, give ErrTruncated.
func checkTruncated(t *testing.T, v value, n int) {
	t.Helper()
	part := bytes.Clone(v.encoding[:n])
	if _, next, e := v.decode(part, 0); next != 0 || e != api.ErrTruncated {
		t.Fatalf("the first %d bytes of %v: %d, %d", n, v.encoding, next, e)
	}
	behind := append([]byte{200, 0, 1}, part...)
	if _, next, e := v.decode(behind, 3); next != 0 || e != api.ErrTruncated {
		t.Fatalf("the first %d bytes of %v at index 3: %d, %d", n, v.encoding, next, e)
	}
	// What is behind the end of the slice in memory does not count.
	if _, next, e := v.decode(v.encoding[:n], 0); next != 0 || e != api.ErrTruncated {
		t.Fatalf("the first %d bytes of %v, cut from it: %d, %d", n, v.encoding, next, e)
	}
}

func TestPrefixesWithSmallLimits(t *testing.T) {
	for _, b := range [][]byte{PutBytes(make([]byte, 200)), PutInts(make([]int, 200))} {
		for i := range b {
			for _, most := range []int{-1, 0, 1, 199} {
				want := api.ErrLimit
				if i < 2 {
					want = api.ErrTruncated
				}
				if _, _, e := Bytes(b[:i], 0, most); e != want {
					t.Errorf("Bytes(%v, 0, %d): %d; want %d", b[:i], most, e, want)
				}
				if _, _, e := Ints(b[:i], 0, most); e != want {
					t.Errorf("Ints(%v, 0, %d): %d; want %d", b[:i], most, e, want)
				}
			}
		}
	}
}

// Rules: arguments are unchanged, and results are new memory.

// roomy returns l with memory behind it, and a function that reports whether all of it is unchanged.
func roomy[T byte | int](l []T) ([]T, func() bool) {
	all := slices.Concat(l, []T{1, 2, 3, 4, 5, 6, 7, 8, 9, 10, 11, 12, 13, 14, 15, 16})
	before := slices.Clone(all)
	return all[:len(l)], func() bool { return slices.Equal(all, before) }
}

// overwrite changes all elements of l, and those for which it has room.
func overwrite[T byte | int](l []T) {
	for i := range l[:cap(l)] {
		l[:cap(l)][i] ^= 0x55
	}
}

// results returns the byte strings that come from b, and the list of Ints.
func results(b []byte) ([][]byte, []int) {
	s, _, _ := Bytes(b, 0, math.MaxInt)
	u, _, _ := Uint(b, 0)
	n, _, _ := Int(b, 0)
	v, _, _ := Bool(b, 0)
	l, _, _ := Ints(b, 0, math.MaxInt)
	return [][]byte{s, PutBytes(b), PutUint(u), PutInt(n), PutBool(v), PutInts(l)}, l
}

// stringsToPass returns byte strings of which many are encodings.
func stringsToPass() [][]byte {
	all := byteStrings()
	for _, s := range byteStrings() {
		all = append(all, PutBytes(s), PutInts([]int{len(s), -len(s), 5}))
	}
	for _, l := range intLists() {
		all = append(all, PutInts(l))
	}
	return append(all, PutBool(true), PutBool(false), PutUint(300), PutInt(math.MinInt))
}

// checkResults checks that these are the results for b.
func checkResults(t *testing.T, b []byte, got [][]byte, list []int) {
	t.Helper()
	want, wantList := results(bytes.Clone(b))
	for i := range want {
		if !bytes.Equal(got[i], want[i]) {
			t.Fatalf("result %d of %v = %v; want %v", i, b, got[i], want[i])
		}
	}
	if !slices.Equal(list, wantList) {
		t.Fatalf("the list of %v = %v; want %v", b, list, wantList)
	}
}

func TestArgumentsAreUnchanged(t *testing.T) {
	for _, one := range stringsToPass() {
		b, same := roomy(one)
		got, list := results(b)
		if !same() {
			t.Fatalf("%v was changed", one)
		}
		checkResults(t, one, got, list)
		for _, r := range got {
			overwrite(r)
		}
		overwrite(list)
		if !same() {
			t.Fatalf("a result shares memory with %v", one)
		}
		again, list := results(b)
		checkResults(t, one, again, list)
	}
}

func TestResultsShareNoMemory(t *testing.T) {
	for _, b := range stringsToPass() {
		first, firstList := results(b)
		second, secondList := results(b)
		for i, r := range first {
			before := slices.Clone(first[i+1:])
			for j := range before {
				before[j] = bytes.Clone(before[j])
			}
			overwrite(r)
			for j, other := range first[i+1:] {
				if !bytes.Equal(other, before[j]) {
					t.Fatalf("results %d and %d of %v share memory", i, i+1+j, b)
				}
			}
		}
		overwrite(firstList)
		checkResults(t, b, second, secondList)
	}
}

func TestArgumentsAreNotKept(t *testing.T) {
	for _, one := range stringsToPass() {
		b := bytes.Clone(one)
		got, list := results(b)
		overwrite(b)
		checkResults(t, one, got, list)
	}
}

func TestListsAreUnchangedAndNotKept(t *testing.T) {
	for _, one := range intLists() {
		l, same := roomy(one)
		got, want := PutInts(l), wantedPutInts(one)
		if !same() {
			t.Fatalf("%v was changed", one)
		}
		overwrite(l)
		if !bytes.Equal(got, want) {
			t.Fatalf("PutInts(%v) = %v after the list was changed; want %v", one, got, want)
		}
		overwrite(got)
		if again := PutInts(one); !bytes.Equal(again, want) {
			t.Fatalf("PutInts(%v) = %v after a result was changed; want %v", one, again, want)
		}
	}
}

func TestResultsDependOnArgumentsOnly(t *testing.T) {
	all := stringsToPass()
	var before [][][]byte
	var lists [][]int
	for _, b := range all {
		got, list := results(b)
		before, lists = append(before, got), append(lists, list)
	}
	for i, b := range slices.Backward(all) {
		checkResults(t, b, before[i], lists[i])
	}
}

// P1: every function terminates and does not panic.

func FuzzBinenc(f *testing.F) {
	for i, b := range stringsToPass() {
		if len(b) < 1000 {
			u := scattered(i, 2)
			f.Add(b, i%7-1, int(u[0]%300)-2, u[1], -int(u[0]))
		}
	}
	f.Fuzz(func(t *testing.T, b []byte, at, most int, u uint64, n int) {
		checkNumbers(t, b, at)
		checkLists(t, b, at, most)
		checkPutUint(t, u)
		checkPutInt(t, n)
		checkPutBytes(t, b)
		var l []int
		for i := range len(b) / 4 {
			l = append(l, n>>(b[i]%64))
		}
		checkPutInts(t, l)
		checkSequence(t, []value{uintValue(u), bytesValue(b, len(b)), boolValue(most > 0), intsValue(l, math.MaxInt), intValue(n)})
		encoded := append(wantedPutUint(u), b...)
		for _, limit := range limits(encoded, 0) {
			checkLists(t, encoded, 0, limit)
		}
		for _, v := range []value{uintValue(u), intValue(n), bytesValue(b, len(b)), intsValue(l, math.MaxInt)} {
			checkTruncated(t, v, int(uint(at)%uint(len(v.encoding))))
		}
	})
}
