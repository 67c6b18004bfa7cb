package number

import (
	"fmt"
	"math"
	"math/big"
	"regexp"
	"slices"
	"strings"
	"testing"

	"transit/api"
)

// mostCents is the greatest price.
const mostCents = 1000000

// The forms as the chapter defines them.
var (
	numberForm = regexp.MustCompile(`\A(0|-?[1-9][0-9]*)\z`)
	priceForm  = regexp.MustCompile(`\A(0|[1-9][0-9]*)\.[0-9][0-9]\z`)
)

// edges returns ints in ascending order: around 0, the bounds, powers of 2 and of 10, and around the square roots and quotients of the bounds.
func edges() []int {
	var list []int
	add := func(n int) {
		for d := -3; d <= 3; d++ {
			list = append(list, n+d, -n+d)
		}
	}
	for _, n := range []int{0, 7, 12, 99, 120, math.MaxInt, math.MaxInt / 2, math.MaxInt / 3, math.MaxInt / 10, math.MaxInt / 100, 3037000499, 5274719, 6074001000, mostCents} {
		add(n)
	}
	for i := range 64 {
		add(1 << i)
	}
	for n := 1; n < math.MaxInt/10; n *= 10 {
		add(n)
	}
	slices.Sort(list)
	return slices.Compact(list)
}

func isInt(n *big.Int) bool {
	return n.IsInt64()
}

// strangeTexts returns texts that are neither the form of an int nor that of a price.
func strangeTexts() []string {
	return []string{
		"", "-", "--", "--1", "-+1", "+-1", "+", "+0", "+1", "+5", "-0", "-00", "00", "01", "007", "-01", "-007", "1-", "1-1", "-1-", "0-", "0-1", "-0-",
		" ", " 1", "1 ", "- 1", "1 2", "\t1", "1\n", "\n1", "1\r", "\x001", "1\x00", "\x00", "1_000", "1,000", "1'000", "0x1", "0X1F", "0b1", "0o7", "1e3", "1E3", "inf", "NaN", "nil", "a", "1a", "a1", "/", ":", "1/", "1:", "/1", ":1", "9:", "\xff", "1\xff", "\xff1", "\x80", "\xb11", "１", "٣", "²", "−1", "–1", "é", "\xc3", "\xe2\x82",
		"+9223372036854775807", "+9223372036854775808", "09223372036854775807", "-09223372036854775808", "00000000000000000000000000001", "99999999999999999999x", "x99999999999999999999", "-99999999999999999999-", "0" + strings.Repeat("9", 40), strings.Repeat("0", 1000), "-" + strings.Repeat("0", 1000), strings.Repeat("9", 1000) + "a", strings.Repeat("-", 1000),
		".", "..", "-.", ".-", ".0", ".00", ".50", "0.", "1.", "12.", "0.0", "0.5", "1.5", "0.000", "1.505", "0.0000", "12.3456", "00.00", "01.50", "00.5", "000.00", "-0.00", "-1.00", "-0.01", "+1.00", "+0.00", "1.-5", "1.+5", "1.5-", "1.0a", "1.a0", "a.00", "1a.00", "1..00", "1.0.0", "1.00.", ".1.00", "1.2.34", "1.23.45", "..00", "1. 0", "1.0 ", " 1.00", "1.00 ", "1 .00", "1,50", "1:50", "1;50", "1/50", "1\x0050", "0050", "1.\x0000", "1.00\x00", "1.00\n", "\n1.00", "1.0e", "1e2.00", "0x1.00", "1.\xff0", "1.0\xff", "\xff.00", "1\xff.00", "é.00", "1.é", "1.٣", "1．50", "١.00", "1.//", "1.::", "1.:0", "1.0:", "1.0/", "1./0",
		"01000.00", "010000.01", "10000.0", "10000.010", "10000.1", "10000.", "99999999999999999999.", "99999999999999999999.0", "99999999999999999999.000", "99999999999999999999.x0", "099999999999999999999.00", "-99999999999999999999.00", "99999999999999999999.00.00", strings.Repeat("9", 1000) + ".0", "0" + strings.Repeat("9", 1000) + ".00", "1." + strings.Repeat("0", 1000), strings.Repeat(".", 1000), strings.Repeat("0", 1000) + ".00",
	}
}

// words returns all words of up to length letters of the alphabet.
func words(alphabet string, length int) []string {
	list := []string{""}
	for from := 0; length > 0; length-- {
		to := len(list)
		for _, w := range list[from:to] {
			for i := range len(alphabet) {
				list = append(list, w+alphabet[i:i+1])
			}
		}
		from = to
	}
	return list
}

// beyond returns decimal forms of integers that are not ints, next to them and far from them.
func beyond() []string {
	list := []string{"9223372036854775808", "9223372036854775809", "9223372036854775810", "9223372036854775900", "10000000000000000000", "18446744073709551615", "18446744073709551616", "18446744073709551617", "27670116110564327424", "92233720368547758070", "92233720368547758080", "99999999999999999999", "340282366920938463463374607431768211456", "1" + strings.Repeat("0", 30), strings.Repeat("9", 1000)}
	for _, s := range list {
		if s != "9223372036854775808" {
			list = append(list, "-"+s)
		}
	}
	return list
}

func checkParse(t *testing.T, s string, want int, e api.Errno) {
	t.Helper()
	if n, got := Parse(s); n != want || got != e {
		t.Errorf("Parse(%.60q) = %d, %d; want %d, %d", s, n, got, want, e)
	}
}

func checkParseRange(t *testing.T, s string, low, high, want int, e api.Errno) {
	t.Helper()
	if n, got := ParseRange(s, low, high); n != want || got != e {
		t.Errorf("ParseRange(%.60q, %d, %d) = %d, %d; want %d, %d", s, low, high, n, got, want, e)
	}
}

// P3.1 (Format, Parse, ParseRange)

func TestFormat(t *testing.T) {
	for n, want := range map[int]string{
		0: "0", 1: "1", -1: "-1", 9: "9", -9: "-9", 10: "10", -10: "-10", 99: "99", 100: "100", 101: "101", 120: "120", -120: "-120", 1000: "1000", 1234567890: "1234567890", 9876543210: "9876543210", -1234567890: "-1234567890",
		math.MaxInt: "9223372036854775807", math.MaxInt - 1: "9223372036854775806", math.MinInt: "-9223372036854775808", math.MinInt + 1: "-9223372036854775807",
		1000000000000000000: "1000000000000000000", -1000000000000000000: "-1000000000000000000", 999999999999999999: "999999999999999999",
	} {
		if got := Format(n); got != want {
			t.Errorf("Format(%d) = %q; want %q", n, got, want)
		}
	}
}

func TestFormatAgainstReference(t *testing.T) {
	for _, n := range edges() {
		if got, want := Format(n), fmt.Sprint(n); got != want {
			t.Errorf("Format(%d) = %q", n, got)
		}
	}
	for n := -12000; n <= 12000; n++ {
		if got, want := Format(n), fmt.Sprint(n); got != want {
			t.Errorf("Format(%d) = %q", n, got)
		}
	}
}

func TestParse(t *testing.T) {
	for s, want := range map[string]int{
		"0": 0, "1": 1, "-1": -1, "5": 5, "9": 9, "-9": -9, "10": 10, "-10": -10, "100": 100, "120": 120, "-120": -120, "1000000": 1000000, "1234567890": 1234567890, "-9876543210": -9876543210,
		"9223372036854775807": math.MaxInt, "9223372036854775806": math.MaxInt - 1, "-9223372036854775808": math.MinInt, "-9223372036854775807": math.MinInt + 1, "1000000000000000000": 1000000000000000000,
	} {
		checkParse(t, s, want, api.OK)
	}
}

func TestParseInvalid(t *testing.T) {
	for _, s := range strangeTexts() {
		checkParse(t, s, 0, api.ErrSyntax)
	}
	for _, s := range []string{"0.00", "1.00", "12.05", "10000.01", "0.50"} {
		checkParse(t, s, 0, api.ErrSyntax)
	}
	for _, s := range beyond() {
		checkParse(t, s, 0, api.ErrRange)
		checkParse(t, s+".", 0, api.ErrSyntax)
		checkParse(t, "+"+s, 0, api.ErrSyntax)
		checkParse(t, "0"+s, 0, api.ErrSyntax)
		checkParse(t, "-0"+s, 0, api.ErrSyntax)
	}
}

func TestParseEachByte(t *testing.T) {
	for b := range 256 {
		c := string([]byte{byte(b)})
		for _, s := range []string{c, "1" + c, c + "1", "-" + c, "1" + c + "1", "-1" + c, "12345678901234567890" + c} {
			if !numberForm.MatchString(s) {
				checkParse(t, s, 0, api.ErrSyntax)
			}
		}
	}
}

func TestParseAllShortTexts(t *testing.T) {
	accepted := 0
	for _, s := range words("-01289+. ", 5) {
		if !numberForm.MatchString(s) {
			checkParse(t, s, 0, api.ErrSyntax)
			continue
		}
		want, _ := new(big.Int).SetString(s, 10)
		checkParse(t, s, int(want.Int64()), api.OK)
		accepted++
	}
	if accepted == 0 {
		t.Error("no text was accepted")
	}
}

// TestParseAroundBounds tries all integers near the least and the greatest int, and near multiples of 2^64.
func TestParseAroundBounds(t *testing.T) {
	for _, middle := range []string{"9223372036854775807", "-9223372036854775808", "18446744073709551616", "-18446744073709551616", "92233720368547758070", "-92233720368547758080"} {
		n, _ := new(big.Int).SetString(middle, 10)
		n.Sub(n, big.NewInt(150))
		for range 300 {
			if isInt(n) {
				checkParse(t, n.String(), int(n.Int64()), api.OK)
			} else {
				checkParse(t, n.String(), 0, api.ErrRange)
			}
			n.Add(n, big.NewInt(1))
		}
	}
}

func TestParseRange(t *testing.T) {
	numbers := []int{math.MinInt, math.MinInt + 1, -1000, -2, -1, 0, 1, 2, 5, 9, 1000, math.MaxInt - 1, math.MaxInt}
	for _, low := range numbers {
		for _, high := range numbers {
			for _, n := range numbers {
				if n < low || n > high {
					checkParseRange(t, fmt.Sprint(n), low, high, 0, api.ErrRange)
				} else {
					checkParseRange(t, fmt.Sprint(n), low, high, n, api.OK)
				}
			}
		}
	}
}

func TestParseRangeInvalid(t *testing.T) {
	for _, bounds := range [][2]int{{0, 9}, {0, 0}, {-1, 1}, {9, 0}, {1, -1}, {5, 7}, {math.MinInt, math.MaxInt}, {math.MaxInt, math.MinInt}, {math.MaxInt, math.MaxInt}, {math.MinInt, math.MinInt}} {
		for _, s := range strangeTexts() {
			checkParseRange(t, s, bounds[0], bounds[1], 0, api.ErrSyntax)
		}
		for _, s := range beyond() {
			checkParseRange(t, s, bounds[0], bounds[1], 0, api.ErrRange)
		}
	}
	for n := -20; n <= 20; n++ {
		checkParseRange(t, fmt.Sprint(n), 1, 0, 0, api.ErrRange)
		checkParseRange(t, fmt.Sprint(n), 10, -10, 0, api.ErrRange)
	}
}

// P3.2 (Add, Sub, Mul, DivFloor)

type operation struct {
	name string
	f    func(a, b int) (int, bool)
	// exact gives the integer that f returns if it is an int, or nil if there is none.
	exact func(a, b *big.Int) *big.Int
}

func operations() []operation {
	return []operation{
		{"Add", Add, func(a, b *big.Int) *big.Int { return new(big.Int).Add(a, b) }},
		{"Sub", Sub, func(a, b *big.Int) *big.Int { return new(big.Int).Sub(a, b) }},
		{"Mul", Mul, func(a, b *big.Int) *big.Int { return new(big.Int).Mul(a, b) }},
		{"DivFloor", DivFloor, floorOfQuotient},
	}
}

func floorOfQuotient(a, b *big.Int) *big.Int {
	if b.Sign() == 0 {
		return nil
	}
	// With a divisor above zero, Euclidean division rounds down.
	if b.Sign() < 0 {
		a, b = new(big.Int).Neg(a), new(big.Int).Neg(b)
	}
	return new(big.Int).Div(a, b)
}

func checkOperation(t *testing.T, o operation, a, b int) {
	t.Helper()
	want, wantOK := 0, false
	if n := o.exact(big.NewInt(int64(a)), big.NewInt(int64(b))); n != nil && isInt(n) {
		want, wantOK = int(n.Int64()), true
	}
	if n, ok := o.f(a, b); n != want || ok != wantOK {
		t.Errorf("%s(%d, %d) = %d, %v; want %d, %v", o.name, a, b, n, ok, want, wantOK)
	}
}

func TestArithmetic(t *testing.T) {
	const least, most = math.MinInt, math.MaxInt
	ops := operations()
	add, sub, mul, div := ops[0], ops[1], ops[2], ops[3]
	for _, c := range []struct {
		o       operation
		a, b, n int
		ok      bool
	}{
		{add, 2, 3, 5, true}, {add, -2, 3, 1, true}, {add, 2, -3, -1, true}, {add, -2, -3, -5, true}, {add, 0, 0, 0, true}, {add, 7, -7, 0, true},
		{add, most, 0, most, true}, {add, 0, most, most, true}, {add, most, 1, 0, false}, {add, 1, most, 0, false}, {add, most, -1, most - 1, true}, {add, most - 1, 1, most, true}, {add, most, most, 0, false}, {add, most, least, -1, true},
		{add, least, 0, least, true}, {add, 0, least, least, true}, {add, least, -1, 0, false}, {add, -1, least, 0, false}, {add, least, 1, least + 1, true}, {add, least + 1, -1, least, true}, {add, least, least, 0, false}, {add, least, most, -1, true},
		{sub, 2, 3, -1, true}, {sub, -2, 3, -5, true}, {sub, 2, -3, 5, true}, {sub, -2, -3, 1, true}, {sub, 0, 0, 0, true}, {sub, 7, 7, 0, true},
		{sub, most, 0, most, true}, {sub, most, -1, 0, false}, {sub, most, 1, most - 1, true}, {sub, most, most, 0, true}, {sub, most, least, 0, false}, {sub, 0, most, -most, true}, {sub, -1, most, least, true}, {sub, -2, most, 0, false},
		{sub, least, 0, least, true}, {sub, least, 1, 0, false}, {sub, least, -1, least + 1, true}, {sub, least, least, 0, true}, {sub, least, most, 0, false}, {sub, 0, least, 0, false}, {sub, -1, least, most, true}, {sub, 1, least, 0, false},
		{mul, 2, 3, 6, true}, {mul, -2, 3, -6, true}, {mul, 2, -3, -6, true}, {mul, -2, -3, 6, true}, {mul, 0, 0, 0, true}, {mul, 0, most, 0, true}, {mul, most, 0, 0, true}, {mul, least, 0, 0, true}, {mul, 0, least, 0, true}, {mul, 0, -1, 0, true}, {mul, -1, 0, 0, true},
		{mul, most, 1, most, true}, {mul, 1, most, most, true}, {mul, most, -1, -most, true}, {mul, -1, most, -most, true}, {mul, most, 2, 0, false}, {mul, most, most, 0, false}, {mul, most, least, 0, false},
		{mul, least, 1, least, true}, {mul, 1, least, least, true}, {mul, least, -1, 0, false}, {mul, -1, least, 0, false}, {mul, least, 2, 0, false}, {mul, least, -2, 0, false}, {mul, least, least, 0, false}, {mul, least / 2, 2, least, true}, {mul, least / 2, -2, 0, false}, {mul, 1 << 62, -2, least, true}, {mul, 1 << 62, 2, 0, false},
		{mul, 1 << 32, -1 << 31, least, true}, {mul, 1 << 32, 1 << 31, 0, false}, {mul, 1 << 32, 1 << 32, 0, false}, {mul, 3037000499, 3037000499, 9223372030926249001, true}, {mul, 3037000500, 3037000500, 0, false}, {mul, 3037000500, -3037000500, 0, false}, {mul, -3037000500, -3037000500, 0, false},
		{div, 7, 2, 3, true}, {div, -7, 2, -4, true}, {div, 7, -2, -4, true}, {div, -7, -2, 3, true}, {div, 8, 2, 4, true}, {div, -8, 2, -4, true}, {div, 8, -2, -4, true}, {div, -8, -2, 4, true},
		{div, 0, 5, 0, true}, {div, 0, -5, 0, true}, {div, 1, 5, 0, true}, {div, -1, 5, -1, true}, {div, 1, -5, -1, true}, {div, -1, -5, 0, true}, {div, 5, 5, 1, true}, {div, -5, 5, -1, true},
		{div, 0, 0, 0, false}, {div, 7, 0, 0, false}, {div, -7, 0, 0, false}, {div, most, 0, 0, false}, {div, least, 0, 0, false},
		{div, most, 1, most, true}, {div, most, -1, -most, true}, {div, least, 1, least, true}, {div, least, -1, 0, false}, {div, least + 1, -1, most, true}, {div, 7, -1, -7, true}, {div, -7, -1, 7, true}, {div, 0, -1, 0, true},
		{div, least, least, 1, true}, {div, most, most, 1, true}, {div, most, least, -1, true}, {div, least, most, -2, true}, {div, least, 2, least / 2, true}, {div, least, -2, 1 << 62, true}, {div, most, 2, most / 2, true}, {div, most, -2, -1 << 62, true}, {div, 1, least, -1, true}, {div, -1, least, 0, true}, {div, -1, most, -1, true},
	} {
		if n, ok := c.o.f(c.a, c.b); n != c.n || ok != c.ok {
			t.Errorf("%s(%d, %d) = %d, %v; want %d, %v", c.o.name, c.a, c.b, n, ok, c.n, c.ok)
		}
	}
}

func TestArithmeticOfSmallNumbers(t *testing.T) {
	for _, o := range operations() {
		for a := -40; a <= 40; a++ {
			for b := -40; b <= 40; b++ {
				checkOperation(t, o, a, b)
			}
		}
	}
}

func TestArithmeticOfEdges(t *testing.T) {
	list := edges()
	for _, o := range operations() {
		for _, a := range list {
			for _, b := range list {
				checkOperation(t, o, a, b)
			}
		}
	}
}

// TestMulAtQuotients tries, for each factor, the factors beside the quotients of the bounds.
func TestMulAtQuotients(t *testing.T) {
	mul := operations()[2]
	for _, a := range edges() {
		if a == 0 || a == -1 {
			continue
		}
		for d := -2; d <= 2; d++ {
			for _, b := range []int{math.MaxInt/a + d, math.MinInt/a + d} {
				checkOperation(t, mul, a, b)
				checkOperation(t, mul, b, a)
			}
		}
	}
}

// P3.3 (Clamp)

func TestClamp(t *testing.T) {
	for _, c := range [][4]int{
		{2, 1, 3, 2}, {0, 1, 3, 1}, {5, 1, 3, 3}, {1, 1, 3, 1}, {3, 1, 3, 3}, {-5, -3, -1, -3}, {0, -3, -1, -1}, {7, 7, 7, 7}, {6, 7, 7, 7}, {8, 7, 7, 7},
		// Low is returned first if it is greater than high.
		{0, 5, 1, 5}, {1, 5, 1, 5}, {2, 5, 1, 5}, {4, 5, 1, 5}, {5, 5, 1, 1}, {6, 5, 1, 1},
		{math.MinInt, 0, 9, 0}, {math.MaxInt, 0, 9, 9}, {0, math.MinInt, math.MaxInt, 0}, {math.MinInt, math.MinInt, math.MaxInt, math.MinInt}, {math.MaxInt, math.MinInt, math.MaxInt, math.MaxInt}, {0, math.MaxInt, math.MinInt, math.MaxInt}, {math.MaxInt, math.MaxInt, math.MinInt, math.MinInt}, {math.MinInt, math.MinInt + 1, math.MaxInt - 1, math.MinInt + 1}, {math.MaxInt, math.MinInt + 1, math.MaxInt - 1, math.MaxInt - 1},
	} {
		if got := Clamp(c[0], c[1], c[2]); got != c[3] {
			t.Errorf("Clamp(%d, %d, %d) = %d; want %d", c[0], c[1], c[2], got, c[3])
		}
	}
}

func TestClampAgainstReference(t *testing.T) {
	numbers := []int{math.MinInt, math.MinInt + 1, -1000, -3, -2, -1, 0, 1, 2, 3, 1000, math.MaxInt - 1, math.MaxInt}
	for _, n := range numbers {
		for _, low := range numbers {
			for _, high := range numbers {
				want := n
				if n < low {
					want = low
				} else if n > high {
					want = high
				}
				if got := Clamp(n, low, high); got != want {
					t.Errorf("Clamp(%d, %d, %d) = %d; want %d", n, low, high, got, want)
				}
			}
		}
	}
}

// P3.4 (FormatPrice, ParsePrice)

func checkFormatPrice(t *testing.T, cents int, want string, e api.Errno) {
	t.Helper()
	if s, got := FormatPrice(cents); s != want || got != e {
		t.Errorf("FormatPrice(%d) = %q, %d; want %q, %d", cents, s, got, want, e)
	}
}

func checkParsePrice(t *testing.T, s string, want int, e api.Errno) {
	t.Helper()
	if n, got := ParsePrice(s); n != want || got != e {
		t.Errorf("ParsePrice(%.60q) = %d, %d; want %d, %d", s, n, got, want, e)
	}
}

func TestPrices(t *testing.T) {
	for _, c := range []struct {
		cents int
		text  string
	}{
		{0, "0.00"}, {1, "0.01"}, {5, "0.05"}, {9, "0.09"}, {10, "0.10"}, {11, "0.11"}, {50, "0.50"}, {99, "0.99"}, {100, "1.00"}, {101, "1.01"}, {110, "1.10"}, {199, "1.99"}, {200, "2.00"}, {999, "9.99"}, {1000, "10.00"}, {1205, "12.05"}, {9999, "99.99"}, {10000, "100.00"}, {10001, "100.01"}, {123456, "1234.56"}, {999999, "9999.99"}, {1000000, "10000.00"},
	} {
		checkFormatPrice(t, c.cents, c.text, api.OK)
		checkParsePrice(t, c.text, c.cents, api.OK)
	}
}

func TestFormatPriceOutsideRange(t *testing.T) {
	for cents := 1; cents <= 2000; cents++ {
		checkFormatPrice(t, -cents, "", api.ErrRange)
		checkFormatPrice(t, mostCents+cents, "", api.ErrRange)
	}
	for _, n := range edges() {
		if n < 0 || n > mostCents {
			checkFormatPrice(t, n, "", api.ErrRange)
		}
	}
}

func TestParsePriceInvalid(t *testing.T) {
	for _, s := range strangeTexts() {
		checkParsePrice(t, s, 0, api.ErrSyntax)
	}
	for _, s := range []string{"0", "1", "-1", "12", "100", "1000000", "1000001", "9223372036854775807", "9223372036854775808", "-9223372036854775808", "99999999999999999999"} {
		checkParsePrice(t, s, 0, api.ErrSyntax)
	}
}

func TestParsePriceTooGreat(t *testing.T) {
	for _, s := range []string{
		"10000.01", "10000.09", "10000.10", "10000.99", "10001.00", "10099.99", "10100.00", "19999.99", "20000.00", "99999.99", "100000.00", "1000000.00", "1000000.01", "4294967296.00", "4294967297.50", "42949672.97", "42949672.96",
		"92233720368547758.07", "92233720368547758.08", "184467440737095516.16", "184467440737095516.17", "9223372036854775807.00", "9223372036854775808.00", "18446744073709551616.00", "18446744073709551617.05", "99999999999999999999.00", strings.Repeat("9", 1000) + ".99",
	} {
		checkParsePrice(t, s, 0, api.ErrRange)
	}
	for cents := mostCents + 1; cents <= mostCents+30000; cents++ {
		checkParsePrice(t, fmt.Sprintf("%d.%02d", cents/100, cents%100), 0, api.ErrRange)
	}
}

func TestParsePriceEachByte(t *testing.T) {
	for b := range 256 {
		c := string([]byte{byte(b)})
		for _, s := range []string{c + ".00", c + "1.00", "1" + c + ".00", "1" + c + "00", "1." + c + "0", "1.0" + c, "1.00" + c, c + c + c + c} {
			if !priceForm.MatchString(s) {
				checkParsePrice(t, s, 0, api.ErrSyntax)
			}
		}
	}
}

func TestParsePriceAllShortTexts(t *testing.T) {
	accepted := 0
	for _, s := range words("0.195-, ", 5) {
		if !priceForm.MatchString(s) {
			checkParsePrice(t, s, 0, api.ErrSyntax)
			continue
		}
		want, _ := new(big.Int).SetString(strings.Replace(s, ".", "", 1), 10)
		checkParsePrice(t, s, int(want.Int64()), api.OK)
		accepted++
	}
	if accepted == 0 {
		t.Error("no text was accepted")
	}
}

// P3.5 (Parse inverts Format, ParsePrice inverts FormatPrice)

func TestParseInvertsFormat(t *testing.T) {
	list := edges()
	for n := -12000; n <= 12000; n++ {
		list = append(list, n)
	}
	for _, n := range list {
		checkParse(t, Format(n), n, api.OK)
	}
}

func TestFormatInvertsParse(t *testing.T) {
	list := append(words("-01289+.", 5), strangeTexts()...)
	for _, n := range edges() {
		list = append(list, fmt.Sprint(n), fmt.Sprintf("%+d", n), fmt.Sprintf("%021d", n), fmt.Sprintf("%x", n), fmt.Sprintf(" %d", n))
	}
	for _, s := range append(list, beyond()...) {
		if n, e := Parse(s); e == api.OK && Format(n) != s {
			t.Errorf("Parse(%q) = %d, whose form is %q", s, n, Format(n))
		}
	}
}

func TestAllPricesInBothDirections(t *testing.T) {
	for cents := 0; cents <= mostCents; cents++ {
		s, e := FormatPrice(cents)
		if e != api.OK {
			t.Fatalf("FormatPrice(%d) returns error %d", cents, e)
		}
		// The text without its full stop has at least three digits.
		if want := fmt.Sprintf("%03d", cents); len(s) != len(want)+1 || s[:len(s)-3] != want[:len(want)-2] || s[len(s)-3] != '.' || s[len(s)-2:] != want[len(want)-2:] {
			t.Fatalf("FormatPrice(%d) = %q", cents, s)
		}
		if n, e := ParsePrice(s); n != cents || e != api.OK {
			t.Fatalf("ParsePrice(%q) = %d, %d", s, n, e)
		}
	}
}

func TestFormatPriceInvertsParsePrice(t *testing.T) {
	for _, s := range append(words("0.195-,", 6), strangeTexts()...) {
		n, e := ParsePrice(s)
		if e != api.OK {
			continue
		}
		if form, e := FormatPrice(n); form != s || e != api.OK {
			t.Errorf("ParsePrice(%q) = %d, whose form is %q, %d", s, n, form, e)
		}
	}
}

// P3.6 (Sub undoes Add; the remainder of DivFloor)

func TestSubUndoesAdd(t *testing.T) {
	list := edges()
	for _, a := range list {
		for _, b := range list {
			sum, ok := Add(a, b)
			if !ok {
				continue
			}
			if n, ok := Sub(sum, b); n != a || !ok {
				t.Errorf("Sub(Add(%d, %d), %d) = %d, %v", a, b, b, n, ok)
			}
		}
	}
}

func TestRemainderOfDivFloor(t *testing.T) {
	list := edges()
	for n := -40; n <= 40; n++ {
		list = append(list, n)
	}
	for _, a := range list {
		for _, b := range list {
			q, ok := DivFloor(a, b)
			if !ok {
				continue
			}
			rest := big.NewInt(int64(q))
			rest.Sub(big.NewInt(int64(a)), rest.Mul(rest, big.NewInt(int64(b))))
			if rest.Sign() != 0 && (rest.Sign() > 0 != (b > 0) || rest.CmpAbs(big.NewInt(int64(b))) >= 0) {
				t.Errorf("DivFloor(%d, %d) = %d, which leaves %s", a, b, q, rest)
			}
		}
	}
}
