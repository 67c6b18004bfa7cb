package date

import (
	"fmt"
	"math"
	"strings"
	"testing"
	"time"

	"transit/api"
)

const (
	lastDay    = 36524
	lastMoment = 3155759999
)

// outside are numbers that are neither days nor times of day, nor parts of dates.
var outside = []int{-1, -2, -7, -59, -365, -2000, -36524, -36525, -86399, -86400, -86401, -172800, 200000, 1 << 20, math.MinInt32, math.MaxInt32, math.MinInt, math.MinInt + 1, math.MaxInt - 1, math.MaxInt}

// wrapping are numbers whose product with DayLength is 0, or a small number, modulo 2^64 or 2^32, and sums with the parts of dates that are small modulo them.
var wrapping = []int{1 << 25, 1 << 32, 1<<32 + 1, 1<<32 + 2000, 1 << 57, 1 << 58, 1 << 62, -1 << 57, -1 << 62, math.MaxInt/86400 + 1, math.MinInt / 86400, math.MaxInt/43200 + 1, 213503982334601}

// other returns these numbers, and the outside and wrapping ones.
func other(numbers ...int) []int {
	return append(append(numbers, outside...), wrapping...)
}

// referenceDate returns the parts of a day as Go's own calendar has them.
func referenceDate(day int) time.Time {
	return time.Date(2000, time.January, 1+day, 0, 0, 0, 0, time.UTC)
}

func referenceText(day int) string {
	d := referenceDate(day)
	return fmt.Sprintf("%04d-%02d-%02d", d.Year(), int(d.Month()), d.Day())
}

func checkParse(t *testing.T, s string, want int, e api.Errno) {
	t.Helper()
	if n, got := Parse(s); n != want || got != e {
		t.Errorf("Parse(%.40q) = %d, %d; want %d, %d", s, n, got, want, e)
	}
}

func checkParseMoment(t *testing.T, s string, want int, e api.Errno) {
	t.Helper()
	if n, got := ParseMoment(s); n != want || got != e {
		t.Errorf("ParseMoment(%.40q) = %d, %d; want %d, %d", s, n, got, want, e)
	}
}

// P2.1 (Valid, Leap, Days)

func TestValid(t *testing.T) {
	for day := -1000; day <= 40000; day++ {
		if got, want := Valid(day), day >= 0 && day <= lastDay; got != want {
			t.Errorf("Valid(%d) = %v", day, got)
		}
	}
	for _, n := range other(36525, 36526) {
		if Valid(n) {
			t.Errorf("Valid(%d) = true", n)
		}
	}
}

func TestLeap(t *testing.T) {
	leap := 0
	for year := -3000; year <= 5000; year++ {
		want := year >= 2000 && year <= 2099 && year%4 == 0
		if got := Leap(year); got != want {
			t.Errorf("Leap(%d) = %v", year, got)
		}
		if want {
			leap++
		}
	}
	if leap != 25 {
		t.Errorf("%d leap years were checked", leap)
	}
	for year, want := range map[int]bool{1996: false, 1999: false, 2000: true, 2001: false, 2002: false, 2003: false, 2004: true, 2096: true, 2099: false, 2100: false, 2104: false, 2400: false} {
		if got := Leap(year); got != want {
			t.Errorf("Leap(%d) = %v", year, got)
		}
	}
	for _, n := range other() {
		if Leap(n) {
			t.Errorf("Leap(%d) = true", n)
		}
	}
}

func checkDays(t *testing.T, year, month, want int, wantOK bool) {
	t.Helper()
	if n, ok := Days(year, month); n != want || ok != wantOK {
		t.Errorf("Days(%d, %d) = %d, %v; want %d, %v", year, month, n, ok, want, wantOK)
	}
}

func TestDays(t *testing.T) {
	for _, c := range []struct {
		year int
		want [12]int
	}{
		{2000, [12]int{31, 29, 31, 30, 31, 30, 31, 31, 30, 31, 30, 31}},
		{2001, [12]int{31, 28, 31, 30, 31, 30, 31, 31, 30, 31, 30, 31}},
		{2002, [12]int{31, 28, 31, 30, 31, 30, 31, 31, 30, 31, 30, 31}},
		{2003, [12]int{31, 28, 31, 30, 31, 30, 31, 31, 30, 31, 30, 31}},
		{2004, [12]int{31, 29, 31, 30, 31, 30, 31, 31, 30, 31, 30, 31}},
		{2096, [12]int{31, 29, 31, 30, 31, 30, 31, 31, 30, 31, 30, 31}},
		{2099, [12]int{31, 28, 31, 30, 31, 30, 31, 31, 30, 31, 30, 31}},
	} {
		for i, want := range c.want {
			checkDays(t, c.year, i+1, want, true)
		}
	}
	for year := 2000; year <= 2099; year++ {
		for month := 1; month <= 12; month++ {
			checkDays(t, year, month, time.Date(year, time.Month(month+1), 0, 0, 0, 0, 0, time.UTC).Day(), true)
		}
	}
}

func TestDaysOutsideRanges(t *testing.T) {
	for month := -1; month <= 14; month++ {
		for _, year := range other(0, 1, 99, 1999, 1996, 1900, 2100, 2104, 2200) {
			checkDays(t, year, month, 0, false)
		}
	}
	for year := 1998; year <= 2101; year++ {
		for _, month := range other(0, 13, 14, 24, 1<<32+2) {
			checkDays(t, year, month, 0, false)
		}
	}
	for _, n := range other() {
		checkDays(t, n, n, 0, false)
	}
}

// P2.2 (FromCivil)

func checkFromCivil(t *testing.T, year, month, day, want int, wantOK bool) {
	t.Helper()
	if n, ok := FromCivil(year, month, day); n != want || ok != wantOK {
		t.Errorf("FromCivil(%d, %d, %d) = %d, %v; want %d, %v", year, month, day, n, ok, want, wantOK)
	}
}

func TestFromCivil(t *testing.T) {
	for _, c := range []struct{ year, month, day, want int }{
		{2000, 1, 1, 0}, {2000, 1, 2, 1}, {2000, 1, 31, 30}, {2000, 2, 1, 31}, {2000, 2, 28, 58}, {2000, 2, 29, 59}, {2000, 3, 1, 60}, {2000, 12, 31, 365},
		{2001, 1, 1, 366}, {2001, 2, 28, 424}, {2001, 3, 1, 425}, {2001, 12, 31, 730}, {2003, 12, 31, 1460}, {2004, 1, 1, 1461}, {2004, 2, 29, 1520}, {2004, 3, 1, 1521},
		{2096, 2, 29, 35123}, {2098, 12, 31, 36159}, {2099, 1, 1, 36160}, {2099, 2, 28, 36218}, {2099, 12, 1, 36494}, {2099, 12, 30, 36523}, {2099, 12, 31, 36524},
	} {
		checkFromCivil(t, c.year, c.month, c.day, c.want, true)
	}
}

// TestFromCivilNearRanges tries all dates around those that exist, which come in order.
func TestFromCivilNearRanges(t *testing.T) {
	n := 0
	for year := 1997; year <= 2102; year++ {
		for month := -1; month <= 14; month++ {
			for day := -2; day <= 34; day++ {
				d := time.Date(year, time.Month(month), day, 0, 0, 0, 0, time.UTC)
				if d.Year() != year || int(d.Month()) != month || d.Day() != day || year < 2000 || year > 2099 {
					checkFromCivil(t, year, month, day, 0, false)
					continue
				}
				checkFromCivil(t, year, month, day, n, true)
				n++
			}
		}
	}
	if n != lastDay+1 {
		t.Errorf("%d days were checked", n)
	}
}

func TestFromCivilOutsideRanges(t *testing.T) {
	for _, c := range [][3]int{
		{1999, 12, 31}, {2100, 1, 1}, {2000, 0, 1}, {2000, 13, 1}, {2000, 1, 0}, {2000, 1, 32}, {2000, 2, 30}, {2001, 2, 29}, {2001, 2, 30}, {2099, 2, 29}, {2000, 4, 31}, {2000, 6, 31}, {2000, 9, 31}, {2000, 11, 31},
		{2099, 12, 32}, {2099, 13, 1}, {1999, 13, 1}, {2000, 1, -1}, {2000, -1, 1}, {2000, 1, 60}, {2000, 1, 366}, {2001, 0, 31}, {0, 0, 0}, {0, 1, 1}, {99, 12, 31},
	} {
		checkFromCivil(t, c[0], c[1], c[2], 0, false)
	}
	for _, n := range other() {
		for _, k := range []int{1, 2, 12} {
			checkFromCivil(t, n, k, k, 0, false)
			checkFromCivil(t, 2000, n, k, 0, false)
			checkFromCivil(t, 2000, k, n, 0, false)
			checkFromCivil(t, 2099, k, n, 0, false)
		}
		checkFromCivil(t, n, n, n, 0, false)
	}
}

// P2.3 (Civil, Weekday)

func checkCivil(t *testing.T, n, year, month, day int, wantOK bool) {
	t.Helper()
	if y, m, d, ok := Civil(n); y != year || m != month || d != day || ok != wantOK {
		t.Errorf("Civil(%d) = %d, %d, %d, %v; want %d, %d, %d, %v", n, y, m, d, ok, year, month, day, wantOK)
	}
}

func checkWeekday(t *testing.T, n, want int, wantOK bool) {
	t.Helper()
	if w, ok := Weekday(n); w != want || ok != wantOK {
		t.Errorf("Weekday(%d) = %d, %v; want %d, %v", n, w, ok, want, wantOK)
	}
}

func TestCivil(t *testing.T) {
	for _, c := range []struct{ n, year, month, day int }{
		{0, 2000, 1, 1}, {30, 2000, 1, 31}, {31, 2000, 2, 1}, {58, 2000, 2, 28}, {59, 2000, 2, 29}, {60, 2000, 3, 1}, {365, 2000, 12, 31}, {366, 2001, 1, 1}, {424, 2001, 2, 28}, {425, 2001, 3, 1},
		{730, 2001, 12, 31}, {731, 2002, 1, 1}, {1460, 2003, 12, 31}, {1461, 2004, 1, 1}, {1520, 2004, 2, 29}, {1521, 2004, 3, 1}, {36159, 2098, 12, 31}, {36160, 2099, 1, 1}, {36494, 2099, 12, 1}, {36524, 2099, 12, 31},
	} {
		checkCivil(t, c.n, c.year, c.month, c.day, true)
	}
}

func TestCivilAndWeekdayOfAllDays(t *testing.T) {
	for n := 0; n <= lastDay; n++ {
		d := referenceDate(n)
		checkCivil(t, n, d.Year(), int(d.Month()), d.Day(), true)
		checkWeekday(t, n, (int(d.Weekday())+6)%7, true)
	}
}

func TestWeekday(t *testing.T) {
	// January 1, 2000 was a Saturday, and December 31, 2099 is a Thursday.
	for n, want := range map[int]int{0: 5, 1: 6, 2: 0, 3: 1, 4: 2, 5: 3, 6: 4, 7: 5, 8: 6, 9: 0, 60: 2, 366: 0, 36523: 2, 36524: 3} {
		checkWeekday(t, n, want, true)
	}
}

func TestCivilAndWeekdayOfOtherNumbers(t *testing.T) {
	for _, n := range other(36525, 36526, 36531) {
		checkCivil(t, n, 0, 0, 0, false)
		checkWeekday(t, n, 0, false)
	}
}

// P2.4 (Format)

func TestFormat(t *testing.T) {
	for n, want := range map[int]string{
		0: "2000-01-01", 8: "2000-01-09", 9: "2000-01-10", 59: "2000-02-29", 60: "2000-03-01", 273: "2000-09-30", 274: "2000-10-01", 365: "2000-12-31", 366: "2001-01-01", 425: "2001-03-01", 36524: "2099-12-31",
	} {
		if s, e := Format(n); s != want || e != api.OK {
			t.Errorf("Format(%d) = %q, %d; want %q, 0", n, s, e, want)
		}
	}
	for n := 0; n <= lastDay; n++ {
		if s, e := Format(n); s != referenceText(n) || e != api.OK {
			t.Errorf("Format(%d) = %q, %d; want %q, 0", n, s, e, referenceText(n))
		}
	}
}

func TestFormatOfOtherNumbers(t *testing.T) {
	for _, n := range other(36525, 36526) {
		if s, e := Format(n); s != "" || e != api.ErrDate {
			t.Errorf("Format(%d) = %q, %d; want \"\", ErrDate", n, s, e)
		}
	}
}

// P2.5 (Parse)

func TestParse(t *testing.T) {
	for s, want := range map[string]int{"2000-01-01": 0, "2000-02-29": 59, "2000-03-01": 60, "2000-12-31": 365, "2001-02-28": 424, "2004-02-29": 1520, "2012-11-10": 4697, "2099-12-31": 36524} {
		checkParse(t, s, want, api.OK)
	}
}

func TestParseOfDatesThatDoNotExist(t *testing.T) {
	for _, s := range []string{
		"0000-00-00", "0000-01-01", "0001-01-01", "1900-01-01", "1999-12-31", "2100-01-01", "9999-12-31", "9999-99-99", "2000-00-01", "2000-13-01", "2000-99-01", "2000-01-00", "2000-01-32", "2000-01-99", "2000-00-00",
		"2000-02-30", "2001-02-29", "2001-02-30", "2003-02-29", "2004-02-30", "2099-02-29", "2000-04-31", "2000-06-31", "2000-09-31", "2000-11-31", "2000-12-32", "2099-12-32", "2099-13-01",
	} {
		checkParse(t, s, 0, api.ErrDate)
	}
}

func TestParseOfWrongForms(t *testing.T) {
	for _, s := range []string{
		"", "2", "-", "--", "2000", "2000-01", "2000-01-0", "2000-01-1", "2000-1-01", "2000-1-1", "2001-2-28", "200-01-01", "00-01-01", "20000-01-01", "2000-01-001", "2000-001-01", "2000-01-01 ", " 2000-01-01", "2000-01-01\n", "2000-01-01T00:00:00",
		"2000/01/01", "2000-01/01", "2000/01-01", "2000.01.01", "2000 01 01", "2000:01:01", "2000001001", "200001-001", "2000-01001", "20000-1-01", "2000-010-1", "20000101", "----------", "0000000000",
		"-200-01-01", "+200-01-01", " 200-01-01", "2000--1-01", "2000-+1-01", "2000- 1-01", "2000-01--1", "2000-01-+1", "2000-01- 1", "2000-01-1 ", "0x20-01-01", "2_00-01-01", "2e03-01-01", "2000-0a-01", "2000-01-a1", "2000-01-0A",
		"1999-13-3x", "x999-13-32", "2000-99x99", "é00-01-01", "2000-é-01", "2000-01-é", "2000é1-01", "٢٠-01-01", "20٠-01-01", "2000-٠-01", "2000-01-٠", "\xff000-01-01", "2000-01-0\x00", "2000\xff01-01", "2000-01\xff01", "2000–1-01",
		"99999999999999999999-01-01", "2000-01-99999999999999999999", strings.Repeat("2", 1<<20), strings.Repeat("0", 1<<20) + "2000-01-01", "2000-01-01" + strings.Repeat("0", 1<<20),
	} {
		checkParse(t, s, 0, api.ErrSyntax)
	}
}

// changed calls f with s and with each text that differs from it in one byte.
func changed(s string, f func(string)) {
	for i := range len(s) {
		for b := range 256 {
			f(s[:i] + string([]byte{byte(b)}) + s[i+1:])
		}
	}
}

// TestParseOfChangedBytes replaces each byte of a date by each byte.
func TestParseOfChangedBytes(t *testing.T) {
	days := map[string]int{}
	for n := 0; n <= lastDay; n++ {
		days[referenceText(n)] = n
	}
	for _, s := range []string{"2000-01-01", "2004-02-29", "2019-09-30", "2099-12-31", "1999-13-32"} {
		changed(s, func(c string) {
			n, e := referenceDay(days, c)
			checkParse(t, c, n, e)
		})
	}
}

// referenceDay evaluates s, which has ten bytes, as the document describes it.
func referenceDay(days map[string]int, s string) (int, api.Errno) {
	for i := range 10 {
		separator := i == 4 || i == 7
		if separator && s[i] != '-' || !separator && !strings.Contains("0123456789", s[i:i+1]) {
			return 0, api.ErrSyntax
		}
	}
	n, ok := days[s]
	if !ok {
		return 0, api.ErrDate
	}
	return n, api.OK
}

// P2.6 (Absolute, Relative)

func checkAbsolute(t *testing.T, day, u, want int, wantOK bool) {
	t.Helper()
	if n, ok := Absolute(day, u); n != want || ok != wantOK {
		t.Errorf("Absolute(%d, %d) = %d, %v; want %d, %v", day, u, n, ok, want, wantOK)
	}
}

func checkRelative(t *testing.T, at, day, u int, wantOK bool) {
	t.Helper()
	if d, s, ok := Relative(at); d != day || s != u || ok != wantOK {
		t.Errorf("Relative(%d) = %d, %d, %v; want %d, %d, %v", at, d, s, ok, day, u, wantOK)
	}
}

func TestAbsolute(t *testing.T) {
	for _, c := range []struct{ day, u, want int }{
		{0, 0, 0}, {0, 1, 1}, {0, 86399, 86399}, {0, 86400, 86400}, {0, 86401, 86401}, {0, 172799, 172799}, {0, 172800, 172800}, {1, 0, 86400}, {1, 90000, 176400}, {1, 172800, 259200},
		{36523, 172800, 3155760000}, {36524, 0, 3155673600}, {36524, 86399, 3155759999}, {36524, 86400, 3155760000}, {36524, 172799, 3155846399}, {36524, 172800, 3155846400},
	} {
		checkAbsolute(t, c.day, c.u, c.want, true)
	}
	for day := 0; day <= lastDay; day++ {
		for _, u := range []int{0, 1, 3600, 86399, 86400, 86401, 172800} {
			checkAbsolute(t, day, u, day*86400+u, true)
		}
	}
}

func TestAbsoluteOutsideRanges(t *testing.T) {
	for _, n := range other(36525, 36526, 172801) {
		for _, k := range []int{0, 1, 86399, 86400, 172800} {
			checkAbsolute(t, n, k, 0, false)
		}
		checkAbsolute(t, n, n, 0, false)
	}
	for _, n := range other(172801, 172802, 259200) {
		for _, k := range []int{0, 1, 36523, 36524} {
			checkAbsolute(t, k, n, 0, false)
		}
	}
	checkAbsolute(t, -1, 86400, 0, false)
	checkAbsolute(t, 1, -1, 0, false)
	checkAbsolute(t, 36525, -1, 0, false)
}

func TestRelative(t *testing.T) {
	for _, c := range []struct{ at, day, u int }{
		{0, 0, 0}, {1, 0, 1}, {86399, 0, 86399}, {86400, 1, 0}, {86401, 1, 1}, {172799, 1, 86399}, {172800, 2, 0}, {176400, 2, 3600},
		{3155673599, 36523, 86399}, {3155673600, 36524, 0}, {3155759998, 36524, 86398}, {3155759999, 36524, 86399},
	} {
		checkRelative(t, c.at, c.day, c.u, true)
	}
	for day := 0; day <= lastDay; day++ {
		for _, u := range []int{0, 1, 43200, 86398, 86399} {
			checkRelative(t, day*86400+u, day, u, true)
		}
	}
}

// notMoments are numbers that lie on no day, among them the valid moments after the last day.
func notMoments() []int {
	numbers := []int{-1, -2, -86399, -86400, -86401, math.MinInt, math.MinInt + 1, math.MinInt32, math.MinInt64 / 2, math.MaxInt, math.MaxInt - 1, 1 << 32, 1 << 62}
	return append(numbers, lastMoment+1, lastMoment+2, 3155846399, 3155846400, 3155932799, 3155932800, 3155932801)
}

func TestRelativeOutsideDays(t *testing.T) {
	for _, n := range notMoments() {
		checkRelative(t, n, 0, 0, false)
	}
}

// P2.7 (FormatMoment)

func TestFormatMoment(t *testing.T) {
	for n, want := range map[int]string{
		0: "2000-01-01T00:00:00", 1: "2000-01-01T00:00:01", 86399: "2000-01-01T23:59:59", 86400: "2000-01-02T00:00:00", 176400: "2000-01-03T01:00:00", 5130330: "2000-02-29T09:05:30",
		3155673599: "2099-12-30T23:59:59", 3155673600: "2099-12-31T00:00:00", 3155759999: "2099-12-31T23:59:59",
	} {
		if s, e := FormatMoment(n); s != want || e != api.OK {
			t.Errorf("FormatMoment(%d) = %q, %d; want %q, 0", n, s, e, want)
		}
	}
	// The step shares no factor with the length of a day, so that no time of day occurs twice.
	for n := 0; n <= lastMoment; n += 43201 {
		want := time.Date(2000, 1, 1, 0, 0, n, 0, time.UTC).Format("2006-01-02T15:04:05")
		if s, e := FormatMoment(n); s != want || e != api.OK {
			t.Errorf("FormatMoment(%d) = %q, %d; want %q, 0", n, s, e, want)
		}
	}
}

func TestFormatMomentOutsideDays(t *testing.T) {
	for _, n := range notMoments() {
		if s, e := FormatMoment(n); s != "" || e != api.ErrDate {
			t.Errorf("FormatMoment(%d) = %q, %d; want \"\", ErrDate", n, s, e)
		}
	}
}

// P2.8 (ParseMoment)

func TestParseMoment(t *testing.T) {
	for s, want := range map[string]int{
		"2000-01-01T00:00:00": 0, "2000-01-01T00:00:01": 1, "2000-01-01T00:00:59": 59, "2000-01-01T00:59:00": 3540, "2000-01-01T23:00:00": 82800, "2000-01-01T23:59:59": 86399, "2000-01-02T00:00:00": 86400,
		"2000-01-03T01:00:00": 176400, "2000-02-29T09:05:30": 5130330, "2099-12-31T00:00:00": 3155673600, "2099-12-31T23:59:59": 3155759999,
	} {
		checkParseMoment(t, s, want, api.OK)
	}
}

func TestParseMomentOfDatesThatDoNotExist(t *testing.T) {
	for _, d := range []string{"0000-00-00", "1999-12-31", "2100-01-01", "2000-00-01", "2000-13-01", "2000-01-00", "2000-01-32", "2000-02-30", "2001-02-29", "2099-12-32", "9999-99-99"} {
		for _, c := range []string{"00:00:00", "23:59:59", "24:00:00", "00:60:00", "00:00:60", "99:99:99"} {
			checkParseMoment(t, d+"T"+c, 0, api.ErrDate)
		}
	}
}

func TestParseMomentOfTimesOutsideRanges(t *testing.T) {
	for _, d := range []string{"2000-01-01", "2000-02-29", "2099-12-31"} {
		for _, c := range []string{"24:00:00", "24:00:01", "25:00:00", "30:00:00", "47:59:59", "48:00:00", "48:00:01", "99:00:00", "99:99:99", "00:60:00", "23:60:00", "00:99:00", "00:00:60", "23:59:60", "00:00:99", "24:60:60"} {
			checkParseMoment(t, d+"T"+c, 0, api.ErrTime)
		}
	}
}

func TestParseMomentOfWrongForms(t *testing.T) {
	for _, s := range []string{
		"", "T", "2000-01-01", "00:00:00", "T00:00:00", "2000-01-01T", "2000-01-01T00", "2000-01-01T00:00", "2000-01-01T00:00:0", "2000-01-01T0:00:00", "2000-01-01T00:00:000", "2000-01-01T00:00:00 ", " 2000-01-01T00:00:00", "2000-01-01T00:00:00Z",
		"2000-01-01 00:00:00", "2000-01-01t00:00:00", "2000-01-01-00:00:00", "2000-01-01000:00:00", "2000-01-0100:00:00T", "2000-01-0T100:00:00", "2000-01-01TT0:00:00", "2000-01-010T0:00:00", "200-01-01T000:00:00", "20000-1-01T00:00:00",
		"2000/01-01T00:00:00", "2000-01/01T00:00:00", "2000-01-01T00.00:00", "2000-01-01T00:00.00", "2000-01-01T00-00-00", "2000-1-001T00:00:00", "2000-01-01T0:000:00", "2000-01-01T000:0:00", "2000-01-01T000000:0", "0000000000000000000",
		"x000-01-01T00:00:00", "2000-x1-01T00:00:00", "2000-01-x1T00:00:00", "2000-01-01Tx0:00:00", "2000-01-01T00:x0:00", "2000-01-01T00:00:x0", "2000-01-01T-1:00:00", "2000-01-01T00:-1:00", "2000-01-01T00:00:-1", "2000-01-01T+1:00:00", "-200-01-01T00:00:00",
		"2001-02-29T00:00:0x", "2001-02-29T24:00.00", "2001-02-29 24:00:00", "1999-13-32Tx0:00:00", "x999-13-32T24:60:60", "2000-01-x1T24:00:00", "2000-02-30T24:00:00 ", "2000-02-30T24:00:0",
		"2000-01-01T٠:00:00", "2000-01-01T00:00:٠", "2000-01-01\xff00:00:00", "2000-01-01T00:00:0\x00", "2000-01-01é0:00:00", "é00-01-01T00:00:00", "2000-01-01T00:00:é",
		strings.Repeat("0", 1<<20), "2000-01-01T" + strings.Repeat("0", 1<<20), "2000-01-01T00:00:00" + strings.Repeat("0", 1<<20), strings.Repeat("0", 1<<20) + "2000-01-01T00:00:00",
	} {
		checkParseMoment(t, s, 0, api.ErrSyntax)
	}
}

// TestParseMomentOfChangedBytes replaces each byte of a moment by each byte.
func TestParseMomentOfChangedBytes(t *testing.T) {
	days := map[string]int{}
	for n := 0; n <= lastDay; n++ {
		days[referenceText(n)] = n
	}
	for _, s := range []string{"2000-01-01T00:00:00", "2099-12-31T23:59:59", "2011-10-09T19:48:37", "2001-02-29T11:11:11", "2000-01-01T24:00:00"} {
		changed(s, func(c string) {
			n, e := referenceMoment(days, c)
			checkParseMoment(t, c, n, e)
		})
	}
}

// referenceMoment evaluates s, which has nineteen bytes, as the document describes it.
func referenceMoment(days map[string]int, s string) (int, api.Errno) {
	day, dayError := referenceDay(days, s[:10])
	if dayError == api.ErrSyntax || s[10] != 'T' || s[13] != ':' || s[16] != ':' {
		return 0, api.ErrSyntax
	}
	for _, i := range []int{11, 12, 14, 15, 17, 18} {
		if !strings.Contains("0123456789", s[i:i+1]) {
			return 0, api.ErrSyntax
		}
	}
	if dayError != api.OK {
		return 0, api.ErrDate
	}
	u, err := time.Parse("15:04:05", s[11:])
	if err != nil {
		return 0, api.ErrTime
	}
	return day*86400 + u.Hour()*3600 + u.Minute()*60 + u.Second(), api.OK
}

// P2.9 (bijection)

func TestDayRoundTrips(t *testing.T) {
	for n := 0; n <= lastDay; n++ {
		y, m, d, _ := Civil(n)
		checkFromCivil(t, y, m, d, n, true)
		s, _ := Format(n)
		checkParse(t, s, n, api.OK)
	}
	for year := 1999; year <= 2100; year++ {
		for month := 0; month <= 13; month++ {
			for day := 0; day <= 32; day++ {
				if n, ok := FromCivil(year, month, day); ok {
					checkCivil(t, n, year, month, day, true)
				}
			}
		}
	}
}

func TestMomentRoundTrips(t *testing.T) {
	for n := 0; n <= lastMoment; n += 9973 {
		checkMomentRoundTrip(t, n)
	}
	for day := 0; day <= lastDay; day++ {
		for _, u := range []int{0, 1, 59, 60, 3599, 3600, 86399} {
			checkMomentRoundTrip(t, day*86400+u)
		}
	}
	for u := 0; u < 86400; u++ {
		checkMomentRoundTrip(t, lastDay*86400+u)
	}
}

func checkMomentRoundTrip(t *testing.T, n int) {
	t.Helper()
	s, e := FormatMoment(n)
	if e != api.OK {
		t.Errorf("FormatMoment(%d): %d", n, e)
	}
	checkParseMoment(t, s, n, api.OK)
	day, u, _ := Relative(n)
	checkAbsolute(t, day, u, n, true)
}

// TestAcceptedTexts checks that each accepted one of many texts is the text of its result.
func TestAcceptedTexts(t *testing.T) {
	years := []string{"1999", "2000", "2001", "2004", "2099", "2100", "02000", "200", "+200", "٢0"}
	parts := []string{"", "0", "00", "1", "01", "001", "02", "12", "13", "23", "24", "28", "29", "30", "31", "32", "59", "60", "-1", "+1", " 1", "1 "}
	accepted := 0
	for _, y := range years {
		for _, m := range parts {
			for _, d := range parts {
				accepted += checkAccepted(t, y+"-"+m+"-"+d)
				for _, c := range parts {
					accepted += checkAccepted(t, y+"-"+m+"-"+d+"T"+c+":00:59")
					accepted += checkAccepted(t, y+"-"+m+"-"+d+"T00:"+c+":00")
					accepted += checkAccepted(t, y+"-"+m+"-"+d+"T23:59:"+c)
				}
			}
		}
	}
	if accepted < 1000 {
		t.Errorf("only %d texts were accepted", accepted)
	}
}

// checkAccepted returns the number of functions that accept s.
func checkAccepted(t *testing.T, s string) int {
	t.Helper()
	accepted := 0
	if n, e := Parse(s); e == api.OK {
		accepted++
		if text, _ := Format(n); text != s {
			t.Errorf("Parse accepts %q, but the text of %d is %q", s, n, text)
		}
	}
	if n, e := ParseMoment(s); e == api.OK {
		accepted++
		if text, _ := FormatMoment(n); text != s {
			t.Errorf("ParseMoment accepts %q, but the text of %d is %q", s, n, text)
		}
	}
	return accepted
}

// P2.10 (weeks)

func TestWeeks(t *testing.T) {
	for n := 0; n <= lastDay; n++ {
		w, _ := Weekday(n)
		if w < 0 || w > 6 {
			t.Errorf("Weekday(%d) = %d", n, w)
		}
		if n+1 <= lastDay {
			checkWeekday(t, n+1, (w+1)%7, true)
		}
		if n+7 <= lastDay {
			checkWeekday(t, n+7, w, true)
		}
	}
}

// P2.11 (order)

func TestOrderOfDays(t *testing.T) {
	last := ""
	for n := 0; n <= lastDay; n++ {
		s, _ := Format(n)
		if s <= last {
			t.Errorf("the text of %d, %q, is not after %q", n, s, last)
		}
		last = s
	}
}

func TestOrderOfMoments(t *testing.T) {
	last := ""
	for n := 0; n <= lastMoment; n += 9973 {
		s, _ := FormatMoment(n)
		if s <= last {
			t.Errorf("the text of %d, %q, is not after %q", n, s, last)
		}
		last = s
	}
	last = ""
	for n := 3*86400 - 10; n < 5*86400; n++ {
		s, _ := FormatMoment(n)
		if s <= last {
			t.Errorf("the text of %d, %q, is not after %q", n, s, last)
		}
		last = s
	}
}
