package clock

import (
	"fmt"
	"math"
	"strings"
	"testing"

	"transit/api"
)

// outside are numbers that are neither times of day nor durations.
var outside = []int{-1, -2, -59, -60, -3600, -86400, -172800, 360000, 360001, 1 << 20, math.MinInt32, math.MaxInt32, math.MinInt, math.MinInt + 1, math.MaxInt - 1, math.MaxInt}

// wrapping are numbers whose product with 3600 or with 60 is 0, or a small number, modulo 2^64 or 2^32.
var wrapping = []int{1 << 28, 1 << 30, 1 << 32, 1 << 58, 1 << 60, 1 << 62, -1 << 60, math.MaxInt/3600 + 1, math.MaxInt/60 + 1, math.MaxInt/1800 + 1, 5124095576030431, 307445734561825861}

func checkParse(t *testing.T, s string, want int, e api.Errno) {
	t.Helper()
	if n, got := Parse(s); n != want || got != e {
		t.Errorf("Parse(%q) = %d, %d; want %d, %d", s, n, got, want, e)
	}
}

func checkParseDuration(t *testing.T, s string, want int, e api.Errno) {
	t.Helper()
	if n, got := ParseDuration(s); n != want || got != e {
		t.Errorf("ParseDuration(%.40q) = %d, %d; want %d, %d", s, n, got, want, e)
	}
}

// P1.1 (Valid, Split)

func TestValidAndSplitOfAllTimes(t *testing.T) {
	n := 0
	for h := 0; h <= 48; h++ {
		for m := 0; m < 60; m++ {
			for s := 0; s < 60 && n <= 172800; s++ {
				if !Valid(n) {
					t.Fatalf("Valid(%d) = false", n)
				}
				if a, b, c, ok := Split(n); a != h || b != m || c != s || !ok {
					t.Fatalf("Split(%d) = %d, %d, %d, %v; want %d, %d, %d, true", n, a, b, c, ok, h, m, s)
				}
				n++
			}
		}
	}
	if n != 172801 {
		t.Fatalf("%d times of day were checked", n)
	}
}

func TestValidAndSplitOfOtherNumbers(t *testing.T) {
	for _, n := range append([]int{172801, 172860, 176400}, outside...) {
		if Valid(n) {
			t.Errorf("Valid(%d) = true", n)
		}
		if h, m, s, ok := Split(n); h != 0 || m != 0 || s != 0 || ok {
			t.Errorf("Split(%d) = %d, %d, %d, %v; want 0, 0, 0, false", n, h, m, s, ok)
		}
	}
}

// P1.2 (Join)

func TestJoin(t *testing.T) {
	for _, c := range []struct{ h, m, s, want int }{
		{0, 0, 0, 0}, {0, 0, 1, 1}, {0, 0, 59, 59}, {0, 1, 0, 60}, {0, 59, 59, 3599}, {1, 0, 0, 3600},
		{8, 5, 30, 29130}, {23, 59, 59, 86399}, {24, 0, 0, 86400}, {26, 0, 0, 93600}, {47, 59, 59, 172799}, {48, 0, 0, 172800},
	} {
		if n, ok := Join(c.h, c.m, c.s); n != c.want || !ok {
			t.Errorf("Join(%d, %d, %d) = %d, %v; want %d, true", c.h, c.m, c.s, n, ok, c.want)
		}
	}
}

func checkNoJoin(t *testing.T, h, m, s int) {
	t.Helper()
	if n, ok := Join(h, m, s); n != 0 || ok {
		t.Errorf("Join(%d, %d, %d) = %d, %v; want 0, false", h, m, s, n, ok)
	}
}

func TestJoinOutsideRanges(t *testing.T) {
	for _, c := range [][3]int{
		{48, 0, 1}, {48, 1, 0}, {48, 59, 59}, {49, 0, 0}, {-1, 0, 0}, {0, -1, 0}, {0, 0, -1}, {0, 60, 0}, {0, 0, 60},
		{1, -1, 0}, {0, 1, -1}, {1, 0, -1}, {1, -60, 0}, {0, 1, -60}, {47, 60, 0}, {47, 59, 60}, {8, 60, 60}, {-1, 60, 0}, {49, -60, 0}, {0, 0, 172800},
	} {
		checkNoJoin(t, c[0], c[1], c[2])
	}
	for _, n := range append(wrapping, outside...) {
		for _, k := range []int{0, 1, 47} {
			checkNoJoin(t, n, k, k)
			checkNoJoin(t, k, n, k)
			checkNoJoin(t, k, k, n)
		}
		checkNoJoin(t, n, n, n)
	}
}

func TestJoinNearRanges(t *testing.T) {
	for h := -2; h <= 50; h++ {
		for m := -2; m <= 62; m++ {
			for s := -2; s <= 62; s++ {
				want, in := h*3600+m*60+s, h >= 0 && m >= 0 && m < 60 && s >= 0 && s < 60
				if !in || want > 172800 {
					checkNoJoin(t, h, m, s)
				} else if n, ok := Join(h, m, s); n != want || !ok {
					t.Errorf("Join(%d, %d, %d) = %d, %v; want %d, true", h, m, s, n, ok, want)
				}
			}
		}
	}
}

// P1.3 (Format)

func TestFormat(t *testing.T) {
	for n, want := range map[int]string{
		0: "00:00:00", 1: "00:00:01", 9: "00:00:09", 10: "00:00:10", 59: "00:00:59", 60: "00:01:00", 3599: "00:59:59", 3600: "01:00:00", 29100: "08:05:00",
		29130: "08:05:30", 35999: "09:59:59", 36000: "10:00:00", 86399: "23:59:59", 86400: "24:00:00", 93600: "26:00:00", 172799: "47:59:59", 172800: "48:00:00",
	} {
		if s, e := Format(n); s != want || e != api.OK {
			t.Errorf("Format(%d) = %q, %d; want %q, 0", n, s, e, want)
		}
	}
}

func TestFormatOfAllTimes(t *testing.T) {
	for n := 0; n <= 172800; n++ {
		want := fmt.Sprintf("%02d:%02d:%02d", n/3600, n/60%60, n%60)
		if s, e := Format(n); s != want || e != api.OK {
			t.Fatalf("Format(%d) = %q, %d; want %q, 0", n, s, e, want)
		}
	}
}

func TestFormatOfOtherNumbers(t *testing.T) {
	for _, n := range append([]int{172801, 172860, 176400}, outside...) {
		if s, e := Format(n); s != "" || e != api.ErrTime {
			t.Errorf("Format(%d) = %q, %d; want \"\", ErrTime", n, s, e)
		}
	}
}

// P1.4 (Parse)

func TestParse(t *testing.T) {
	for s, want := range map[string]int{
		"00:00:00": 0, "00:00:01": 1, "00:00:59": 59, "00:01:00": 60, "00:59:59": 3599, "01:00:00": 3600, "08:05:00": 29100, "08:05:30": 29130,
		"09:09:09": 32949, "19:28:37": 70117, "24:00:00": 86400, "26:00:00": 93600, "47:59:59": 172799, "48:00:00": 172800,
	} {
		checkParse(t, s, want, api.OK)
	}
}

func TestParseOfTimesOutsideRanges(t *testing.T) {
	for _, s := range []string{
		"48:00:01", "48:01:00", "48:59:59", "49:00:00", "99:00:00", "99:99:99", "08:60:00", "08:00:60", "08:99:00", "08:00:99",
		"00:60:00", "00:00:60", "47:59:60", "47:60:00", "48:60:00", "48:00:60", "00:61:61",
	} {
		checkParse(t, s, 0, api.ErrTime)
	}
}

func TestParseOfWrongForms(t *testing.T) {
	for _, s := range []string{
		"", "0", ":", "::", "00:00", "00:00:0", "0:00:00", "8:05:00", "08:5:00", "08:05:0", "008:05:00", "08:005:00", "08:05:000", "08:05:00 ", " 08:05:00", "08:05:00\n",
		"08.05.00", "08:05.00", "08.05:00", "08-05-00", "080:5:00", "08:050:0", "0805:000", "::::::::", "00000000", "08;05;00", "08/05/00",
		"-8:05:00", "+8:05:00", "08:-5:00", "08:05:-1", "08:05:+1", " 8:05:00", "08: 5:00", "08:05:a0", "0x:05:00", "08:0_:00", "1e:00:00",
		"99:60:x0", "x9:60:00", "99:9999:", "é8:05:00", "08:é5:00", "08:05:é", "08:é:00", "٠8:05:0", "08:05:٠", "08٠05:00", "\xff8:05:00", "08:05:0\x00", "08\xff05:00",
		"０8:05", "99999999", "99999999999999999999:00:00", "00:00:99999999999999999999", strings.Repeat("0", 1<<20), strings.Repeat("9", 1<<20) + ":00:00",
	} {
		checkParse(t, s, 0, api.ErrSyntax)
	}
}

// TestParseOfChangedBytes replaces each byte of a time by each byte.
func TestParseOfChangedBytes(t *testing.T) {
	for _, s := range []string{"00:00:00", "48:00:00", "19:59:59"} {
		for i := range s {
			for b := range 256 {
				changed := s[:i] + string([]byte{byte(b)}) + s[i+1:]
				n, e := referenceTime(changed)
				checkParse(t, changed, n, e)
			}
		}
	}
}

// referenceTime evaluates s, which has eight bytes, as the document describes it.
func referenceTime(s string) (int, api.Errno) {
	d := [8]int{}
	for i := range d {
		d[i] = int(s[i]) - '0'
		if i%3 == 2 && s[i] != ':' || i%3 != 2 && (d[i] < 0 || d[i] > 9) {
			return 0, api.ErrSyntax
		}
	}
	h, m, sec := d[0]*10+d[1], d[3]*10+d[4], d[6]*10+d[7]
	if m > 59 || sec > 59 || h*3600+m*60+sec > 172800 {
		return 0, api.ErrTime
	}
	return h*3600 + m*60 + sec, api.OK
}

// P1.5 (FormatDuration)

func TestFormatDuration(t *testing.T) {
	for n, want := range map[int]string{
		0: "0s", 1: "1s", 9: "9s", 10: "10s", 59: "59s", 60: "1m00s", 61: "1m01s", 300: "5m00s", 600: "10m00s", 3599: "59m59s", 3600: "1h00m00s", 3601: "1h00m01s", 3660: "1h01m00s",
		3930: "1h05m30s", 35999: "9h59m59s", 36000: "10h00m00s", 86400: "24h00m00s", 172800: "48h00m00s", 172801: "48h00m01s", 359998: "99h59m58s", 359999: "99h59m59s",
	} {
		if s, e := FormatDuration(n); s != want || e != api.OK {
			t.Errorf("FormatDuration(%d) = %q, %d; want %q, 0", n, s, e, want)
		}
	}
}

func referenceDuration(n int) string {
	switch {
	case n >= 3600:
		return fmt.Sprintf("%dh%02dm%02ds", n/3600, n/60%60, n%60)
	case n >= 60:
		return fmt.Sprintf("%dm%02ds", n/60, n%60)
	}
	return fmt.Sprintf("%ds", n)
}

func TestFormatDurationOfAllDurations(t *testing.T) {
	for n := 0; n <= 359999; n++ {
		want := referenceDuration(n)
		if s, e := FormatDuration(n); s != want || e != api.OK {
			t.Fatalf("FormatDuration(%d) = %q, %d; want %q, 0", n, s, e, want)
		}
	}
}

func TestFormatDurationOfOtherNumbers(t *testing.T) {
	for _, n := range outside {
		if s, e := FormatDuration(n); s != "" || e != api.ErrRange {
			t.Errorf("FormatDuration(%d) = %q, %d; want \"\", ErrRange", n, s, e)
		}
	}
}

// P1.6 (ParseDuration)

func TestParseDuration(t *testing.T) {
	for s, want := range map[string]int{
		"0s": 0, "1s": 1, "9s": 9, "10s": 10, "59s": 59, "1m00s": 60, "5m00s": 300, "10m01s": 601, "59m59s": 3599, "1h00m00s": 3600, "1h05m30s": 3930,
		"10h00m00s": 36000, "48h00m01s": 172801, "99h00m00s": 356400, "99h59m59s": 359999,
	} {
		checkParseDuration(t, s, want, api.OK)
	}
}

func TestParseDurationOfLargeNumbers(t *testing.T) {
	for _, s := range []string{
		"100h00m00s", "100h00m01s", "100h59m59s", "101h00m00s", "999h59m59s", "1000h00m00s",
		"596524h00m00s", "1193047h00m00s", "2562047788015215h30m07s", "2562047788015216h00m00s", "5124095576030431h00m15s", "5124095576030432h00m00s",
		"9223372036854775807h00m00s", "9223372036854775808h00m00s", "18446744073709551615h00m00s", "18446744073709551616h00m00s", "18446744073709551617h00m00s", "99999999999999999999h59m59s",
		"1" + strings.Repeat("0", 1<<20) + "h00m00s", strings.Repeat("9", 1<<20) + "h59m59s",
	} {
		checkParseDuration(t, s, 0, api.ErrRange)
	}
}

func TestParseDurationOfWrongForms(t *testing.T) {
	for _, s := range []string{
		"", "s", "m", "h", "ms", "hms", "0", "5", "m00s", "h00m00s", "1h", "1m", "1h00m", "1h00s", "1h00m00", "5m00", "1m0s", "1m1s", "1m000s", "1h0m00s", "1h00m0s", "1h000m00s", "1h00m000s", "1h05m30",
		"60s", "61s", "99s", "100s", "3600s", "90m00s", "60m00s", "100m00s", "1m60s", "5m99s", "1h60m00s", "1h00m60s", "1h99m99s", "100h60m00s", "100h00m60s", "100h0m00s", "100h00m0s",
		"00s", "01s", "05s", "000s", "0m00s", "0m05s", "00m00s", "01m00s", "05m00s", "0h00m00s", "0h05m30s", "00h00m00s", "01h05m30s", "010h00m00s", "0100h00m00s", "000000000000000000000100h00m00s",
		"-1s", "+1s", "-0s", "-5m00s", "5m-1s", "5m+1s", "-1h05m30s", "1h-5m30s", "1h05m-3s", " 1s", "1s ", "1 s", "5m 0s", "5 m00s", "1h 5m30s", "1s\n",
		"1S", "5M00s", "1H05m30s", "1h05M30s", "1m05h30s", "1s05m", "1s00s", "1m00m00s", "1h00h00s", "1h1h00m00s", "1h00m00m00s", "5m00ss", "1h00m00ss", "1h00m:0s", "5:00s", "1:05:30",
		"as", "1as", "a1s", "0x1s", "1.5s", "1,5s", "1_0s", "am00s", "5ma0s", "5m0as", "ah00m00s", "1ah00m00s", "1hx0m00s", "1h0xm00s", "1h00mx0s", "1h00m0xs",
		"é", "és", "٣s", "٣m00s", "5m٣s", "1h٣m00s", "1h00m٣s", "٣h00m00s", "\xffs", "1\xffs", "5m\xff0s", "5m\x000s", "\x00s",
		"99999999999999999999s", "99999999999999999999m00s", "1m99999999999999999999s", "1h99999999999999999999m00s", "18446744073709551617s", "18446744073709551617m00s", "18446744073709551616s",
		strings.Repeat("9", 1<<20) + "s", strings.Repeat("9", 1<<20) + "m00s", strings.Repeat("0", 1<<20) + "h00m00s", strings.Repeat("9", 1<<20) + "xh00m00s", strings.Repeat("9", 1<<20) + "h60m00s", strings.Repeat("1h", 1<<20) + "00m00s",
	} {
		checkParseDuration(t, s, 0, api.ErrSyntax)
	}
}

// TestParseDurationOfAllShortTexts checks that exactly the texts of durations are accepted, up to a length with which no text is one of a larger number.
func TestParseDurationOfAllShortTexts(t *testing.T) {
	texts := map[string]int{}
	for n := 0; n <= 359999; n++ {
		texts[referenceDuration(n)] = n
	}
	var visit func(s string)
	visit = func(s string) {
		if n, ok := texts[s]; ok {
			checkParseDuration(t, s, n, api.OK)
		} else {
			checkParseDuration(t, s, 0, api.ErrSyntax)
		}
		if len(s) < 6 {
			for _, c := range []string{"0", "1", "5", "6", "9", "h", "m", "s", "-"} {
				visit(s + c)
			}
		}
	}
	visit("")
}

// TestParseDurationOfChangedBytes replaces each byte of a duration by each byte.
func TestParseDurationOfChangedBytes(t *testing.T) {
	texts := map[string]int{}
	for n := 0; n <= 359999; n++ {
		texts[referenceDuration(n)] = n
	}
	for _, s := range []string{"0s", "5s", "59s", "1m00s", "59m59s", "1h00m00s", "10h05m30s", "99h59m59s"} {
		for i := range s {
			for b := range 256 {
				changed := s[:i] + string([]byte{byte(b)}) + s[i+1:]
				if n, ok := texts[changed]; ok {
					checkParseDuration(t, changed, n, api.OK)
				} else {
					checkParseDuration(t, changed, 0, api.ErrSyntax)
				}
			}
		}
	}
}

// P1.7 (round trips)

func TestTimeRoundTrips(t *testing.T) {
	for n := 0; n <= 172800; n++ {
		s, _ := Format(n)
		if k, e := Parse(s); k != n || e != api.OK {
			t.Fatalf("Parse(%q) = %d, %d; want %d, 0", s, k, e, n)
		}
		h, m, sec, _ := Split(n)
		if k, ok := Join(h, m, sec); k != n || !ok {
			t.Fatalf("Join(%d, %d, %d) = %d, %v; want %d, true", h, m, sec, k, ok, n)
		}
	}
}

func TestDurationRoundTrips(t *testing.T) {
	for n := 0; n <= 359999; n++ {
		s, _ := FormatDuration(n)
		if k, e := ParseDuration(s); k != n || e != api.OK {
			t.Fatalf("ParseDuration(%q) = %d, %d; want %d, 0", s, k, e, n)
		}
	}
}

// TestAcceptedTexts checks that each accepted one of many texts is the text of its result.
func TestAcceptedTexts(t *testing.T) {
	numbers := []string{"", "0", "00", "000", "1", "01", "001", "5", "05", "9", "09", "10", "47", "48", "49", "59", "059", "60", "99", "100", "-1", "+1", " 1", "1 "}
	for _, a := range numbers {
		checkAccepted(t, a+"s")
		for _, b := range numbers {
			checkAccepted(t, a+"m"+b+"s")
			for _, c := range numbers {
				checkAccepted(t, a+":"+b+":"+c)
				checkAccepted(t, a+"h"+b+"m"+c+"s")
			}
		}
	}
}

func checkAccepted(t *testing.T, s string) {
	t.Helper()
	if n, e := Parse(s); e == api.OK {
		if text, _ := Format(n); text != s {
			t.Errorf("Parse accepts %q, but the text of %d is %q", s, n, text)
		}
	}
	if n, e := ParseDuration(s); e == api.OK {
		if text, _ := FormatDuration(n); text != s {
			t.Errorf("ParseDuration accepts %q, but the text of %d is %q", s, n, text)
		}
	}
}

// P1.8 (order)

func TestOrder(t *testing.T) {
	last := ""
	for n := 0; n <= 172800; n++ {
		s, _ := Format(n)
		if s <= last {
			t.Fatalf("the text of %d, %q, is not after %q", n, s, last)
		}
		last = s
	}
}
