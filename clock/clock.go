// Package clock converts times of day and durations between numbers of seconds and text.
package clock

import (
	"strconv"
	"strings"

	"transit/api"
)

const (
	minuteLength = 60
	hourLength   = 3600
	maxHour      = api.MaxTime / hourLength
	maxDuration  = 359999
	// The number of digits of the hours of maxDuration.
	maxHourDigits = 2
)

// Valid reports whether t is a time of day.
func Valid(t int) bool {
	return t >= 0 && t <= api.MaxTime
}

// Split returns the hours, minutes and seconds of the time of day t.
func Split(t int) (int, int, int, bool) {
	if !Valid(t) {
		return 0, 0, 0, false
	}
	h, m, s := divide(t)
	return h, m, s, true
}

// Join returns the time of day with these hours, minutes and seconds.
func Join(h int, m int, s int) (int, bool) {
	// The ranges come first: arbitrary numbers could overflow to a valid time.
	if h < 0 || h > maxHour || !isSixtieth(m) || !isSixtieth(s) {
		return 0, false
	}
	t := combine(h, m, s)
	if !Valid(t) {
		return 0, false
	}
	return t, true
}

// Format returns the text HH:MM:SS of the time of day t.
func Format(t int) (string, api.Errno) {
	h, m, s, ok := Split(t)
	if !ok {
		return "", api.ErrTime
	}
	return concat(twoDigits(h), ":", twoDigits(m), ":", twoDigits(s)), api.OK
}

// Parse returns the time of day with the text s.
func Parse(s string) (int, api.Errno) {
	if !hasTimeForm(s) {
		return 0, api.ErrSyntax
	}
	t, ok := Join(value(s[0:2]), value(s[3:5]), value(s[6:8]))
	if !ok {
		return 0, api.ErrTime
	}
	return t, api.OK
}

// FormatDuration returns the text of the duration n, such as 1h05m30s.
func FormatDuration(n int) (string, api.Errno) {
	if n < 0 || n > maxDuration {
		return "", api.ErrRange
	}
	h, m, s := divide(n)
	switch {
	case h > 0:
		return concat(strconv.Itoa(h), "h", twoDigits(m), "m", twoDigits(s), "s"), api.OK
	case m > 0:
		return concat(strconv.Itoa(m), "m", twoDigits(s), "s"), api.OK
	}
	return concat(strconv.Itoa(s), "s"), api.OK
}

// ParseDuration returns the duration with the text s.
func ParseDuration(s string) (int, api.Errno) {
	rest, ok := strings.CutSuffix(s, "s")
	if !ok {
		return 0, api.ErrSyntax
	}
	if hours, tail, found := strings.Cut(rest, "h"); found {
		return parseHours(hours, tail)
	}
	if minutes, seconds, found := strings.Cut(rest, "m"); found {
		return parseMinutes(minutes, seconds)
	}
	if rest == "0" {
		return 0, api.OK
	}
	n, ok := firstSixtieth(rest)
	if !ok {
		return 0, api.ErrSyntax
	}
	return n, api.OK
}

// parseHours evaluates a text that was cut into hours + "h" + tail + "s".
func parseHours(hours, tail string) (int, api.Errno) {
	minutes, seconds, found := strings.Cut(tail, "m")
	m, mok := laterSixtieth(minutes)
	s, sok := laterSixtieth(seconds)
	if !found || !mok || !sok || !isPositive(hours) {
		return 0, api.ErrSyntax
	}
	// The value of hours with more digits could overflow.
	if len(hours) > maxHourDigits {
		return 0, api.ErrRange
	}
	return combine(value(hours), m, s), api.OK
}

// parseMinutes evaluates a text that was cut into minutes + "m" + seconds + "s".
func parseMinutes(minutes, seconds string) (int, api.Errno) {
	m, mok := firstSixtieth(minutes)
	s, sok := laterSixtieth(seconds)
	if !mok || !sok {
		return 0, api.ErrSyntax
	}
	return combine(0, m, s), api.OK
}

// divide returns the hours, minutes and seconds of n seconds.
func divide(n int) (int, int, int) {
	return n / hourLength, n % hourLength / minuteLength, n % minuteLength
}

// combine is the inverse of divide.
func combine(h, m, s int) int {
	return h*hourLength + m*minuteLength + s
}

// isSixtieth reports whether n is possible as the minutes of an hour, or the seconds of a minute.
func isSixtieth(n int) bool {
	return n >= 0 && n < minuteLength
}

// concat joins the parts of a text.
func concat(parts ...string) string {
	return strings.Join(parts, "")
}

// twoDigits returns the text of n, which is from 0 to 99, with two digits.
func twoDigits(n int) string {
	return concat(strconv.Itoa(n/10), strconv.Itoa(n%10))
}

// hasTimeForm reports whether s has the form HH:MM:SS, with any digits.
func hasTimeForm(s string) bool {
	if len(s) != 8 {
		return false
	}
	for i, r := range s {
		switch i {
		case 2, 5:
			if r != ':' {
				return false
			}
		default:
			if !isDigit(r) {
				return false
			}
		}
	}
	return true
}

// firstSixtieth returns the positive minutes or seconds with which the text of a duration begins.
func firstSixtieth(s string) (int, bool) {
	if !isPositive(s) || len(s) > 2 || !isSixtieth(value(s)) {
		return 0, false
	}
	return value(s), true
}

// laterSixtieth returns the minutes or seconds that follow another number in the text of a duration.
func laterSixtieth(s string) (int, bool) {
	if len(s) != 2 || !allDigits(s) || !isSixtieth(value(s)) {
		return 0, false
	}
	return value(s), true
}

// isPositive reports whether s is a positive number without leading zeros, of any length.
func isPositive(s string) bool {
	return s != "" && s[0] != '0' && allDigits(s)
}

// allDigits reports whether all bytes of s are decimal digits.
func allDigits(s string) bool {
	for _, r := range s {
		if !isDigit(r) {
			return false
		}
	}
	return true
}

// isDigit reports whether r is a decimal digit.
func isDigit(r rune) bool {
	return r >= '0' && r <= '9'
}

// value returns the number that the digits of s denote.
func value(s string) int {
	n := 0
	for _, r := range s {
		n = n*10 + int(r-'0')
	}
	return n
}
