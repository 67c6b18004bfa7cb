package feed

import (
	"transit/api"
	"transit/clock"
	"transit/date"
	"transit/number"
	"transit/route"
)

// reader reads the fields of a record one after another. It keeps the first error, so that a record can be read as a whole before its error is looked at.
type reader struct {
	// rest has the fields that have not been read yet.
	rest []string
	err  api.Errno
}

// require keeps the error e if a condition does not hold and there is no earlier error.
func (r *reader) require(ok bool, e api.Errno) {
	if !ok && r.err == api.OK {
		r.err = e
	}
}

// kept returns a value, and keeps the error of the function that read it.
func (r *reader) kept(value int, e api.Errno) int {
	r.require(e == api.OK, e)
	return value
}

// expect requires that there are n more fields.
func (r *reader) expect(n int) {
	r.require(len(r.rest) == n, api.ErrArgument)
}

// text returns the next field.
func (r *reader) text() string {
	// A record with too few fields has an error already; what is read from it has no meaning.
	if len(r.rest) == 0 {
		return ""
	}
	s := r.rest[0]
	r.rest = r.rest[1:]
	return s
}

// number reads a number.
func (r *reader) number() int {
	return r.kept(number.Parse(r.text()))
}

// time reads a time of day.
func (r *reader) time() int {
	return r.kept(clock.Parse(r.text()))
}

// duration reads a duration.
func (r *reader) duration() int {
	return r.kept(clock.ParseDuration(r.text()))
}

// day reads a day.
func (r *reader) day() int {
	return r.kept(date.Parse(r.text()))
}

// price reads a price.
func (r *reader) price() int {
	return r.kept(number.ParsePrice(r.text()))
}

// modes reads a set of modes.
func (r *reader) modes() int {
	return r.kept(route.ParseModes(r.text()))
}

// mode reads the name of a mode.
func (r *reader) mode() int {
	mode, ok := route.ParseMode(r.text())
	r.require(ok, api.ErrSyntax)
	return mode
}

// flag reads yes or no.
func (r *reader) flag() bool {
	return r.isFirst(yes, no)
}

// addition reads added or removed.
func (r *reader) addition() bool {
	return r.isFirst(added, removed)
}

// isFirst reads one of two words, and reports whether it is the first one.
func (r *reader) isFirst(first, second string) bool {
	s := r.text()
	r.require(s == first || s == second, api.ErrSyntax)
	return s == first
}

// week reads the weekdays of a calendar.
func (r *reader) week() [7]bool {
	var week [7]bool
	s := r.text()
	if len(s) != len(week) {
		r.require(false, api.ErrSyntax)
		return week
	}
	for i := range week {
		r.require(s[i] == active || s[i] == inactive, api.ErrSyntax)
		week[i] = s[i] == active
	}
	return week
}

// permission reads whether passengers may board, and whether they may alight.
func (r *reader) permission() (bool, bool) {
	s := r.text()
	r.require(s == both || s == board || s == alight || s == none, api.ErrSyntax)
	return s == both || s == board, s == both || s == alight
}

// reference reads the ID of one of the entities that have been found so far, and returns its index.
func (r *reader) reference(found indices) int {
	i, ok := found[r.text()]
	r.require(ok, api.ErrReference)
	return i
}
