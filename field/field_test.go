package field

import (
	"bytes"
	"fmt"
	"regexp"
	"slices"
	"strings"
	"testing"

	"transit/api"
)

// The limits as the document states them.
const (
	mostFields = 64
	mostBytes  = 65536
)

// The forms and the extent of a field as the chapter defines them, for texts in which each byte is a rune.
var (
	plainForm    = regexp.MustCompile(`\A[^\x00- ,"\\\x7f]([^\x00-\x1f,"\\\x7f]*[^\x00- ,"\\\x7f])?\z`)
	enclosedForm = regexp.MustCompile(`\A"([^\x00-\x1f"\\\x7f]|\\["\\]|\\x[01][0-9a-f]|\\x7f)*"\z`)
	escapedByte  = regexp.MustCompile(`\\x[01][0-9a-f]|\\x7f|\\["\\]`)
	fieldExtent  = regexp.MustCompile(`\A(?s:"(?:[^"\\]|\\.)*(?:"|\\?\z)|[^,"][^,]*|)`)
)

// spread returns s with a rune for each byte.
func spread(s string) string {
	var runes []rune
	for _, b := range []byte(s) {
		runes = append(runes, rune(b))
	}
	return string(runes)
}

// narrow is the inverse of spread.
func narrow(s string) string {
	var list []byte
	for _, r := range s {
		list = append(list, byte(r))
	}
	return string(list)
}

// wantForm returns the form of s as the chapter defines it.
func wantForm(s string) string {
	if plainForm.MatchString(spread(s)) {
		return s
	}
	form := `"`
	for _, b := range []byte(s) {
		switch {
		case b == '"':
			form += `\"`
		case b == '\\':
			form += `\\`
		case b <= 31 || b == 127:
			form += fmt.Sprintf(`\x%02x`, b)
		default:
			form += string([]byte{b})
		}
	}
	return form + `"`
}

// wantString returns the string whose form is form, if there is one.
func wantString(form string) (string, bool) {
	wide := spread(form)
	if plainForm.MatchString(wide) {
		return form, true
	}
	if !enclosedForm.MatchString(wide) {
		return "", false
	}
	wide = escapedByte.ReplaceAllStringFunc(wide[1:len(wide)-1], func(s string) string {
		if s[1] != 'x' {
			return s[1:]
		}
		var b byte
		fmt.Sscanf(s[2:], "%02x", &b)
		return string([]byte{b})
	})
	if plainForm.MatchString(wide) {
		return "", false
	}
	return narrow(wide), true
}

// wantFields returns what Split must return for a line of at most mostBytes bytes.
func wantFields(line string) ([]string, api.Errno) {
	wide := spread(line)
	var l []string
	for wide != "" || len(l) > 0 {
		length := len(fieldExtent.FindString(wide))
		s, ok := wantString(narrow(wide[:length]))
		wide = wide[length:]
		l = append(l, s)
		switch {
		case !ok:
			return nil, api.ErrSyntax
		case wide == "":
			return l, api.OK
		case wide[0] != ',':
			return nil, api.ErrSyntax
		case len(l) == mostFields:
			return nil, api.ErrLimit
		}
		wide = wide[1:]
	}
	return nil, api.OK
}

// words returns all words of up to length letters of the alphabet, whose letters are bytes.
func words(alphabet string, length int) []string {
	list := []string{""}
	for from := 0; length > 0; length-- {
		to := len(list)
		for _, w := range list[from:to] {
			for i := range len(alphabet) {
				list = append(list, w+alphabet[i:i+1])
			}
		}
		from = to
	}
	return list
}

// allBytes returns the 256 bytes in ascending order.
func allBytes() string {
	var list []byte
	for b := range 256 {
		list = append(list, byte(b))
	}
	return string(list)
}

// strangeStrings returns strings of many kinds.
func strangeStrings() []string {
	return append(words(" a,\"\\x\n\x7f\x80", 4),
		allBytes(), strings.Repeat(allBytes(), 3), allBytes()[32:127], allBytes()[128:], allBytes()[:32],
		"Zürich HB", "é", " é", "é ", "東京", "\u00a0", "\u2028", "\u3000", "\xc0\xac", "\xe2\x82", "\xff\xfe", "\xc3,", "\xc3\"", "\xc3\\", "\xc3\n",
		"Main St. / 5th Ave.", "a, b", `say "hi"`, `C:\dir\x0a`, `\x0a`, `\x41`, `""`, `","`, `"a"`, "a\r\n", "tab\there", "\x1f", "\x00", "a\x00b",
		strings.Repeat(" ", 100), strings.Repeat("a", 1000), strings.Repeat(`"`, 1000), strings.Repeat(`\`, 999), strings.Repeat(",", 1000), strings.Repeat("\n", 1000), strings.Repeat("a ", 500), strings.Repeat(" a", 500))
}

// lists returns lists of up to three strings, with those that need double quotes and those that do not.
func lists() [][]string {
	var parts []string
	for _, s := range []string{"", "A", "b c", " ", " a", "a ", ",", ",,", "a,b", `"`, `\`, `\"`, "\n", "\x1f", "\x7f", "\x80", "\xff", "x0a", `\x0a`} {
		parts = append(parts, s)
	}
	l := [][]string{nil}
	for _, a := range parts {
		l = append(l, []string{a})
		for _, b := range parts {
			l = append(l, []string{a, b})
			for _, c := range parts {
				l = append(l, []string{a, b, c})
			}
		}
	}
	return l
}

func checkQuote(t *testing.T, s, want string) {
	t.Helper()
	if got := Quote(s); got != want {
		t.Errorf("Quote(%.60q) = %.60q; want %.60q", s, got, want)
	}
}

func checkUnquote(t *testing.T, form, want string, e api.Errno) {
	t.Helper()
	if s, got := Unquote(form); s != want || got != e {
		t.Errorf("Unquote(%.60q) = %.60q, %d; want %.60q, %d", form, s, got, want, e)
	}
}

func checkJoin(t *testing.T, l []string, want string, e api.Errno) {
	t.Helper()
	if line, got := Join(l); line != want || got != e {
		t.Errorf("Join(%.60q) of %d strings = %.60q of %d bytes, %d; want %.60q of %d bytes, %d", l, len(l), line, len(line), got, want, len(want), e)
	}
}

func checkSplit(t *testing.T, line string, want []string, e api.Errno) {
	t.Helper()
	if l, got := Split(line); !slices.Equal(l, want) || got != e {
		t.Errorf("Split(%.60q) = %.60q, %d; want %.60q, %d", line, l, got, want, e)
	}
}

func checkLines(t *testing.T, text string, want []string, e api.Errno) {
	t.Helper()
	if l, got := Lines(text); !slices.Equal(l, want) || got != e {
		t.Errorf("Lines(%.60q) = %d lines, %d; want %d lines, %d", text, len(l), got, len(want), e)
	}
}

func checkText(t *testing.T, lines []string, want string, e api.Errno) {
	t.Helper()
	if text, got := Text(lines); text != want || got != e {
		t.Errorf("Text(%d lines) = %.60q of %d bytes, %d; want %.60q of %d bytes, %d", len(lines), text, len(text), got, want, len(want), e)
	}
}

// P4.1 (Quote)

// forms maps strings to their forms.
var forms = map[string]string{
	"a": "a", "a b": "a b", "a  b": "a  b", "08:00:00": "08:00:00", "-5": "-5", "'": "'", "x0a": "x0a", "/": "/", "!": "!", "~": "~", ".": ".", "#": "#", "[": "[", "]": "]", "+": "+", "-": "-",
	"\x80": "\x80", "\xff": "\xff", "a\x80": "a\x80", "\x80 \xff": "\x80 \xff", "é": "é", "Zürich HB": "Zürich HB", "\u00a0": "\u00a0",
	"": `""`, " ": `" "`, "  ": `"  "`, " a": `" a"`, "a ": `"a "`, " a ": `" a "`,
	",": `","`, "a,b": `"a,b"`, ",a": `",a"`, "a,": `"a,"`, "\x80,": "\"\x80,\"",
	`"`: `"\""`, `\`: `"\\"`, `"\`: `"\"\\"`, `a"b`: `"a\"b"`, `a\b`: `"a\\b"`, `"a"`: `"\"a\""`, `\x0a`: `"\\x0a"`, `\"`: `"\\\""`, `\\`: `"\\\\"`,
	"\x00": `"\x00"`, "\x01": `"\x01"`, "\t": `"\x09"`, "\n": `"\x0a"`, "\r": `"\x0d"`, "\x0f": `"\x0f"`, "\x10": `"\x10"`, "\x1a": `"\x1a"`, "\x1f": `"\x1f"`, "\x7f": `"\x7f"`,
	"a\n": `"a\x0a"`, "\na": `"\x0aa"`, "a\nb": `"a\x0ab"`, "a\x7fb": `"a\x7fb"`, "\x7f\x80\xff": "\"\\x7f\x80\xff\"", " \x1f ": `" \x1f "`, "\x0041": `"\x0041"`,
}

func TestQuote(t *testing.T) {
	for s, form := range forms {
		checkQuote(t, s, form)
	}
}

func TestQuoteAgainstDefinition(t *testing.T) {
	for _, s := range append(strangeStrings(), words(allBytes(), 2)...) {
		checkQuote(t, s, wantForm(s))
	}
	for b := range 256 {
		for _, pattern := range []string{"a?", "?a", "a?b", " ?", "? ", "?,", "??", "\x80?\x80"} {
			s := strings.ReplaceAll(pattern, "?", string([]byte{byte(b)}))
			checkQuote(t, s, wantForm(s))
		}
	}
}

// Quote has no limit.
func TestQuoteLong(t *testing.T) {
	checkQuote(t, strings.Repeat("a", 3*mostBytes), strings.Repeat("a", 3*mostBytes))
	checkQuote(t, strings.Repeat("\n", mostBytes+1), `"`+strings.Repeat(`\x0a`, mostBytes+1)+`"`)
	checkQuote(t, strings.Repeat("a ", mostBytes), `"`+strings.Repeat("a ", mostBytes)+`"`)
}

// P4.2 (Unquote)

func TestUnquote(t *testing.T) {
	for s, form := range forms {
		checkUnquote(t, form, s, api.OK)
	}
}

func TestUnquoteInvalid(t *testing.T) {
	for _, form := range []string{
		"", " ", "  ", " a", "a ", " a ", ",", "a,", ",a", "a,b", "a\\", `\`, `\\`, `\x0a`, `\"`, "\n", "a\n", "\x00", "a\x00b", "\x1f", "\x7f", "a\x7f", "\x80\x1f", "a\tb",
		`"`, `"a`, `a"`, `a"b`, `" `, `" a`, `a "`, `"a b`, `",`, `"a,b`, `"\"`, `"\\\"`, `"a\"`, `"\`, `"\x`, `"\x0`, `"\x0a`, `"\x0a\"`,
		`"a"`, `"a b"`, `"A"`, `"x0a"`, "\"\x80\"", "\"\xff\"", `"é"`, `"0"`, `"!"`, `"'"`,
		`"""`, `""""`, `"a"b"`, `","x`, `",""`, `"","`, `" " "`, `"""a"`, `""a`, `"" `, ` ""`, `"",""`, `",",a`, `" a"b`, `" a" `, `" a""b "`,
		`"\x0A"`, `"\x0B"`, `"\x1A"`, `"\x1F"`, `"\x7F"`, `"\X0a"`, `"\X00"`, `"\x0a\x0A"`,
		`"\x20"`, `"\x2c"`, `"\x22"`, `"\x5c"`, `"\x41"`, `"\x61"`, `"\x7e"`, `"\x80"`, `"\xff"`, `"\x20a"`, `",\x41"`, `" \x80"`, `"\x21,"`,
		`"\n"`, `"\t"`, `"\r"`, `"\0"`, `"\a"`, `"\ "`, `"\,"`, `"\/"`, `"\'"`, `",\n"`, `"\u000a"`, `"\12"`, "\"\\\n\"", "\"\\\x80,\"", `" \a"`,
		`"\x"`, `"\x0"`, `"\xa"`, `"\x "`, `"\x0 "`, `"\x0g"`, `"\xg0"`, `"\x0\"`, `"\x\"`, `"\x\\"`, `"\x0x"`, `"\x-1"`, `"\x+1"`, `"\x0_"`, `",\x"`, `",\x0"`, `",\x1g,"`, "\"\\x0\x80\"", `"\x 0"`, `"\x00x"\`, `"\x/0"`, `"\x:0"`, "\"\\x0`\"", "\"\\x0/\"", "\"\\x0:\"", `"\x0@"`,
		"\"\n\"", "\"\x00\"", "\"\x1f\"", "\"\x7f\"", "\",\n\"", "\" a\t\"", "\"\\x0a\x0a\"",
		`'a"`, "`,`", `',`, strings.Repeat(`"`, 1000), strings.Repeat(`\`, 1000), `"` + strings.Repeat("a", mostBytes) + `"`, `"` + strings.Repeat(`\\`, 1000) + `\"`, `"` + strings.Repeat("a ", 1000), strings.Repeat("a,", 1000) + "a",
	} {
		checkUnquote(t, form, "", api.ErrSyntax)
	}
}

func TestUnquoteAgainstDefinition(t *testing.T) {
	list := append(strangeStrings(), words(allBytes(), 2)...)
	for _, s := range append(words(` a,"\x01fF`+"\n", 5), words(`"\x017f`, 6)...) {
		list = append(list, s, `"`+s+`"`)
	}
	for b := range 256 {
		for _, pattern := range []string{`"?"`, `"?,"`, `",?"`, `"\?"`, `"\?,"`, `"\x?0"`, `"\x0?"`, `"\x1?"`, `"\x7?"`, `"\x?f"`, `"\?00"`, `",",?`, `","?`, `?","`, `a?`, `?a`, `a?a`} {
			list = append(list, strings.ReplaceAll(pattern, "?", string([]byte{byte(b)})))
		}
		list = append(list, fmt.Sprintf(`"\x%02x"`, b), fmt.Sprintf(`"\x%02X"`, b), fmt.Sprintf(`" \x%02x"`, b))
	}
	for _, form := range list {
		if s, ok := wantString(form); ok {
			checkUnquote(t, form, s, api.OK)
		} else {
			checkUnquote(t, form, "", api.ErrSyntax)
		}
	}
}

// Unquote has no limit.
func TestUnquoteLong(t *testing.T) {
	checkUnquote(t, strings.Repeat("a", 3*mostBytes), strings.Repeat("a", 3*mostBytes), api.OK)
	checkUnquote(t, `"`+strings.Repeat(`\x7f`, mostBytes)+`"`, strings.Repeat("\x7f", mostBytes), api.OK)
	checkUnquote(t, `"`+strings.Repeat(`,`, 2*mostBytes), "", api.ErrSyntax)
}

// P4.3 (Join)

func TestJoin(t *testing.T) {
	for _, c := range []struct {
		l    []string
		line string
	}{
		{nil, ""}, {[]string{}, ""}, {[]string{""}, `""`}, {[]string{"A"}, "A"}, {[]string{" "}, `" "`}, {[]string{","}, `","`},
		{[]string{"A", ","}, `A,","`}, {[]string{"", ""}, `"",""`}, {[]string{"a", ""}, `a,""`}, {[]string{"", "a"}, `"",a`}, {[]string{"a", "b", "c"}, "a,b,c"},
		{[]string{"stop", "Zürich HB", "3"}, "stop,Zürich HB,3"}, {[]string{"a\n", `"`, `\`, " b"}, `"a\x0a","\"","\\"," b"`}, {[]string{"a,b", "c"}, `"a,b",c`}, {[]string{"\xff", "\x7f"}, "\xff," + `"\x7f"`},
	} {
		checkJoin(t, c.l, c.line, api.OK)
	}
}

func TestJoinAgainstDefinition(t *testing.T) {
	for _, l := range lists() {
		line := ""
		for i, s := range l {
			if i > 0 {
				line += ","
			}
			line += wantForm(s)
		}
		checkJoin(t, l, line, api.OK)
	}
}

func TestJoinCount(t *testing.T) {
	for _, s := range []string{"a", "", ","} {
		form := wantForm(s)
		for _, n := range []int{2, 3, 10, mostFields - 1, mostFields} {
			checkJoin(t, slices.Repeat([]string{s}, n), strings.Repeat(form+",", n-1)+form, api.OK)
		}
		for _, n := range []int{mostFields + 1, mostFields + 2, 2 * mostFields, 100000} {
			checkJoin(t, slices.Repeat([]string{s}, n), "", api.ErrLimit)
		}
	}
}

func TestJoinLength(t *testing.T) {
	full := strings.Repeat("a", mostBytes)
	checkJoin(t, []string{full[1:]}, full[1:], api.OK)
	checkJoin(t, []string{full}, full, api.OK)
	checkJoin(t, []string{full + "a"}, "", api.ErrLimit)
	checkJoin(t, []string{strings.Repeat(full, 100)}, "", api.ErrLimit)
	// The comma between the fields counts.
	checkJoin(t, []string{full[2:], "b"}, full[2:]+",b", api.OK)
	checkJoin(t, []string{full[1:], "b"}, "", api.ErrLimit)
	checkJoin(t, []string{"b", full[2:]}, "b,"+full[2:], api.OK)
	checkJoin(t, []string{"b", full[1:]}, "", api.ErrLimit)
	checkJoin(t, []string{"b", full}, "", api.ErrLimit)
	// So do the double quotes and what escapes add.
	checkJoin(t, []string{" " + full[3:]}, `" `+full[3:]+`"`, api.OK)
	checkJoin(t, []string{" " + full[2:]}, "", api.ErrLimit)
	checkJoin(t, []string{full, ""}, "", api.ErrLimit)
	checkJoin(t, []string{full[3:], ""}, full[3:]+`,""`, api.OK)
	checkJoin(t, []string{full[2:], ""}, "", api.ErrLimit)
	checkJoin(t, []string{strings.Repeat("\n", mostBytes/4-1) + full[:2]}, `"`+strings.Repeat(`\x0a`, mostBytes/4-1)+full[:2]+`"`, api.OK)
	checkJoin(t, []string{strings.Repeat("\n", mostBytes/4-1) + full[:3]}, "", api.ErrLimit)
	checkJoin(t, []string{strings.Repeat("\n", mostBytes)}, "", api.ErrLimit)
	checkJoin(t, []string{strings.Repeat(`"`, mostBytes/2-1)}, `"`+strings.Repeat(`\"`, mostBytes/2-1)+`"`, api.OK)
	checkJoin(t, []string{strings.Repeat(`"`, mostBytes/2)}, "", api.ErrLimit)
	// Many fields that fit one by one.
	part := full[:mostBytes/mostFields-1]
	most := slices.Repeat([]string{part}, mostFields)
	checkJoin(t, most, strings.Repeat(part+",", mostFields-1)+part, api.OK)
	most[5] += "bc"
	checkJoin(t, most, "", api.ErrLimit)
	checkJoin(t, slices.Repeat([]string{full}, mostFields), "", api.ErrLimit)
	checkJoin(t, slices.Repeat([]string{full}, mostFields+1), "", api.ErrLimit)
}

// P4.4 (Split)

func TestSplit(t *testing.T) {
	for _, c := range []struct {
		line string
		l    []string
	}{
		{"", nil}, {"a", []string{"a"}}, {`""`, []string{""}}, {`"",""`, []string{"", ""}}, {"a b,c", []string{"a b", "c"}}, {`A,","`, []string{"A", ","}}, {`A,",",b c`, []string{"A", ",", "b c"}},
		{`" a,",b`, []string{" a,", "b"}}, {`"\"",a`, []string{`"`, "a"}}, {`"\\",a`, []string{`\`, "a"}}, {`"\\\"",a`, []string{`\"`, "a"}}, {`"\\\\",a`, []string{`\\`, "a"}}, {`"\",\"",","`, []string{`","`, ","}}, {`"a\x0a",b`, []string{"a\n", "b"}},
		{"\x80,\xff", []string{"\x80", "\xff"}}, {`"\x1f","\x7f"`, []string{"\x1f", "\x7f"}}, {"stop,Zürich HB,3", []string{"stop", "Zürich HB", "3"}}, {`a,"",b`, []string{"a", "", "b"}}, {`" "," "`, []string{" ", " "}},
	} {
		checkSplit(t, c.line, c.l, api.OK)
	}
}

func TestSplitInvalid(t *testing.T) {
	for _, line := range []string{
		",", ",,", "a,", ",a", "a,,b", "a,b,", `"",`, `,""`, `",",`, `"",,""`,
		" ", " a", "a ", "a, b", "a ,b", "a,b ", " a,b", `a, ""`, `"" ,a`, ` "",a`,
		`"a"`, `"a",b`, `a,"b"`, `a,"b",c`, `"a b",c`,
		`"`, `"a`, `",`, `",a`, `a,"`, `a,"b`, `a,",b`, `"\"`, `"\",a`, `"\\\",a`, `"\`, `a,"\`, `"\x`, `a,"\x0`,
		`","a`, `","a,b`, `"",""a`, `"""`, `""""`, `"" ""`, `","",a`, `",""a"`, `"a b"c`, `","\`, `a,"\x0a"b`, `"\\"a`,
		`a"`, `a"b`, `a"b,c"`, `a\`, `a\b`, `a\,b`, `\,`, `\x0a`, `a,\"b\"`, `a"",b`,
		`"\x0A"`, `"\x0A",a`, `a,"\x7F"`, `"\x41",a`, `"\n",a`, `a,"\,"`, `"\x20",a`, `a,"\x2c"`, `"\x0",a`, `"\x",a`,
		"\n", "a\n", "a,b\n", "a\nb", "a\tb", "\"\n\"", "a,\x7f", "a\x00,b", "\",\n\"", "a,\r",
	} {
		checkSplit(t, line, nil, api.ErrSyntax)
	}
}

func TestSplitAgainstDefinition(t *testing.T) {
	list := append(strangeStrings(), append(words(`a,"\ `, 6), words("a,\"\\x0\n\x80", 5)...)...)
	for b := range 256 {
		for _, pattern := range []string{"?", "a?", "a?b", "?,a", "a,?", `"?",a`, `",?",a`, `","?`, `","?a`, `","?","`, `"\?",a`, `"\?\"",a`, `"\x0?",a`, `",\?`} {
			list = append(list, strings.ReplaceAll(pattern, "?", string([]byte{byte(b)})))
		}
	}
	for _, line := range list {
		l, e := wantFields(line)
		checkSplit(t, line, l, e)
	}
}

func TestSplitCount(t *testing.T) {
	for _, form := range []string{"a", `""`, `","`, `"\""`} {
		s, _ := wantString(form)
		most := strings.Repeat(form+",", mostFields-1) + form
		less := most[len(form)+1:]
		checkSplit(t, less, slices.Repeat([]string{s}, mostFields-1), api.OK)
		checkSplit(t, most, slices.Repeat([]string{s}, mostFields), api.OK)
		// A comma behind the last possible field is too many, whatever follows.
		for _, behind := range []string{",", ",a", ",,", `,"`, `,"a"`, ", ", ",\n", `,""a`, "," + form, "," + most} {
			checkSplit(t, most+behind, nil, api.ErrLimit)
		}
		for _, behind := range []string{" ", "\n", `\`, `"`, "\",\"", "\x7f"} {
			checkSplit(t, most+behind, nil, api.ErrSyntax)
		}
		// One field earlier a comma is not too many.
		for _, behind := range []string{",", ",,", `,"`, `,"a"`, ", ", ",\n", `,""a`} {
			checkSplit(t, less+behind, nil, api.ErrSyntax)
		}
		// Errors are found from left to right.
		for _, wrong := range []string{"", " ", `"a"`, `"\x0A"`, `a"`, `""a`, "\n"} {
			checkSplit(t, wrong+","+most, nil, api.ErrSyntax)
			checkSplit(t, less+","+wrong+",a", nil, api.ErrSyntax)
			checkSplit(t, less+","+wrong+",", nil, api.ErrSyntax)
			checkSplit(t, most+","+wrong, nil, api.ErrLimit)
		}
		// A field that is not closed ends with the line.
		checkSplit(t, less+`,",`, nil, api.ErrSyntax)
		checkSplit(t, less+`,"a,b,c`, nil, api.ErrSyntax)
		checkSplit(t, less+`,",,,"`, append(slices.Repeat([]string{s}, mostFields-1), ",,,"), api.OK)
	}
	checkSplit(t, strings.Repeat(",", 1000), nil, api.ErrSyntax)
	checkSplit(t, strings.Repeat("a,", 1000), nil, api.ErrLimit)
	checkSplit(t, strings.Repeat("a,", mostFields), nil, api.ErrLimit)
	checkSplit(t, strings.Repeat("a,", mostFields-1), nil, api.ErrSyntax)
}

func TestSplitLength(t *testing.T) {
	full := strings.Repeat("a", mostBytes)
	checkSplit(t, full[1:], []string{full[1:]}, api.OK)
	checkSplit(t, full, []string{full}, api.OK)
	checkSplit(t, full[2:]+",b", []string{full[2:], "b"}, api.OK)
	checkSplit(t, `" `+full[3:]+`"`, []string{" " + full[3:]}, api.OK)
	checkSplit(t, `"`+strings.Repeat(`\x0a`, mostBytes/4-1)+`,a"`, []string{strings.Repeat("\n", mostBytes/4-1) + ",a"}, api.OK)
	checkSplit(t, full[1:]+",", nil, api.ErrSyntax)
	checkSplit(t, full[1:]+"\n", nil, api.ErrSyntax)
	checkSplit(t, `"`+full[1:], nil, api.ErrSyntax)
	// The length comes before everything else.
	for _, line := range []string{full + "a", full + ",", full + "\n", "," + full, `"` + full, ` ` + full, full[1:] + ",b", full[2:] + ", b", strings.Repeat(",", mostBytes+1), strings.Repeat("\n", mostBytes+1), strings.Repeat("a,", mostBytes/2) + "a", strings.Repeat(full, 100)} {
		checkSplit(t, line, nil, api.ErrLimit)
	}
	checkSplit(t, strings.Repeat(",", mostBytes), nil, api.ErrSyntax)
	checkSplit(t, strings.Repeat("a,", mostBytes/2), nil, api.ErrLimit)
	checkSplit(t, strings.Repeat("\n", mostBytes), nil, api.ErrSyntax)
	checkSplit(t, strings.Repeat(`"`, mostBytes), nil, api.ErrSyntax)
}

// P4.5 (Lines)

func TestLines(t *testing.T) {
	for _, c := range []struct {
		text  string
		lines []string
	}{
		{"", nil}, {"\n", []string{""}}, {"\n\n", []string{"", ""}}, {"a\n", []string{"a"}}, {"a\n\n", []string{"a", ""}}, {"\na\n", []string{"", "a"}}, {"a\nb\n", []string{"a", "b"}}, {"a\n\nb\n", []string{"a", "", "b"}}, {"\n\n\n", []string{"", "", ""}},
		{"a b,c\n \n", []string{"a b,c", " "}}, {"a\r\nb\r\n", []string{"a\r", "b\r"}}, {"\x00\n\x7f\n\xff\n", []string{"\x00", "\x7f", "\xff"}}, {"\"a\n\"\n", []string{`"a`, `"`}}, {"a\vb\fc\u2028\u0085\n", []string{"a\vb\fc\u2028\u0085"}}, {"\\n\n", []string{`\n`}},
	} {
		checkLines(t, c.text, c.lines, api.OK)
	}
}

func TestLinesTruncated(t *testing.T) {
	for _, text := range []string{"a", " ", "a\nb", "\na", "\n\na", "a\n ", "a\n\r", "a\r", "\n\x00", "\n\xff", "a\n\nb", "\n\n\n\n\nb", `\n`, "a\x0b", "a\u2028"} {
		checkLines(t, text, nil, api.ErrTruncated)
	}
}

func TestLinesLength(t *testing.T) {
	full := strings.Repeat("a", mostBytes)
	checkLines(t, full[2:]+"\n", []string{full[2:]}, api.OK)
	checkLines(t, full[1:]+"\n", []string{full[1:]}, api.OK)
	checkLines(t, full+"\n", nil, api.ErrLimit)
	checkLines(t, full, nil, api.ErrTruncated)
	checkLines(t, "\n"+full[1:], nil, api.ErrTruncated)
	// The length comes before the end.
	checkLines(t, full+"a", nil, api.ErrLimit)
	checkLines(t, "\n"+full, nil, api.ErrLimit)
	checkLines(t, strings.Repeat(full, 100), nil, api.ErrLimit)
	checkLines(t, strings.Repeat("\n", mostBytes), make([]string, mostBytes), api.OK)
	checkLines(t, strings.Repeat("\n", mostBytes+1), nil, api.ErrLimit)
	checkLines(t, strings.Repeat("b\n", mostBytes/2), slices.Repeat([]string{"b"}, mostBytes/2), api.OK)
}

// P4.6 (Text)

func TestText(t *testing.T) {
	for _, c := range []struct {
		lines []string
		text  string
	}{
		{nil, ""}, {[]string{}, ""}, {[]string{""}, "\n"}, {[]string{"", ""}, "\n\n"}, {[]string{"a"}, "a\n"}, {[]string{"a", ""}, "a\n\n"}, {[]string{"", "a"}, "\na\n"}, {[]string{"a", "b"}, "a\nb\n"}, {[]string{"a", "", "b"}, "a\n\nb\n"},
		{[]string{"a b,c", " "}, "a b,c\n \n"}, {[]string{"a\r", "\x00", "\x7f", "\xff"}, "a\r\n\x00\n\x7f\n\xff\n"}, {[]string{`\n`, `"`}, "\\n\n\"\n"}, {[]string{"\v\f\u2028"}, "\v\f\u2028\n"},
	} {
		checkText(t, c.lines, c.text, api.OK)
	}
}

func TestTextInvalid(t *testing.T) {
	for _, lines := range [][]string{{"\n"}, {"a\n"}, {"\na"}, {"a\nb"}, {"\r\n"}, {"", "\n"}, {"\n", ""}, {"a", "b\n", "c"}, {"a", "b", "c\n"}, {"a", "b", "\n\n"}} {
		checkText(t, lines, "", api.ErrSyntax)
	}
}

func TestTextLength(t *testing.T) {
	full := strings.Repeat("a", mostBytes)
	checkText(t, []string{full[2:]}, full[2:]+"\n", api.OK)
	checkText(t, []string{full[1:]}, full[1:]+"\n", api.OK)
	checkText(t, []string{full}, "", api.ErrLimit)
	checkText(t, []string{full[2:], ""}, full[2:]+"\n\n", api.OK)
	checkText(t, []string{full[1:], ""}, "", api.ErrLimit)
	checkText(t, []string{"", full[1:]}, "", api.ErrLimit)
	checkText(t, []string{"b", full[3:]}, "b\n"+full[3:]+"\n", api.OK)
	checkText(t, []string{"b", full[2:]}, "", api.ErrLimit)
	checkText(t, make([]string, mostBytes), strings.Repeat("\n", mostBytes), api.OK)
	checkText(t, make([]string, mostBytes+1), "", api.ErrLimit)
	checkText(t, slices.Repeat([]string{full}, 1000), "", api.ErrLimit)
	// A line feed in any line comes before the length.
	checkText(t, []string{full, "\n"}, "", api.ErrSyntax)
	checkText(t, []string{full + "a\n"}, "", api.ErrSyntax)
	checkText(t, []string{"\n" + full}, "", api.ErrSyntax)
	checkText(t, append(slices.Repeat([]string{full}, 10), "a", "b\n"), "", api.ErrSyntax)
	checkText(t, append(make([]string, mostBytes+10), "b\n"), "", api.ErrSyntax)
}

// P4.7 (round trips)

func TestRoundTripOfStrings(t *testing.T) {
	for _, s := range append(strangeStrings(), words(allBytes(), 2)...) {
		if got, e := Unquote(Quote(s)); got != s || e != api.OK {
			t.Errorf("Unquote(Quote(%.60q)) = %.60q, %d", s, got, e)
		}
	}
	for _, s := range append(strangeStrings(), words(`"\x017fF, `, 5)...) {
		for _, form := range []string{s, `"` + s + `"`} {
			if got, e := Unquote(form); e == api.OK && Quote(got) != form {
				t.Errorf("Quote(Unquote(%.60q)) = %.60q", form, Quote(got))
			}
		}
	}
}

func TestRoundTripOfLines(t *testing.T) {
	many := append(lists(), strangeStrings()[:mostFields], slices.Repeat([]string{`,"`}, mostFields))
	for _, l := range many {
		line, e := Join(l)
		if e != api.OK {
			t.Fatalf("Join(%q) = %d", l, e)
		}
		if got, e := Split(line); !slices.Equal(got, l) || e != api.OK {
			t.Errorf("Split(Join(%q)) = %q, %d", l, got, e)
		}
	}
	for _, line := range append(strangeStrings(), words(`"\x0,a `, 6)...) {
		l, e := Split(line)
		if e != api.OK {
			continue
		}
		if got, e := Join(l); got != line || e != api.OK {
			t.Errorf("Join(Split(%.60q)) = %.60q, %d", line, got, e)
		}
	}
}

func TestRoundTripOfTexts(t *testing.T) {
	for _, lines := range lists() {
		text, e := Text(lines)
		if e == api.ErrSyntax && slices.Contains(lines, "\n") {
			continue
		}
		if got, back := Lines(text); !slices.Equal(got, lines) || e != api.OK || back != api.OK {
			t.Errorf("Lines(Text(%q)) = %q, %d after %d", lines, got, back, e)
		}
	}
	for _, text := range append(strangeStrings(), words("a \n\r", 6)...) {
		lines, e := Lines(text)
		if e != api.OK {
			continue
		}
		if got, e := Text(lines); got != text || e != api.OK {
			t.Errorf("Text(Lines(%.60q)) = %.60q, %d", text, got, e)
		}
	}
}

// P4.8 (separation)

func TestSeparation(t *testing.T) {
	seen := map[string]string{}
	for _, s := range append(strangeStrings(), words(allBytes(), 2)...) {
		form := Quote(s)
		for _, b := range []byte(form) {
			if b < 32 || b == 127 {
				t.Errorf("Quote(%.60q) contains the byte %d", s, b)
			}
		}
		if other, ok := seen[form]; ok && other != s {
			t.Errorf("%.60q is the form of %.60q and of %.60q", form, s, other)
		}
		seen[form] = s
		checkSplit(t, form, []string{s}, api.OK)
	}
}

// P4.9 (concatenation)

func TestConcatenation(t *testing.T) {
	all := lists()[1:]
	short := slices.DeleteFunc(slices.Clone(all), func(l []string) bool { return len(l) > 1 })
	for _, a := range all {
		for _, b := range short {
			first, _ := Join(a)
			second, _ := Join(b)
			checkJoin(t, slices.Concat(a, b), first+","+second, api.OK)
			checkJoin(t, slices.Concat(b, a), second+","+first, api.OK)
			checkSplit(t, first+","+second, slices.Concat(a, b), api.OK)
		}
	}
}

// Rules: arguments are not changed, and results share no memory.

func TestMemory(t *testing.T) {
	l := make([]string, 3, 10)
	copy(l, []string{"a", ",", ""})
	rest := l[:10]
	Join(l)
	Text(l)
	if !slices.Equal(rest, append([]string{"a", ",", ""}, make([]string, 7)...)) {
		t.Errorf("arguments were changed: %q", rest)
	}
	for name, f := range map[string]func(string) ([]string, api.Errno){"Split": Split, "Lines": Lines} {
		text := map[string]string{"Split": "a,b,c", "Lines": "a\nb\nc\n"}[name]
		first, _ := f(text)
		second, _ := f(text)
		first[0] = "x"
		third, _ := f(text)
		if second[0] != "a" || third[0] != "a" {
			t.Errorf("%s: results share memory", name)
		}
	}
}

// P1: every function terminates and does not panic.

func FuzzAll(f *testing.F) {
	for _, s := range []string{"", "a,b", `A,",",b c`, `"\x0a","\\\""`, `"\`, "a\nb\n", "\xff\x80", `"\x0A"`} {
		f.Add(s)
	}
	f.Fuzz(func(t *testing.T, s string) {
		checkQuote(t, s, wantForm(s))
		if want, ok := wantString(s); ok {
			checkUnquote(t, s, want, api.OK)
		} else {
			checkUnquote(t, s, "", api.ErrSyntax)
		}
		if len(s) > mostBytes {
			return
		}
		l, e := wantFields(s)
		checkSplit(t, s, l, e)
		lines, e := Lines(s)
		if text, back := Text(lines); e == api.OK && (text != s || back != api.OK) {
			t.Errorf("Text(Lines(%q)) = %q, %d", s, text, back)
		}
		if pieces := bytes.Split([]byte(s), []byte("\n")); e == api.OK && s != "" && len(lines) != len(pieces)-1 {
			t.Errorf("Lines(%q) = %d lines", s, len(lines))
		}
	})
}
