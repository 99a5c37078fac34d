package json_test

import (
	"bytes"
	library "encoding/json"
	"slices"
	"strings"
	"testing"
	"unicode/utf8"

	"quaestor/api"
	"quaestor/json"
	"quaestor/sample"
)

// brackets are those that a text has opened, and not closed.
func brackets(s string) string {
	open, quoted := "", false
	for i := 0; i < len(s); i++ {
		switch c := s[i]; {
		case quoted && c == '\\':
			i++
		case c == '"':
			quoted = !quoted
		case quoted:
		case c == '[' || c == '{':
			open += string(c)
		case (c == ']' || c == '}') && open != "":
			open = open[:len(open)-1]
		}
	}
	return open
}

// rests are what may be missing of what is begun at a text's end.
var rests = func() []string {
	l := []string{"", "0", "ull", "ll", "l", "rue", "ue", "e", "alse", "lse", "se", ":0", `"":0`}
	for _, s := range []string{`"`, `n"`, `0000"`, `000"`, `00"`, `0"`} {
		l = append(l, s, s+":0")
	}
	return l
}()

// begins says whether a text is the beginning of a valid one: whether the library takes it with something behind it.
func begins(s string) bool {
	end := []byte(brackets(s))
	slices.Reverse(end)
	end = bytes.ReplaceAll(bytes.ReplaceAll(end, []byte("["), []byte("]")), []byte("{"), []byte("}"))
	return slices.ContainsFunc(rests, func(rest string) bool { return library.Valid([]byte(s + rest + string(end))) })
}

// first is the error that is met first, and where, by the chapter's words; OK: there is none.
func first(s string) (api.Errno, int) {
	good, bad := 0, len(s)+1 // so many bytes begin a valid text, so many don't
	for good+1 < bad {
		if n := (good + bad) / 2; begins(s[:n]) {
			good = n
		} else {
			bad = n
		}
	}
	for n := range good {
		if len(brackets(s[:n+1])) > 16 {
			return api.ErrJsonDeep, n
		}
	}
	if good == len(s) && library.Valid([]byte(s)) {
		return api.OK, 0
	}
	return api.ErrJsonForm, good
}

// decoded is the value of a valid text of right UTF-8, as the library reads it.
func decoded(t *testing.T, s string) api.Json {
	t.Helper()
	d := library.NewDecoder(strings.NewReader(s))
	d.UseNumber()
	var next func() api.Json
	next = func() api.Json {
		token, err := d.Token()
		if err != nil {
			t.Fatalf("%s: %v", s, err)
		}
		switch v := token.(type) {
		case bool:
			if v {
				return bare(api.JsonTrue)
			}
			return bare(api.JsonFalse)
		case library.Number:
			return num(v.String())
		case string:
			return str(v)
		case library.Delim:
			x := list()
			if v == '{' {
				x.Kind = api.JsonObject
			}
			for d.More() {
				if v == '{' {
					x.Keys = append(x.Keys, next().Text)
				}
				x.Kids = append(x.Kids, next())
			}
			d.Token() // the bracket at the end
			return x
		}
		return bare(api.JsonNull)
	}
	return next()
}

// checkAny holds what a text is said to be against the library's word; and tells whether it is a value.
func checkAny(t *testing.T, s string) bool {
	t.Helper()
	want, place := first(s)
	x, e, at := json.Parse(s)
	if e != want || at != place || e != api.OK && !same(x, api.Json{}) {
		t.Fatalf("%q: %v, %v at %d, not %v at %d", s, x, e, at, want, place)
	}
	if e != api.OK {
		return false
	}
	if utf8.ValidString(s) && !same(x, decoded(t, s)) {
		t.Fatalf("%q: %v, not %v", s, x, decoded(t, s))
	}
	checkRound(t, x)
	return true
}

// checkRound says whether a value that was parsed is parsed again from what is printed of it.
func checkRound(t *testing.T, x api.Json) {
	t.Helper()
	out := json.Print(x)
	y, e, at := json.Parse(out)
	if e != api.OK || at != 0 || !same(x, y) || json.Print(y) != out || !library.Valid([]byte(out)) {
		t.Fatalf("%v: %q is %v, %v at %d", x, out, y, e, at)
	}
}

func TestWrong(t *testing.T) {
	for _, x := range []struct {
		in string
		at int
	}{
		{"", 0}, {" ", 1}, {"\n\t ", 3}, {"x", 0}, {"'a'", 0}, {"\x00", 0}, {"a", 0}, {" ]", 1}, {"}", 0}, {",", 0}, {":", 0}, {"\\", 0}, {"//", 0},
		{"1 2", 2}, {"1,", 1}, {"1]", 1}, {"[]]", 2}, {"[] []", 3}, {"{}}", 2}, {"\"\"\"", 2}, {"null,", 4}, {"1\x00", 1}, {"[]\x00", 2},
		{"[", 1}, {"[ ", 2}, {"[,", 1}, {"[,1]", 1}, {"[1", 2}, {"[1,", 3}, {"[1,]", 3}, {"[1, ]", 4}, {"[1,,2]", 3}, {"[1 2]", 3}, {"[1:2]", 2}, {"[1}", 2}, {"[}", 1}, {"[\"a\":1]", 4},
		{"{", 1}, {"{ ", 2}, {"{,", 1}, {"{]", 1}, {"{1", 1}, {"{a", 1}, {"{null", 1}, {"{[", 1}, {"{{", 1}, {"{:", 1},
		{"{\"", 2}, {"{\"a", 3}, {"{\"a\"", 4}, {"{\"a\"}", 4}, {"{\"a\",", 4}, {"{\"a\" 1}", 5}, {"{\"a\"=1", 4}, {"{\"a\":", 5}, {"{\"a\":}", 5}, {"{\"a\":,", 5}, {"{\"a\"::", 5},
		{"{\"a\":1", 6}, {"{\"a\":1]", 6}, {"{\"a\":1,", 7}, {"{\"a\":1,}", 7}, {"{\"a\":1 \"b\"", 7}, {"{\"a\":1,,", 7}, {"{\"a\":1,2", 7}, {"{\"a\":1:2", 6},
		{"[1]x", 3}, {"[[1,]]", 4}, {"[{\"a\":[1,2}]", 10}, {"[1,2,tru]", 8}, {"[nul]", 4}, {"[-]", 2}, {"[1.]", 3}, {"[1e]", 3}, {"[01]", 2},
	} {
		checkFault(t, x.in, api.ErrJsonForm, x.at)
		checkFault(t, " \n"+x.in, api.ErrJsonForm, x.at+2)
		if e, at := first(x.in); e != api.ErrJsonForm || at != x.at {
			t.Errorf("%q: by the library it is %v at %d", x.in, e, at)
		}
	}
}

// TestShort has all texts of few parts.
func TestShort(t *testing.T) {
	parts := []string{"[", "]", "{", "}", ",", ":", `"`, `\`, "u", "0", "1", "-", ".", "e", "a", " ", `""`, "true", "nul", "\x01", "\u00e9"}
	values := 0
	var grow func(s string, n int)
	grow = func(s string, n int) {
		if checkAny(t, s) {
			values++
		}
		if n == 0 {
			return
		}
		for _, part := range parts {
			grow(s+part, n-1)
		}
	}
	grow("", 3)
	for _, s := range []string{`[1,`, `{"a":`, `{"a":1`, `"\ud83d`} {
		grow(s, 2)
	}
	if values < 100 {
		t.Errorf("only %d are values", values)
	}
}

// dice draws values, too.
type dice struct{ sample.Dice }

// text is a text of a value of at most so many levels.
func (d *dice) text(levels int) string {
	blank := strings.Repeat([]string{"", "", "", " ", "\t", "\n", "\r"}[d.Below(7)], d.Below(3))
	if levels == 0 || d.Below(3) == 0 {
		return blank + d.leaf() + blank
	}
	object := d.Below(2) > 0
	var l []string
	for range d.Below(4) {
		s := d.text(levels - 1)
		if object {
			s = blank + d.quoted() + blank + ":" + s
		}
		l = append(l, s)
	}
	if object {
		return blank + "{" + blank + strings.Join(l, ",") + "}" + blank
	}
	return blank + "[" + strings.Join(l, ",") + blank + "]"
}

// leaf is a text of a value without kids.
func (d *dice) leaf() string {
	if d.Below(2) > 0 {
		return d.quoted()
	}
	return []string{"null", "true", "false", "0", "-1", "12.50", "1e5", "-0.1E-20", "3E+1", "100"}[d.Below(10)]
}

func (d *dice) quoted() string {
	s := `"`
	for range d.Below(5) {
		s += []string{"a", "\u00e9", "[", ",", "}", " ", "\\\"", "\\\\", "\\/", "\\n", "\\t", "\\u0041", "\\u00E9", "\\u0000", "\\ud83d", "\\uDE00", "\\ud83d\\ude00", "\U0001f600", "\x7f"}[d.Below(19)]
	}
	return s + `"`
}

// TestDrawn draws texts of values, and what they are if some bytes are cut off, put behind, put between or changed.
func TestDrawn(t *testing.T) {
	d := dice{1}
	const signs = "[]{},:\"\\u01-.eEtn \x00\x1f\xff"
	values := 0
	for range 2500 {
		s := d.text(4)
		if !checkAny(t, s) {
			t.Fatalf("%q is none", s)
		}
		checkAny(t, s[:d.Below(len(s))])
		checkAny(t, s+d.text(1))
		for range 5 {
			i, c := d.Below(len(s)), signs[d.Below(len(signs))]
			for _, other := range []string{s[:i] + string([]byte{c}) + s[i+1:], s[:i] + string([]byte{c}) + s[i:], s[:i] + s[i+1:]} {
				if checkAny(t, other) {
					values++
				}
			}
		}
	}
	if values < 1000 {
		t.Errorf("only %d are values", values)
	}
}

// TestDrawnDeep draws texts most of which are brackets.
func TestDrawnDeep(t *testing.T) {
	d := dice{2}
	deep := 0
	for range 3000 {
		s := ""
		for range 14 + d.Below(8) {
			s += []string{"[", "[", "[ ", `{"a":`, `{"[":`, "[0,", "[[],"}[d.Below(7)]
			if d.Below(30) == 0 {
				s += []string{"]", "}", "{", "0", `"[`}[d.Below(5)]
			}
		}
		if _, e, _ := json.Parse(s); e == api.ErrJsonDeep {
			deep++
		}
		checkAny(t, s)
	}
	if deep < 200 || deep > 2800 {
		t.Errorf("%d are too deep", deep)
	}
}

// TestNoise draws bytes, which are right UTF-8 or not.
func TestNoise(t *testing.T) {
	d := dice{3}
	for range 2000 {
		b := sample.Noise(d.Below(20), uint64(d.Below(1<<30)))
		checkAny(t, string(b))
		checkAny(t, `"`+string(b))
		checkAny(t, `{"`+strings.ToValidUTF8(string(b), "")+`":1}`)
	}
}

// TestPrefixes shows that a text that ends too early fails at its end, at whichever byte that is.
func TestPrefixes(t *testing.T) {
	s := ` { "a\n\u00e9\ud83d\ude00" : [ true , false, null ,-1.5e+7, {} , [ ] , "\\" ] , "" : { "b" : 0 } } `
	for n := range len(s) - 1 {
		checkFault(t, s[:n], api.ErrJsonForm, n)
	}
	if _, e, at := json.Parse(s[:len(s)-1]); e != api.OK || at != 0 {
		t.Errorf("%v at %d", e, at)
	}
}
