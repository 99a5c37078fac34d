package json_test

import (
	"fmt"
	"regexp"
	"strings"
	"testing"
	"unicode/utf16"

	"quaestor/api"
	"quaestor/json"
)

// TestBytes has every byte as a piece of its own, and behind a backslash.
func TestBytes(t *testing.T) {
	escaped := map[byte]string{'"': "\"", '\\': "\\", '/': "/", 'b': "\x08", 'f': "\x0c", 'n': "\x0a", 'r': "\x0d", 't': "\x09"}
	for c := range 256 {
		s := string([]byte{byte(c)})
		switch {
		case c == '"':
			checkText(t, `"a"`, str("a"))
			checkFault(t, `"a""`, api.ErrJsonForm, 3)
		case c == '\\':
			checkFault(t, `"a\`, api.ErrJsonForm, 3)
			checkFault(t, `"a\"`, api.ErrJsonForm, 4)
		case c < 0x20:
			checkFault(t, `"a`+s+`"`, api.ErrJsonForm, 2)
			checkFault(t, `{"a`+s+`":1}`, api.ErrJsonForm, 3)
		default:
			checkText(t, `"a`+s+`b"`, str("a"+s+"b"))
			checkText(t, `{"`+s+`":1}`, json.Object([]string{s}, num("1")))
		}
		out, ok := escaped[byte(c)]
		switch {
		case ok:
			checkText(t, `"a\`+s+`b"`, str("a"+out+"b"))
			checkText(t, `{"\`+s+`":1}`, json.Object([]string{out}, num("1")))
		case c == 'u':
			checkFault(t, `"a\ub"`, api.ErrJsonForm, 5)
		default:
			checkFault(t, `"a\`+s+`b"`, api.ErrJsonForm, 3)
		}
	}
	checkText(t, `"\"\\\/\b\f\n\r\t"`, str("\"\\/\b\f\n\r\t"))
	checkText(t, `"\\u0041\\n"`, str(`\u0041\n`))
	checkText(t, "\"\xff\xc3(\xed\xa0\x80\xf4\x90\x80\x80\"", str("\xff\xc3(\xed\xa0\x80\xf4\x90\x80\x80")) // what is no UTF-8 stays
}

// TestPoints has every code point that four digits write.
func TestPoints(t *testing.T) {
	for c := range 1 << 16 {
		want := string(rune(c)) // of a half: U+FFFD
		for _, form := range []string{"%04x", "%04X"} {
			d := fmt.Sprintf(form, c)
			if x, e, at := json.Parse(`"a\u` + d + `b"`); e != api.OK || at != 0 || !same(x, str("a"+want+"b")) {
				t.Fatalf("%s: %q, %v at %d", d, x.Text, e, at)
			}
		}
	}
	checkText(t, `"\uAbCd\uaBcD"`, str("\uabcd\uabcd"))
	checkText(t, `{"\u0000":"\u00e9\u20AC"}`, json.Object([]string{"\x00"}, str("\u00e9\u20ac")))
}

// TestPairs has halves of all kinds beside one another.
func TestPairs(t *testing.T) {
	edges := []int{0, 0x41, 0xd7ff, 0xd800, 0xd801, 0xd83d, 0xdbfe, 0xdbff, 0xdc00, 0xdc01, 0xde00, 0xdffe, 0xdfff, 0xe000, 0xffff}
	for n := range len(edges) * len(edges) * len(edges) {
		l := []int{edges[n%len(edges)], edges[n/len(edges)%len(edges)], edges[n/len(edges)/len(edges)]}
		var units []uint16
		s := ""
		for _, c := range l {
			units = append(units, uint16(c))
			s += fmt.Sprintf(`\u%04x`, c)
		}
		checkText(t, `"`+s+`"`, str(string(utf16.Decode(units))))
	}
	for high := 0xd800; high < 0xdc00; high++ {
		low := 0xdc00 + high*7%0x400
		checkText(t, fmt.Sprintf(`"\u%x\u%X"`, high, low), str(string(utf16.DecodeRune(rune(high), rune(low)))))
	}
	checkText(t, `"\ud800\udc00\udbff\udfff"`, str("\U00010000\U0010ffff"))
	for between, want := range map[string]string{
		"":       "\U0001f600",
		" ":      "\ufffd \ufffd",
		"x":      "\ufffdx\ufffd",
		`\\`:     "\ufffd\\\ufffd",
		`\n`:     "\ufffd\n\ufffd",
		`\u0041`: "\ufffdA\ufffd",
		`\ud83d`: "\ufffd\U0001f600",
		`\ude00`: "\U0001f600\ufffd",
	} {
		checkText(t, `"\ud83d`+between+`\ude00"`, str(want))
	}
	checkText(t, `"\ud83d"`, str("\ufffd"))
	checkText(t, `"\ud83dude00"`, str("\ufffdude00"))
	checkText(t, `"\ud83d\\ude00"`, str("\ufffd\\ude00"))
	checkText(t, `["\ud83d","\ude00"]`, list(str("\ufffd"), str("\ufffd")))
	checkText(t, "\"\\ud83d\xed\xb8\x80\"", str("\ufffd\xed\xb8\x80"))
	for _, x := range []struct {
		in string
		at int
	}{
		{`"\ud83d`, 7}, {`"\ud83d\`, 8}, {`"\ud83d\u`, 9}, {`"\ud83d\ude0`, 12}, {`"\ud83d\ude00`, 13},
		{`"\ud83d\x"`, 8}, {`"\ud83d\u"`, 9}, {`"\ud83d\ude0"`, 12}, {`"\ud83d\udeg0"`, 11}, {`"\ud83d\u00"`, 11}, {"\"\\ud83d\n\"", 7},
	} {
		checkFault(t, x.in, api.ErrJsonForm, x.at)
	}
}

// TestDigits has every byte in the place of each of a code point's digits.
func TestDigits(t *testing.T) {
	hex := regexp.MustCompile("^[0-9a-fA-F]$")
	for c := range 256 {
		s := string([]byte{byte(c)})
		for i := range 4 {
			in := `"\u` + strings.Repeat("0", i) + s + strings.Repeat("0", 3-i) + `"`
			x, e, at := json.Parse(in)
			switch {
			case hex.MatchString(s) && (e != api.OK || x.Kind != api.JsonText):
				t.Errorf("%q: %v", in, e)
			case !hex.MatchString(s) && (e != api.ErrJsonForm || at != 3+i):
				t.Errorf("%q: %v at %d", in, e, at)
			}
		}
	}
	for i := range 4 {
		checkFault(t, `"\u`+strings.Repeat("0", i), api.ErrJsonForm, 3+i)
		checkFault(t, `"\u`+strings.Repeat("0", i)+`"`, api.ErrJsonForm, 3+i)
	}
}

// TestNumbers has all texts of few signs: a number is what the chapter says, and its text is as it is written.
func TestNumbers(t *testing.T) {
	number := regexp.MustCompile(`^-?(0|[1-9][0-9]*)(\.[0-9]+)?([eE][+-]?[0-9]+)?$`)
	const signs = "-+01.eE"
	numbers := 0
	var grow func(s string)
	grow = func(s string) {
		x, e, _ := json.Parse(s)
		if ok := number.MatchString(s); ok != (e == api.OK) || ok && !same(x, num(s)) {
			t.Fatalf("%s: %v, %v", s, x, e)
		} else if ok {
			numbers++
		}
		if len(s) < 6 {
			for _, c := range signs {
				grow(s + string(c))
			}
		}
	}
	grow("")
	if numbers < 1000 {
		t.Errorf("only %d are numbers", numbers)
	}
	for _, s := range []string{"1234567890", "-9.8765432100e+00012", "1" + strings.Repeat("0", 400), "0." + strings.Repeat("3", 400), "1e999999999999999999999", "-0"} {
		checkText(t, s, num(s))
		checkText(t, "["+s+","+s+"]", list(num(s), num(s)))
	}
	for _, s := range []string{"Infinity", "NaN", ".5", "+1", "\u0661", "\uff11"} {
		checkFault(t, s, api.ErrJsonForm, 0)
	}
	for s, at := range map[string]int{"0x1": 1, "1_0": 1, "1f": 1, "-Infinity": 1, "--1": 1, "- 1": 1, "1 .5": 2, "1e5.5": 3, "1.5.5": 3, "1e 5": 2, "00": 1, "-01": 2} {
		checkFault(t, s, api.ErrJsonForm, at)
	}
}

// TestNames has null, false and true, cut off, changed and with more behind them.
func TestNames(t *testing.T) {
	for kind, s := range map[uint8]string{api.JsonNull: "null", api.JsonFalse: "false", api.JsonTrue: "true"} {
		checkText(t, s, bare(kind))
		checkText(t, "["+s+"]", list(bare(kind)))
		for i := range s {
			checkFault(t, s[:i], api.ErrJsonForm, i)
			checkFault(t, s[:i]+strings.ToUpper(s[i:]), api.ErrJsonForm, i)
			for _, other := range []string{"x", "\x00", "\\u0061", "\""} {
				if i > 0 || other != "\"" { // which begins a string
					checkFault(t, s[:i]+other+s[i:], api.ErrJsonForm, i)
				}
			}
			if i > 0 {
				checkFault(t, s[:i]+" "+s[i:], api.ErrJsonForm, i)
			}
		}
		checkFault(t, s+s, api.ErrJsonForm, len(s))
		checkFault(t, s+"0", api.ErrJsonForm, len(s))
		checkFault(t, "{"+s+":1}", api.ErrJsonForm, 1)
	}
}
