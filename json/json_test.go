package json_test

import (
	"slices"
	"strings"
	"testing"

	"quaestor/api"
	"quaestor/json"
)

// The calls have the signatures that the chapter lists.
var (
	_ func(string) (api.Json, api.Errno, int) = json.Parse
	_ func(api.Json) string                   = json.Print
	_ func(api.Json, string) (api.Json, bool) = json.Field
	_ func(string) api.Json                   = json.Text
	_ func(...api.Json) api.Json              = json.List
	_ func([]string, ...api.Json) api.Json    = json.Object
	_                                         = [...]uint8{1: api.JsonNull, 2: api.JsonFalse, 3: api.JsonTrue, 4: api.JsonNumber, 5: api.JsonText, 6: api.JsonList, 7: api.JsonObject}
)

// bare is a value that is its kind alone.
func bare(kind uint8) api.Json { return api.Json{Kind: kind} }

func num(s string) api.Json { return api.Json{Kind: api.JsonNumber, Text: s} }

func str(s string) api.Json { return api.Json{Kind: api.JsonText, Text: s} }

func list(l ...api.Json) api.Json { return api.Json{Kind: api.JsonList, Kids: l} }

// object has a, b, c and so on as its keys.
func object(kids ...api.Json) api.Json {
	x := api.Json{Kind: api.JsonObject, Kids: kids}
	for i := range kids {
		x.Keys = append(x.Keys, string(rune('a'+i)))
	}
	return x
}

// same says whether two values are the same in all fields: a nil list and an empty one are.
func same(x, y api.Json) bool {
	return x.Kind == y.Kind && x.Text == y.Text && slices.Equal(x.Keys, y.Keys) && slices.EqualFunc(x.Kids, y.Kids, same)
}

// checkText says whether a text is a value.
func checkText(t *testing.T, s string, want api.Json) {
	t.Helper()
	if x, e, at := json.Parse(s); e != api.OK || at != 0 || !same(x, want) {
		t.Errorf("%.200q: %.200v, %v at %d, not %.200v", s, x, e, at, want)
	}
}

// checkFault says whether a text has an error at a place.
func checkFault(t *testing.T, s string, want api.Errno, place int) {
	t.Helper()
	if x, e, at := json.Parse(s); e != want || at != place || !same(x, api.Json{}) {
		t.Errorf("%.200q: %.200v, %v at %d, not %v at %d", s, x, e, at, want, place)
	}
}

func TestParse(t *testing.T) {
	null, no, yes := bare(api.JsonNull), bare(api.JsonFalse), bare(api.JsonTrue)
	for _, x := range []struct {
		in   string
		want api.Json
		out  string // empty: the same
	}{
		{"null", null, ""},
		{"false", no, ""},
		{"true", yes, ""},
		{"0", num("0"), ""},
		{"-0.00e-00", num("-0.00e-00"), ""},
		{`""`, str(""), ""},
		{`"null"`, str("null"), ""},
		{"[]", list(), ""},
		{"{}", object(), ""},
		{"[null,false,true,1,\"\",[],{}]", list(null, no, yes, num("1"), str(""), list(), object()), ""},
		{"[[]]", list(list()), ""},
		{"[[],[[1]],[]]", list(list(), list(list(num("1"))), list()), ""},
		{`{"a":null}`, object(null), ""},
		{`{"a":{"a":{}},"b":[{"a":1,"b":2}],"c":"x"}`, object(object(object()), list(object(num("1"), num("2"))), str("x")), ""},
		{`{"":0}`, api.Json{Kind: api.JsonObject, Keys: []string{""}, Kids: []api.Json{num("0")}}, ""},
		{`{"a":1,"a":2}`, api.Json{Kind: api.JsonObject, Keys: []string{"a", "a"}, Kids: []api.Json{num("1"), num("2")}}, ""},
		{`{"b":1,"a":2}`, api.Json{Kind: api.JsonObject, Keys: []string{"b", "a"}, Kids: []api.Json{num("1"), num("2")}}, ""},
		{`{"\u0061":1,"\"":2}`, api.Json{Kind: api.JsonObject, Keys: []string{"a", "\""}, Kids: []api.Json{num("1"), num("2")}}, `{"a":1,"\"":2}`},
		{` {"a": [1, "\u0041"]} `, object(list(num("1"), str("A"))), `{"a":[1,"A"]}`},
		{` "{[,:]}" `, str("{[,:]}"), `"{[,:]}"`},
		{"\t[\n]\r", list(), "[]"},
		{"{ }", object(), "{}"},
		{`"<\/>&"`, str("</>&"), `"</>&"`},
	} {
		checkText(t, x.in, x.want)
		out := x.out
		if out == "" {
			out = x.in
		}
		if got := json.Print(x.want); got != out {
			t.Errorf("%s: printed as %s", out, got)
		}
		checkText(t, out, x.want)
	}
}

// TestBlanks has blanks, and bytes that could be taken for some, at all places of a text.
func TestBlanks(t *testing.T) {
	parts := []string{"{", `"a"`, ":", "[", "1", ",", `"x"`, ",", "[", "]", "]", ",", `"b"`, ":", "{", "}", "}"}
	want := object(list(num("1"), str("x"), list()), object())
	for _, blank := range []string{"", " ", "\t", "\n", "\r", "\r\n", " \t\n\r \t\n\r", strings.Repeat(" ", 3000)} {
		checkText(t, blank+strings.Join(parts, blank)+blank, want)
	}
	for c := range 256 {
		for i := range len(parts) + 1 {
			head := strings.Join(parts[:i], "")
			s := head + string([]byte{byte(c)}) + strings.Join(parts[i:], "")
			switch c {
			case 0x20, 0x09, 0x0a, 0x0d:
				checkText(t, s, want)
			case 0x00, 0x0b, 0x0c, 0x1f, 0x7f, 0x85, 0xa0, 0xc2, 0xe3, 0xef, 0xff:
				checkFault(t, s, api.ErrJsonForm, len(head))
			}
		}
	}
	for _, s := range []string{"\u00a0", "\u0085", "\u2003", "\u3000", "\ufeff"} {
		checkFault(t, s+"1", api.ErrJsonForm, 0)
		checkFault(t, "1"+s, api.ErrJsonForm, 1)
		checkFault(t, "[1,"+s+"2]", api.ErrJsonForm, 3)
	}
}

func TestLong(t *testing.T) {
	pad := func(s string, n int) string { return s + strings.Repeat(" ", n-len(s)) }
	checkText(t, pad("1", 65536), num("1"))
	checkText(t, `"`+strings.Repeat("a", 65534)+`"`, str(strings.Repeat("a", 65534)))
	checkText(t, strings.Repeat("7", 65536), num(strings.Repeat("7", 65536)))
	checkFault(t, pad("1 1", 65536), api.ErrJsonForm, 2)
	checkFault(t, pad("", 65536), api.ErrJsonForm, 65536)
	checkFault(t, strings.Repeat("[", 65536), api.ErrJsonDeep, 16)
	for _, s := range []string{"1", "x", "", "[[[[[[[[[[[[[[[[[", `"`, "{"} {
		checkFault(t, pad(s, 65537), api.ErrJsonLong, 0)
	}
	checkFault(t, strings.Repeat("[", 65537), api.ErrJsonLong, 0)
	checkFault(t, strings.Repeat("7", 1<<20), api.ErrJsonLong, 0)
	lines := strings.Repeat("\n", 20000) // printed, they are longer than what is parsed may be
	checkText(t, `"`+strings.Repeat(`\n`, 20000)+`"`, str(lines))
	checkFault(t, json.Print(str(lines)), api.ErrJsonLong, 0)
	many := strings.Repeat("0,", 32767)
	x, e, _ := json.Parse("[" + many[:len(many)-1] + "]")
	if e != api.OK || len(x.Kids) != 32767 || json.Print(x) != "["+many[:len(many)-1]+"]" {
		t.Errorf("%d kids, %v", len(x.Kids), e)
	}
}

func TestDeep(t *testing.T) {
	open, end := func(n int) string { return strings.Repeat("[", n) }, func(n int) string { return strings.Repeat("]", n) }
	field := func(n int) string { return strings.Repeat(`{"a":`, n) }
	mixed := strings.Repeat(`[{"a":`, 8)
	for _, x := range []struct {
		in string
		e  api.Errno
		at int
	}{
		{open(16) + end(16), api.OK, 0},
		{open(16) + "1" + end(16), api.OK, 0},
		{open(17) + end(17), api.ErrJsonDeep, 16},
		{open(17), api.ErrJsonDeep, 16},
		{open(16) + "{}" + end(16), api.ErrJsonDeep, 16},
		{open(16) + "1,[]" + end(16), api.ErrJsonDeep, 18},
		{open(16) + " \n[]" + end(16), api.ErrJsonDeep, 18},
		{open(15) + "[],[],{},[" + end(16), api.OK, 0},
		{open(15) + "[],[],{},[[]]" + end(15), api.ErrJsonDeep, 25},
		{open(16) + end(16) + open(1), api.ErrJsonForm, 32},
		{field(15) + "{}" + strings.Repeat("}", 15), api.OK, 0},
		{field(16) + "1" + strings.Repeat("}", 16), api.OK, 0},
		{field(16) + "{}" + strings.Repeat("}", 16), api.ErrJsonDeep, 80},
		{field(16) + "[]" + strings.Repeat("}", 16), api.ErrJsonDeep, 80},
		{field(17), api.ErrJsonDeep, 80},
		{mixed + "1" + strings.Repeat("}]", 8), api.OK, 0},
		{mixed + "[]" + strings.Repeat("}]", 8), api.ErrJsonDeep, 48},
		{open(16) + `"[[{{"` + end(16), api.OK, 0},
		{open(16) + `"\"["` + end(16), api.OK, 0},
		{"[1,]" + open(17), api.ErrJsonForm, 3},
		{open(16) + "1 [", api.ErrJsonForm, 18}, // neither of them is opened where no value may come
		{field(15) + "{[", api.ErrJsonForm, 76},
		{field(15) + `{"a"[`, api.ErrJsonForm, 79},
		{open(17) + "}", api.ErrJsonDeep, 16},
		{open(16) + "}", api.ErrJsonForm, 16},
		{open(16), api.ErrJsonForm, 16},
		{field(16), api.ErrJsonForm, 80},
	} {
		got, e, at := json.Parse(x.in)
		if e != x.e || at != x.at || e != api.OK && !same(got, api.Json{}) {
			t.Errorf("%s: %v, %v at %d, not %v at %d", x.in, got, e, at, x.e, x.at)
		}
		if e == api.OK && json.Print(got) != x.in {
			t.Errorf("%s: printed as %s", x.in, json.Print(got))
		}
	}
}

func TestField(t *testing.T) {
	x := api.Json{Kind: api.JsonObject, Keys: []string{"a", "b", "a", "", "c", "c"}, Kids: []api.Json{num("1"), object(num("2")), num("3"), str("4"), bare(9)}}
	for _, y := range []struct {
		x    api.Json
		key  string
		want api.Json
		is   bool
	}{
		{x, "a", num("1"), true},
		{x, "b", object(num("2")), true},
		{x, "", str("4"), true},
		{x, "c", bare(9), true},
		{x, "d", api.Json{}, false},
		{x, "A", api.Json{}, false},
		{x, "a ", api.Json{}, false},
		{api.Json{Kind: api.JsonObject, Keys: []string{"a", "b", "b"}, Kids: []api.Json{num("1")}}, "b", api.Json{}, false},
		{api.Json{Kind: api.JsonObject, Keys: []string{"a"}, Kids: []api.Json{num("1"), num("2")}}, "", api.Json{}, false},
		{api.Json{Kind: api.JsonObject, Keys: []string{"a"}}, "a", api.Json{}, false},
		{api.Json{Kind: api.JsonObject, Kids: []api.Json{num("1")}}, "", api.Json{}, false},
		{object(), "a", api.Json{}, false},
		{api.Json{}, "", api.Json{}, false},
	} {
		if got, is := json.Field(y.x, y.key); is != y.is || !same(got, y.want) {
			t.Errorf("%q of %v: %v, %v", y.key, y.x, got, is)
		}
	}
	for kind := range 256 {
		x.Kind = uint8(kind)
		if got, is := json.Field(x, "a"); is != (kind == 7) || !is && !same(got, api.Json{}) {
			t.Errorf("of kind %d: %v, %v", kind, got, is)
		}
	}
	list, _, _ := json.Parse(` {"a": [1, "\u0041"]} `)
	if got, is := json.Field(list, "a"); !is || json.Print(got) != `[1,"A"]` {
		t.Errorf("%v, %v", got, is)
	}
}

func TestMake(t *testing.T) {
	odd := api.Json{Kind: 77, Text: "x", Keys: []string{"k"}, Kids: []api.Json{num("1")}}
	for _, x := range []struct{ got, want api.Json }{
		{json.Text(""), str("")},
		{json.Text("a\"\x00\xff"), str("a\"\x00\xff")},
		{json.List(), list()},
		{json.List(nil...), list()},
		{json.List(num("1"), str("a"), object(list())), list(num("1"), str("a"), object(list()))},
		{json.List(odd), list(odd)},
		{json.List([]api.Json{num("1"), {}}...), list(num("1"), api.Json{})},
		{json.Object(nil), object()},
		{json.Object([]string{}, []api.Json{}...), object()},
		{json.Object([]string{"a", "b"}, num("1"), odd), object(num("1"), odd)},
		{json.Object([]string{"a", "a", "b"}, num("1")), api.Json{Kind: 7, Keys: []string{"a", "a", "b"}, Kids: []api.Json{num("1")}}},
		{json.Object(nil, num("1"), num("2")), api.Json{Kind: 7, Kids: []api.Json{num("1"), num("2")}}},
		{json.Object([]string{"a"}), api.Json{Kind: 7, Keys: []string{"a"}}},
	} {
		if !same(x.got, x.want) {
			t.Errorf("%v, not %v", x.got, x.want)
		}
	}
}
