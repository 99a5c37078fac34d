package json_test

import (
	"fmt"
	"strings"
	"testing"

	"quaestor/api"
	"quaestor/json"
)

func TestPrint(t *testing.T) {
	one, two := num("1"), num("2")
	for _, x := range []struct {
		x    api.Json
		want string
	}{
		{api.Json{}, "null"},
		{bare(api.JsonNull), "null"},
		{bare(api.JsonFalse), "false"},
		{bare(api.JsonTrue), "true"},
		{num("-1.50E+07"), "-1.50E+07"},
		{num(""), ""},
		{num("no\n\"number\""), "no\n\"number\""},
		{str(""), `""`},
		{str(`a"b\c`), `"a\"b\\c"`},
		{str("/'<>&\x7f\u2028\u00e9\U0001f600"), "\"/'<>&\x7f\u2028\u00e9\U0001f600\""},
		{str("\xff\xfe\xc3("), "\"\xff\xfe\xc3(\""},
		{str("\b\f\n\r\t\x00\x0b\x1f"), `"\u0008\u000c\u000a\u000d\u0009\u0000\u000b\u001f"`},
		{str(`\u0041`), `"\\u0041"`},
		{list(), "[]"},
		{list(one), "[1]"},
		{list(one, list(), two), "[1,[],2]"},
		{list(bare(0), bare(8), bare(255)), "[null,null,null]"},
		{object(), "{}"},
		{object(one, list(two), object()), `{"a":1,"b":[2],"c":{}}`},
		{api.Json{Kind: api.JsonObject, Keys: []string{"a\"\x01", "", "\xff"}, Kids: []api.Json{one, two, one}}, "{\"a\\\"\\u0001\":1,\"\":2,\"\xff\":1}"},
		{api.Json{Kind: api.JsonObject, Keys: []string{"a", "a"}, Kids: []api.Json{one, two}}, `{"a":1,"a":2}`},
		{api.Json{Kind: api.JsonObject, Keys: []string{"a", "b", "c"}, Kids: []api.Json{one, two}}, `{"a":1,"b":2}`},
		{api.Json{Kind: api.JsonObject, Keys: []string{"a"}, Kids: []api.Json{one, two}}, `{"a":1}`},
		{api.Json{Kind: api.JsonObject, Keys: []string{"a"}}, "{}"},
		{api.Json{Kind: api.JsonObject, Kids: []api.Json{one}}, "{}"},
	} {
		if got := json.Print(x.x); got != x.want {
			t.Errorf("%v: %q, not %q", x.x, got, x.want)
		}
	}
}

// TestPrintKinds shows that of each kind only its own fields are printed.
func TestPrintKinds(t *testing.T) {
	x := api.Json{Text: "7", Keys: []string{"k"}, Kids: []api.Json{str("v")}}
	want := []string{"null", "null", "false", "true", "7", `"7"`, `["v"]`, `{"k":"v"}`}
	for kind := range 256 {
		x.Kind = uint8(kind)
		out := "null"
		if kind < len(want) {
			out = want[kind]
		}
		if got := json.Print(x); got != out {
			t.Errorf("of kind %d: %s, not %s", kind, got, out)
		}
	}
}

// TestPrintBytes has every byte in a string, and in a key.
func TestPrintBytes(t *testing.T) {
	for c := range 256 {
		s := string([]byte{byte(c)})
		want := s
		switch {
		case c < 0x20:
			want = fmt.Sprintf(`\u%04x`, c)
		case c == '"' || c == '\\':
			want = `\` + s
		}
		if got := json.Print(str("a" + s + s)); got != `"a`+want+want+`"` {
			t.Errorf("%02x: %s", c, got)
		}
		if got := json.Print(json.Object([]string{s}, num("1"))); got != `{"`+want+`":1}` {
			t.Errorf("%02x as a key: %s", c, got)
		}
	}
}

// TestPrintDeep shows that only texts that are parsed are bounded.
func TestPrintDeep(t *testing.T) {
	const n = 1 << 12
	x := str(strings.Repeat("a", 1<<17))
	for range n {
		x = api.Json{Kind: api.JsonList, Kids: []api.Json{x}}
	}
	want := strings.Repeat("[", n) + `"` + strings.Repeat("a", 1<<17) + `"` + strings.Repeat("]", n)
	if got := json.Print(x); got != want {
		t.Errorf("%d bytes: %.20s", len(got), got)
	}
	if got := json.Print(json.List(x)); got != "["+want+"]" {
		t.Errorf("in a list, %d bytes: %.20s", len(got), got)
	}
	if got, is := json.Field(json.Object([]string{"a"}, x), "a"); !is || json.Print(got) != want {
		t.Errorf("in an object: %v", is)
	}
}
