package json_test

import (
	"slices"
	"strings"
	"testing"
	"unsafe"

	"quaestor/api"
	"quaestor/json"
)

// spoil overwrites all that a value has, up to the capacity of its lists.
func spoil(x api.Json) {
	for _, k := range x.Kids {
		spoil(k)
	}
	clear(x.Keys[:cap(x.Keys)])
	clear(x.Kids[:cap(x.Kids)])
}

// copied is a value that shares nothing.
func copied(x api.Json) api.Json {
	y := api.Json{Kind: x.Kind, Text: strings.Clone(x.Text), Keys: slices.Clone(x.Keys)}
	for _, k := range x.Kids {
		y.Kids = append(y.Kids, copied(k))
	}
	return y
}

// texts are all texts of a value.
func texts(x api.Json) []string {
	l := append([]string{x.Text}, x.Keys...)
	for _, k := range x.Kids {
		l = append(l, texts(k)...)
	}
	return slices.DeleteFunc(l, func(s string) bool { return s == "" })
}

// shares says whether two texts have a byte of memory in common.
func shares(a, b string) bool {
	if a == "" || b == "" {
		return false
	}
	start, other := uintptr(unsafe.Pointer(unsafe.StringData(a))), uintptr(unsafe.Pointer(unsafe.StringData(b)))
	return start < other+uintptr(len(b)) && other < start+uintptr(len(a))
}

// whole is an object with values of all kinds.
func whole() api.Json {
	x := object(num("-12.5"), str("a text"), bare(api.JsonNull), bare(api.JsonTrue), bare(api.JsonFalse), list(num("12"), object(list(str("more"), list()), num("7"))))
	x.Keys[0] = "another key"
	return x
}

func TestParseFresh(t *testing.T) {
	s := json.Print(whole())
	x, _, _ := json.Parse(s)
	y, _, _ := json.Parse(s)
	for _, text := range texts(x) {
		if shares(text, s) || slices.ContainsFunc(texts(y), func(other string) bool { return shares(text, other) }) {
			t.Errorf("%q shares its memory", text)
		}
	}
	spoil(y)
	if z, e, _ := json.Parse(s); e != api.OK || !same(x, whole()) || !same(z, whole()) {
		t.Error("the answers share their memory")
	}
}

// TestParseParts shows that no two lists of an answer share memory: neither does one reach into another behind its end.
func TestParseParts(t *testing.T) {
	x, _, _ := json.Parse(`[[1,2,3],{"a":1,"b":2,"c":[4]},[],[5]]`)
	want := copied(x)
	for i, k := range x.Kids {
		spoil(k)
		for j := range x.Kids[i+1:] {
			if !same(x.Kids[i+1+j], want.Kids[i+1+j]) {
				t.Errorf("kids %d and %d share memory", i, i+1+j)
			}
		}
	}
}

func TestPrintArgument(t *testing.T) {
	for _, x := range []api.Json{whole(), num("1234567"), str("1234567"), list(num("12345"))} {
		kept := copied(x)
		s := json.Print(x)
		if !same(x, kept) {
			t.Errorf("%v was changed", kept)
		}
		for _, text := range texts(x) {
			if shares(text, s) {
				t.Errorf("%q: the answer shares its memory", s)
			}
		}
		spoil(x)
		if s != json.Print(kept) {
			t.Errorf("%s: the argument was kept", s)
		}
	}
}

// checkFresh says whether what a call makes of a value shares nothing with it.
func checkFresh(t *testing.T, name string, makes func(x api.Json) api.Json) {
	t.Helper()
	x := whole()
	got := makes(x)
	want := copied(got)
	if !same(x, whole()) {
		t.Errorf("%s: the argument was changed", name)
	}
	for _, text := range texts(got) {
		if slices.ContainsFunc(texts(x), func(other string) bool { return shares(text, other) }) {
			t.Errorf("%s: %q shares its memory", name, text)
		}
	}
	spoil(got)
	if !same(x, whole()) {
		t.Errorf("%s: the answer shares its memory", name)
	}
	got = makes(x)
	spoil(x)
	if !same(got, want) {
		t.Errorf("%s: the argument was kept", name)
	}
}

func TestMakeArgument(t *testing.T) {
	checkFresh(t, "Text", func(x api.Json) api.Json { return json.Text(x.Kids[1].Text) })
	checkFresh(t, "List", func(x api.Json) api.Json { return json.List(x, x) })
	checkFresh(t, "List of kids", func(x api.Json) api.Json { return json.List(x.Kids...) })
	checkFresh(t, "Object", func(x api.Json) api.Json { return json.Object(x.Keys, x.Kids...) })
	checkFresh(t, "Object of one", func(x api.Json) api.Json { return json.Object([]string{"a"}, x) })
	checkFresh(t, "Field", func(x api.Json) api.Json {
		y, is := json.Field(x, "f")
		if !is {
			t.Error("there is no such field")
		}
		return y
	})
	checkFresh(t, "Field of a text", func(x api.Json) api.Json { y, _ := json.Field(x, "b"); return y })
	checkFresh(t, "Field of a number", func(x api.Json) api.Json { y, _ := json.Field(x, "another key"); return y })
}

// TestMakeTwice shows that a value that is handed in twice comes out as two.
func TestMakeTwice(t *testing.T) {
	x := list(num("1"))
	y := json.List(x, x)
	y.Kids[0].Kids[0].Text = "2"
	if !same(y, list(list(num("2")), list(num("1")))) {
		t.Errorf("%v", y)
	}
}

// TestBehind shows that what stands behind a list's end is neither read nor written.
func TestBehind(t *testing.T) {
	keys, kids := []string{"a", "b", "c"}, []api.Json{num("1"), list(num("2")), str("3")}
	for n := range 4 {
		for m := range 4 {
			x := json.Object(keys[:n], kids[:m]...)
			if !slices.Equal(x.Keys, keys[:n]) || !slices.EqualFunc(x.Kids, kids[:m], same) {
				t.Errorf("%d keys, %d kids: %v", n, m, x)
			}
			y := api.Json{Kind: api.JsonObject, Keys: keys[:n], Kids: kids[:m]}
			if json.Print(y) != json.Print(copied(y)) {
				t.Errorf("%d keys, %d kids: %s", n, m, json.Print(y))
			}
			if _, is := json.Field(y, "b"); is != (n > 1 && m > 1) {
				t.Errorf("%d keys, %d kids: there is a field: %v", n, m, is)
			}
		}
		if x := json.List(kids[:n]...); !slices.EqualFunc(x.Kids, kids[:n], same) {
			t.Errorf("%d kids: %v", n, x)
		}
	}
	if !slices.Equal(keys, []string{"a", "b", "c"}) || !slices.EqualFunc(kids, []api.Json{num("1"), list(num("2")), str("3")}, same) {
		t.Error("the arguments were changed")
	}
}

// great is a text of about as many bytes as there may be.
func great() string {
	one := `{"a":[1,-2.5e7,"text \n\u00e9",null],"b":{}},`
	return "[" + strings.Repeat(one, 1400) + "0]"
}

func BenchmarkParse(b *testing.B) {
	s := great()
	for b.Loop() {
		json.Parse(s)
	}
}

func BenchmarkPrint(b *testing.B) {
	x, _, _ := json.Parse(great())
	for b.Loop() {
		json.Print(x)
	}
}
