package json

import (
	"strings"

	"quaestor/api"
)

const signs = "0123456789abcdef"

// writer is a text to which values are put.
type writer struct{ strings.Builder }

// value puts a value's text.
func (w *writer) value(x api.Json) {
	switch x.Kind {
	case api.JsonFalse:
		w.WriteString("false")
	case api.JsonTrue:
		w.WriteString("true")
	case api.JsonNumber:
		w.WriteString(x.Text)
	case api.JsonText:
		w.text(x.Text)
	case api.JsonList:
		w.list(x.Kids)
	case api.JsonObject:
		w.object(x.Keys, x.Kids)
	default: // what is of no kind is null, too
		w.WriteString("null")
	}
}

func (w *writer) list(kids []api.Json) {
	w.WriteByte('[')
	for i, kid := range kids {
		w.comma(i)
		w.value(kid)
	}
	w.WriteByte(']')
}

func (w *writer) object(keys []string, kids []api.Json) {
	w.WriteByte('{')
	for i := range min(len(keys), len(kids)) {
		w.comma(i)
		w.text(keys[i])
		w.WriteByte(':')
		w.value(kids[i])
	}
	w.WriteByte('}')
}

// comma puts what stands ahead of the i-th one, from 0 on, of those within brackets.
func (w *writer) comma(i int) {
	if i > 0 {
		w.WriteByte(',')
	}
}

// text puts a string; its bytes need not be right UTF-8.
func (w *writer) text(s string) {
	w.WriteByte('"')
	for i := range len(s) {
		switch c := s[i]; {
		case c < ' ':
			w.WriteString(`\u00`)
			w.WriteByte(signs[c>>4])
			w.WriteByte(signs[c&15])
		case c == '"' || c == '\\':
			w.WriteByte('\\')
			w.WriteByte(c)
		default:
			w.WriteByte(c)
		}
	}
	w.WriteByte('"')
}
