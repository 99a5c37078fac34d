package json

import "strings"

const (
	high     = 0xd800  // the first code point that begins a pair
	low      = 0xdc00  // the first one that ends a pair
	behind   = 0xe000  // the first one behind those
	pairs    = 0x10000 // the code point that the first pair stands for
	halfBits = 10      // how many bits of a code point each half has
)

// text takes a string off, and tells what its pieces represent.
func (r *reader) text() (string, error) {
	if err := r.must(`"`); err != nil {
		return "", err
	}
	var b strings.Builder
	for !r.has(`"`) {
		if err := r.piece(&b); err != nil {
			return "", err
		}
	}
	return b.String(), nil
}

// piece takes a piece of a string off, and puts what it represents to b.
func (r *reader) piece(b *strings.Builder) error {
	if r.has(`\`) {
		return r.escape(b)
	}
	c := r.peek()
	if c < ' ' { // or the end
		return r.wrong()
	}
	r.at++
	b.WriteByte(c)
	return nil
}

// escape takes off what stands behind a backslash.
func (r *reader) escape(b *strings.Builder) error {
	if i, ok := r.which(escapes); ok {
		b.WriteByte(escaped[i])
		return nil
	}
	if err := r.must("u"); err != nil {
		return err
	}
	c, err := r.point()
	if err != nil {
		return err
	}
	b.WriteRune(c) // a half that is left alone is written as U+FFFD
	return nil
}

// point takes off the digits of a code point, and the piece behind them if they are a pair.
func (r *reader) point() (rune, error) {
	first, err := r.four()
	if err != nil || first < high || first >= low || !strings.HasPrefix(r.s[r.at:], `\u`) {
		return first, err
	}
	ahead := *r // the piece may be one of its own
	ahead.at += len(`\u`)
	second, err := ahead.four()
	if err != nil || second < low || second >= behind {
		return first, err
	}
	r.at = ahead.at
	return pairs + (first-high)<<halfBits + (second - low), nil
}

// four takes four hex digits off.
func (r *reader) four() (rune, error) {
	var v rune
	for range 4 {
		i, ok := r.which(hex)
		if !ok {
			return 0, r.wrong()
		}
		if i > 15 { // a great letter
			i -= 6
		}
		v = v<<4 | rune(i)
	}
	return v, nil
}
