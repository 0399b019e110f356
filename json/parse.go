package json

import (
	"strconv"
	"strings"

	"stairwell/api"
)

// Parse is the value of a text.
func Parse(s string) (api.Value, api.Errno) {
	if len(s) > api.MaxBytes {
		return api.Value{}, api.ErrLong
	}
	r := &reader{text: s}
	v := r.value()
	r.spaces()
	if r.bad || r.at < len(s) || !Good(v) {
		return api.Value{}, api.ErrForm
	}
	return v, api.OK
}

// reader goes through a text. What went wrong stays with it, so that it is
// asked once, at the end, and not behind each step.
type reader struct {
	text string
	at   int
	bad  bool
}

// fail goes to the end of the text, too: there every loop of the reader stops.
func (r *reader) fail() {
	r.bad = true
	r.at = len(r.text)
}

// ahead is the byte that comes, 0 at the end: a 0 itself is refused wherever it
// stands, so that nobody need tell them apart.
func (r *reader) ahead() byte {
	if r.at == len(r.text) {
		return 0
	}
	return r.text[r.at]
}

// next takes a byte, whichever it is.
func (r *reader) next() byte {
	if r.at == len(r.text) {
		r.fail()
		return 0
	}
	c := r.text[r.at]
	r.at++
	return c
}

func (r *reader) spaces() {
	for r.at < len(r.text) && strings.IndexByte(" \t\n\r", r.text[r.at]) >= 0 {
		r.at++
	}
}

// mark takes a mark behind spaces, if it is what comes.
func (r *reader) mark(c byte) bool {
	r.spaces()
	if r.ahead() != c {
		return false
	}
	r.at++
	return true
}

func (r *reader) need(c byte) {
	if !r.mark(c) {
		r.fail()
	}
}

func (r *reader) value() api.Value {
	r.spaces()
	switch r.ahead() {
	case 'n':
		return r.word("null", api.Value{})
	case 'f':
		return r.word("false", api.Value{Kind: api.Bool})
	case 't':
		return r.word("true", api.Value{Kind: api.Bool, N: 1})
	case '"':
		return api.Value{Kind: api.Text, S: r.quoted()}
	case '[':
		return r.list()
	case '{':
		return r.object()
	}
	return r.number()
}

func (r *reader) word(w string, v api.Value) api.Value {
	if !strings.HasPrefix(r.text[r.at:], w) {
		r.fail()
		return api.Value{}
	}
	r.at += len(w)
	return v
}

func (r *reader) number() api.Value {
	from := r.at
	for c := r.ahead(); c == '-' || c >= '0' && c <= '9'; c = r.ahead() {
		r.at++
	}
	s := r.text[from:r.at]
	n, err := strconv.Atoi(s)
	// Told back, it shows noughts in front and a nought below nought.
	if err != nil || strconv.Itoa(n) != s {
		r.fail()
		return api.Value{}
	}
	return api.Value{Kind: api.Number, N: n}
}

func (r *reader) list() api.Value {
	v := api.Value{Kind: api.List}
	r.need('[')
	if r.mark(']') {
		return v
	}
	v.L = append(v.L, r.value())
	for r.mark(',') {
		v.L = append(v.L, r.value())
	}
	r.need(']')
	return v
}

func (r *reader) object() api.Value {
	v := api.Value{Kind: api.Object}
	r.need('{')
	if r.mark('}') {
		return v
	}
	v = r.member(v)
	for r.mark(',') {
		v = r.member(v)
	}
	r.need('}')
	return v
}

// member puts a member in where its key belongs: in the text they stand in any
// order.
func (r *reader) member(v api.Value) api.Value {
	key := r.quoted()
	r.need(':')
	x := r.value()
	if _, twice := Member(v, key); twice {
		r.fail()
	}
	return With(v, key, x)
}

func (r *reader) quoted() string {
	r.need('"')
	var b []byte
	for !r.bad {
		c := r.next()
		switch {
		case c == '"':
			return string(b)
		case c == '\\':
			b = append(b, r.escaped())
		case c < 32 || c >= 127:
			r.fail()
		default:
			b = append(b, c)
		}
	}
	return ""
}

// escaped is the byte that is told behind a backslash.
func (r *reader) escaped() byte {
	c := r.next()
	if c == 'u' {
		return r.coded()
	}
	if c == '/' {
		return c
	}
	i := strings.IndexByte(letters, c)
	if i < 0 {
		r.fail()
		return 0
	}
	return marked[i]
}

// coded is the byte that four digits tell.
func (r *reader) coded() byte {
	n := 0
	for range 4 {
		n = n*16 + r.digit()
	}
	if n >= 128 {
		r.fail()
		return 0
	}
	return byte(n)
}

func (r *reader) digit() int {
	c := r.next()
	if c >= 'A' && c <= 'F' {
		c += 'a' - 'A'
	}
	i := strings.IndexByte(digits, c)
	if i < 0 {
		r.fail()
		return 0
	}
	return i
}
