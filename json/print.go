package json

import (
	"strconv"
	"strings"

	"stairwell/api"
)

// Each byte of marked is told in quotes by a backslash and the byte of letters
// that stands at the same place.
const (
	marked  = "\"\\\b\f\n\r\t"
	letters = "\"\\bfnrt"
	digits  = "0123456789abcdef"
)

// Print is a value's text.
func Print(v api.Value) (string, api.Errno) {
	if !Good(v) {
		return "", api.ErrForm
	}
	b := appendValue(nil, v)
	if len(b) > api.MaxBytes {
		return "", api.ErrLong
	}
	return string(b), api.OK
}

func appendValue(b []byte, v api.Value) []byte {
	switch v.Kind {
	case api.Null:
		return append(b, "null"...)
	case api.Bool:
		return strconv.AppendBool(b, v.N == 1)
	case api.Number:
		return strconv.AppendInt(b, int64(v.N), 10)
	case api.Text:
		return appendQuoted(b, v.S)
	case api.List:
		return appendList(b, v)
	}
	return appendObject(b, v)
}

func appendList(b []byte, v api.Value) []byte {
	b = append(b, '[')
	for i, x := range v.L {
		if i > 0 {
			b = append(b, ',')
		}
		b = appendValue(b, x)
	}
	return append(b, ']')
}

func appendObject(b []byte, v api.Value) []byte {
	b = append(b, '{')
	for i, x := range v.L {
		if i > 0 {
			b = append(b, ',')
		}
		b = appendQuoted(b, v.Keys[i])
		b = append(b, ':')
		b = appendValue(b, x)
	}
	return append(b, '}')
}

func appendQuoted(b []byte, s string) []byte {
	b = append(b, '"')
	for i := 0; i < len(s); i++ {
		b = appendByte(b, s[i])
	}
	return append(b, '"')
}

func appendByte(b []byte, c byte) []byte {
	if i := strings.IndexByte(marked, c); i >= 0 {
		return append(b, '\\', letters[i])
	}
	if c < 32 || c == 127 {
		return append(b, '\\', 'u', '0', '0', digits[c/16], digits[c%16])
	}
	return append(b, c)
}
