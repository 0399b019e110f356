package json_test

import (
	"strings"
	"testing"

	"stairwell/api"
	"stairwell/json"
)

func TestPrint(t *testing.T) { // P1.3
	for _, c := range []struct {
		v    api.Value
		want string
	}{
		{null(), `null`}, {truth(false), `false`}, {truth(true), `true`},
		{number(0), `0`}, {number(7), `7`}, {number(-10), `-10`},
		{number(api.MaxNumber), `9007199254740992`}, {number(-api.MaxNumber), `-9007199254740992`},
		{text(""), `""`}, {text("a b/'<>&"), `"a b/'<>&"`},
		{list(), `[]`}, {list(null()), `[null]`}, {list(number(1), list(), text("x")), `[1,[],"x"]`},
		{object(""), `{}`}, {object("a", null()), `{"a":null}`},
		{object("a b", object("c", list(truth(true))), number(-1)), `{"a":{"c":[true]},"b":-1}`},
		{api.Value{Kind: api.Object, Keys: []string{"", "\n", "\""}, L: make([]api.Value, 3)}, `{"":null,"\n":null,"\"":null}`},
	} {
		if got, e := json.Print(c.v); got != c.want || e != api.OK {
			t.Errorf("%+v: %q, %d", c.v, got, e)
		}
	}
}

// told is how each byte below 128 is told in quotes.
func told(c int) string {
	switch c {
	case 34:
		return `\"`
	case 92:
		return `\\`
	case 8:
		return `\b`
	case 12:
		return `\f`
	case 10:
		return `\n`
	case 13:
		return `\r`
	case 9:
		return `\t`
	case 127:
		return `\u007f`
	}
	if c < 16 {
		return `\u000` + "0123456789abcdef"[c:c+1]
	}
	if c < 32 {
		return `\u001` + "0123456789abcdef"[c-16:c-15]
	}
	return string(rune(c))
}

func TestPrintBytes(t *testing.T) { // P1.3
	for c := range 128 {
		s := string(rune(c))
		if got, e := json.Print(text(s)); got != `"`+told(c)+`"` || e != api.OK {
			t.Errorf("%d: %s, %d", c, got, e)
		}
		v := api.Value{Kind: api.Object, Keys: []string{s}, L: []api.Value{{}}}
		if got, e := json.Print(v); got != `{"`+told(c)+`":null}` || e != api.OK {
			t.Errorf("%d: %s, %d", c, got, e)
		}
	}
}

func TestPrintRefuses(t *testing.T) { // P1.3
	for _, v := range append(wrongOnes(), lists(api.MaxDepth+1), list(make([]api.Value, api.MaxCount)...)) {
		if got, e := json.Print(v); got != "" || e != api.ErrForm {
			t.Errorf("%+v: %q, %d", v, got, e)
		}
	}
}

// ofLength is a good value that is told in as many bytes, some thousands at most.
func ofLength(n int) api.Value {
	v := list(text(""))
	have := len(`[""]`)
	for have < n {
		last := &v.L[len(v.L)-1]
		if len(last.S) == api.MaxText {
			v.L = append(v.L, text(""))
			have += len(`,""`)
			continue
		}
		last.S += "x"
		have++
	}
	return v
}

func TestPrintLong(t *testing.T) { // P1.3
	for n := api.MaxBytes - 3; n <= api.MaxBytes+3; n++ {
		v := ofLength(n)
		if !json.Good(v) {
			t.Fatalf("%d: not good", n)
		}
		s, e := json.Print(v)
		if n <= api.MaxBytes && (len(s) != n || e != api.OK) {
			t.Errorf("%d: %d, %d", n, len(s), e)
		}
		if n > api.MaxBytes && (s != "" || e != api.ErrLong) {
			t.Errorf("%d: %q, %d", n, s, e)
		}
	}
	most := strings.Repeat("\x01", api.MaxText)
	v := list(text(most), text(most), text(most), text(most), text(most), text(most))
	if s, e := json.Print(v); s != "" || e != api.ErrLong {
		t.Errorf("by what is escaped: %q, %d", s, e)
	}
	v.L = append(v.L, number(api.MaxNumber+1))
	if s, e := json.Print(v); s != "" || e != api.ErrForm {
		t.Errorf("long, and not good: %q, %d", s, e)
	}
}
