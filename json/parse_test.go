package json_test

import (
	stdjson "encoding/json"
	"fmt"
	"math/rand"
	"slices"
	"strings"
	"testing"

	"stairwell/api"
	"stairwell/json"
)

func TestParse(t *testing.T) { // P1.4
	most := strings.Repeat("x", api.MaxText)
	for _, c := range []struct {
		s    string
		want api.Value
	}{
		{`null`, null()}, {`false`, truth(false)}, {`true`, truth(true)},
		{`0`, number(0)}, {`-1`, number(-1)}, {`100`, number(100)}, {`9007199254740992`, number(api.MaxNumber)},
		{`-9007199254740992`, number(-api.MaxNumber)},
		{`""`, text("")}, {`"a b"`, text("a b")}, {`" "`, text(" ")}, {`"/"`, text("/")}, {`"` + most + `"`, text(most)},
		{`"\"\\\/\b\f\n\r\t"`, text("\"\\/\b\f\n\r\t")},
		{`"\u0000\u0041\u007f\u007F\u001b\u001B\u0022\u005C\u002f"`, text("\x00A\x7f\x7f\x1b\x1b\"\\/")},
		{`[]`, list()}, {`[[],[]]`, list(list(), list())}, {`[1,"a",null]`, list(number(1), text("a"), null())},
		{`{}`, object("")}, {`{"a":{}}`, object("a", object(""))},
		{`{"b":1,"a":2}`, object("a b", number(2), number(1))},
		{`{"c":1,"a":2,"b":3}`, object("a b c", number(2), number(3), number(1))},
		{`{"b":{"z":1,"y":2},"a":[{"d":3,"c":4}]}`, object("a b", list(object("c d", number(4), number(3))), object("y z", number(2), number(1)))},
		{`{"\u0062":1,"\u0061":2}`, object("a b", number(2), number(1))},
		{`{"":1}`, api.Value{Kind: api.Object, Keys: []string{""}, L: []api.Value{number(1)}}},
		{" \t\n\r1 \t\n\r", number(1)}, {" [ ] ", list()}, {"\t{\n}\r", object("")},
		{" [ 1 , 2 ] ", list(number(1), number(2))}, {"[\n\"a\"\n,\r\ntrue\t]", list(text("a"), truth(true))},
		{" { \"a\" : 1 , \"b\" : null } ", object("a b", number(1), null())},
	} {
		v, e := json.Parse(c.s)
		if e != api.OK || !json.Same(v, c.want) || !json.Good(v) {
			t.Errorf("%s: %+v, %d", c.s, v, e)
		}
	}
}

func TestParseRefuses(t *testing.T) { // P1.4
	more := strings.Repeat("x", api.MaxText+1)
	for _, s := range []string{
		``, ` `, "\x00", `x`, `,`, `:`, `]`, `}`,
		`nul`, `nulll`, `Null`, `NULL`, `n`, `t`, `f`, `tru`, `truee`, `fals`, `True`, `n ull`, `nullnull`, `undefined`,
		`-`, `-0`, `00`, `01`, `-01`, `--1`, `1-`, `1-1`, `+1`, `- 1`, `1 1`, `1.5`, `1.0`, `.5`, `1.`, `1e2`, `1E2`, `0x1`, `1_0`, `NaN`,
		`9007199254740993`, `-9007199254740993`, `9223372036854775807`, `9223372036854775808`, `-9223372036854775809`,
		`18446744073709551617`, strings.Repeat("9", 400),
		`"`, `"a`, `a"`, `"a""`, `"""`, `'a'`, `"\"`, `"\`, `"\x"`, `"\U0041"`, `"\a"`, `"\v"`, `"\0"`, `"\'"`, `"\N"`, "\"\\\n\"", `\u0041`,
		`"\u"`, `"\u1"`, `"\u004"`, `"\u00g1"`, `"\u00G1"`, `"\u00 1"`, `"\u-001"`, `"\u+001"`, `"\u0080"`, `"\u00ff"`, `"\u0100"`, `"\u1041"`, `"\uFFFF"`, `"\u004`, `"\u`,
		"\"\x7f\"", "\"\x80\"", "\"\xff\"", `"é"`, "\"\n\"", "\"\t\"", "\"\x00\"", "\"\x1f\"", `"` + more + `"`, `"` + strings.Repeat(`\n`, api.MaxText+1) + `"`,
		`[`, `[1`, `[1,`, `[,`, `[,]`, `[1,]`, `[,1]`, `[1,,2]`, `[1 2]`, `[1]]`, `[1}`, `[1][`, `[]1`, `[:]`, `["a":1]`, `[1;2]`,
		`{`, `{"a"`, `{"a":`, `{"a":1`, `{"a":1,`, `{"a"}`, `{"a":}`, `{:1}`, `{"a":1,}`, `{,}`, `{,"a":1}`, `{"a":1,,"b":2}`, `{"a":1 "b":2}`,
		`{"a" 1}`, `{"a",1}`, `{"a"::1}`, `{"a":1]`, `{a:1}`, `{1:1}`, `{null:1}`, `{[]:1}`, `{'a':1}`, `{"a":1}}`, `{"a":1}{}`, `{"a":1:2}`,
		`{"a":1,"a":1}`, `{"a":1,"b":2,"a":3}`, `{"a":1,"\u0061":1}`, `{"":1,"":2}`, `[{"b":{"a":1,"a":2}}]`, `{"` + more + `":1}`, "{\"\x80\":1}", "{\"\x7f\":1}",
		"\v1", "1\f", "\u00a01", "1\x00", "\x001", "[1,\v2]", "[\x00]", "\ufeff1", "/**/1", "1//", "1;",
	} {
		v, e := json.Parse(s)
		if e != api.ErrForm || !zero(v) {
			t.Errorf("%q: %+v, %d", s, v, e)
		}
	}
}

func TestParseLimits(t *testing.T) { // P1.4
	spaces := strings.Repeat(" ", api.MaxBytes)
	deep := func(n int) string { return strings.Repeat("[", n) + strings.Repeat("]", n) }
	deeper := func(n int) string { return strings.Repeat(`{"a":`, n-1) + "1" + strings.Repeat("}", n-1) }
	many := func(n int) string { return "[0" + strings.Repeat(",0", n-2) + "]" }
	for _, c := range []struct {
		s    string
		want api.Errno
	}{
		{"1" + spaces[1:], api.OK}, {spaces[1:] + "1", api.OK},
		{spaces, api.ErrForm}, {"1" + spaces, api.ErrLong}, {spaces + "1", api.ErrLong},
		{strings.Repeat("[", api.MaxBytes), api.ErrForm}, {strings.Repeat("[", api.MaxBytes+1), api.ErrLong},
		{strings.Repeat(`{"":`, api.MaxBytes/4), api.ErrForm}, {deep(api.MaxBytes / 2), api.ErrForm},
		{strings.Repeat("\xff", api.MaxBytes), api.ErrForm}, {strings.Repeat("\xff", 100*api.MaxBytes), api.ErrLong},
		{deep(api.MaxDepth), api.OK}, {deep(api.MaxDepth + 1), api.ErrForm},
		{deeper(api.MaxDepth), api.OK}, {deeper(api.MaxDepth + 1), api.ErrForm},
		{many(api.MaxCount), api.OK}, {many(api.MaxCount + 1), api.ErrForm},
	} {
		v, e := json.Parse(c.s)
		if e != c.want || (e == api.OK) != json.Good(v) && !zero(v) {
			t.Errorf("%.20q, %d bytes: %d", c.s, len(c.s), e)
		}
	}
}

func TestParseBytes(t *testing.T) { // P1.4
	for c := range 256 {
		if c < 128 {
			for _, s := range []string{told(c), fmt.Sprintf(`\u%04x`, c), fmt.Sprintf(`\u%04X`, c)} {
				if v, e := json.Parse(`"` + s + `"`); e != api.OK || v.S != string(rune(c)) {
					t.Errorf("%s: %+v, %d", s, v, e)
				}
			}
		}
		raw := string([]byte{'"', byte(c), '"'})
		want := c >= 32 && c < 127 && c != '"' && c != '\\'
		if _, e := json.Parse(raw); (e == api.OK) != want {
			t.Errorf("%q: %d", raw, e)
		}
		escaped := string([]byte{'"', '\\', byte(c), '"'})
		want = c < 128 && strings.IndexByte(`"\/bfnrt`, byte(c)) >= 0
		if _, e := json.Parse(escaped); (e == api.OK) != want {
			t.Errorf("%q: %d", escaped, e)
		}
		behind := string([]byte{'1', byte(c)})
		want = strings.IndexByte(" \t\n\r0123456789", byte(c)) >= 0
		if _, e := json.Parse(behind); (e == api.OK) != want {
			t.Errorf("%q: %d", behind, e)
		}
	}
}

// anyValue is a good value, so shallow and small that it can be told.
func anyValue(r *rand.Rand, depth int) api.Value {
	kinds := 6
	if depth == 0 {
		kinds = 4
	}
	v := api.Value{Kind: r.Intn(kinds)}
	switch v.Kind {
	case api.Bool:
		v.N = r.Intn(2)
	case api.Number:
		v.N = r.Intn(2*api.MaxNumber+1) - api.MaxNumber
	case api.Text:
		v.S = anyText(r)
	case api.List:
		for range r.Intn(4) {
			v.L = append(v.L, anyValue(r, depth-1))
		}
	case api.Object:
		for range r.Intn(4) {
			v.Keys = append(v.Keys, anyText(r))
		}
		slices.Sort(v.Keys)
		v.Keys = slices.Compact(v.Keys)
		for range v.Keys {
			v.L = append(v.L, anyValue(r, depth-1))
		}
	}
	return v
}

func anyText(r *rand.Rand) string {
	b := make([]byte, r.Intn(5))
	for i := range b {
		b[i] = byte(r.Intn(128))
	}
	return string(b)
}

// loose tells a value with spaces, members in any order, bytes by number.
func loose(r *rand.Rand, v api.Value) string {
	space := func() string { return strings.Repeat(string(" \t\n\r"[r.Intn(4)]), r.Intn(2)) }
	var parts []string
	switch v.Kind {
	case api.Text:
		return space() + looseText(r, v.S) + space()
	case api.List:
		for _, x := range v.L {
			parts = append(parts, loose(r, x))
		}
		return space() + "[" + space() + strings.Join(parts, ",") + "]" + space()
	case api.Object:
		for i, x := range v.L {
			parts = append(parts, space()+looseText(r, v.Keys[i])+space()+":"+loose(r, x))
		}
		r.Shuffle(len(parts), func(i, j int) { parts[i], parts[j] = parts[j], parts[i] })
		return space() + "{" + space() + strings.Join(parts, ",") + "}" + space()
	}
	s, _ := json.Print(v)
	return space() + s + space()
}

func looseText(r *rand.Rand, s string) string {
	b := `"`
	for _, c := range []byte(s) {
		switch r.Intn(3) {
		case 0:
			b += fmt.Sprintf(`\u%04x`, c)
		case 1:
			b += fmt.Sprintf(`\u%04X`, c)
		default:
			b += told(int(c))
		}
	}
	return b + `"`
}

func TestThereAndBack(t *testing.T) { // P1.3, P1.4
	r := rand.New(rand.NewSource(1))
	for range 3000 {
		v := anyValue(r, 3)
		s, e := json.Print(v)
		if e != api.OK || !stdjson.Valid([]byte(s)) {
			t.Fatalf("%+v: %q, %d", v, s, e)
		}
		if w, e := json.Parse(s); e != api.OK || !json.Same(v, w) {
			t.Fatalf("%q: %+v, %d", s, w, e)
		}
		l := loose(r, v)
		w, e := json.Parse(l)
		if len(l) > api.MaxBytes {
			continue
		}
		if e != api.OK || !json.Same(v, w) {
			t.Fatalf("%q: %+v, %d", l, w, e)
		}
	}
}

func TestSpoiledTexts(t *testing.T) { // P1.4: what is no JSON is refused, and nothing panics
	r := rand.New(rand.NewSource(2))
	const bytes = "{}[]:,\"\\u/0019-.eE+ \n\t\x00\x7f\xffnulltruefalse"
	for range 20000 {
		b := []byte(loose(r, anyValue(r, 2)))
		for range 1 + r.Intn(2) {
			at := r.Intn(len(b))
			switch r.Intn(3) {
			case 0:
				b[at] = bytes[r.Intn(len(bytes))]
			case 1:
				b = slices.Insert(b, at, bytes[r.Intn(len(bytes))])
			case 2:
				b = append(slices.Delete(b, at, at+1), ' ')
			}
		}
		v, e := json.Parse(string(b))
		if e == api.OK && (!stdjson.Valid(b) || !json.Good(v)) {
			t.Fatalf("%q: %+v", b, v)
		}
		if e != api.OK && !zero(v) {
			t.Fatalf("%q: %+v, %d", b, v, e)
		}
	}
}
