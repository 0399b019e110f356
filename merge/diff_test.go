package merge_test

import (
	"testing"

	"stairwell/api"
	"stairwell/json"
	"stairwell/merge"
)

func TestClean(t *testing.T) { // P4.2
	for _, s := range []string{
		"null", "true", "3", `"null"`, "[]", "[null]", `[{"a":null}]`, "{}", `{"a":1}`, `{"a":{}}`, `{"a":[]}`, `{"a":""}`, `{"a":false}`, `{"a":0}`,
		`{"a":[null]}`, `{"a":[{"b":null}]}`, `{"null":1}`, `{"a":{"b":{"c":[{"d":null}]}},"e":1}`, deep(api.MaxDepth-1, "1"),
	} {
		if !merge.Clean(of(t, s)) {
			t.Errorf("not clean: %s", s)
		}
	}
	for _, s := range []string{
		`{"a":null}`, `{"a":1,"b":null}`, `{"a":null,"b":1}`, `{"a":1,"b":null,"c":2}`, `{"":null}`,
		`{"a":{"b":null}}`, `{"a":{},"b":{"c":null}}`, `{"a":{"b":null},"b":{}}`, `{"a":{"b":{"c":1}},"b":{"c":{"d":1,"e":null}}}`,
		`{"a":{"b":1,"c":{"d":null}},"b":{"c":1},"d":[]}`, deep(api.MaxDepth-1, "null"),
	} {
		if merge.Clean(of(t, s)) {
			t.Errorf("clean: %s", s)
		}
	}
}

func TestCleanOfOnesThatAreNotGood(t *testing.T) { // P4.2
	for i, v := range wrong() {
		// There is no Null in any of them but in lists, and in what is no object.
		if !merge.Clean(v) {
			t.Errorf("not clean: wrong value %d", i)
		}
		if got := merge.Clean(object("a", v)); got != (v.Kind != api.Null) {
			t.Errorf("wrong value %d in an object: %v", i, got)
		}
	}
	for _, v := range []api.Value{object("a b a", number(1), number(1), api.Value{}), members("a", 1000, api.Value{}), object("a", api.Value{N: 1})} {
		if merge.Clean(v) {
			t.Errorf("clean: %d members", len(v.L))
		}
	}
	clean, not := number(1), api.Value{}
	for range 1 << 20 {
		clean, not = object("a", clean), object("a", not)
	}
	if !merge.Clean(clean) || merge.Clean(not) {
		t.Errorf("very deep ones: %v, %v", merge.Clean(clean), merge.Clean(not))
	}
}

func TestDiff(t *testing.T) { // P4.2
	for _, c := range [][3]string{
		{`{"a":1,"b":{"c":2,"d":3}}`, `{"b":{"c":2},"e":4}`, `{"a":null,"b":{"d":null},"e":4}`},
		{`{"a":1}`, `{"a":1}`, `{}`}, {`{}`, `{}`, `{}`}, {`{"a":{"b":[1]}}`, `{"a":{"b":[1]}}`, `{}`},
		{`{"a":1}`, `{"a":2}`, `{"a":2}`}, {`{"a":1}`, `{"a":"1"}`, `{"a":"1"}`}, {`{"a":1}`, `{"a":true}`, `{"a":true}`},
		{`{"a":1}`, `{}`, `{"a":null}`}, {`{}`, `{"a":1}`, `{"a":1}`},
		{`{"a":1,"b":2,"c":3}`, `{"b":2}`, `{"a":null,"c":null}`}, {`{"b":2}`, `{"a":1,"b":2,"c":3}`, `{"a":1,"c":3}`},
		{`{"b":1}`, `{"a":1}`, `{"a":1,"b":null}`},
		// What is no object comes whole, and so does what comes in its place.
		{`{"a":1}`, `[]`, `[]`}, {`{"a":1}`, `null`, `null`}, {`{"a":1}`, `7`, `7`}, {`{"a":1}`, `"x"`, `"x"`}, {`{"a":1}`, `false`, `false`},
		{`[]`, `{"a":1}`, `{"a":1}`}, {`null`, `{}`, `{}`}, {`7`, `{"a":{"b":1}}`, `{"a":{"b":1}}`},
		{`7`, `7`, `7`}, {`7`, `8`, `8`}, {`null`, `null`, `null`}, {`[1]`, `[1]`, `[1]`}, {`[1]`, `[1,2]`, `[1,2]`}, {`7`, `[null]`, `[null]`},
		{`[1]`, `[{"a":null}]`, `[{"a":null}]`},
		// Lists are alike or not: there is no patch of one.
		{`{"a":[1,2]}`, `{"a":[1,3]}`, `{"a":[1,3]}`}, {`{"a":[1]}`, `{"a":[]}`, `{"a":[]}`}, {`{"a":[{"b":1,"c":2}]}`, `{"a":[{"b":1}]}`, `{"a":[{"b":1}]}`},
		{`{"a":[{"b":null}]}`, `{"a":[{"b":null}]}`, `{}`}, {`{"a":[]}`, `{"a":[null]}`, `{"a":[null]}`},
		// Objects in objects.
		{`{"a":{"b":1}}`, `{"a":{}}`, `{"a":{"b":null}}`}, {`{"a":{}}`, `{"a":{"b":1}}`, `{"a":{"b":1}}`},
		{`{"a":{"b":1}}`, `{}`, `{"a":null}`}, {`{}`, `{"a":{"b":1}}`, `{"a":{"b":1}}`}, {`{}`, `{"a":{}}`, `{"a":{}}`}, {`{"a":{}}`, `{}`, `{"a":null}`},
		{`{"a":{"b":1}}`, `{"a":1}`, `{"a":1}`}, {`{"a":1}`, `{"a":{"b":1}}`, `{"a":{"b":1}}`}, {`{"a":{"b":1}}`, `{"a":[]}`, `{"a":[]}`}, {`{"a":[]}`, `{"a":{}}`, `{"a":{}}`},
		{`{"a":{"b":{"c":1,"d":2},"e":3}}`, `{"a":{"b":{"c":1,"d":5},"e":3}}`, `{"a":{"b":{"d":5}}}`},
		{`{"a":{"b":{"c":1},"e":3}}`, `{"a":{"b":{"d":1},"e":3}}`, `{"a":{"b":{"c":null,"d":1}}}`},
		// The first one need not be clean.
		{`{"a":null}`, `{}`, `{"a":null}`}, {`{"a":null}`, `{"a":1}`, `{"a":1}`}, {`{"a":null,"b":{"c":null}}`, `{"b":{}}`, `{"a":null,"b":{"c":null}}`},
		{`{"a":null}`, `{"a":{"b":1}}`, `{"a":{"b":1}}`}, {`{"a":null}`, `null`, `null`},
		// Keys are held against each other as bytes.
		{`{"A":1,"aa":2}`, `{"a":1,"aa":2}`, `{"A":null,"a":1}`}, {`{"":1,"~":2}`, `{"/":1,"~":{}}`, `{"":null,"/":1,"~":{}}`},
	} {
		tryDiff(t, c)
	}
}

func tryDiff(t *testing.T, c [3]string) {
	t.Helper()
	a, b := roomy(of(t, c[0])), roomy(of(t, c[1]))
	d, e := merge.Diff(a, b)
	if show(d) != c[2] || e != api.OK {
		t.Errorf("%s and %s: %s, %d; wanted %s", c[0], c[1], show(d), e, c[2])
	}
	if show(a) != c[0] || !untouched(a) || show(b) != c[1] || !untouched(b) {
		t.Errorf("%s and %s changed what was handed in", c[0], c[1])
	}
	if !unshared(d) {
		t.Errorf("%s and %s: lists share memory", c[0], c[1])
	}
}

// TestDiffByItsWords asks each member of what comes, for many pairs, and that
// the second one comes of the first one by it.
func TestDiffByItsWords(t *testing.T) { // P4.1, P4.2
	for _, a := range some() {
		for _, b := range some() {
			d, e := merge.Diff(a, b)
			if !merge.Clean(b) {
				if e != api.ErrForm || !zero(d) {
					t.Fatalf("%s and %s: %s, %d", show(a), show(b), show(d), e)
				}
				continue
			}
			if e != api.OK || !json.Good(d) || !isDiff(a, b, d) {
				t.Fatalf("%s and %s: %s, %d", show(a), show(b), show(d), e)
			}
			if w, e := merge.Merge(a, d); e != api.OK || !json.Same(w, b) {
				t.Fatalf("%s and %s: by %s it is %s, %d", show(a), show(b), show(d), show(w), e)
			}
		}
	}
}

func isDiff(a, b, d api.Value) bool {
	if a.Kind != api.Object || b.Kind != api.Object {
		return json.Same(d, b)
	}
	if d.Kind != api.Object {
		return false
	}
	for _, key := range []string{"a", "b", "c"} {
		was, before := json.Member(a, key)
		is, after := json.Member(b, key)
		x, said := json.Member(d, key)
		right := false
		switch {
		case !before && !after, before && after && json.Same(was, is):
			right = !said
		case !after:
			right = said && x.Kind == api.Null
		case !before:
			right = said && json.Same(x, is)
		default:
			right = said && isDiff(was, is, x)
		}
		if !right {
			return false
		}
	}
	return true
}

func TestDiffRefusesWrongOnes(t *testing.T) { // P4.2
	rights := []api.Value{{}, number(3), {Kind: api.List}, {Kind: api.Object}, object("a", number(1)), members("m", api.MaxCount-1, number(1))}
	for i, x := range wrong() {
		for _, y := range append(rights, wrong()...) {
			if d, e := merge.Diff(x, y); e != api.ErrForm || !zero(d) {
				t.Errorf("of wrong value %d: %d", i, e)
			}
			if d, e := merge.Diff(y, x); e != api.ErrForm || !zero(d) {
				t.Errorf("to wrong value %d: %d", i, e)
			}
		}
		if d, e := merge.Diff(object("a", number(1)), object("b", x)); e != api.ErrForm || !zero(d) {
			t.Errorf("to one with wrong value %d in it: %d", i, e)
		}
		if d, e := merge.Diff(object("b", x), object("b", x)); e != api.ErrForm || !zero(d) {
			t.Errorf("of one with wrong value %d in it: %d", i, e)
		}
	}
	for _, b := range []string{`{"a":null}`, `{"a":{"b":null}}`, `{"a":1,"b":{"c":{},"d":{"e":null}}}`} {
		for _, a := range []string{b, "{}", "null", "[1]", `{"a":1}`, `{"a":{"b":1}}`} {
			if d, e := merge.Diff(of(t, a), of(t, b)); e != api.ErrForm || !zero(d) {
				t.Errorf("%s and %s: %s, %d", a, b, show(d), e)
			}
		}
	}
}

func TestDiffHowMuch(t *testing.T) { // P4.2
	const half = api.MaxCount / 2
	one := number(1)
	a := members("a", half, one)
	for n := half - 3; n < half+3; n++ {
		d, e := merge.Diff(a, members("b", n, one))
		if half+n+1 <= api.MaxCount {
			if e != api.OK || json.Count(d) != half+n+1 {
				t.Errorf("%d and %d: %d, %d in it", half, n, e, json.Count(d))
			}
		} else if e != api.ErrLong || !zero(d) {
			t.Errorf("%d and %d: %d", half, n, e)
		}
	}
	// It is ErrForm first.
	b := json.With(members("b", half, one), "n", api.Value{})
	if d, e := merge.Diff(a, b); e != api.ErrForm || !zero(d) {
		t.Errorf("with a Null: %d", e)
	}
	// Too much by what is within a member.
	in := object("x", a)
	if d, e := merge.Diff(in, object("x", members("b", half-2, one))); e != api.OK || json.Count(d) != api.MaxCount {
		t.Errorf("within: %d, %d in it", e, json.Count(d))
	}
	if d, e := merge.Diff(in, object("x", members("b", half-1, one))); e != api.ErrLong || !zero(d) {
		t.Errorf("within, one more: %d", e)
	}
	// All that there may be, on both sides.
	full, other := members("m", api.MaxCount-1, one), members("m", api.MaxCount-1, number(2))
	if d, e := merge.Diff(full, other); e != api.OK || !json.Same(d, other) {
		t.Errorf("all are others: %d", e)
	}
	if d, e := merge.Diff(full, full); e != api.OK || show(d) != "{}" {
		t.Errorf("all are alike: %d", e)
	}
	if d, e := merge.Diff(full, api.Value{Kind: api.Object}); e != api.OK || !json.Same(d, members("m", api.MaxCount-1, api.Value{})) {
		t.Errorf("all are gone: %d", e)
	}
}

func TestDiffHowDeep(t *testing.T) { // P4.2
	for n := 1; n < api.MaxDepth; n++ {
		a, b := deep(n, "1"), deep(n, `"x"`)
		if d, e := merge.Diff(of(t, a), of(t, b)); e != api.OK || show(d) != b {
			t.Errorf("%d deep: %s, %d", n, show(d), e)
		}
		if d, e := merge.Diff(of(t, a), of(t, deep(n-1, "{}"))); e != api.OK || show(d) != deep(n, "null") {
			t.Errorf("%d deep, gone: %s, %d", n, show(d), e)
		}
	}
}
