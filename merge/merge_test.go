package merge_test

import (
	"testing"

	"stairwell/api"
	"stairwell/json"
	"stairwell/merge"
)

func TestMerge(t *testing.T) { // P4.1
	for _, c := range [][3]string{
		{`{"a":1,"b":{"c":2}}`, `{"a":null,"b":{"d":3}}`, `{"b":{"c":2,"d":3}}`},
		{`{"a":1}`, `{"a":2}`, `{"a":2}`},
		{`{"a":1}`, `{"b":2}`, `{"a":1,"b":2}`},
		{`{"b":1}`, `{"a":2}`, `{"a":2,"b":1}`},
		{`{"a":1,"c":3}`, `{"b":2}`, `{"a":1,"b":2,"c":3}`},
		{`{"a":1}`, `{"a":1}`, `{"a":1}`},
		{`{"a":1}`, `{"a":null}`, `{}`},
		{`{"a":1,"b":2}`, `{"a":null}`, `{"b":2}`},
		{`{"a":1,"b":2}`, `{"a":null,"b":null}`, `{}`},
		{`{"a":[1]}`, `{"a":2}`, `{"a":2}`},
		{`{"a":2}`, `{"a":[1]}`, `{"a":[1]}`},
		{`{"image":"x"}`, `{"image":"y","steps":[10,{"pause":0},50]}`, `{"image":"y","steps":[10,{"pause":0},50]}`},
		// A patch without members changes nothing.
		{`{"a":1}`, `{}`, `{"a":1}`}, {`{}`, `{}`, `{}`}, {`{"a":null}`, `{}`, `{"a":null}`},
		{`{"a":{"b":1}}`, `{"a":{}}`, `{"a":{"b":1}}`},
		// Of what is no object nothing is left.
		{`[1]`, `{}`, `{}`}, {`null`, `{}`, `{}`}, {`"a"`, `{}`, `{}`}, {`true`, `{}`, `{}`}, {`5`, `{}`, `{}`},
		{`[{"a":1}]`, `{"b":2}`, `{"b":2}`}, {`null`, `{"a":1}`, `{"a":1}`},
		{`{"a":[1]}`, `{"a":{}}`, `{"a":{}}`}, {`{"a":"x"}`, `{"a":{"b":1}}`, `{"a":{"b":1}}`},
		{`{"a":[{"b":1}]}`, `{"a":{"c":1}}`, `{"a":{"c":1}}`},
		// What is no object stands in place of all.
		{`{"a":1}`, `[1]`, `[1]`}, {`{"a":1}`, `[]`, `[]`}, {`{"a":1}`, `null`, `null`}, {`{"a":1}`, `"x"`, `"x"`},
		{`{"a":1}`, `false`, `false`}, {`{"a":1}`, `7`, `7`}, {`[1]`, `null`, `null`}, {`null`, `[1]`, `[1]`},
		{`{"a":{"b":1}}`, `{"a":7}`, `{"a":7}`}, {`{"a":{"b":1}}`, `{"a":[]}`, `{"a":[]}`},
		// Null in v stays, unless the patch says something of it.
		{`{"a":null}`, `{"b":1}`, `{"a":null,"b":1}`}, {`{"a":null}`, `{"a":null}`, `{}`}, {`{"a":null}`, `{"a":{"b":1}}`, `{"a":{"b":1}}`},
		{`{"a":{"b":null,"c":1}}`, `{"a":{"c":2}}`, `{"a":{"b":null,"c":2}}`},
	} {
		tryMerge(t, c)
	}
}

func TestMergeOfMembersThatAreNotThere(t *testing.T) { // P4.1
	for _, c := range [][3]string{
		{`{"a":1}`, `{"b":null}`, `{"a":1}`},
		{`{}`, `{"a":null}`, `{}`},
		{`[1]`, `{"a":null}`, `{}`},
		// Null goes in an object that comes whole, too.
		{`[1]`, `{"a":{"b":null,"c":1}}`, `{"a":{"c":1}}`},
		{`{}`, `{"a":{"b":null,"c":1}}`, `{"a":{"c":1}}`},
		{`{}`, `{"a":{"b":{"c":null}}}`, `{"a":{"b":{}}}`},
		{`{}`, `{"a":{"b":null}}`, `{"a":{}}`},
		{`{}`, `{"a":{}}`, `{"a":{}}`},
		{`{"a":{"b":1}}`, `{"a":{"b":null}}`, `{"a":{}}`},
		{`{"a":{"b":1}}`, `{"a":{"b":{"c":null}}}`, `{"a":{"b":{}}}`},
		{`{"a":{"b":{"c":1}}}`, `{"a":{"b":{"c":null,"d":{"e":{"f":null}}}}}`, `{"a":{"b":{"d":{"e":{}}}}}`},
		// Not in a list, nor in an object in one.
		{`{"a":[1,2]}`, `{"a":[null]}`, `{"a":[null]}`},
		{`{"a":[{"b":1}]}`, `{"a":[{"b":null}]}`, `{"a":[{"b":null}]}`},
		{`{"b":1}`, `[{"b":null}]`, `[{"b":null}]`},
		// Keys are held against each other as bytes.
		{`{"A":1,"a":2}`, `{"a":null,"":3,"~":{},"/":4}`, `{"":3,"/":4,"A":1,"~":{}}`},
		{`{"a":1,"aa":2}`, `{"a":null}`, `{"aa":2}`},
	} {
		tryMerge(t, c)
	}
}

func tryMerge(t *testing.T, c [3]string) {
	t.Helper()
	v, p := roomy(of(t, c[0])), roomy(of(t, c[1]))
	w, e := merge.Merge(v, p)
	if show(w) != c[2] || e != api.OK {
		t.Errorf("%s and %s: %s, %d; wanted %s", c[0], c[1], show(w), e, c[2])
	}
	if show(v) != c[0] || !untouched(v) || !json.Same(p, of(t, c[1])) || !untouched(p) {
		t.Errorf("%s and %s changed what was handed in", c[0], c[1])
	}
	if !unshared(w) {
		t.Errorf("%s and %s: lists share memory", c[0], c[1])
	}
}

// TestMergeByItsWords asks each member of what comes, for many pairs.
func TestMergeByItsWords(t *testing.T) { // P4.1
	for _, v := range some() {
		for _, p := range some() {
			w, e := merge.Merge(v, p)
			if e != api.OK || !json.Good(w) || !isMerge(v, p, w) {
				t.Fatalf("%s and %s: %s, %d", show(v), show(p), show(w), e)
			}
		}
	}
}

func isMerge(v, p, w api.Value) bool {
	if p.Kind != api.Object {
		return json.Same(w, p)
	}
	if w.Kind != api.Object {
		return false
	}
	for _, key := range []string{"a", "b", "c"} {
		was, before := json.Member(v, key)
		x, said := json.Member(p, key)
		is, there := json.Member(w, key)
		switch {
		case !said:
			if there != before || !json.Same(is, was) {
				return false
			}
		case x.Kind == api.Null:
			if there {
				return false
			}
		case !there || !isMerge(was, x, is):
			return false
		}
	}
	return true
}

func TestMergeRefusesWrongOnes(t *testing.T) { // P4.1
	rights := []api.Value{{}, number(3), {Kind: api.List}, {Kind: api.Object}, object("a", number(1)), members("m", api.MaxCount-1, number(1))}
	for i, x := range wrong() {
		for _, y := range append(rights, wrong()...) {
			if w, e := merge.Merge(x, y); e != api.ErrForm || !asItWas(w, x) {
				t.Errorf("wrong value %d: %d", i, e)
			}
			if w, e := merge.Merge(y, x); e != api.ErrForm || !asItWas(w, y) {
				t.Errorf("patch of wrong value %d: %d", i, e)
			}
		}
		in := object("b", x)
		if w, e := merge.Merge(object("a", number(1)), in); e != api.ErrForm || show(w) != `{"a":1}` {
			t.Errorf("patch with wrong value %d in it: %s, %d", i, show(w), e)
		}
		// It makes no odds that it would not be there any more.
		if w, e := merge.Merge(in, object("b", api.Value{})); e != api.ErrForm || !asItWas(w, in) {
			t.Errorf("wrong value %d in it: %d", i, e)
		}
	}
}

func TestMergeHowMuch(t *testing.T) { // P4.1
	const half = api.MaxCount / 2
	one := number(1)
	for n := half - 3; n < half+3; n++ {
		v, p := members("a", half, one), members("b", n, one)
		w, e := merge.Merge(v, p)
		if half+n+1 <= api.MaxCount {
			if e != api.OK || json.Count(w) != half+n+1 {
				t.Errorf("%d more: %d, %d in it", n, e, json.Count(w))
			}
		} else if e != api.ErrLong || !asItWas(w, v) {
			t.Errorf("%d more: %d", n, e)
		}
	}
	// As many as may be: the same keys once more are not too many.
	full := members("m", api.MaxCount-1, one)
	if w, e := merge.Merge(full, members("m", api.MaxCount-1, number(2))); e != api.OK || !json.Same(w, members("m", api.MaxCount-1, number(2))) {
		t.Errorf("all of them: %d", e)
	}
	if w, e := merge.Merge(full, object("a", one)); e != api.ErrLong || !asItWas(w, full) {
		t.Errorf("one more: %d", e)
	}
	// Too many on the way only: one comes, and then one goes.
	w, e := merge.Merge(full, object("a m7", one, api.Value{}))
	if e != api.OK || !json.Same(w, json.With(json.Without(full, "m7"), "a", one)) {
		t.Errorf("one comes, one goes: %d", e)
	}
	// Too much by what is within a member.
	in := object("x", members("a", half, one))
	if w, e := merge.Merge(in, object("x", members("b", half-2, one))); e != api.OK || json.Count(w) != api.MaxCount {
		t.Errorf("within: %d, %d in it", e, json.Count(w))
	}
	if w, e := merge.Merge(in, object("x", members("b", half-1, one))); e != api.ErrLong || !asItWas(w, in) {
		t.Errorf("within, one more: %d", e)
	}
	// Null that goes is not counted.
	nulls := object("x", members("b", api.MaxCount-2, api.Value{}))
	if w, e := merge.Merge(in, nulls); e != api.OK || !json.Same(w, in) {
		t.Errorf("nulls: %d", e)
	}
	if w, e := merge.Merge(full, api.Value{Kind: api.List, L: full.L}); e != api.OK || w.Kind != api.List {
		t.Errorf("in place of all: %d", e)
	}
}

func TestMergeHowDeep(t *testing.T) { // P4.1
	for n := range api.MaxDepth {
		v, p := deep(n, "1"), deep(n, `"x"`)
		if w, e := merge.Merge(of(t, v), of(t, p)); e != api.OK || show(w) != p {
			t.Errorf("%d deep: %s, %d", n, show(w), e)
		}
		if w, e := merge.Merge(api.Value{}, of(t, p)); e != api.OK || show(w) != p {
			t.Errorf("%d deep, of nothing: %s, %d", n, show(w), e)
		}
		if n == 0 {
			continue
		}
		if w, e := merge.Merge(of(t, v), of(t, deep(n, "null"))); e != api.OK || show(w) != deep(n-1, "{}") {
			t.Errorf("%d deep, null: %s, %d", n, show(w), e)
		}
	}
}
