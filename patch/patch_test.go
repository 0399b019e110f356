package patch_test

import (
	"math"
	"strings"
	"testing"

	"stairwell/api"
	"stairwell/json"
	"stairwell/patch"
	"stairwell/point"
)

// A trial is an operation on a value; x is its Value, nothing: Null.
type trial struct {
	v          string
	kind       int
	path, from string
	x          string
	want       string
	e          api.Errno
}

func (k trial) op(t *testing.T) api.Op {
	t.Helper()
	o := api.Op{Kind: k.kind, Path: k.path, From: k.from}
	if k.x != "" {
		o.Value = roomy(of(t, k.x))
	}
	return o
}

func try(t *testing.T, trials []trial) {
	t.Helper()
	for _, k := range trials {
		v, o := roomy(of(t, k.v)), k.op(t)
		before := show(o.Value)
		w, e := patch.One(v, o)
		if e != k.e || e == api.OK && show(w) != k.want || e != api.OK && !asItWas(w, v) {
			t.Errorf("%d of %s, path %q, from %q, %s: %s, %d; wanted %s, %d", k.kind, k.v, k.path, k.from, k.x, show(w), e, k.want, k.e)
		}
		if show(v) != show(of(t, k.v)) || !untouched(v) || show(o.Value) != before || k.x != "" && !untouched(o.Value) {
			t.Errorf("%d of %s, path %q, from %q, %s changed what it was handed", k.kind, k.v, k.path, k.from, k.x)
		}
		if !unshared(w) {
			t.Errorf("%d of %s, path %q, from %q, %s: lists share memory", k.kind, k.v, k.path, k.from, k.x)
		}
	}
}

func TestAddRemoveReplace(t *testing.T) { // P3.2
	try(t, []trial{
		{`{"a":1}`, api.Add, "/b", "", "[9]", `{"a":1,"b":[9]}`, api.OK},
		{`{"a":1}`, api.Add, "/a", "", "9", `{"a":9}`, api.OK},
		{`{"a":[1,2]}`, api.Add, "/a/1", "", "9", `{"a":[1,9,2]}`, api.OK},
		{`{"a":[1,2]}`, api.Add, "/a/-", "", "", `{"a":[1,2,null]}`, api.OK},
		{`{"a":[1,2]}`, api.Add, "", "", "9", `9`, api.OK},
		{`{"a":[1,2]}`, api.Add, "/a/3", "", "9", "", api.ErrNone},
		{`{"a":[1,2]}`, api.Add, "/b/c", "", "9", "", api.ErrNone},
		{`{"a":[1,2]}`, api.Add, "a", "", "9", "", api.ErrForm},
		{`{"a":[1,2]}`, api.Add, "/\x80", "", "9", "", api.ErrLong},
		{`{"a":[1,2]}`, api.Add, "/b", "", deep(api.MaxDepth - 1), "", api.ErrLong},
		{`{"a":1,"b":2}`, api.Remove, "/a", "", "", `{"b":2}`, api.OK},
		{`{"a":[1,2]}`, api.Remove, "/a/0", "", "", `{"a":[2]}`, api.OK},
		{`{"a":[1,2]}`, api.Remove, "/a/2", "", "", "", api.ErrNone},
		{`{"a":[1,2]}`, api.Remove, "/a/-", "", "", "", api.ErrNone},
		{`{"a":[1,2]}`, api.Remove, "/b", "", "", "", api.ErrNone},
		{`{"a":[1,2]}`, api.Remove, "", "", "", "", api.ErrForm},
		{`{"a":[1,2]}`, api.Remove, "/~", "", "", "", api.ErrForm},
		{`{"a":1,"b":2}`, api.Replace, "/a", "", "[9]", `{"a":[9],"b":2}`, api.OK},
		{`{"a":[1,2]}`, api.Replace, "/a/1", "", "9", `{"a":[1,9]}`, api.OK},
		{`{"a":[1,2]}`, api.Replace, "", "", "{}", `{}`, api.OK},
		{`{"a":[1,2]}`, api.Replace, "/b", "", "9", "", api.ErrNone},
		{`{"a":[1,2]}`, api.Replace, "/a/2", "", "9", "", api.ErrNone},
		{`{"a":[1,2]}`, api.Replace, "/a/-", "", "9", "", api.ErrNone},
		{`{"a":[1,2]}`, api.Replace, "/a/~2", "", "9", "", api.ErrForm},
		{`{"a":[1,2]}`, api.Replace, "/a", "", deep(api.MaxDepth - 1), "", api.ErrLong},
		// From is nothing to them.
		{`{"a":1}`, api.Add, "/b", "~", "9", `{"a":1,"b":9}`, api.OK},
		{`{"a":1}`, api.Remove, "/a", "~", "9", `{}`, api.OK},
		{`{"a":1}`, api.Replace, "/a", "/b", "9", `{"a":9}`, api.OK},
		{`{"a":1}`, api.Test, "/a", "~", "1", `{"a":1}`, api.OK},
	})
}

func TestTest(t *testing.T) { // P3.2
	const v = `{"a":[1,{"b":null,"c":[]}],"n":null,"s":"x","t":true}`
	trials := []trial{}
	for path, x := range map[string]string{
		"": v, "/a": `[1,{"b":null,"c":[]}]`, "/a/0": "1", "/a/1": `{"c":[],"b":null}`, "/a/1/b": "null", "/a/1/c": "[]", "/n": "null", "/s": `"x"`, "/t": "true",
	} {
		trials = append(trials, trial{v, api.Test, path, "", x, v, api.OK})
	}
	for path, l := range map[string][]string{
		"":       {"null", "{}", `{"a":[1,{"b":null,"c":[]}],"n":null,"s":"x"}`, `{"a":[1,{"b":null,"c":{}}],"n":null,"s":"x","t":true}`},
		"/a":     {`[1]`, `[{"b":null,"c":[]},1]`, `[1,{"b":null}]`, `[1,{"b":0,"c":[]}]`, `[1,{"b":null,"c":[1]}]`, `[1,{"b":null,"d":[]}]`, `[1,{"b":null,"c":[]},1]`},
		"/a/0":   {"2", "true", "-1", "null", `"1"`, "[1]"},
		"/a/1/c": {"{}", "null", "[null]", `""`},
		"/n":     {"0", "false", `""`, "[]", "{}"},
		"/s":     {`"y"`, `"X"`, `"x "`, `""`, `["x"]`, "null"},
		"/t":     {"false", "1", `"true"`, "null"},
	} {
		for _, x := range l {
			trials = append(trials, trial{v, api.Test, path, "", x, "", api.ErrTest})
		}
	}
	for _, path := range []string{"/b", "/a/2", "/a/-", "/a/00", "/n/0", "/s/0", "/a/1/b/c"} {
		// It is not there, and not Null either.
		trials = append(trials, trial{v, api.Test, path, "", "null", "", api.ErrNone})
	}
	for _, path := range []string{"a", "/~", "/a/~2", strings.Repeat("/", api.MaxBytes+1)} {
		trials = append(trials, trial{v, api.Test, path, "", "null", "", api.ErrForm})
	}
	try(t, trials)
}

func TestTestOfWrongValues(t *testing.T) { // P3.2
	v := of(t, `{"a":[[[1]]],"n":null}`)
	for i, x := range wrong() {
		for _, p := range []string{"", "/a", "/n"} {
			if w, e := patch.One(v, api.Op{Kind: api.Test, Path: p, Value: x}); e != api.ErrTest || !asItWas(w, v) {
				t.Errorf("wrong value %d, %q: %s, %d", i, p, show(w), e)
			}
		}
		if w, e := patch.One(v, api.Op{Kind: api.Test, Path: "/b", Value: x}); e != api.ErrNone || !asItWas(w, v) {
			t.Errorf("wrong value %d: %s, %d", i, show(w), e)
		}
	}
	// Lists without elements are alike, nil or not.
	empty := api.Value{Keys: []string{}, L: []api.Value{}}
	if _, e := patch.One(v, api.Op{Kind: api.Test, Path: "/n", Value: empty}); e != api.OK {
		t.Errorf("empty lists: %d", e)
	}
}

func TestNoSuchKind(t *testing.T) { // P3.2
	values := append(wrong(), of(t, `{"a":1}`))
	for _, kind := range []int{0, -1, 7, 8, 1 << 8, 1<<8 + 1, 1<<32 + 1, math.MinInt, math.MaxInt} {
		for i, v := range values {
			for _, p := range []string{"/a", "", "~", "/b"} {
				if w, e := patch.One(v, api.Op{Kind: kind, Path: p, From: p, Value: values[i]}); e != api.ErrKind || !asItWas(w, v) {
					t.Errorf("kind %d of value %d, %q: %d", kind, i, p, e)
				}
			}
		}
	}
}

func TestCopy(t *testing.T) { // P3.3
	full := numbers(api.MaxCount - 1)
	key := "/" + strings.Repeat("k", api.MaxText+1)
	try(t, []trial{
		{`{"a":[1,{"x":2}]}`, api.Copy, "/b", "/a", "", `{"a":[1,{"x":2}],"b":[1,{"x":2}]}`, api.OK},
		{`{"a":1,"b":2}`, api.Copy, "/b", "/a", "", `{"a":1,"b":1}`, api.OK},
		{`{"a":1}`, api.Copy, "/a", "/a", "", `{"a":1}`, api.OK},
		{`{"a":[1,2]}`, api.Copy, "/a/0", "/a/1", "", `{"a":[2,1,2]}`, api.OK},
		// Added once more at the same place: an item comes ahead of itself.
		{`{"a":[1,2]}`, api.Copy, "/a/1", "/a/1", "", `{"a":[1,2,2]}`, api.OK},
		{`{"a":[1,2]}`, api.Copy, "/a/-", "/a/0", "", `{"a":[1,2,1]}`, api.OK},
		{`{"a":[1,2]}`, api.Copy, "/a/2", "/a", "", `{"a":[1,2,[1,2]]}`, api.OK},
		{`{"a":{"b":[1]}}`, api.Copy, "/a/b/0", "/a", "", `{"a":{"b":[{"b":[1]},1]}}`, api.OK},
		{`{"a":{"b":[1]}}`, api.Copy, "/a", "/a/b", "", `{"a":[1]}`, api.OK},
		{`{"a":{"b":[1]}}`, api.Copy, "", "/a/b", "", `[1]`, api.OK},
		{`{"b":{"c":1}}`, api.Copy, "/a", "", "", `{"a":{"b":{"c":1}},"b":{"c":1}}`, api.OK},
		{`{"b":{"c":1}}`, api.Copy, "", "", "", `{"b":{"c":1}}`, api.OK},
		{`{"~":1}`, api.Copy, "/~1", "/~0", "", `{"/":1,"~":1}`, api.OK},
		{`{"a":1}`, api.Copy, "/b", "/a", "9", `{"a":1,"b":1}`, api.OK},
		{`{"a":[1]}`, api.Copy, "/b", "/c", "", "", api.ErrNone},
		{`{"a":[1]}`, api.Copy, "/b", "/a/1", "", "", api.ErrNone},
		{`{"a":[1]}`, api.Copy, "/b", "/a/-", "", "", api.ErrNone},
		{`{"a":[1]}`, api.Copy, "/a/2", "/a", "", "", api.ErrNone},
		{`{"a":[1]}`, api.Copy, "/b/c", "/a", "", "", api.ErrNone},
		{`{"a":[1]}`, api.Copy, "/b", "a", "", "", api.ErrForm},
		{`{"a":[1]}`, api.Copy, "b", "/a", "", "", api.ErrForm},
		{`{"a":[1]}`, api.Copy, "/~", "/a", "", "", api.ErrForm},
		// From's error is the first one.
		{`{"a":[1]}`, api.Copy, "b", "/c", "", "", api.ErrNone},
		{`{"a":[1]}`, api.Copy, "/b/c", "~", "", "", api.ErrForm},
		{`{"a":[1]}`, api.Copy, key, "/c", "", "", api.ErrNone},
		{`{"a":[1]}`, api.Copy, key, "/a", "", "", api.ErrLong},
		{`{"a":[1]}`, api.Copy, "/\x80", "/a", "", "", api.ErrLong},
		{full, api.Copy, "/-", "/0", "", "", api.ErrLong},
		{full, api.Copy, "", "/7", "", "7", api.OK},
		{deep(api.MaxDepth - 1), api.Copy, "/-", "", "", "", api.ErrLong},
		{deep(api.MaxDepth - 1), api.Copy, "/-", "/0", "", "[" + deep(api.MaxDepth-2) + "," + deep(api.MaxDepth-2) + "]", api.OK},
		{deep(api.MaxDepth - 1), api.Copy, "/0/-", "/0", "", "", api.ErrLong},
	})
}

func TestMove(t *testing.T) { // P3.3
	try(t, []trial{
		{`{"a":[1,{"x":2}],"b":3}`, api.Move, "/c", "/a", "", `{"b":3,"c":[1,{"x":2}]}`, api.OK},
		{`{"a":1,"b":2}`, api.Move, "/b", "/a", "", `{"b":1}`, api.OK},
		{`{"a":{"b":1},"l":[1,2]}`, api.Move, "/l/0", "/a/b", "", `{"a":{},"l":[1,1,2]}`, api.OK},
		// The place is one in what is left.
		{`[1,2,3]`, api.Move, "/2", "/0", "", `[2,3,1]`, api.OK},
		{`[1,2,3]`, api.Move, "/1", "/0", "", `[2,1,3]`, api.OK},
		{`[1,2,3]`, api.Move, "/-", "/0", "", `[2,3,1]`, api.OK},
		{`[1,2,3]`, api.Move, "/0", "/2", "", `[3,1,2]`, api.OK},
		{`[1,2,3]`, api.Move, "/3", "/0", "", "", api.ErrNone},
		{`[[1],[2],[3]]`, api.Move, "/1/0", "/0", "", `[[2],[[1],3]]`, api.OK},
		{`[[1],[2]]`, api.Move, "/1/0", "/0", "", "", api.ErrNone},
		{`{"a":{"b":[1]}}`, api.Move, "/a", "/a/b", "", `{"a":[1]}`, api.OK},
		{`{"a":{"b":[1]}}`, api.Move, "", "/a/b", "", `[1]`, api.OK},
		{`{"a":{"b":1}}`, api.Move, "/ab", "/a", "", `{"ab":{"b":1}}`, api.OK},
		{`{"a":1}`, api.Move, "/a~1b", "/a", "", `{"a/b":1}`, api.OK},
		{`{"a":1,"ab":{}}`, api.Move, "/ab/c", "/a", "", `{"ab":{"c":1}}`, api.OK},
		{`[0,1,2,3,4,5,6,7,8,9,10,11]`, api.Move, "/10", "/1", "", `[0,2,3,4,5,6,7,8,9,10,1,11]`, api.OK},
		{`{"a":1}`, api.Move, "/b", "/a", "9", `{"b":1}`, api.OK},
		{`{"a":1}`, api.Move, "/", "/a", "", `{"":1}`, api.OK},
	})
}

func TestMoveIntoItself(t *testing.T) { // P3.3
	try(t, []trial{
		{`{"a":{"b":1}}`, api.Move, "/a/b", "/a", "", "", api.ErrForm},
		{`{"a":{"b":1}}`, api.Move, "/a/c", "/a", "", "", api.ErrForm},
		{`{"a":{"b":1}}`, api.Move, "/a/", "/a", "", "", api.ErrForm},
		{`{"a":{"b":1}}`, api.Move, "/a/c/d", "/a", "", "", api.ErrForm},
		{`{"a":1}`, api.Move, "/a/b", "/a", "", "", api.ErrForm},
		{`{"a":1}`, api.Move, "/a", "", "", "", api.ErrForm},
		{`{"a":1}`, api.Move, "/", "", "", "", api.ErrForm},
		{`{"a":1}`, api.Move, "a", "", "", "", api.ErrForm},
		{`{"":1}`, api.Move, "//a", "/", "", "", api.ErrForm},
		{`{"":1}`, api.Move, "/a", "/", "", `{"a":1}`, api.OK},
		// What is left would have such a place, but that is not asked.
		{`[1,[2]]`, api.Move, "/0/0", "/0", "", "", api.ErrForm},
		// To where it is.
		{`{"a":{"b":1}}`, api.Move, "/a", "/a", "", `{"a":{"b":1}}`, api.OK},
		{`[1,2,3]`, api.Move, "/1", "/1", "", `[1,2,3]`, api.OK},
		{`{"a":{"b":1}}`, api.Move, "", "", "", `{"a":{"b":1}}`, api.OK},
		{numbers(api.MaxCount - 1), api.Move, "/5", "/5", "", numbers(api.MaxCount - 1), api.OK},
		// What is not there is told first.
		{`{"a":1}`, api.Move, "/b", "/b", "", "", api.ErrNone},
		{`{"a":1}`, api.Move, "/b/c", "/b", "", "", api.ErrNone},
		{`[1]`, api.Move, "/-", "/-", "", "", api.ErrNone},
		{`{"a":1}`, api.Move, "~", "~", "", "", api.ErrForm},
	})
}

func TestMoveThatFails(t *testing.T) { // P3.3
	key := "/" + strings.Repeat("k", api.MaxText+1)
	full := numbers(api.MaxCount - 1)
	try(t, []trial{
		{`{"a":1}`, api.Move, "/c", "/b", "", "", api.ErrNone},
		{`{"a":[1]}`, api.Move, "/c", "/a/1", "", "", api.ErrNone},
		{`{"a":[1]}`, api.Move, "/c", "/a/-", "", "", api.ErrNone},
		{`{"a":1}`, api.Move, "/b/c", "/a", "", "", api.ErrNone},
		{`{"a":1,"b":2}`, api.Move, "/b/c", "/a", "", "", api.ErrNone},
		{`{"a":1,"l":[]}`, api.Move, "/l/1", "/a", "", "", api.ErrNone},
		{`{"a":1}`, api.Move, "/b", "a", "", "", api.ErrForm},
		{`{"a":1}`, api.Move, "b", "/a", "", "", api.ErrForm},
		{`{"a":1}`, api.Move, "/b~", "/a", "", "", api.ErrForm},
		{`{"a":1}`, api.Move, "~", "/b", "", "", api.ErrNone},
		{`{"a":1}`, api.Move, key, "/a", "", "", api.ErrLong},
		{`{"a":1}`, api.Move, key, "/b", "", "", api.ErrNone},
		{`{"a":1}`, api.Move, "/\x80", "/a", "", "", api.ErrLong},
		{`{"a":` + deep(api.MaxDepth-2) + `,"b":[]}`, api.Move, "/b/0", "/a", "", "", api.ErrLong},
		{`{"a":` + deep(api.MaxDepth-3) + `,"b":[]}`, api.Move, "/b/0", "/a", "", `{"b":[` + deep(api.MaxDepth-3) + `]}`, api.OK},
		// What is taken away first leaves room.
		{full, api.Move, "/0", "/1", "", "[1,0" + full[4:], api.OK},
	})
}

func TestOneOfWrongValues(t *testing.T) { // P3.2, P3.3
	for kind := api.Add; kind <= api.Test; kind++ {
		for i, v := range wrong() {
			for _, p := range []string{"", "/a", "/0", "/a/b", "a"} {
				for _, from := range []string{"", "/a", "/0", "a"} {
					if w, e := patch.One(v, api.Op{Kind: kind, Path: p, From: from, Value: v}); e != api.ErrForm || !asItWas(w, v) {
						t.Errorf("%d of wrong value %d, path %q, from %q: %d", kind, i, p, from, e)
					}
				}
			}
		}
	}
	v := of(t, `{"a":{"b":1}}`)
	for i, x := range wrong() {
		for _, kind := range []int{api.Add, api.Replace} {
			for _, p := range []string{"", "/a", "/c", "/c/d", "/\x80", "~"} {
				if w, e := patch.One(v, api.Op{Kind: kind, Path: p, Value: x}); e != api.ErrForm || !asItWas(w, v) {
					t.Errorf("%d of wrong Value %d, %q: %s, %d", kind, i, p, show(w), e)
				}
			}
		}
		// Value is nothing to these.
		for _, o := range []api.Op{{Kind: api.Remove, Path: "/a/b"}, {Kind: api.Move, Path: "/c", From: "/a"}, {Kind: api.Copy, Path: "/c", From: "/a"}} {
			o.Value = x
			if w, e := patch.One(v, o); e != api.OK || json.Same(w, v) {
				t.Errorf("%d with wrong Value %d: %s, %d", o.Kind, i, show(w), e)
			}
		}
	}
}

// What One answers is what chapter 2's functions answer, at all pairs of paths.
func TestOneAndPointGoTogether(t *testing.T) { // P3.2, P3.3
	v, x := of(t, `{"":0,"a":[1,[2,3],{"x":null}],"b":{"a":{},"c":[4]}}`), of(t, `[7,{"y":8}]`)
	paths := []string{"", "/", "/a", "/a/0", "/a/1", "/a/1/0", "/a/1/2", "/a/2", "/a/2/x", "/a/3", "/a/4", "/a/-", "/b", "/b/a", "/b/a/z", "/b/c/0", "/b/d", "/z", "/z/z", "b", "/~"}
	for _, p := range paths {
		check := func(kind int, from string, want api.Value, e api.Errno) {
			t.Helper()
			if e != api.OK {
				want = v
			}
			for _, of := range []func() (api.Value, api.Errno){
				func() (api.Value, api.Errno) { return patch.One(v, api.Op{Kind: kind, Path: p, From: from, Value: x}) },
				func() (api.Value, api.Errno) {
					return patch.All(v, []api.Op{{Kind: kind, Path: p, From: from, Value: x}})
				},
			} {
				if w, f := of(); f != e || !json.Same(w, want) || !json.Good(w) || !unshared(w) {
					t.Errorf("%d, path %q, from %q: %s, %d; wanted %s, %d", kind, p, from, show(w), f, show(want), e)
				}
			}
		}
		w, e := point.Add(v, p, x)
		check(api.Add, "", w, e)
		w, e = point.Remove(v, p)
		check(api.Remove, "", w, e)
		w, e = point.Put(v, p, x)
		check(api.Replace, "", w, e)
		for _, from := range paths {
			got, e := point.Get(v, from)
			w := v
			if e == api.OK {
				w, e = point.Add(v, p, got)
			}
			check(api.Copy, from, w, e)
			w, e = slowMove(v, from, p)
			check(api.Move, from, w, e)
		}
	}
}

// slowMove is a move, told by the names of the paths and not by their texts.
func slowMove(v api.Value, from, p string) (api.Value, api.Errno) {
	got, e := point.Get(v, from)
	if e != api.OK {
		return v, e
	}
	a, _ := point.Split(from)
	b, e := point.Split(p)
	if e != api.OK {
		return v, e
	}
	if len(a) <= len(b) && point.Join(b[:len(a)]) == point.Join(a) {
		if len(a) < len(b) {
			return v, api.ErrForm
		}
		return v, api.OK
	}
	w, e := point.Remove(v, from)
	if e != api.OK {
		return v, e
	}
	return point.Add(w, p, got)
}

func TestAll(t *testing.T) { // P3.4
	for s, want := range map[string]string{
		`[]`: `{"a":{"b":1},"l":[1,2]}`,
		`[{"op":"add","path":"/x","value":{}},{"op":"add","path":"/x/y","value":1},{"op":"test","path":"/x","value":{"y":1}}]`:                               `{"a":{"b":1},"l":[1,2],"x":{"y":1}}`,
		`[{"op":"remove","path":"/l/0"},{"op":"remove","path":"/l/0"}]`:                                                                                      `{"a":{"b":1},"l":[]}`,
		`[{"op":"move","from":"/a/b","path":"/l/0"},{"op":"remove","path":"/a"}]`:                                                                            `{"l":[1,1,2]}`,
		`[{"op":"copy","from":"/l","path":"/a/l"},{"op":"replace","path":"/l/0","value":9},{"op":"remove","path":"/a/l/1"}]`:                                 `{"a":{"b":1,"l":[1]},"l":[9,2]}`,
		`[{"op":"add","path":"/l/-","value":3},{"op":"add","path":"/l/-","value":4},{"op":"move","from":"/l/0","path":"/l/3"}]`:                              `{"a":{"b":1},"l":[2,3,4,1]}`,
		`[{"op":"replace","path":"","value":[]},{"op":"add","path":"/0","value":5}]`:                                                                         `[5]`,
		`[{"op":"test","path":"/a/b","value":1},{"op":"replace","path":"/a/b","value":2},{"op":"test","path":"/a/b","value":2},{"op":"remove","path":"/l"}]`: `{"a":{"b":2}}`,
	} {
		l, e := patch.Read(of(t, s))
		if e != api.OK {
			t.Errorf("%s: %d", s, e)
		}
		v := roomy(of(t, `{"a":{"b":1},"l":[1,2]}`))
		w, e := patch.All(v, l)
		if e != api.OK || show(w) != want || !unshared(w) {
			t.Errorf("%s: %s, %d; wanted %s", s, show(w), e, want)
		}
		if show(v) != `{"a":{"b":1},"l":[1,2]}` || !untouched(v) {
			t.Errorf("%s: the value is %s now", s, show(v))
		}
	}
}

func TestAllOrNone(t *testing.T) { // P3.4
	add := api.Op{Kind: api.Add, Path: "/x", Value: number(1)}
	cut := api.Op{Kind: api.Remove, Path: "/a"}
	lost := api.Op{Kind: api.Remove, Path: "/z"}
	other := api.Op{Kind: api.Test, Path: "/x", Value: number(2)}
	into := api.Op{Kind: api.Move, Path: "/l/0/0", From: "/l/0"}
	deeper := api.Op{Kind: api.Add, Path: "/l/-", Value: of(t, deep(api.MaxDepth-2))}
	for i, k := range []struct {
		l []api.Op
		e api.Errno
	}{
		{[]api.Op{lost}, api.ErrNone},
		{[]api.Op{add, lost}, api.ErrNone},
		{[]api.Op{add, cut, cut}, api.ErrNone},
		{[]api.Op{lost, add, cut}, api.ErrNone},
		{[]api.Op{add, other}, api.ErrTest},
		{[]api.Op{other, add}, api.ErrNone},
		{[]api.Op{add, other, into, lost}, api.ErrTest},
		{[]api.Op{add, into, other, lost}, api.ErrForm},
		{[]api.Op{cut, {Kind: api.Move, Path: "/l/9", From: "/l/0"}}, api.ErrNone},
		{[]api.Op{cut, add, deeper}, api.ErrLong},
		{[]api.Op{cut, {}}, api.ErrKind},
		{[]api.Op{cut, {Kind: 7}, lost}, api.ErrKind},
		{[]api.Op{cut, lost, {Kind: 7}}, api.ErrNone},
		{[]api.Op{cut, {Kind: api.Add, Path: "/a", Value: wrong()[0]}}, api.ErrForm},
		{[]api.Op{cut, {Kind: api.Test, Path: "/l", Value: wrong()[11]}}, api.ErrTest},
	} {
		v := roomy(of(t, `{"a":{"b":1},"l":[1,2]}`))
		if w, e := patch.All(v, k.l); e != k.e || !asItWas(w, v) || !untouched(v) || show(v) != `{"a":{"b":1},"l":[1,2]}` {
			t.Errorf("%d: %s, %d; wanted %d", i, show(w), e, k.e)
		}
	}
}

func TestAllHowMany(t *testing.T) { // P3.4
	v := of(t, "[]")
	many := make([]api.Op, 1000)
	for i := range many {
		many[i] = api.Op{Kind: api.Add, Path: "/-", Value: number(i)}
	}
	for n := range len(many) + 1 {
		w, e := patch.All(v, many[:n])
		if n <= api.MaxOps && (e != api.OK || show(w) != numbers(n)) || n > api.MaxOps && (e != api.ErrLong || !asItWas(w, v)) {
			t.Errorf("%d: %s, %d", n, show(w), e)
		}
	}
	// How many they are is asked ahead of what they are, and on what.
	for i, v := range wrong() {
		if w, e := patch.All(v, make([]api.Op, api.MaxOps+1)); e != api.ErrLong || !asItWas(w, v) {
			t.Errorf("wrong value %d: %d", i, e)
		}
		if w, e := patch.All(v, make([]api.Op, api.MaxOps)); e != api.ErrKind || !asItWas(w, v) {
			t.Errorf("wrong value %d, no kinds: %d", i, e)
		}
		if w, e := patch.All(v, many[:1]); e != api.ErrForm || !asItWas(w, v) {
			t.Errorf("wrong value %d, added to: %d", i, e)
		}
		// None is done, so that none tells an error.
		for _, none := range [][]api.Op{nil, {}} {
			if w, e := patch.All(v, none); e != api.OK || !asItWas(w, v) {
				t.Errorf("wrong value %d, nothing done: %d", i, e)
			}
		}
	}
}

func TestAllLeavesOperationsAsTheyAre(t *testing.T) { // P3.4
	const s = `[{"op":"add","path":"/x","value":[1,{"b":2}]},{"op":"add","path":"/x/1/c","value":3},{"op":"add","path":"/x/0","value":4},{"op":"remove","path":"/x/1"}]`
	l, e := patch.Read(of(t, s))
	if e != api.OK {
		t.Fatal(e)
	}
	before := make([]api.Op, len(l))
	for i := range l {
		l[i].Value = roomy(l[i].Value)
		before[i] = l[i]
		before[i].Value = of(t, show(l[i].Value))
	}
	roomyOps := append(make([]api.Op, 0, len(l)+1), l...)
	roomyOps[:cap(roomyOps)][len(l)].Path = "spare"
	if w, e := patch.All(of(t, "{}"), roomyOps); e != api.OK || show(w) != `{"x":[4,{"b":2,"c":3}]}` {
		t.Errorf("%s, %d", show(w), e)
	}
	for i, o := range roomyOps {
		if !sameOp(o, before[i]) || !untouched(o.Value) {
			t.Errorf("%d is %+v now", i, o)
		}
	}
	if roomyOps[:cap(roomyOps)][len(l)].Path != "spare" {
		t.Errorf("the spare room was changed")
	}
}
