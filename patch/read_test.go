package patch_test

import (
	"strings"
	"testing"

	"stairwell/api"
	"stairwell/json"
	"stairwell/patch"
)

func TestReadEachKind(t *testing.T) { // P3.1
	for s, want := range map[string]api.Op{
		`{"op":"add","path":"/a","value":1}`:               {Kind: api.Add, Path: "/a", Value: number(1)},
		`{"op":"remove","path":"/a"}`:                      {Kind: api.Remove, Path: "/a"},
		`{"op":"replace","path":"/a/0","value":[{"b":2}]}`: {Kind: api.Replace, Path: "/a/0", Value: of(t, `[{"b":2}]`)},
		`{"op":"move","path":"/a","from":"/b"}`:            {Kind: api.Move, Path: "/a", From: "/b"},
		`{"op":"copy","path":"/a","from":"/b"}`:            {Kind: api.Copy, Path: "/a", From: "/b"},
		`{"op":"test","path":"/a","value":"x"}`:            {Kind: api.Test, Path: "/a", Value: of(t, `"x"`)},
		// A member that is Null is there, and one that is empty, too.
		`{"op":"add","path":"","value":null}`:  {Kind: api.Add},
		`{"op":"test","path":"","value":null}`: {Kind: api.Test},
		`{"op":"move","path":"","from":""}`:    {Kind: api.Move},
		// Whether it is a path is asked when it is done, not here.
		`{"op":"remove","path":"a~"}`:          {Kind: api.Remove, Path: "a~"},
		`{"op":"copy","path":"~","from":"/~"}`: {Kind: api.Copy, Path: "~", From: "/~"},
	} {
		l, e := patch.Read(of(t, "["+s+"]"))
		if e != api.OK || len(l) != 1 || !sameOp(l[0], want) {
			t.Errorf("%s: %+v, %d; wanted %+v", s, l, e, want)
		}
	}
}

func TestReadTakesNothingElse(t *testing.T) { // P3.1
	for s, want := range map[string]api.Op{
		`{"op":"add","path":"/a","value":1,"from":"/b","more":0}`:   {Kind: api.Add, Path: "/a", Value: number(1)},
		`{"op":"add","path":"/a","value":1,"from":2}`:               {Kind: api.Add, Path: "/a", Value: number(1)},
		`{"op":"remove","path":"/a","from":"/b","value":[1]}`:       {Kind: api.Remove, Path: "/a"},
		`{"op":"remove","path":"/a","from":null}`:                   {Kind: api.Remove, Path: "/a"},
		`{"op":"replace","path":"/a","value":1,"from":[]}`:          {Kind: api.Replace, Path: "/a", Value: number(1)},
		`{"op":"replace","path":"/a","value":1,"from":"/b"}`:        {Kind: api.Replace, Path: "/a", Value: number(1)},
		`{"op":"move","path":"/a","from":"/b","value":1}`:           {Kind: api.Move, Path: "/a", From: "/b"},
		`{"op":"copy","path":"/a","from":"/b","value":{"c":1}}`:     {Kind: api.Copy, Path: "/a", From: "/b"},
		`{"op":"test","path":"/a","value":1,"from":"/b"}`:           {Kind: api.Test, Path: "/a", Value: number(1)},
		`{"":0,"OP":1,"op":"remove","path":"/a","Path":3,"z":{}}`:   {Kind: api.Remove, Path: "/a"},
		`{"op":"test","path":"/a","value":{"op":"add"},"values":1}`: {Kind: api.Test, Path: "/a", Value: of(t, `{"op":"add"}`)},
	} {
		l, e := patch.Read(of(t, "["+s+"]"))
		if e != api.OK || len(l) != 1 || !sameOp(l[0], want) {
			t.Errorf("%s: %+v, %d; wanted %+v", s, l, e, want)
		}
	}
}

func TestReadKeepsTheOrder(t *testing.T) { // P3.1
	l, e := patch.Read(of(t, `[{"op":"test","path":"/1","value":1},{"op":"remove","path":"/2"},{"op":"add","path":"/3","value":3},{"op":"remove","path":"/2"}]`))
	want := []api.Op{{Kind: api.Test, Path: "/1", Value: number(1)}, {Kind: api.Remove, Path: "/2"},
		{Kind: api.Add, Path: "/3", Value: number(3)}, {Kind: api.Remove, Path: "/2"}}
	if e != api.OK || len(l) != len(want) {
		t.Fatalf("%+v, %d", l, e)
	}
	for i := range want {
		if !sameOp(l[i], want[i]) {
			t.Errorf("%d: %+v; wanted %+v", i, l[i], want[i])
		}
	}
}

func wrongItems() []string {
	items := []string{
		"null", "true", "0", `"add"`, `""`, "[]", "{}", `["op","add"]`, `[{"op":"remove","path":"/a"}]`,
		`{"op":"add"}`, `{"path":"/a"}`, `{"path":"/a","value":1}`, `{"value":1}`, `{"path":"/a","from":"/b","value":1}`,
		`{"op":"add","value":1}`, `{"op":"remove"}`, `{"op":"test","value":1}`, `{"op":"move","from":"/a"}`, `{"op":"copy","from":"/a"}`,
		`{"op":"add","path":"/a"}`, `{"op":"replace","path":"/a"}`, `{"op":"test","path":"/a"}`,
		`{"op":"add","path":"/a","from":"/b"}`, `{"op":"replace","path":"/a","from":"/b"}`, `{"op":"test","path":"/a","from":"/b"}`,
		`{"op":"move","path":"/a"}`, `{"op":"copy","path":"/a"}`,
		`{"op":"move","path":"/a","value":"/b"}`, `{"op":"copy","path":"/a","value":"/b"}`,
		`{"OP":"remove","path":"/a"}`, `{"op":"remove","Path":"/a"}`, `{"op":"add","path":"/a","Value":1}`, `{"op":"copy","path":"/a","From":"/b"}`,
	}
	for _, x := range []string{"null", "true", "1", `["/a"]`, `{"path":"/a"}`} {
		for _, op := range []string{"add", "remove", "replace", "move", "copy", "test"} {
			items = append(items, `{"op":"`+op+`","path":`+x+`,"value":1,"from":"/b"}`)
		}
		items = append(items, `{"op":"move","path":"/a","from":`+x+`}`, `{"op":"copy","path":"/a","from":`+x+`,"value":1}`)
		items = append(items, `{"op":`+x+`,"path":"/a","value":1,"from":"/b"}`)
	}
	for _, word := range []string{"", "Add", "ADD", "add ", " add", "ad", "adds", "removed", "replac", "mov", "cop", "tes", "tests", "go", "put", "get", "1", "6", "add,remove", `\u0000`, `\u0000add`} {
		items = append(items, `{"op":"`+word+`","path":"/a","value":1,"from":"/b"}`)
	}
	return items
}

func TestReadRefusesItems(t *testing.T) { // P3.1
	const right = `{"op":"add","path":"/a","value":1}`
	for _, s := range wrongItems() {
		for _, p := range []string{"[" + s + "]", "[" + right + "," + s + "]", "[" + s + "," + right + "]", "[" + right + "," + s + "," + right + "]"} {
			if l, e := patch.Read(of(t, p)); e != api.ErrForm || len(l) != 0 {
				t.Errorf("%s: %+v, %d", p, l, e)
			}
		}
	}
}

func TestReadRefusesOthersThanLists(t *testing.T) { // P3.1
	for _, s := range []string{"null", "true", "3", `"add"`, "{}", `{"op":"remove","path":"/a"}`, `{"0":{"op":"remove","path":"/a"}}`} {
		if l, e := patch.Read(of(t, s)); e != api.ErrForm || len(l) != 0 {
			t.Errorf("%s: %+v, %d", s, l, e)
		}
	}
	add := of(t, `{"op":"add","path":"/a","value":1}`)
	for i, v := range wrong() {
		bad := json.With(add, "value", v)
		for _, w := range []api.Value{v, {Kind: api.List, L: []api.Value{v}}, {Kind: api.List, L: []api.Value{add, bad}},
			// It is not good by what else stands in it, too.
			{Kind: api.List, L: []api.Value{json.With(add, "more", v)}}} {
			if l, e := patch.Read(w); e != api.ErrForm || len(l) != 0 {
				t.Errorf("wrong value %d: %+v, %d", i, l, e)
			}
		}
	}
	long := strings.Repeat("a", api.MaxText+1)
	if l, e := patch.Read(api.Value{Kind: api.List, L: []api.Value{json.With(add, "path", api.Value{Kind: api.Text, S: "/" + long})}}); e != api.ErrForm || len(l) != 0 {
		t.Errorf("a long path: %+v, %d", l, e)
	}
}

func TestReadHowMany(t *testing.T) { // P3.1
	const right = `{"op":"remove","path":"/a"}`
	for n := range api.MaxOps + 1 {
		if l, e := patch.Read(of(t, times(n, right))); e != api.OK || len(l) != n {
			t.Errorf("%d: %+v, %d", n, l, e)
		}
	}
	for _, l := range [][]api.Value{nil, {}} {
		if ops, e := patch.Read(api.Value{Kind: api.List, L: l}); e != api.OK || len(ops) != 0 {
			t.Errorf("none: %+v, %d", ops, e)
		}
	}
	for n := api.MaxOps + 1; n < api.MaxCount; n++ {
		for _, item := range []string{right, "1"} {
			if n*3 >= api.MaxCount && item == right {
				continue
			}
			// How many they are is asked ahead of what they are.
			if l, e := patch.Read(of(t, times(n, item))); e != api.ErrLong || len(l) != 0 {
				t.Errorf("%d of %s: %+v, %d", n, item, l, e)
			}
		}
	}
	// Whether it is good is asked ahead of how many they are.
	many := make([]api.Value, api.MaxOps+1)
	many[3].Kind = 9
	for _, v := range []api.Value{{Kind: api.List, L: many}, {Kind: api.List, L: make([]api.Value, api.MaxCount)}, {Kind: api.Object, L: many}} {
		if l, e := patch.Read(v); e != api.ErrForm || len(l) != 0 {
			t.Errorf("%d items: %+v, %d", len(v.L), l, e)
		}
	}
}

func TestReadLeavesItAsItIs(t *testing.T) { // P3.1
	const s = `[{"op":"add","path":"/a","value":[1,{"b":2}]},{"from":"/a","op":"move","path":"/b"},{"op":"test","path":"/b","value":{}}]`
	v := roomy(of(t, s))
	if _, e := patch.Read(v); e != api.OK || show(v) != s || !untouched(v) {
		t.Errorf("%d, and it is %s now", e, show(v))
	}
}
