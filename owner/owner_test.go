package owner_test

import (
	"slices"
	"strconv"
	"strings"
	"testing"

	"stairwell/api"
	"stairwell/json"
	"stairwell/owner"
)

func TestNamed(t *testing.T) { // P5.1
	most := strings.Repeat("z", api.MaxName)
	for _, s := range []string{"a", "z", "ann", "zzz", "abcdefghijkl", "mnopqrstuvwx", "yz", most} {
		if !owner.Named(s) {
			t.Errorf("no name: %q", s)
		}
	}
	for _, s := range []string{"", "A", "Z", "Ann", "aNn", "anN", "a b", " a", "a ", "a1", "0", "-", "a-b", "a/b", "/a", "a\x00", "\x00", "é", "\x80", "a\xff", most + "z", strings.Repeat("a", 10000)} {
		if owner.Named(s) {
			t.Errorf("a name: %q", s)
		}
	}
	for c := range 256 {
		want := c >= 'a' && c <= 'z'
		for _, s := range []string{"", "a", most[1:]} {
			if got := owner.Named(s + string([]byte{byte(c)})); got != want {
				t.Errorf("byte %d behind %q: %v", c, s, got)
			}
		}
	}
}

func TestGood(t *testing.T) { // P5.1
	long := "/" + strings.Repeat("x", api.MaxBytes-1)
	for _, l := range [][]api.Owner{
		nil, {}, owners("a /a"), owners("ann /a /b; bob /a /b"), owners("a /x; aa /x; ab /x; b /x"),
		owners("a / /- // /0 /01 /a /a! /a/ /a/b /ab /a~0 /a~1b /b/~01/~1"),
		{{Name: "a", Paths: []string{"/\x00", "/ ", "/a!", "/a/b", "/ab", "/\x80", "/\xff"}}},
		{{Name: "abcdefghijkl", Paths: []string{long}}},
		owners("a /a; b /a; c /a; d /a; e /a; f /a"),
	} {
		if !owner.Good(l) {
			t.Errorf("not good: %s", told(l))
		}
	}
}

func TestGoodRefuses(t *testing.T) { // P5.1
	for _, l := range wrongOwners() {
		if owner.Good(l) {
			t.Errorf("good: %q", told(l))
		}
	}
	long := "/" + strings.Repeat("x", api.MaxBytes)
	for _, l := range [][]api.Owner{
		owners("a /a; b /a; c /a; d /a; e /a; f /a; g /a"), make([]api.Owner, 1000),
		owners("b /a; a /a"), owners("a /a; c /a; b /a"), owners("a /a; b /a; b /b"), owners("ab /a; a /a"),
		owners("a /a; b; c /a"), owners("a /a; B /a"), owners("a /a; b2 /a"),
		owners("a /b /a"), owners("a /a /b /b"), owners("a /a /c /b"), owners("a /ab /a"), owners("a /a/b /a!"),
		owners("a a/b"), owners("a ~0"), owners("a /~2"), owners("a /a/~"), owners("a /a~/b"), owners("a /~~0"), owners("a /a b"),
		{{Name: "a", Paths: []string{long}}}, {{Name: "a", Paths: []string{"/a"}}, {Name: "b", Paths: []string{}}},
		{{Name: "", Paths: []string{"/a"}}}, {{Name: "a", Paths: []string{"/a", ""}}},
	} {
		if owner.Good(l) {
			t.Errorf("good: %q", told(l))
		}
	}
}

func TestLeaves(t *testing.T) { // P5.2
	for s, want := range map[string]string{
		`{}`: "", `{"a":1}`: "/a", `{"a":{}}`: "/a", `{"a":[]}`: "/a", `{"a":null}`: "/a", `{"a":false,"b":"x"}`: "/a /b",
		`{"a":{"b":1}}`: "/a/b", `{"a":{"b":{}}}`: "/a/b", `{"a":{"b":{"c":{"d":null}}}}`: "/a/b/c/d",
		`{"a":{"b":1,"c":{}},"d":{"e":{"f":2}}}`:     "/a/b /a/c /d/e/f",
		`{"a":[{"b":1},{"c":{}}]}`:                   "/a",
		`{"a":{"b":[{"c":1}]},"d":[1,2]}`:            "/a/b /d",
		`{"":1}`:                                     "/",
		`{"":{"":{"":0}}}`:                           "///",
		`{"a/b":1,"~":{"/":2}}`:                      "/a~1b /~0/~1",
		`{"~1":1,"~0/":{}}`:                          "/~00~1 /~01",
		`{"0":{"-":1,"01":2}}`:                       "/0/- /0/01",
		`{"a":{"b":1},"a!":2,"a-b":3,"a0":4,"aa":5}`: "/a! /a-b /a/b /a0 /aa",
		`{"/":1,"0":2,"z":3,"~":4}`:                  "/0 /z /~0 /~1",
		`{"a":{"z":1},"a-":{"a":1},"a/":{"b":2}}`:    "/a-/a /a/z /a~1/b",
		// Not by their order only: the empty name comes first, but a path is longer by it.
		`{"":{"a":1},"!":2}`: "/! //a",
	} {
		v := roomy(of(t, s))
		l := owner.Leaves(v)
		if !slices.Equal(l, strings.Fields(want)) || !slices.IsSorted(l) {
			t.Errorf("%s: %q, wanted %s", s, l, want)
		}
		if !json.Same(v, of(t, s)) || !untouched(v) {
			t.Errorf("%s was changed", s)
		}
	}
}

func TestLeavesOfOthers(t *testing.T) { // P5.2
	for _, s := range []string{"null", "true", "5", `"a"`, "[]", "[1]", `[{"a":1}]`} {
		if l := owner.Leaves(of(t, s)); len(l) != 0 {
			t.Errorf("%s: %q", s, l)
		}
	}
	for i, v := range wrong() {
		if l := owner.Leaves(v); len(l) != 0 {
			t.Errorf("wrong value %d: %q", i, l)
		}
		if l := owner.Leaves(object("a b", v, number(1))); len(l) != 0 {
			t.Errorf("with wrong value %d in it: %q", i, l)
		}
	}
}

// As many as there may be, as long as they may be: their paths are good ones.
func TestLeavesAreGoodPaths(t *testing.T) { // P5.1, P5.2
	deep := number(1)
	for range api.MaxDepth - 1 {
		deep = api.Value{Kind: api.Object, Keys: []string{strings.Repeat("~", api.MaxText)}, L: []api.Value{deep}}
	}
	for _, v := range []api.Value{deep, members("m", api.MaxCount-1, api.Value{}), object("a b", members("m", 50, number(1)), members("/", 60, api.Value{Kind: api.Object}))} {
		l := owner.Leaves(v)
		if len(l) == 0 || !owner.Good([]api.Owner{{Name: "a", Paths: l}}) {
			t.Errorf("%d leaves", len(l))
		}
	}
	if l := owner.Leaves(deep); len(l) != 1 || l[0] != strings.Repeat("/"+strings.Repeat("~0", api.MaxText), api.MaxDepth-1) {
		t.Errorf("a deep one: %q", l)
	}
}

func TestConflicts(t *testing.T) { // P5.3
	for _, c := range []struct{ v, l, who, want, found string }{
		// A leaf that is somebody else's: by what stands there.
		{`{"a":1}`, "ann /a", "bob", `{"a":1}`, ""},
		{`{"a":1}`, "ann /a", "bob", `{"a":2}`, "ann /a"},
		{`{"a":1}`, "ann /a", "bob", `{"a":"1"}`, "ann /a"},
		{`{"a":1}`, "ann /a", "bob", `{"a":{}}`, "ann /a"},
		{`{"a":1}`, "ann /a", "bob", `{"a":null}`, "ann /a"},
		{`{"a":null}`, "ann /a", "bob", `{"a":null}`, ""},
		{`{}`, "ann /a", "bob", `{"a":null}`, "ann /a"},
		{`{}`, "ann /a", "bob", `{"a":1}`, "ann /a"},
		{`{}`, "ann /a", "bob", `{"a":{}}`, "ann /a"},
		{`{"a":{}}`, "ann /a", "bob", `{"a":{}}`, ""},
		{`{"a":{"b":1}}`, "ann /a", "bob", `{"a":{}}`, ""},
		{`{"a":{"b":1}}`, "ann /a", "bob", `{"a":1}`, "ann /a"},
		{`{"a":{}}`, "ann /a", "bob", `{"a":[]}`, "ann /a"},
		{`{"a":[]}`, "ann /a", "bob", `{"a":{}}`, "ann /a"},
		{`{"a":[1,{"b":2}]}`, "ann /a", "bob", `{"a":[1,{"b":2}]}`, ""},
		{`{"a":[1,{"b":2}]}`, "ann /a", "bob", `{"a":[1,{"b":3}]}`, "ann /a"},
		{`{"a":{"b":1}}`, "ann /a/b", "bob", `{"a":{"b":1}}`, ""},
		{`{"a":{"b":1}}`, "ann /a/b", "bob", `{"a":{"b":2}}`, "ann /a/b"},
		// Nothing stands there but through a list.
		{`{"a":[7]}`, "ann /a/0", "bob", `{"a":{"0":7}}`, "ann /a/0"},
		{`{"a":1}`, "ann /a/b", "bob", `{"a":{"b":1}}`, "ann /a/b"},
		// Above and below, whatever stands there.
		{`{"a":{"b":1}}`, "ann /a/b", "bob", `{"a":1}`, "ann /a/b"},
		{`{"a":{"b":1}}`, "ann /a/b", "bob", `{"a":{}}`, "ann /a/b"},
		{`{"a":{"b":1}}`, "ann /a/b/c/d", "bob", `{"a":{}}`, "ann /a/b/c/d"},
		{`{"a":{"b":1}}`, "ann /a", "bob", `{"a":{"b":1}}`, "ann /a"},
		{`{"a":{}}`, "ann /a", "bob", `{"a":{"b":{"c":1}}}`, "ann /a"},
		{`{"a":{}}`, "ann /a/b", "bob", `{"a":{"b":{"c":1}}}`, "ann /a/b"},
		{`{}`, "ann /a/b", "bob", `{"a":{"b":{"c":1,"d":2},"e":1}}`, "ann /a/b"},
		// What merely begins alike, or stands beside.
		{`{}`, "ann /a /ab /abc", "bob", `{"ab":1}`, "ann /ab"},
		{`{}`, "ann /a/b /ab /a~1b", "bob", `{"a":1}`, "ann /a/b"},
		{`{}`, "ann /a/b", "bob", `{"a/b":1}`, ""},
		{`{}`, "ann /a /a/bc", "bob", `{"a":{"b":1}}`, "ann /a"},
		{`{}`, "ann /a/b/c /d", "bob", `{"a":{"c":1},"e":1}`, ""},
		{`{}`, "ann / // /a", "bob", `{"":1}`, "ann /; ann //"},
		{`{}`, "ann /A", "bob", `{"a":1}`, ""},
		// Of all others, by order.
		{`{"a":1,"b":2}`, "ann /a /b; bob /a; cy /b; dan /a/x /c", "eve", `{"a":9,"b":9}`, "ann /a; ann /b; bob /a; cy /b; dan /a/x"},
		{`{"a":1,"b":2}`, "ann /a /b; bob /a; cy /b; dan /a/x /c", "ann", `{"a":9,"b":9}`, "bob /a; cy /b; dan /a/x"},
		{`{"a":1,"b":2}`, "ann /a /b; bob /a; cy /b; dan /a/x /c", "dan", `{"a":9,"b":2}`, "ann /a; bob /a"},
		{`{"a":1}`, "ann /a", "ann", `{"a":2}`, ""},
		{`{"a":1}`, "ann /a", "bob", `{}`, ""},
		{`{"a":1}`, "", "bob", `{"a":2}`, ""},
		// Values that are good, but no objects.
		{`[1]`, "ann /a /b", "bob", `{"a":1}`, "ann /a"},
		{`{"a":1}`, "ann /0 /a", "bob", `[1]`, ""},
	} {
		v, l, want := roomy(of(t, c.v)), roomyOwners(owners(c.l)), roomy(of(t, c.want))
		if found := owner.Conflicts(v, l, c.who, want); conflictsTold(found) != c.found {
			t.Errorf("%+v: %s", c, conflictsTold(found))
		}
		if show(v) != c.v || show(want) != c.want || told(l) != c.l || !untouched(v) || !untouched(want) || !untouchedOwners(l) {
			t.Errorf("%+v: it was changed", c)
		}
	}
}

// Nothing is said of wrong ones, but that it ends: here there is none.
func TestConflictsOfWrongOnes(t *testing.T) { // P5.3
	l, v := owners("ann /a; bob /a /b"), of(t, `{"a":1,"b":2}`)
	for i, x := range wrong() {
		if found := append(owner.Conflicts(x, l, "cy", v), owner.Conflicts(v, l, "cy", x)...); len(found) != 0 {
			t.Errorf("wrong value %d: %s", i, conflictsTold(found))
		}
	}
	for _, l := range wrongOwners() {
		if found := append(owner.Conflicts(v, l, "cy", v), owner.Conflicts(of(t, "{}"), l, "", v)...); len(found) != 0 {
			t.Errorf("%s: %s", told(l), conflictsTold(found))
		}
	}
}

func TestKeep(t *testing.T) { // P5.6
	for _, c := range [][3]string{
		{`{}`, "", ""}, {`{"a":1}`, "", ""},
		{`{"a":1}`, "ann /a", "ann /a"},
		{`{}`, "ann /a", ""},
		{`{"a":null}`, "ann /a /b", "ann /a"},
		{`{"b":1}`, "ann /a /b", "ann /b"},
		{`{"a":1,"c":{}}`, "ann /a /b /c", "ann /a /c"},
		{`{"a":1}`, "ann /b; bob /a; cy /c", "bob /a"},
		{`{"a":1}`, "ann /a /b; bob /c; cy /a", "ann /a; cy /a"},
		{`{"a":{"b":{"c":1}}}`, "ann /a /a/b /a/b/c /a/b/c/d /a/c /b", "ann /a /a/b /a/b/c"},
		{`{"a":[1]}`, "ann /a /a/- /a/0 /a/1", "ann /a"},
		{`{"a":[{"b":1}]}`, "ann /a/0/b; bob /a/0", ""},
		{`{"a":{"-":1,"0":2}}`, "ann /a/- /a/0 /a/1", "ann /a/- /a/0"},
		{`{"":{"":1}}`, "ann / // ///", "ann / //"},
		{`{"a/b":1,"~":2,"~1":3}`, "ann /a/b /a~1b /~0 /~01 /~1", "ann /a~1b /~0 /~01"},
		{`{"a":"b"}`, "ann /a/b", ""}, {`{"a":1}`, "ann /A /aa", ""},
		{`[1]`, "ann /0; bob /-", ""}, {`null`, "ann /", ""}, {`"a"`, "ann /a", ""},
	} {
		v, l := roomy(of(t, c[0])), roomyOwners(owners(c[1]))
		if k := owner.Keep(v, l); told(k) != c[2] || !owner.Good(k) {
			t.Errorf("%s, %s: %s, wanted %s", c[0], c[1], told(k), c[2])
		}
		if show(v) != c[0] || told(l) != c[1] || !untouched(v) || !untouchedOwners(l) {
			t.Errorf("%s, %s: it was changed", c[0], c[1])
		}
	}
}

// Nothing is said of wrong ones, but that it ends: here nobody is left.
func TestKeepOfWrongOnes(t *testing.T) { // P5.6
	for i, v := range wrong() {
		if k := owner.Keep(v, owners("ann /a/a /a/a/a; bob /a /b")); len(k) != 0 {
			t.Errorf("wrong value %d: %s", i, told(k))
		}
	}
	for _, l := range wrongOwners() {
		if k := owner.Keep(object("a", number(1)), l); len(k) != 0 {
			t.Errorf("%s: %s", told(l), told(k))
		}
	}
}

// Owners may have very many paths, and long ones.
func TestManyPaths(t *testing.T) { // P5.1, P5.3, P5.6
	paths := make([]string, 20000)
	for i := range paths {
		paths[i] = "/a" + strconv.Itoa(100000+i)
	}
	paths = append(paths, "/b"+strings.Repeat("/b", api.MaxBytes/2-1))
	l := []api.Owner{{Name: "ann", Paths: paths}, {Name: "bob", Paths: paths}}
	v := object("a100007 b", number(1), number(2))
	if !owner.Good(l) {
		t.Errorf("not good")
	}
	if k := owner.Keep(v, l); told(k) != "ann /a100007; bob /a100007" {
		t.Errorf("%d owners", len(k))
	}
	if found := owner.Conflicts(v, l, "bob", object("a100007 a100009 b", number(1), number(1), number(1))); len(found) != 2 || found[0].Path != "/a100009" || found[1].Path != paths[20000] {
		t.Errorf("%d conflicts", len(found))
	}
	w, m, _, e := owner.Apply(v, l[1:], "bob", object("c", number(3)), false)
	if e != api.OK || show(w) != `{"b":2,"c":3}` || told(m) != "bob /c" {
		t.Errorf("%s, %s, %d", show(w), told(m), e)
	}
	w, m, _, e = owner.Apply(v, l, "bob", object("c", number(3)), false)
	if e != api.OK || show(w) != `{"a100007":1,"b":2,"c":3}` || len(m) != 2 || !slices.Equal(m[0].Paths, paths) || !slices.Equal(m[1].Paths, []string{"/c"}) {
		t.Errorf("%s, %d owners, %d", show(w), len(m), e)
	}
}
