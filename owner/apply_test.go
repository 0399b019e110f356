package owner_test

import (
	"strconv"
	"strings"
	"testing"

	"stairwell/api"
	"stairwell/json"
	"stairwell/owner"
)

// A trial of Apply; of one that is refused w and m are as it was.
type trial struct {
	v, l, who, want, w, m string
}

func tryApply(t *testing.T, force bool, trials []trial) {
	t.Helper()
	for _, c := range trials {
		v, l, want := roomy(of(t, c.v)), roomyOwners(owners(c.l)), roomy(of(t, c.want))
		w, m, found, e := owner.Apply(v, l, c.who, want, force)
		if e != api.OK || show(w) != c.w || told(m) != c.m || len(found) != 0 || !owner.Good(m) {
			t.Errorf("%+v: %s, %s, %s, %d", c, show(w), told(m), conflictsTold(found), e)
		}
		if show(v) != c.v || show(want) != c.want || told(l) != c.l || !untouched(v) || !untouched(want) || !untouchedOwners(l) {
			t.Errorf("%+v: what was handed in was changed", c)
		}
	}
}

func TestApplyWhatIsWanted(t *testing.T) { // P5.5
	trials := []trial{
		{`{}`, "", "ann", `{"a":1}`, `{"a":1}`, "ann /a"},
		{`{}`, "", "ann", `{"a":{"b":{"c":1,"d":[]}},"e":null}`, `{"a":{"b":{"c":1,"d":[]}},"e":null}`, "ann /a/b/c /a/b/d /e"},
		{`{"b":2}`, "", "ann", `{"a":1,"c":3}`, `{"a":1,"b":2,"c":3}`, "ann /a /c"},
		{`{"a":{"b":1}}`, "", "ann", `{"a":{"c":2}}`, `{"a":{"b":1,"c":2}}`, "ann /a/c"},
		// What nobody has is overwritten, and made an object where it is none.
		{`{"a":1}`, "", "ann", `{"a":2}`, `{"a":2}`, "ann /a"},
		{`{"a":1}`, "", "ann", `{"a":1}`, `{"a":1}`, "ann /a"},
		{`{"a":{"b":1}}`, "", "ann", `{"a":2}`, `{"a":2}`, "ann /a"},
		{`{"a":{"b":1}}`, "", "ann", `{"a":[]}`, `{"a":[]}`, "ann /a"},
		{`{"a":1}`, "", "ann", `{"a":{"b":{"c":2}}}`, `{"a":{"b":{"c":2}}}`, "ann /a/b/c"},
		{`{"a":[1,2]}`, "", "ann", `{"a":{"0":3}}`, `{"a":{"0":3}}`, "ann /a/0"},
		{`{"a":{"b":"x","c":1}}`, "", "ann", `{"a":{"b":{"d":{"e":2}}}}`, `{"a":{"b":{"d":{"e":2}},"c":1}}`, "ann /a/b/d/e"},
		{`{"a":null}`, "", "ann", `{"a":{"b":1}}`, `{"a":{"b":1}}`, "ann /a/b"},
		// An empty object leaves one that is there.
		{`{"a":{"b":1}}`, "", "ann", `{"a":{}}`, `{"a":{"b":1}}`, "ann /a"},
		{`{"a":{}}`, "", "ann", `{"a":{}}`, `{"a":{}}`, "ann /a"},
		{`{}`, "", "ann", `{"a":{}}`, `{"a":{}}`, "ann /a"},
		{`{"a":1}`, "", "ann", `{"a":{}}`, `{"a":{}}`, "ann /a"},
		{`{"a":[1]}`, "", "ann", `{"a":{}}`, `{"a":{}}`, "ann /a"},
		{`{"a":null}`, "", "ann", `{"a":{}}`, `{"a":{}}`, "ann /a"},
		{`{"a":1}`, "", "ann", `{"a":{"b":{}}}`, `{"a":{"b":{}}}`, "ann /a/b"},
		{`{"a":{"b":{"c":1},"d":2}}`, "", "ann", `{"a":{"b":{}}}`, `{"a":{"b":{"c":1},"d":2}}`, "ann /a/b"},
		// Lists are laid whole.
		{`{"a":[1,{"b":2}]}`, "", "ann", `{"a":[{}]}`, `{"a":[{}]}`, "ann /a"},
		// Names that are marked in paths.
		{`{"a":{"b":1}}`, "", "ann", `{"a/b":2,"~":{"~1":{"":3}}}`, `{"a":{"b":1},"a/b":2,"~":{"~1":{"":3}}}`, "ann /a~1b /~0/~01/"},
		// Nothing is wanted.
		{`{"a":1}`, "", "ann", `{}`, `{"a":1}`, ""},
		{`{}`, "", "ann", `{}`, `{}`, ""},
	}
	tryApply(t, false, trials)
	tryApply(t, true, trials)
}

func TestApplyKeepsOthers(t *testing.T) { // P5.4, P5.5
	trials := []trial{
		{`{"a":1,"b":2}`, "ann /a; cy /b", "bob", `{"c":3}`, `{"a":1,"b":2,"c":3}`, "ann /a; bob /c; cy /b"},
		{`{"a":1,"b":2}`, "bob /a; cy /b", "ann", `{"c":3}`, `{"a":1,"b":2,"c":3}`, "ann /c; bob /a; cy /b"},
		{`{"a":1,"b":2}`, "ann /a; bob /b", "cy", `{"c":3}`, `{"a":1,"b":2,"c":3}`, "ann /a; bob /b; cy /c"},
		{`{"a":1}`, "ann /a", "bob", `{"a":1}`, `{"a":1}`, "ann /a; bob /a"},
		{`{"a":1}`, "ann /a", "ann", `{"a":2}`, `{"a":2}`, "ann /a"},
		{`{"a":1}`, "a /a", "aa", `{"a":1}`, `{"a":1}`, "a /a; aa /a"},
		{`{"a":{"b":1}}`, "ann /a", "bob", `{"a":{}}`, `{"a":{"b":1}}`, "ann /a; bob /a"},
		{`{"a":{"b":1}}`, "ann /a/b /z", "bob", `{"a":{"c":2}}`, `{"a":{"b":1,"c":2}}`, "ann /a/b /z; bob /a/c"},
		// Others keep what is not there, where it is not in the way.
		{`{}`, "ann /a", "bob", `{"b":1}`, `{"b":1}`, "ann /a; bob /b"},
		{`{}`, "ann /a", "bob", `{}`, `{}`, "ann /a"},
	}
	tryApply(t, false, trials)
	tryApply(t, true, trials)
}

func TestApplyTakesAway(t *testing.T) { // P5.4
	trials := []trial{
		{`{"a":1}`, "ann /a", "ann", `{}`, `{}`, ""},
		{`{"a":1,"b":2}`, "ann /a", "ann", `{}`, `{"b":2}`, ""},
		{`{"a":1,"b":2}`, "ann /a /b", "ann", `{"b":2}`, `{"b":2}`, "ann /b"},
		{`{"a":1,"b":2}`, "ann /a /b", "ann", `{"b":3,"c":4}`, `{"b":3,"c":4}`, "ann /b /c"},
		{`{"a":1}`, "ann /a; bob /b", "ann", `{}`, `{}`, "bob /b"},
		{`{"a":1}`, "ann /a", "bob", `{}`, `{"a":1}`, "ann /a"},
		// What stands there goes whole.
		{`{"a":{"b":{"c":1}},"d":1}`, "ann /a", "ann", `{}`, `{"d":1}`, ""},
		{`{"a":[1,2]}`, "ann /a", "ann", `{}`, `{}`, ""},
		{`{"a":null,"b":{}}`, "ann /a /b", "ann", `{}`, `{}`, ""},
		// Objects that are empty by that go, upwards.
		{`{"a":{"b":1}}`, "ann /a/b", "ann", `{}`, `{}`, ""},
		{`{"a":{"b":{"c":{"d":1}}},"e":1}`, "ann /a/b/c/d", "ann", `{}`, `{"e":1}`, ""},
		{`{"a":{"b":{"c":1},"d":2}}`, "ann /a/b/c", "ann", `{}`, `{"a":{"d":2}}`, ""},
		{`{"a":{"b":{"c":1},"d":2}}`, "ann /a/b/c /a/d", "ann", `{}`, `{}`, ""},
		{`{"a":{"b":{"c":1},"d":{}}}`, "ann /a/b/c", "ann", `{}`, `{"a":{"d":{}}}`, ""},
		{`{"a":{"b":{"c":{}}}}`, "ann /a/b/c", "ann", `{}`, `{}`, ""},
		{`{"a":{"b":1},"c":{"d":1}}`, "ann /a/b", "ann", `{}`, `{"c":{"d":1}}`, ""},
		// Those that were empty before stay.
		{`{"a":{}}`, "ann /a/b", "ann", `{}`, `{"a":{}}`, ""},
		{`{"a":{"b":{}}}`, "ann /a/b/c", "ann", `{}`, `{"a":{"b":{}}}`, ""},
		{`{"a":{"b":{},"c":1}}`, "ann /a/b/c /a/c", "ann", `{}`, `{"a":{"b":{}}}`, ""},
		// Nothing is there, through objects.
		{`{"a":1}`, "ann /b", "ann", `{}`, `{"a":1}`, ""},
		{`{"a":1}`, "ann /a/b /b/c", "ann", `{}`, `{"a":1}`, ""},
		{`{"a":[1,2]}`, "ann /a/- /a/0", "ann", `{}`, `{"a":[1,2]}`, ""},
		{`{"a":[{"b":1}]}`, "ann /a/0/b", "ann", `{}`, `{"a":[{"b":1}]}`, ""},
		{`{"a":[]}`, "ann /a/0", "ann", `{}`, `{"a":[]}`, ""},
		{`{"a":{"0":1,"1":2}}`, "ann /a/0", "ann", `{}`, `{"a":{"1":2}}`, ""},
		// Paths that stand in each other.
		{`{"a":{"b":1,"c":2}}`, "ann /a /a/b", "ann", `{}`, `{}`, ""},
		{`{"a":{"b":1,"c":2}}`, "ann /a /a/b", "ann", `{"a":{"b":1}}`, `{"a":{"b":1}}`, "ann /a/b"},
		{`{"a":{"b":1,"c":2}}`, "ann /a /a/b", "ann", `{"a":{}}`, `{"a":{"c":2}}`, "ann /a"},
		{`{"a":{"b":1}}`, "ann /a/b", "ann", `{"a":{}}`, `{"a":{}}`, "ann /a"},
		{`{"a":{"b":1}}`, "ann /a/b", "ann", `{"a":{"c":2}}`, `{"a":{"c":2}}`, "ann /a/c"},
		{`{"a":{"b":1,"c":2}}`, "ann /a", "ann", `{"a":{"b":{}}}`, `{"a":{"b":{}}}`, "ann /a/b"},
		{`{"a":{"b":{"x":1}}}`, "ann /a", "ann", `{"a":{"b":{}}}`, `{"a":{"b":{}}}`, "ann /a/b"},
		{`{"a":{"b":{"x":1}}}`, "ann /a/b", "ann", `{"a":{"b":{}}}`, `{"a":{"b":{"x":1}}}`, "ann /a/b"},
		// Names that are marked in paths.
		{`{"a":{"b":1},"a/b":2,"~":{"/":3}}`, "ann /a~1b /~0/~1", "ann", `{}`, `{"a":{"b":1}}`, ""},
		{`{"":{"":1}}`, "ann //", "ann", `{}`, `{}`, ""},
	}
	tryApply(t, false, trials)
	tryApply(t, true, trials)
}

func TestApplyLeavesWhatOthersHave(t *testing.T) { // P5.4
	trials := []trial{
		{`{"a":1}`, "ann /a; bob /a", "ann", `{}`, `{"a":1}`, "bob /a"},
		{`{"a":1}`, "ann /a; bob /a", "bob", `{}`, `{"a":1}`, "ann /a"},
		{`{"a":{"b":1}}`, "ann /a/b; bob /a", "ann", `{}`, `{"a":{"b":1}}`, "bob /a"},
		{`{"a":{"b":1,"c":2}}`, "ann /a; bob /a/c", "ann", `{}`, `{"a":{"b":1,"c":2}}`, "bob /a/c"},
		{`{"a":{"b":1,"c":2}}`, "ann /a; bob /a/x/y", "ann", `{}`, `{"a":{"b":1,"c":2}}`, "bob /a/x/y"},
		{`{"a":{"b":1,"c":2}}`, "ann /a/b; bob /a/c", "ann", `{}`, `{"a":{"c":2}}`, "bob /a/c"},
		{`{"a":{"b":1}}`, "ann /a/b; bob /a/c", "ann", `{}`, `{}`, "bob /a/c"},
		{`{"a":1,"ab":2}`, "ann /a; bob /ab", "ann", `{}`, `{"ab":2}`, "bob /ab"},
		{`{"a":1,"ab":2}`, "ann /ab; bob /a", "ann", `{}`, `{"a":1}`, "bob /a"},
		{`{"a":{"b":1},"a/b":2}`, "ann /a~1b; bob /a/b", "ann", `{}`, `{"a":{"b":1}}`, "bob /a/b"},
		{`{"a":1,"b":2}`, "ann /a /b; bob /b; cy /a", "bob", `{}`, `{"a":1,"b":2}`, "ann /a /b; cy /a"},
		{`{"a":1,"b":2}`, "ann /a /b; bob /b; cy /c", "ann", `{"c":3}`, `{"b":2,"c":3}`, "ann /c; bob /b"},
	}
	tryApply(t, true, trials)
	tryApply(t, false, trials[:len(trials)-1])
}

func TestApplyRefusesConflicts(t *testing.T) { // P5.4
	for _, c := range []struct{ v, l, who, want, found string }{
		{`{"a":1}`, "ann /a", "bob", `{"a":2}`, "ann /a"},
		{`{"a":1}`, "ann /a", "bob", `{"a":{"b":1},"c":1}`, "ann /a"},
		{`{"a":{"b":1}}`, "ann /a/b", "bob", `{"a":{}}`, "ann /a/b"},
		{`{}`, "ann /a; bob /b", "bob", `{"a":1}`, "ann /a"},
		{`{"a":1,"b":{"c":2}}`, "ann /a /b/c; bob /b/c; cy /a/d", "dan", `{"a":2,"b":3}`, "ann /a; ann /b/c; bob /b/c; cy /a/d"},
	} {
		v, l, want := roomy(of(t, c.v)), roomyOwners(owners(c.l)), of(t, c.want)
		w, m, found, e := owner.Apply(v, l, c.who, want, false)
		if e != api.ErrConflict || conflictsTold(found) != c.found || show(w) != c.v || told(m) != c.l {
			t.Errorf("%+v: %s, %s, %s, %d", c, show(w), told(m), conflictsTold(found), e)
		}
		if show(v) != c.v || told(l) != c.l || !untouched(v) || !untouchedOwners(l) {
			t.Errorf("%+v: what was handed in was changed", c)
		}
	}
}

func TestApplyByForce(t *testing.T) { // P5.4, P5.5
	tryApply(t, true, []trial{
		{`{"a":1}`, "ann /a", "bob", `{"a":2}`, `{"a":2}`, "bob /a"},
		{`{"a":1,"b":2}`, "ann /a /b", "bob", `{"a":2}`, `{"a":2,"b":2}`, "ann /b; bob /a"},
		{`{"a":1,"b":2}`, "ann /a /b; cy /a; dan /a /a/x /c", "bob", `{"a":2}`, `{"a":2,"b":2}`, "ann /b; bob /a; dan /c"},
		// Who wants the same has it still.
		{`{"a":1,"b":2}`, "ann /a; cy /b", "bob", `{"a":1,"b":3}`, `{"a":1,"b":3}`, "ann /a; bob /a /b"},
		{`{"a":{"b":1,"c":2}}`, "ann /a/b", "bob", `{"a":{}}`, `{"a":{"b":1,"c":2}}`, "bob /a"},
		{`{"a":{"b":1,"c":2}}`, "ann /a/b", "bob", `{"a":[]}`, `{"a":[]}`, "bob /a"},
		{`{"a":{"c":2}}`, "ann /a", "bob", `{"a":{"b":1}}`, `{"a":{"b":1,"c":2}}`, "bob /a/b"},
		{`{"a":5}`, "ann /a", "bob", `{"a":{"b":1}}`, `{"a":{"b":1}}`, "bob /a/b"},
		{`{}`, "ann /a", "bob", `{"a":1}`, `{"a":1}`, "bob /a"},
		// A path that others lose holds nothing any more that is given up.
		{`{"a":{"b":{"x":1}}}`, "ann /a/b; bob /a/b", "ann", `{"a":{"b":{"c":1}}}`, `{"a":{"b":{"c":1}}}`, "ann /a/b/c"},
		{`{"a":{"b":1,"d":2}}`, "ann /a/b; bob /a", "ann", `{"a":{"c":3}}`, `{"a":{"c":3,"d":2}}`, "ann /a/c"},
		{`{"a":{"b":1,"d":2}}`, "ann /a; bob /a/b", "ann", `{"a":{"b":3}}`, `{"a":{"b":3}}`, "ann /a/b"},
		// One that they keep does.
		{`{"a":{"b":1,"d":2}}`, "ann /a; bob /a/b /a/d", "ann", `{"a":{"b":3}}`, `{"a":{"b":3,"d":2}}`, "ann /a/b; bob /a/d"},
	})
}

func TestApplyRefusesWrongOnes(t *testing.T) { // P5.4
	object, l := of(t, `{"a":1}`), owners("bob /a")
	refuse := func(v api.Value, l []api.Owner, who string, want api.Value, what string) {
		t.Helper()
		for _, force := range []bool{false, true} {
			w, m, found, e := owner.Apply(v, l, who, want, force)
			if e != api.ErrForm || !asItWas(w, v) || !sameOwners(m, l) || len(found) != 0 {
				t.Errorf("%s, by force %v: %d, %d conflicts", what, force, e, len(found))
			}
		}
	}
	// That there are conflicts, too, makes no odds.
	other := of(t, `{"a":2}`)
	for i, x := range wrong() {
		refuse(x, l, "ann", other, "wrong value "+strconv.Itoa(i))
		refuse(object, l, "ann", x, "wrong want "+strconv.Itoa(i))
		refuse(x, nil, "ann", x, "both are wrong value "+strconv.Itoa(i))
	}
	for _, s := range []string{"null", "true", "5", `"a"`, "[]", `[{"a":1}]`} {
		refuse(of(t, s), l, "ann", other, s)
		refuse(object, l, "ann", of(t, s), "want "+s)
	}
	for _, m := range wrongOwners() {
		refuse(object, m, "ann", other, "owners "+told(m))
		refuse(object, m, "ann", api.Value{Kind: api.Object}, "owners, nothing wanted "+told(m))
	}
	for _, who := range []string{"", "Ann", "a b", "a1", "abcdefghijklm", "\x80"} {
		refuse(object, l, who, other, "who "+who)
		refuse(object, nil, who, api.Value{Kind: api.Object}, "who, nothing wanted "+who)
	}
}

func TestApplyTooMuch(t *testing.T) { // P5.5
	const half = api.MaxCount / 2
	v := members("a", half, number(1))
	for n := half - 3; n < half+3; n++ {
		l := owners("bob /x")
		w, m, found, e := owner.Apply(v, l, "ann", members("b", n, number(1)), n%2 == 0)
		if half+n+1 <= api.MaxCount {
			if e != api.OK || json.Count(w) != half+n+1 || len(m) != 2 {
				t.Errorf("%d more: %d, %d in it", n, e, json.Count(w))
			}
		} else if e != api.ErrLong || !asItWas(w, v) || told(m) != "bob /x" || len(found) != 0 {
			t.Errorf("%d more: %d, %s, %d conflicts", n, e, told(m), len(found))
		}
	}
	// What goes makes room, though it would be too much on the way.
	full := members("m", api.MaxCount-1, number(1))
	w, m, _, e := owner.Apply(full, owners("ann /m0"), "ann", object("z", number(1)), false)
	if e != api.OK || !json.Same(w, json.With(json.Without(full, "m0"), "z", number(1))) || told(m) != "ann /z" {
		t.Errorf("one comes, one goes: %d", e)
	}
	if w, m, _, e := owner.Apply(full, owners("ann /m0; bob /m0"), "ann", object("z", number(1)), false); e != api.ErrLong || !asItWas(w, full) || told(m) != "ann /m0; bob /m0" {
		t.Errorf("one comes, none goes: %d", e)
	}
	list := api.Value{Kind: api.List, L: full.L[:half]}
	wanted := members("n", half-2, number(1))
	for _, more := range []int{0, 1} {
		want := wanted
		if more == 1 {
			want = json.With(wanted, "o", number(1))
		}
		w, _, _, e := owner.Apply(object("a", list), nil, "ann", want, false)
		if more == 0 && (e != api.OK || json.Count(w) != api.MaxCount) || more == 1 && (e != api.ErrLong || json.Count(w) != half+2) {
			t.Errorf("beside a list, %d more: %d, %d in it", more, e, json.Count(w))
		}
	}
}

func TestApplyTooManyOwners(t *testing.T) { // P5.5
	v := of(t, `{"a":1,"b":2}`)
	six := "b /a; c /a; d /a; e /a; f /a; g /a /z"
	for _, who := range []string{"a", "bb", "h"} {
		for _, force := range []bool{false, true} {
			w, m, found, e := owner.Apply(v, owners(six), who, object("b", number(2)), force)
			if e != api.ErrLong || !asItWas(w, v) || told(m) != six || len(found) != 0 {
				t.Errorf("%s: %s, %s, %d", who, show(w), told(m), e)
			}
		}
		// Who wants nothing is none of them.
		if w, m, _, e := owner.Apply(v, owners(six), who, object(""), false); e != api.OK || !json.Same(w, v) || told(m) != six {
			t.Errorf("%s, nothing: %s, %s, %d", who, show(w), told(m), e)
		}
		// It is a conflict first.
		if _, m, found, e := owner.Apply(v, owners(six), who, object("a", number(2)), false); e != api.ErrConflict || len(found) != 6 || told(m) != six {
			t.Errorf("%s, a conflict: %s, %d", who, told(m), e)
		}
		// By force the others are gone, but for g.
		want := []string{who + " /a", "g /z"}
		if who == "h" {
			want = []string{"g /z", "h /a"}
		}
		if w, m, _, e := owner.Apply(v, owners(six), who, object("a", number(2)), true); e != api.OK || show(w) != `{"a":2,"b":2}` || told(m) != strings.Join(want, "; ") {
			t.Errorf("%s, by force: %s, %s, %d", who, show(w), told(m), e)
		}
	}
	if _, m, _, e := owner.Apply(v, owners(six), "d", object("b", number(2)), false); e != api.OK || told(m) != "b /a; c /a; d /b; e /a; f /a; g /a /z" {
		t.Errorf("one of them: %s, %d", told(m), e)
	}
}

func TestApplyInTurn(t *testing.T) { // P5.4, P5.5
	v, l := api.Value{Kind: api.Object}, []api.Owner{}
	for _, c := range []struct {
		who, want string
		force     bool
		e         api.Errno
		v, l      string
	}{
		{"ann", `{"a":1}`, false, api.OK, `{"a":1}`, "ann /a"},
		{"bob", `{"a":2}`, false, api.ErrConflict, `{"a":1}`, "ann /a"},
		{"bob", `{"a":2}`, true, api.OK, `{"a":2}`, "bob /a"},
		{"ann", `{"b":{"c":1,"d":[1]}}`, false, api.OK, `{"a":2,"b":{"c":1,"d":[1]}}`, "ann /b/c /b/d; bob /a"},
		{"bob", `{"a":2,"b":{"c":1}}`, false, api.OK, `{"a":2,"b":{"c":1,"d":[1]}}`, "ann /b/c /b/d; bob /a /b/c"},
		{"ann", `{}`, false, api.OK, `{"a":2,"b":{"c":1}}`, "bob /a /b/c"},
		{"cy", `{"b":{}}`, false, api.ErrConflict, `{"a":2,"b":{"c":1}}`, "bob /a /b/c"},
		{"cy", `{"b":{}}`, true, api.OK, `{"a":2,"b":{"c":1}}`, "bob /a; cy /b"},
		{"bob", `{}`, false, api.OK, `{"b":{"c":1}}`, "cy /b"},
		{"cy", `{}`, false, api.OK, `{}`, ""},
	} {
		w, m, found, e := owner.Apply(v, l, c.who, of(t, c.want), c.force)
		if e != c.e || show(w) != c.v || told(m) != c.l || (len(found) > 0) != (e == api.ErrConflict) {
			t.Fatalf("%+v: %s, %s, %s, %d", c, show(w), told(m), conflictsTold(found), e)
		}
		v, l = w, m
	}
}

// No two lists of what is answered are the same, even if owners that were
// handed in have the same one.
func TestApplyAndKeepShareNoPaths(t *testing.T) { // P5.4, P5.6
	paths := []string{"/a", "/b"}
	l := []api.Owner{{Name: "ann", Paths: paths}, {Name: "bob", Paths: paths}}
	v := of(t, `{"a":1,"b":2}`)
	_, m, _, _ := owner.Apply(v, l, "cy", object("c", number(1)), false)
	for _, m := range [][]api.Owner{m, owner.Keep(v, l)} {
		if len(m) < 2 || &m[0].Paths[0] == &m[1].Paths[0] || &m[0].Paths[0] == &paths[0] {
			t.Errorf("%s share memory", told(m))
		}
	}
}
