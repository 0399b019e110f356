package owner_test

import (
	"maps"
	"slices"
	"strings"
	"testing"

	"stairwell/api"
	"stairwell/json"
	"stairwell/owner"
)

// The promises once more, by their words, on trees: an object is a map, all
// else is the value itself.

func tree(v api.Value) any {
	if v.Kind != api.Object {
		return v
	}
	m := map[string]any{}
	for i, key := range v.Keys {
		m[key] = tree(v.L[i])
	}
	return m
}

func untree(x any) api.Value {
	m, is := x.(map[string]any)
	if !is {
		return x.(api.Value)
	}
	v := api.Value{Kind: api.Object}
	for _, key := range slices.Sorted(maps.Keys(m)) {
		v.Keys, v.L = append(v.Keys, key), append(v.L, untree(m[key]))
	}
	return v
}

// names are those of a path; no name here has a mark.
func names(p string) []string { return strings.Split(p, "/")[1:] }

func at(x any, p string) (any, bool) {
	for _, name := range names(p) {
		m, _ := x.(map[string]any)
		inner, there := m[name]
		if !there {
			return nil, false
		}
		x = inner
	}
	return x, true
}

func leavesByWords(x any, p string) []string {
	m, is := x.(map[string]any)
	if p != "" && len(m) == 0 {
		return []string{p}
	}
	var l []string
	if is {
		for key, inner := range m {
			l = append(l, leavesByWords(inner, p+"/"+key)...)
		}
	}
	slices.Sort(l)
	return l
}

func related(p, q string) bool {
	return strings.HasPrefix(p, q+"/") || strings.HasPrefix(q, p+"/")
}

func inTheWay(v, want any, p string) bool {
	for _, leaf := range leavesByWords(want, "") {
		if related(leaf, p) {
			return true
		}
		if leaf != p {
			continue
		}
		x, there := at(v, p)
		wanted, _ := at(want, p)
		_, one := x.(map[string]any)
		_, two := wanted.(map[string]any)
		if !there || !json.Same(untree(x), untree(wanted)) && !(one && two) {
			return true
		}
	}
	return false
}

func takeAway(v map[string]any, p string) {
	if _, there := at(v, p); !there {
		return
	}
	for l := names(p); len(l) > 0; l = l[:len(l)-1] {
		around := any(v)
		if len(l) > 1 {
			around, _ = at(v, "/"+strings.Join(l[:len(l)-1], "/"))
		}
		m := around.(map[string]any)
		delete(m, l[len(l)-1])
		if len(m) > 0 {
			return
		}
	}
}

func layDown(v map[string]any, p string, x any) {
	l := names(p)
	for _, name := range l[:len(l)-1] {
		if _, is := v[name].(map[string]any); !is {
			v[name] = map[string]any{}
		}
		v = v[name].(map[string]any)
	}
	last := l[len(l)-1]
	_, is := v[last].(map[string]any)
	if _, wanted := x.(map[string]any); is && wanted {
		return
	}
	v[last] = x
}

// applyByWords is said of good ones that stay so.
func applyByWords(v, want api.Value, l []api.Owner, who string) (api.Value, []api.Owner) {
	before, wanted, after := tree(v), tree(want), tree(v).(map[string]any)
	leaves := leavesByWords(wanted, "")
	have := map[string][]string{}
	var hers, others []string
	for _, o := range l {
		for _, p := range o.Paths {
			if o.Name == who {
				hers = append(hers, p)
			} else if !inTheWay(before, wanted, p) {
				have[o.Name] = append(have[o.Name], p)
				others = append(others, p)
			}
		}
	}
	for _, p := range hers {
		if !slices.Contains(leaves, p) && !slices.ContainsFunc(others, func(q string) bool { return p == q || related(p, q) }) {
			takeAway(after, p)
		}
	}
	for _, leaf := range leaves {
		// Once more, since it must not be changed by what comes later.
		x, _ := at(tree(want), leaf)
		layDown(after, leaf, x)
	}
	if len(leaves) > 0 {
		have[who] = leaves
	}
	var m []api.Owner
	for _, name := range slices.Sorted(maps.Keys(have)) {
		m = append(m, api.Owner{Name: name, Paths: have[name]})
	}
	return untree(after), m
}

func conflictsByWords(v, want api.Value, l []api.Owner, who string) []api.Conflict {
	var found []api.Conflict
	for _, o := range l {
		for _, p := range o.Paths {
			if o.Name != who && inTheWay(tree(v), tree(want), p) {
				found = append(found, api.Conflict{Name: o.Name, Path: p})
			}
		}
	}
	return found
}

// objects are small ones, of all that there is within, in each other.
func objects() []api.Value {
	small := []api.Value{{}, number(1), {Kind: api.List, L: make([]api.Value, 1)}, {Kind: api.Object}}
	inner := slices.Clone(small)
	for _, x := range small {
		inner = append(inner, object("a", x), object("b", x), object("a b", x, number(1)), object("a", object("b", x)))
	}
	l := []api.Value{{Kind: api.Object}}
	for i, x := range inner {
		l = append(l, object("a", x), object("b", x), object("a b", x, small[i%len(small)]), object("a c", x, object("a", small[i%len(small)])))
	}
	return l
}

func TestByTheWords(t *testing.T) { // P5.2 to P5.6
	var lists [][]api.Owner
	for _, s := range []string{
		"", "ann /a", "bob /a", "ann /a; bob /a", "ann /a /a/b; bob /a/b /b", "ann /a/a /a/b; bob /a/b; cy /b",
		"ann /a/a/b; bob /a/a", "ann /a/a; bob /a /b", "ann /a/0 /b/a /c/a; bob /a/a /b/b", "ann /a /b /c; cy /a/a/b",
		"ann /a/b /b; bob /b; cy /c", "ann /a/a /b/a; bob /a/b /b; cy /a/b",
	} {
		lists = append(lists, owners(s))
	}
	all := objects()
	for _, v := range all {
		if l := owner.Leaves(v); !slices.Equal(l, leavesByWords(tree(v), "")) {
			t.Fatalf("leaves of %s: %q", show(v), l)
		}
		for _, l := range lists {
			keepByWords(t, v, l)
			for _, want := range all {
				applyAndCompare(t, v, l, "ann", want)
			}
			for i := 0; i < len(all); i += 5 {
				applyAndCompare(t, v, l, "bob", all[i])
			}
		}
	}
}

func keepByWords(t *testing.T, v api.Value, l []api.Owner) {
	t.Helper()
	var want []api.Owner
	for _, o := range l {
		o.Paths = slices.DeleteFunc(slices.Clone(o.Paths), func(p string) bool {
			_, there := at(tree(v), p)
			return !there
		})
		if len(o.Paths) > 0 {
			want = append(want, o)
		}
	}
	if k := owner.Keep(v, l); !sameOwners(k, want) {
		t.Fatalf("Keep of %s, %s: %s", show(v), told(l), told(k))
	}
}

func applyAndCompare(t *testing.T, v api.Value, l []api.Owner, who string, want api.Value) {
	t.Helper()
	found := conflictsByWords(v, want, l, who)
	if got := owner.Conflicts(v, l, who, want); !slices.Equal(got, found) {
		t.Fatalf("%s, %s, %s, %s: %s; wanted %s", show(v), told(l), who, show(want), conflictsTold(got), conflictsTold(found))
	}
	result, m := applyByWords(v, want, l, who)
	for _, force := range []bool{false, true} {
		x, n, c, e := owner.Apply(v, l, who, want, force)
		if len(found) > 0 && !force {
			if e != api.ErrConflict || !asItWas(x, v) || !sameOwners(n, l) || !slices.Equal(c, found) {
				t.Fatalf("%s, %s, %s, %s: %d", show(v), told(l), who, show(want), e)
			}
			continue
		}
		if e != api.OK || !json.Same(x, result) || !sameOwners(n, m) || len(c) != 0 {
			t.Fatalf("%s, %s, %s, %s, %v: %s, %s, %d; wanted %s, %s", show(v), told(l), who, show(want), force, show(x), told(n), e, show(result), told(m))
		}
	}
}
