package patch_test

import (
	"strconv"
	"strings"
	"testing"

	"stairwell/api"
	"stairwell/json"
)

func number(n int) api.Value { return api.Value{Kind: api.Number, N: n} }

// of is the value that a text tells.
func of(t *testing.T, s string) api.Value {
	t.Helper()
	v, e := json.Parse(s)
	if e != api.OK {
		t.Fatalf("%s tells nothing: %d", s, e)
	}
	return v
}

func show(v api.Value) string {
	s, e := json.Print(v)
	if e != api.OK {
		return "error " + strconv.Itoa(int(e))
	}
	return s
}

// deep is a number in so many lists.
func deep(lists int) string {
	return strings.Repeat("[", lists) + "1" + strings.Repeat("]", lists)
}

// numbers is a list of the numbers from 0 on.
func numbers(n int) string {
	l := make([]string, n)
	for i := range l {
		l[i] = strconv.Itoa(i)
	}
	return "[" + strings.Join(l, ",") + "]"
}

// times is a list of so many items that are all the same.
func times(n int, item string) string {
	return "[" + strings.TrimSuffix(strings.Repeat(item+",", n), ",") + "]"
}

// wrong are some values that are not good, the last one an endless one.
func wrong() []api.Value {
	one := []api.Value{number(1)}
	l := make([]api.Value, 1)
	l[0] = api.Value{Kind: api.List, L: l}
	return []api.Value{
		{Kind: 9}, {Kind: -1}, {N: 1}, {S: "a"},
		{Kind: api.Object, Keys: []string{"a"}}, {Kind: api.Object, L: one},
		{Kind: api.Object, Keys: []string{"b", "a"}, L: []api.Value{{}, {}}},
		{Kind: api.List, Keys: []string{"a"}, L: one}, {Kind: api.Text, L: one},
		{Kind: api.List, L: make([]api.Value, api.MaxCount)},
		{Kind: api.List, L: []api.Value{{Kind: api.Text, S: "\x80"}}},
		l[0],
	}
}

// asItWas is whether two values are the same ones, not merely alike: values
// that hold themselves cannot be gone through.
func asItWas(a, b api.Value) bool {
	return a.Kind == b.Kind && a.N == b.N && a.S == b.S &&
		len(a.Keys) == len(b.Keys) && (len(a.Keys) == 0 || &a.Keys[0] == &b.Keys[0]) &&
		len(a.L) == len(b.L) && (len(a.L) == 0 || &a.L[0] == &b.L[0])
}

func sameOp(a, b api.Op) bool {
	return a.Kind == b.Kind && a.Path == b.Path && a.From == b.From && json.Same(a.Value, b.Value)
}

// roomy is a value with spare room in all of its lists, filled with what must
// stay there; untouched is whether it did.
func roomy(v api.Value) api.Value {
	keys := make([]string, len(v.Keys), len(v.Keys)+3)
	copy(keys, v.Keys)
	l := make([]api.Value, len(v.L), len(v.L)+3)
	for i, x := range v.L {
		l[i] = roomy(x)
	}
	for i := range 3 {
		keys[:cap(keys)][len(keys)+i] = "spare"
		l[:cap(l)][len(l)+i] = number(-7)
	}
	v.Keys, v.L = keys, l
	return v
}

func untouched(v api.Value) bool {
	for i := range 3 {
		if v.Keys[:cap(v.Keys)][len(v.Keys)+i] != "spare" || v.L[:cap(v.L)][len(v.L)+i].N != -7 {
			return false
		}
	}
	for _, x := range v.L {
		if !untouched(x) {
			return false
		}
	}
	return true
}

// lists are all lists in a value that have something in them, by where they
// begin.
func lists(v api.Value) (keys []*string, items []*api.Value) {
	if len(v.Keys) > 0 {
		keys = append(keys, &v.Keys[0])
	}
	if len(v.L) > 0 {
		items = append(items, &v.L[0])
	}
	for _, x := range v.L {
		k, l := lists(x)
		keys, items = append(keys, k...), append(items, l...)
	}
	return keys, items
}

// unshared is whether no two lists in a value are the same one.
func unshared(v api.Value) bool {
	keys, items := lists(v)
	k, l := map[*string]int{}, map[*api.Value]int{}
	for _, p := range keys {
		k[p]++
	}
	for _, p := range items {
		l[p]++
	}
	return len(k) == len(keys) && len(l) == len(items)
}
