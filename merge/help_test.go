package merge_test

import (
	"strconv"
	"strings"
	"testing"

	"stairwell/api"
	"stairwell/json"
)

func number(n int) api.Value { return api.Value{Kind: api.Number, N: n} }

// object is one of keys, parted by spaces, and their values.
func object(keys string, l ...api.Value) api.Value {
	return api.Value{Kind: api.Object, Keys: strings.Fields(keys), L: l}
}

// of is the value that a text tells.
func of(t *testing.T, s string) api.Value {
	t.Helper()
	v, e := json.Parse(s)
	if e != api.OK {
		t.Fatalf("%s tells nothing: %d", s, e)
	}
	return v
}

func show(v api.Value) string {
	s, e := json.Print(v)
	if e != api.OK {
		return "error " + strconv.Itoa(int(e))
	}
	return s
}

// members is an object of so many members that are all x, with keys that begin
// with a letter.
func members(letter string, n int, x api.Value) api.Value {
	v := api.Value{Kind: api.Object}
	for i := range n {
		v = json.With(v, letter+strconv.Itoa(i), x)
	}
	return v
}

// deep is x in so many objects.
func deep(objects int, x string) string {
	return strings.Repeat(`{"k":`, objects) + x + strings.Repeat("}", objects)
}

// wrong are some values that are not good, the last one an endless one.
func wrong() []api.Value {
	one := []api.Value{number(1)}
	l := make([]api.Value, 1)
	l[0] = api.Value{Kind: api.List, L: l}
	return []api.Value{
		{Kind: 9}, {Kind: -1}, {N: 1}, {S: "a"},
		{Kind: api.Object, Keys: []string{"a"}}, {Kind: api.Object, L: one},
		object("b a", number(1), number(1)), object("a a", number(1), number(1)),
		{Kind: api.List, Keys: []string{"a"}, L: one}, {Kind: api.Text, L: one},
		{Kind: api.List, L: make([]api.Value, api.MaxCount)},
		{Kind: api.List, L: []api.Value{{Kind: api.Text, S: "\x80"}}},
		members("a", api.MaxCount, number(1)),
		l[0],
	}
}

// asItWas is whether two values are the same ones, not merely alike: values
// that hold themselves cannot be gone through.
func asItWas(a, b api.Value) bool {
	return a.Kind == b.Kind && a.N == b.N && a.S == b.S &&
		len(a.Keys) == len(b.Keys) && (len(a.Keys) == 0 || &a.Keys[0] == &b.Keys[0]) &&
		len(a.L) == len(b.L) && (len(a.L) == 0 || &a.L[0] == &b.L[0])
}

// zero is whether a value is the one that goes with an error.
func zero(v api.Value) bool {
	return v.Kind == 0 && v.N == 0 && v.S == "" && len(v.Keys) == 0 && len(v.L) == 0
}

// roomy is a value with spare room in all of its lists, filled with what must
// stay there; untouched is whether it did.
func roomy(v api.Value) api.Value {
	keys := make([]string, len(v.Keys), len(v.Keys)+3)
	copy(keys, v.Keys)
	l := make([]api.Value, len(v.L), len(v.L)+3)
	for i, x := range v.L {
		l[i] = roomy(x)
	}
	for i := range 3 {
		keys[:cap(keys)][len(keys)+i] = "spare"
		l[:cap(l)][len(l)+i] = number(-7)
	}
	v.Keys, v.L = keys, l
	return v
}

func untouched(v api.Value) bool {
	for i := range 3 {
		if v.Keys[:cap(v.Keys)][len(v.Keys)+i] != "spare" || v.L[:cap(v.L)][len(v.L)+i].N != -7 {
			return false
		}
	}
	for _, x := range v.L {
		if !untouched(x) {
			return false
		}
	}
	return true
}

// lists are all lists in a value that have something in them, by where they
// begin.
func lists(v api.Value) (keys []*string, items []*api.Value) {
	if len(v.Keys) > 0 {
		keys = append(keys, &v.Keys[0])
	}
	if len(v.L) > 0 {
		items = append(items, &v.L[0])
	}
	for _, x := range v.L {
		k, l := lists(x)
		keys, items = append(keys, k...), append(items, l...)
	}
	return keys, items
}

// unshared is whether no two lists in a value are the same one.
func unshared(v api.Value) bool {
	keys, items := lists(v)
	k, l := map[*string]int{}, map[*api.Value]int{}
	for _, p := range keys {
		k[p]++
	}
	for _, p := range items {
		l[p]++
	}
	return len(k) == len(keys) && len(l) == len(items)
}

// some are small values of all kinds, and objects of such ones in each other.
func some() []api.Value {
	small := []api.Value{{}, number(1), number(2), {Kind: api.Text, S: "x"}, {Kind: api.Bool},
		{Kind: api.List}, {Kind: api.List, L: make([]api.Value, 1)}, {Kind: api.Object}}
	l := append([]api.Value{}, small...)
	for _, x := range small {
		l = append(l, object("a", x), object("c", x), object("b", object("a", x)), object("b", object("b", object("a", x))))
		for _, y := range small {
			l = append(l, object("a b", x, y), object("b c", x, object("a b", y, x)), object("a b", object("a", x), object("a", y)))
		}
	}
	return l
}
