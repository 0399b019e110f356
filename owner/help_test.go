package owner_test

import (
	"slices"
	"strconv"
	"strings"
	"testing"

	"stairwell/api"
	"stairwell/json"
)

func number(n int) api.Value { return api.Value{Kind: api.Number, N: n} }

// object is one of keys, parted by spaces, and their values.
func object(keys string, l ...api.Value) api.Value {
	return api.Value{Kind: api.Object, Keys: strings.Fields(keys), L: l}
}

// of is the value that a text tells.
func of(t *testing.T, s string) api.Value {
	t.Helper()
	v, e := json.Parse(s)
	if e != api.OK {
		t.Fatalf("%s tells nothing: %d", s, e)
	}
	return v
}

func show(v api.Value) string {
	s, e := json.Print(v)
	if e != api.OK {
		return "error " + strconv.Itoa(int(e))
	}
	return s
}

// owners are those that a text tells: a name and its paths, parted by spaces,
// semicolons between them.
func owners(s string) []api.Owner {
	var l []api.Owner
	for part := range strings.SplitSeq(s, ";") {
		if words := strings.Fields(part); len(words) > 0 {
			l = append(l, api.Owner{Name: words[0], Paths: words[1:]})
		}
	}
	return l
}

// told is the text of owners.
func told(l []api.Owner) string {
	parts := make([]string, len(l))
	for i, o := range l {
		parts[i] = strings.Join(append([]string{o.Name}, o.Paths...), " ")
	}
	return strings.Join(parts, "; ")
}

// conflictsTold is the text of conflicts.
func conflictsTold(l []api.Conflict) string {
	parts := make([]string, len(l))
	for i, c := range l {
		parts[i] = c.Name + " " + c.Path
	}
	return strings.Join(parts, "; ")
}

// members is an object of so many members that are all x, with keys that begin
// with a letter.
func members(letter string, n int, x api.Value) api.Value {
	v := api.Value{Kind: api.Object}
	for i := range n {
		v = json.With(v, letter+strconv.Itoa(i), x)
	}
	return v
}

// wrong are some values that are not good objects, though some of them are
// objects; the last one is an endless object.
func wrong() []api.Value {
	one := []api.Value{number(1)}
	l := make([]api.Value, 1)
	l[0] = object("a", l...)
	return []api.Value{
		{Kind: 9}, {Kind: -1}, {N: 1}, {S: "a"},
		{Kind: api.Object, Keys: []string{"a"}}, {Kind: api.Object, L: one}, {Kind: api.Object, N: 1},
		object("b a", number(1), number(1)), object("a a", number(1), number(1)),
		object("a", api.Value{Kind: api.Text, S: "\x80"}), object("a", object("a b", number(1))),
		members("a", api.MaxCount, number(1)),
		l[0],
	}
}

// wrongOwners are some lists that are no good owners.
func wrongOwners() [][]api.Owner {
	many := make([]api.Owner, api.MaxOwners+1)
	for i := range many {
		many[i] = api.Owner{Name: string(rune('a' + i)), Paths: []string{"/a"}}
	}
	return [][]api.Owner{
		{{}}, owners("a"), owners("ann /a; bob"), owners("A /a"), owners("abcdefghijklm /a"),
		owners("bob /a; ann /a"), owners("ann /a; ann /b"), owners("ann /b /a"), owners("ann /a /a"),
		{{Paths: []string{"/a"}}}, {{Name: "a", Paths: []string{""}}}, {{Name: "a", Paths: []string{"", "/a"}}},
		owners("a a"), owners("a /~"), owners("a /a /b~2"), many,
	}
}

// asItWas is whether two values are the same ones, not merely alike: values
// that hold themselves cannot be gone through.
func asItWas(a, b api.Value) bool {
	return a.Kind == b.Kind && a.N == b.N && a.S == b.S &&
		len(a.Keys) == len(b.Keys) && (len(a.Keys) == 0 || &a.Keys[0] == &b.Keys[0]) &&
		len(a.L) == len(b.L) && (len(a.L) == 0 || &a.L[0] == &b.L[0])
}

func sameOwners(a, b []api.Owner) bool {
	return slices.EqualFunc(a, b, func(x, y api.Owner) bool {
		return x.Name == y.Name && slices.Equal(x.Paths, y.Paths)
	})
}

// roomy is a value with spare room in all of its lists, filled with what must
// stay there; untouched is whether it did.
func roomy(v api.Value) api.Value {
	keys := make([]string, len(v.Keys), len(v.Keys)+3)
	copy(keys, v.Keys)
	l := make([]api.Value, len(v.L), len(v.L)+3)
	for i, x := range v.L {
		l[i] = roomy(x)
	}
	for i := range 3 {
		keys[:cap(keys)][len(keys)+i] = "spare"
		l[:cap(l)][len(l)+i] = number(-7)
	}
	v.Keys, v.L = keys, l
	return v
}

func untouched(v api.Value) bool {
	for i := range 3 {
		if v.Keys[:cap(v.Keys)][len(v.Keys)+i] != "spare" || v.L[:cap(v.L)][len(v.L)+i].N != -7 {
			return false
		}
	}
	for _, x := range v.L {
		if !untouched(x) {
			return false
		}
	}
	return true
}

// roomyOwners and untouchedOwners are likewise of owners.
func roomyOwners(l []api.Owner) []api.Owner {
	m := make([]api.Owner, len(l), len(l)+3)
	for i, o := range l {
		paths := make([]string, len(o.Paths), len(o.Paths)+3)
		copy(paths, o.Paths)
		for k := range 3 {
			paths[:cap(paths)][len(paths)+k] = "spare"
		}
		m[i] = api.Owner{Name: o.Name, Paths: paths}
	}
	for i := range 3 {
		m[:cap(m)][len(m)+i] = api.Owner{Name: "spare"}
	}
	return m
}

func untouchedOwners(l []api.Owner) bool {
	for i := range 3 {
		if l[:cap(l)][len(l)+i].Name != "spare" {
			return false
		}
		for _, o := range l {
			if o.Paths[:cap(o.Paths)][len(o.Paths)+i] != "spare" {
				return false
			}
		}
	}
	return true
}
