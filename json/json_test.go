package json_test

import (
	"math"
	"runtime/debug"
	"slices"
	"strings"
	"testing"

	"stairwell/api"
	"stairwell/json"
)

func TestGoodKinds(t *testing.T) { // P1.1
	most := strings.Repeat("x", api.MaxText)
	for _, v := range []api.Value{
		null(), truth(false), truth(true),
		number(0), number(-5), number(api.MaxNumber), number(-api.MaxNumber),
		text(""), text("a b"), text("\x00\x1f\x7f"), text(most),
		list(), list(null(), text("")), {Kind: api.List, L: []api.Value{}, Keys: []string{}},
		object(""), object("a b", null(), number(1)), {Kind: api.Object, Keys: []string{}, L: []api.Value{}},
		{Kind: api.Object, Keys: []string{"", "\x00", most, "\x7f"}, L: make([]api.Value, 4)},
		{Kind: api.Object, Keys: []string{"B", "a", "aa", "b"}, L: make([]api.Value, 4)},
		{Keys: []string{}, L: []api.Value{}},
	} {
		if !json.Good(v) {
			t.Errorf("not good: %+v", v)
		}
	}
}

func wrongOnes() []api.Value {
	more := strings.Repeat("x", api.MaxText+1)
	key, item := []string{"a"}, []api.Value{{}}
	return []api.Value{
		{Kind: -1}, {Kind: 6}, {Kind: math.MinInt}, {Kind: math.MaxInt},
		{N: 1}, {S: "a"}, {Keys: key}, {L: item}, {Keys: key, L: item},
		{Kind: api.Bool, N: 2}, {Kind: api.Bool, N: -1}, {Kind: api.Bool, S: "a"},
		{Kind: api.Bool, Keys: key}, {Kind: api.Bool, L: item},
		number(api.MaxNumber + 1), number(-api.MaxNumber - 1), number(math.MaxInt), number(math.MinInt),
		{Kind: api.Number, S: "1"}, {Kind: api.Number, Keys: key}, {Kind: api.Number, L: item},
		text(more), text("\x80"), text("a\xff"), text("é"),
		{Kind: api.Text, N: 1}, {Kind: api.Text, Keys: key}, {Kind: api.Text, L: item},
		{Kind: api.List, N: 1}, {Kind: api.List, S: "a"}, {Kind: api.List, Keys: key}, {Kind: api.List, Keys: key, L: item},
		{Kind: api.Object, N: 1}, {Kind: api.Object, S: "a"}, {Kind: api.Object, Keys: key}, {Kind: api.Object, L: item},
		object("b a", null(), null()), object("a a", null(), null()), object("a c b", null(), null(), null()),
		object(more, null()), object("\x80", null()), object("a \xff", null(), null()),
		object("a b", null()), object("a", null(), null()),
	}
}

func TestGoodRefuses(t *testing.T) { // P1.1
	for _, v := range wrongOnes() {
		if json.Good(v) {
			t.Errorf("good: %+v", v)
		}
		if w := list(null(), list(v)); json.Good(w) {
			t.Errorf("good in a list: %+v", v)
		}
		if w := object("a b", list(), object("a", v)); json.Good(w) {
			t.Errorf("good in an object: %+v", v)
		}
	}
}

func TestGoodDepth(t *testing.T) { // P1.1
	for depth := 1; depth <= api.MaxDepth+3; depth++ {
		want := depth <= api.MaxDepth
		if got := json.Good(lists(depth)); got != want {
			t.Errorf("lists, %d deep: %v", depth, got)
		}
		if got := json.Good(objects(depth)); got != want {
			t.Errorf("objects, %d deep: %v", depth, got)
		}
		if got := json.Good(list(null(), lists(depth), null())); got != (depth < api.MaxDepth) {
			t.Errorf("in the middle, %d deep: %v", depth+1, got)
		}
	}
}

func TestGoodCount(t *testing.T) { // P1.1
	items := make([]api.Value, api.MaxCount)
	half := list(items[:api.MaxCount/2-1]...) // as many as half of them, itself too
	for _, c := range []struct {
		v    api.Value
		want bool
	}{
		{list(items[:api.MaxCount-1]...), true},
		{list(items...), false},
		{list(half, list(items[:api.MaxCount/2-2]...)), true},
		{list(half, half), false},
		{list(half, half, list(number(1<<60))), false},
	} {
		if got := json.Good(c.v); got != c.want {
			t.Errorf("%d in it: %v", json.Count(c.v), got)
		}
	}
}

func TestGoodEnds(t *testing.T) { // P1.1: far too large ones are not gone through
	wide := list()
	for range api.MaxDepth - 1 {
		l := make([]api.Value, 1000)
		for i := range l {
			l[i] = wide
		}
		wide = list(l...)
	}
	for _, v := range []api.Value{wide, endless()} {
		if json.Good(v) {
			t.Errorf("good")
		}
		if s, e := json.Print(v); s != "" || e != api.ErrForm {
			t.Errorf("%q, %d", s, e)
		}
	}
}

func TestCount(t *testing.T) { // P1.2
	for _, c := range []struct {
		v    api.Value
		want int
	}{
		{null(), 1}, {text("abc"), 1}, {list(), 1}, {object(""), 1},
		{list(null(), null()), 3},
		{object("a b c", number(1), list(text("x"), list()), object("d", null())), 7},
		{list(make([]api.Value, 500)...), 501},
		{objects(40), 40},
		{api.Value{Kind: 99, L: make([]api.Value, 2)}, 3},
	} {
		if got := json.Count(c.v); got != c.want {
			t.Errorf("%+v: %d", c.v, got)
		}
	}
}

func TestSame(t *testing.T) { // P1.2
	all := []api.Value{
		null(), truth(false), truth(true), number(0), number(1), number(-1), text(""), text("a"), text("A"),
		list(), list(null()), list(null(), null()), list(list()), list(number(1), number(2)), list(number(2), number(1)),
		object(""), object("a", null()), object("b", null()), object("a", number(1)), object("a b", null(), null()),
		object("a", list(object("c", text("x")))), object("a", list(object("c", text("y")))), object("a", list(object("d", text("x")))),
		list(list(number(1)), number(2)), list(list(number(1)), number(3)), list(list(number(3)), number(2)),
	}
	all = append(all, wrongOnes()...)
	for i, a := range all {
		for j, b := range all {
			if got := json.Same(a, copied(b)); got != (i == j) {
				t.Errorf("%+v, %+v: %v", a, b, got)
			}
		}
	}
	if !json.Same(list(), api.Value{Kind: api.List, Keys: []string{}, L: []api.Value{}}) {
		t.Errorf("lists without elements are alike, nil or not")
	}
}

// copied shares no list with what it is a copy of.
func copied(v api.Value) api.Value {
	v.Keys, v.L = slices.Clone(v.Keys), slices.Clone(v.L)
	for i, x := range v.L {
		v.L[i] = copied(x)
	}
	return v
}

func TestDeepOnes(t *testing.T) { // P1.2: no call panics, however deep
	defer debug.SetMaxStack(debug.SetMaxStack(1 << 20))
	const depth = 100000
	a, b, c := lists(depth), lists(depth), lists(depth+1)
	if n := json.Count(a); n != depth {
		t.Errorf("%d", n)
	}
	if !json.Same(a, b) || json.Same(a, c) || json.Good(a) {
		t.Errorf("deep ones")
	}
}

func TestMember(t *testing.T) { // P1.5
	v := object("a c e", number(1), null(), list(number(3)))
	for i, k := range v.Keys {
		if x, ok := json.Member(v, k); !ok || !json.Same(x, v.L[i]) {
			t.Errorf("%q: %+v, %v", k, x, ok)
		}
	}
	rough := object("z b a", number(1), number(2), number(3))
	if x, ok := json.Member(rough, "a"); !ok || x.N != 3 {
		t.Errorf("keys that do not rise: %+v, %v", x, ok)
	}
	none := api.Value{Kind: api.Object, Keys: []string{""}, L: []api.Value{number(4)}}
	if x, ok := json.Member(none, ""); !ok || x.N != 4 {
		t.Errorf("the empty key: %+v, %v", x, ok)
	}
	for _, v := range []api.Value{
		v, null(), text("b"), list(number(1)), object(""),
		{Kind: api.Object, Keys: []string{"b"}}, {Kind: api.Object, Keys: []string{"b", "c"}, L: make([]api.Value, 1)},
		{Kind: api.Object, Keys: []string{"b"}, L: make([]api.Value, 2)},
		{Kind: api.List, Keys: []string{"b"}, L: []api.Value{number(1)}},
	} {
		for _, k := range []string{"b", "", "aa", "f"} {
			if x, ok := json.Member(v, k); ok || !zero(x) {
				t.Errorf("%+v, %q: %+v, %v", v, k, x, ok)
			}
		}
	}
}

func TestWith(t *testing.T) { // P1.5
	v := object("b d", number(1), number(2))
	x := list(text("x"))
	for _, c := range []struct {
		key  string
		want api.Value
	}{
		{"a", object("a b d", x, number(1), number(2))},
		{"b", object("b d", x, number(2))},
		{"c", object("b c d", number(1), x, number(2))},
		{"d", object("b d", number(1), x)},
		{"e", object("b d e", number(1), number(2), x)},
		{"", api.Value{Kind: api.Object, Keys: []string{"", "b", "d"}, L: []api.Value{x, number(1), number(2)}}},
	} {
		if got := json.With(v, c.key, x); !json.Same(got, c.want) || !json.Good(got) {
			t.Errorf("%q: %+v", c.key, got)
		}
	}
	if got := json.With(object(""), "a", x); !json.Same(got, object("a", x)) {
		t.Errorf("of the empty one: %+v", got)
	}
	if got := json.With(v, "b", number(1)); !json.Same(got, v) {
		t.Errorf("of the same: %+v", got)
	}
}

func TestWithout(t *testing.T) { // P1.5
	v := object("a b c", number(1), number(2), number(3))
	for _, c := range []struct {
		key  string
		want api.Value
	}{
		{"a", object("b c", number(2), number(3))},
		{"b", object("a c", number(1), number(3))},
		{"c", object("a b", number(1), number(2))},
		{"", v}, {"aa", v}, {"d", v},
	} {
		if got := json.Without(v, c.key); !json.Same(got, c.want) {
			t.Errorf("%q: %+v", c.key, got)
		}
	}
	if got := json.Without(object("a", null()), "a"); !json.Same(got, object("")) {
		t.Errorf("of the last one: %+v", got)
	}
	if got := json.Without(object(""), "a"); !json.Same(got, object("")) {
		t.Errorf("of the empty one: %+v", got)
	}
}

func TestWithSparesLists(t *testing.T) { // P1.5: neither the lists nor their spare room are changed
	keys := []string{"b", "d", "spare", "spare"}
	items := []api.Value{number(1), number(2), text("spare"), text("spare")}
	v := api.Value{Kind: api.Object, Keys: keys[:2], L: items[:2]}
	for _, k := range []string{"a", "b", "c", "d", "e"} {
		json.With(v, k, null())
		json.Without(v, k)
	}
	if !slices.Equal(keys, []string{"b", "d", "spare", "spare"}) {
		t.Errorf("%q", keys)
	}
	if !json.Same(list(items...), list(number(1), number(2), text("spare"), text("spare"))) {
		t.Errorf("%+v", items)
	}
}

func TestWithOnWrongOnes(t *testing.T) { // P1.5: no call panics
	for _, v := range append(wrongOnes(), endless(), list(null()), null()) {
		for _, k := range []string{"", "a", "b", "z", "\xff"} {
			json.Member(v, k)
			json.With(v, k, v)
			json.Without(v, k)
		}
	}
}
