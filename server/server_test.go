package server_test

import (
	"math"
	"reflect"
	"slices"
	"strings"
	"testing"

	"stairwell/api"
	"stairwell/server"
)

func TestNew(t *testing.T) { // P7.1
	for _, s := range []*server.Server{server.New(), {}} {
		if s == nil || len(s.Things()) != 0 || s.Time() != 0 {
			t.Fatalf("%+v", s)
		}
		does(t, s, create("a", `{"image":"x"}`), 1)
	}
	// One server is nothing to another one.
	s, other := server.New(), server.New()
	does(t, s, create("a", `{"image":"x"}`), 1)
	does(t, s, tick(3), 0)
	if len(other.Things()) != 0 || other.Time() != 0 {
		t.Errorf("%+v at %d", other.Things(), other.Time())
	}
	does(t, other, create("a", `{"image":"x"}`), 1)
}

func TestNil(t *testing.T) { // P7.1: ErrNone of all acts, whatever else is wrong with them
	var s *server.Server
	if len(s.Things()) != 0 || s.Time() != 0 {
		t.Errorf("%+v at %d", s.Things(), s.Time())
	}
	for kind := -1; kind <= 11; kind++ {
		for range api.MaxActs / 10 {
			refuses(t, s, api.Act{Kind: kind, Name: "a", Body: `{"image":"x"}`, Who: "ann", N: 1}, api.ErrNone)
			refuses(t, s, api.Act{Kind: kind, Name: "A"}, api.ErrNone)
		}
	}
}

func TestThings(t *testing.T) { // P7.1: by name, however they came and went
	s := server.New()
	for i, name := range []string{"m", "b", "z", "ba", "a", "mm"} {
		does(t, s, create(name, `{"image":"`+name+`"}`), i+1)
	}
	named := func(want string) {
		t.Helper()
		var l []string
		for _, x := range s.Things() {
			if x.Status != all(x.Name) || told(x)[:len(x.Name)+12] != `{"image":"`+x.Name+`"}` {
				t.Errorf("%+v", x)
			}
			l = append(l, x.Name)
		}
		if got := strings.Join(l, " "); got != want {
			t.Errorf("%s; wanted %s", got, want)
		}
	}
	named("a b ba m mm z")
	does(t, s, remove("b"), 2)
	named("a ba m mm z")
	does(t, s, remove("z"), 3)
	does(t, s, remove("a"), 5)
	named("ba m mm")
	does(t, s, apply("bb", "ann", `{"image":"bb"}`), 7)
	named("ba bb m mm")
}

// spoil overwrites all that a list of things reaches, its spare room too.
func spoil(l []api.Thing) {
	l = l[:cap(l)]
	for i := range l {
		spoilValue(&l[i].Value)
		owners := l[i].Owners[:cap(l[i].Owners)]
		for j := range owners {
			paths := owners[j].Paths[:cap(owners[j].Paths)]
			for k := range paths {
				paths[k] = "spoilt"
			}
			owners[j] = api.Owner{Name: "spoilt"}
		}
		l[i] = api.Thing{Name: "spoilt"}
	}
}

func spoilValue(v *api.Value) {
	keys, l := v.Keys[:cap(v.Keys)], v.L[:cap(v.L)]
	for i := range keys {
		keys[i] = "spoilt"
	}
	for i := range l {
		spoilValue(&l[i])
		l[i] = api.Value{Kind: 9}
	}
}

func TestThingsAreTheCallers(t *testing.T) { // P7.1: what is done to an answer is nothing to the server, nor to other answers
	s := server.New()
	does(t, s, apply("a", "ann", `{"image":"x","m":{"l":[1,[2,{"k":3}]],"o":{}}}`), 1)
	does(t, s, apply("a", "bob", `{"image":"x","n":{"p":[]}}`), 2)
	does(t, s, patches("a", `[{"op":"copy","from":"/m","path":"/w"}]`), 3)
	does(t, s, create("b", `{"image":"x","steps":[1,{"pause":0}]}`), 4)
	one, two := s.Things(), s.Things()
	if !reflect.DeepEqual(one, two) {
		t.Fatalf("%+v, %+v", one, two)
	}
	spoil(one)
	if !reflect.DeepEqual(two, s.Things()) {
		t.Errorf("%+v; it was %+v", s.Things(), two)
	}
	stands(t, s, "a", `{"image":"x","m":{"l":[1,[2,{"k":3}]],"o":{}},"n":{"p":[]},"w":{"l":[1,[2,{"k":3}]],"o":{}}}`+
		` ann:/image,/m/l,/m/o bob:/image,/n/p v3 g3`)
	stands(t, s, "b", `{"image":"x","steps":[1,{"pause":0}]} v4 g1`)
}

func TestThingsStay(t *testing.T) { // P7.1: what was answered is not changed by what is done later
	s := server.New()
	does(t, s, apply("b", "ann", `{"image":"x","m":{"l":[1,2,3]}}`), 1)
	does(t, s, create("c", `{"image":"x"}`), 2)
	was, again := s.Things(), s.Things()
	does(t, s, create("a", `{"image":"x"}`), 3)
	does(t, s, patches("b", `[{"op":"remove","path":"/m/l/0"},{"op":"add","path":"/m/a","value":1}]`), 4)
	does(t, s, merges("c", `{"image":"y","steps":[5,{"pause":1}]}`), 5)
	does(t, s, force("b", "bob", `{"image":"y","m":{"l":{}}}`), 6)
	does(t, s, tick(4), 0)
	does(t, s, remove("b"), 6)
	if !reflect.DeepEqual(was, again) {
		t.Errorf("%+v; it was %+v", was, again)
	}
}

func TestFullOfActs(t *testing.T) { // P7.2: all acts count, whatever their replies were, and ErrFull comes ahead of all else
	for _, a := range []api.Act{{}, {Kind: 10}, tick(0), tick(1), get("A"), get("a"), create("a", `{`), create("a", `{"image":"x"}`)} {
		s := server.New()
		for range api.MaxActs - 1 {
			if r := s.Do(a); r.Code == api.ErrFull {
				t.Fatalf("%+v: %+v", a, r)
			}
		}
		does(t, s, create("last", `{"image":"x"}`), len(s.Things())+1)
		for _, b := range []api.Act{a, tick(1), tick(0), get("last"), remove("last"), {Kind: 10}, get("A"), create("a", `{"image":"x"}`)} {
			refuses(t, s, b, api.ErrFull)
		}
		if x := thing(t, s, "last"); x.Status != all("x") {
			t.Errorf("%+v", x)
		}
	}
}

func TestKinds(t *testing.T) { // P7.2: ErrKind comes ahead of what is wrong with the name
	s := kept(t, `{"image":"x"}`)
	for _, kind := range []int{0, 10, -1, math.MinInt, math.MaxInt} {
		refuses(t, s, api.Act{Kind: kind, Name: "a", Body: `{"image":"y"}`, Who: "ann", N: 1}, api.ErrKind)
		refuses(t, s, api.Act{Kind: kind, Name: "A"}, api.ErrKind)
		refuses(t, s, api.Act{Kind: kind}, api.ErrKind)
	}
}

func TestNames(t *testing.T) { // P7.2: of all kinds but ActTick, ahead of all that follows
	s := full(t)
	for _, name := range []string{"", "A", "a1", "a b", "a\x00", "é", "a-b", "{", "`", strings.Repeat("a", api.MaxName+1)} {
		for kind := api.ActCreate; kind <= api.ActGet; kind++ {
			if kind != api.ActTick {
				refuses(t, s, api.Act{Kind: kind, Name: name, Body: strings.Repeat(" ", api.MaxBytes+1), Version: 7, Order: 9}, api.ErrForm)
			}
		}
	}
	does(t, s, remove("a"), 1)
	long := strings.Repeat("z", api.MaxName)
	does(t, s, create(long, `{"image":"x"}`), api.MaxThings+1)
	if l := s.Things(); l[len(l)-1].Name != long {
		t.Errorf("%+v", l)
	}
}

func TestRun(t *testing.T) { // P7.6
	acts := []api.Act{
		create("a", `{"image":"x"}`), {}, merges("a", `{"image":"y","steps":[{"pause":2}]}`), order("a", api.Go),
		tick(2), order("a", api.Go), get("a"), get("b"), remove("a"),
	}
	was := slices.Clone(acts)
	want := []api.Reply{
		{N: 1}, {Code: api.ErrKind}, {N: 2}, {N: api.Paused},
		{}, {N: api.Healthy}, {N: 2, Body: `{"image":"y","steps":[{"pause":2}]}`}, {Code: api.ErrNone}, {N: 2},
	}
	for range 2 { // each time by a new server
		if l, e := server.Run(acts); !slices.Equal(l, want) || e != api.OK || !slices.Equal(acts, was) {
			t.Errorf("%+v, %d", l, e)
		}
	}
	if l, e := server.Run(nil); len(l) != 0 || e != api.OK {
		t.Errorf("%+v, %d", l, e)
	}
}

func TestRunFull(t *testing.T) { // P7.6
	acts := make([]api.Act, api.MaxActs+1)
	for i := range acts {
		acts[i] = tick(1)
	}
	if l, e := server.Run(acts); len(l) != 0 || e != api.ErrFull {
		t.Errorf("%+v, %d", l, e)
	}
	l, e := server.Run(acts[1:])
	if len(l) != api.MaxActs || e != api.OK {
		t.Errorf("%+v, %d", l, e)
	}
	for i, r := range l {
		if r != (api.Reply{}) {
			t.Errorf("%d: %+v", i, r)
		}
	}
}
