package server_test

import (
	"math"
	"strings"
	"testing"

	"stairwell/api"
	"stairwell/server"
)

func TestTickRefuses(t *testing.T) { // P7.2
	s := kept(t, `{"image":"x"}`)
	for _, n := range []int{0, -1, math.MinInt, api.MaxTime + 1, math.MaxInt} {
		refuses(t, s, tick(n), api.ErrRange)
	}
	does(t, s, tick(5), 0)
	for _, n := range []int{0, -5, api.MaxTime - 4, api.MaxTime, math.MaxInt, math.MinInt} {
		refuses(t, s, tick(n), api.ErrRange)
	}
	does(t, s, tick(api.MaxTime-5), 0)
	if s.Time() != api.MaxTime {
		t.Errorf("%d", s.Time())
	}
	refuses(t, s, tick(1), api.ErrRange)
	does(t, s, merges("a", `{"image":"y","steps":[{"pause":0}]}`), 2) // the last time is one, too
	isStatus(t, s, "a", waits(0, 0, api.MaxTime))
	one := server.New()
	does(t, one, tick(api.MaxTime), 0)
	refuses(t, one, tick(1), api.ErrRange)
}

func TestTick(t *testing.T) { // P7.2: of each thing the status is Next; all else stays
	s := server.New()
	does(t, s, create("a", `{"image":"x"}`), 1)
	does(t, s, create("b", `{"image":"x"}`), 2)
	does(t, s, create("c", `{"image":"x"}`), 3)
	does(t, s, tick(2), 0)
	does(t, s, merges("a", `{"image":"y","steps":[10,{"pause":3},20,{"pause":1},30]}`), 4)
	does(t, s, merges("b", `{"image":"y","steps":[{"pause":0}]}`), 5)
	for i, c := range []struct {
		n int
		a api.Status
	}{
		{1, waits(1, 10, 2)},
		{1, waits(1, 10, 2)},
		{1, waits(3, 20, 5)},
		{2, all("y")},
		{9, all("y")},
	} {
		does(t, s, api.Act{Kind: api.ActTick, N: c.n, Name: "A", Body: "{", Order: api.Abort, Version: 3, Force: true}, 0)
		isStatus(t, s, "a", c.a)
		isStatus(t, s, "b", waits(0, 0, 2))
		isStatus(t, s, "c", all("x"))
		if t.Failed() {
			t.Fatal(i)
		}
	}
	stands(t, s, "a", `{"image":"y","steps":[10,{"pause":3},20,{"pause":1},30]} v4 g2`)
	stands(t, s, "b", `{"image":"y","steps":[{"pause":0}]} v5 g2`)
	stands(t, s, "c", `{"image":"x"} v3 g1`)
	if s.Time() != 16 {
		t.Errorf("%d", s.Time())
	}
}

func TestCreateTwice(t *testing.T) { // P7.3: ErrTwice comes ahead of ErrFull and of what is wrong with the body
	s := full(t)
	for _, body := range []string{`{"image":"x"}`, `{"image":"y"}`, `{`, `{}`, strings.Repeat(" ", api.MaxBytes+1)} {
		refuses(t, s, create("a", body), api.ErrTwice)
		refuses(t, s, create("h", body), api.ErrTwice)
	}
}

func TestFullOfThings(t *testing.T) { // P7.3: of ActCreate, and of ActApply if there is none such
	s := full(t)
	for _, body := range []string{`{"image":"x"}`, `{`, strings.Repeat(" ", api.MaxBytes+1)} {
		refuses(t, s, create("z", body), api.ErrFull)
		refuses(t, s, apply("z", "ann", body), api.ErrFull)
		refuses(t, s, apply("z", "A", body), api.ErrFull)
		refuses(t, s, put("z", body), api.ErrNone)
	}
	does(t, s, apply("b", "ann", `{"n":1}`), 9)
	does(t, s, remove("c"), 3)
	does(t, s, apply("z", "ann", `{"image":"x"}`), 10)
	refuses(t, s, create("c", `{"image":"x"}`), api.ErrFull)
	refuses(t, s, apply("c", "ann", `{"image":"x"}`), api.ErrFull)
}

func TestNone(t *testing.T) { // P7.3: ahead of ErrOld, of what is wrong with the body, and of the order
	s := kept(t, `{"image":"x"}`)
	for _, kind := range []int{api.ActPut, api.ActMerge, api.ActPatch, api.ActDelete, api.ActOrder, api.ActGet} {
		for _, name := range []string{"b", "aa", "z"} {
			refuses(t, s, api.Act{Kind: kind, Name: name, Body: `{"image":"x"}`}, api.ErrNone)
			refuses(t, s, api.Act{Kind: kind, Name: name, Body: `{`, Version: 7, Order: 9}, api.ErrNone)
		}
	}
}

func TestDelete(t *testing.T) { // P7.3: whatever version is said; what comes by that name then is new
	s := kept(t, `{"image":"x"}`)
	does(t, s, apply("a", "ann", `{"n":1}`), 2)
	does(t, s, create("b", `{"image":"x"}`), 3)
	does(t, s, old(remove("a"), 77), 2)
	refuses(t, s, remove("a"), api.ErrNone)
	refuses(t, s, get("a"), api.ErrNone)
	stands(t, s, "b", `{"image":"x"} v3 g1`)
	does(t, s, create("a", `{"image":"y","n":2,"steps":[{"pause":0}]}`), 4)
	stands(t, s, "a", `{"image":"y","n":2,"steps":[{"pause":0}]} v4 g1`)
	isStatus(t, s, "a", all("y"))
	does(t, s, remove("a"), 4)
	does(t, s, remove("b"), 3)
	if len(s.Things()) != 0 {
		t.Errorf("%+v", s.Things())
	}
	does(t, s, create("b", `{"image":"x"}`), 5) // versions go on, though nothing was kept
}

func TestGet(t *testing.T) { // P7.3
	s := kept(t, ` { "steps" : [ 10 , {"pause":0} ] , "image" : "\u0078\/" } `)
	for range 2 {
		if r := s.Do(old(get("a"), 77)); r != (api.Reply{N: 1, Body: `{"image":"x/","steps":[10,{"pause":0}]}`}) {
			t.Errorf("%+v", r)
		}
	}
	does(t, s, merges("a", `{"b":"\n"}`), 2)
	if r := s.Do(get("a")); r != (api.Reply{N: 2, Body: `{"b":"\n","image":"x/","steps":[10,{"pause":0}]}`}) {
		t.Errorf("%+v", r)
	}
}

func TestGetLong(t *testing.T) { // P7.3: a value may be longer than can be told; then its version is not told either
	s := kept(t, wide("a", 25))
	does(t, s, merges("a", wide("b", 25)), 2)
	refuses(t, s, get("a"), api.ErrLong)
	does(t, s, merges("a", `{"n":1}`), 3)
	refuses(t, s, get("a"), api.ErrLong)
	if x := thing(t, s, "a"); len(x.Value.L) != 52 || x.Generation != 3 {
		t.Errorf("%+v", x)
	}
}

func TestOrder(t *testing.T) { // P7.3: N is the phase
	begun := func() *server.Server {
		s := kept(t, `{"image":"x"}`)
		does(t, s, tick(3), 0)
		does(t, s, merges("a", `{"image":"y","steps":[10,{"pause":0},50,{"pause":9}]}`), 2)
		does(t, s, create("b", `{"image":"q"}`), 3)
		isStatus(t, s, "a", waits(1, 10, 3))
		return s
	}
	s := begun()
	for _, o := range []int{-1, 4, math.MinInt, math.MaxInt} {
		refuses(t, s, order("a", o), api.ErrKind)
		refuses(t, s, order("b", o), api.ErrKind)
	}
	does(t, s, order("a", api.Go), api.Paused)
	isStatus(t, s, "a", waits(1, 10, 3))
	does(t, s, tick(4), 0)
	does(t, s, old(order("a", api.Resume), 77), api.Paused)
	isStatus(t, s, "a", waits(3, 50, 7))
	does(t, s, order("a", api.Resume), api.Healthy)
	isStatus(t, s, "a", all("y"))
	does(t, s, order("a", api.Abort), api.Healthy)

	s = begun()
	does(t, s, order("a", api.Promote), api.Healthy)
	isStatus(t, s, "a", all("y"))

	s = begun()
	does(t, s, order("a", api.Abort), api.Aborted)
	isStatus(t, s, "a", api.Status{Stable: "x", Comes: "y", Phase: api.Aborted})
	does(t, s, order("a", api.Promote), api.Aborted)
	does(t, s, tick(99), 0)
	isStatus(t, s, "a", api.Status{Stable: "x", Comes: "y", Phase: api.Aborted})

	// An order is none to others, and gives no version.
	isStatus(t, s, "b", all("q"))
	stands(t, s, "a", `{"image":"y","steps":[10,{"pause":0},50,{"pause":9}]} v2 g2`)
	does(t, s, create("c", `{"image":"x"}`), 4)
}
