package server_test

import (
	"maps"
	"math/rand"
	"reflect"
	"slices"
	"strings"
	"testing"

	"stairwell/api"
	"stairwell/json"
	"stairwell/merge"
	"stairwell/owner"
	"stairwell/patch"
	"stairwell/server"
	"stairwell/stage"
)

// The chapter once more, by its words: things are a map, and each kind of act
// is told from its beginning to its end.
type words struct {
	things            map[string]api.Thing
	now, given, acted int
}

func (w *words) do(a api.Act) api.Reply {
	no := func(e api.Errno) api.Reply { return api.Reply{Code: e} }
	w.acted++
	if w.acted > api.MaxActs {
		return no(api.ErrFull)
	}
	if !slices.Contains([]int{1, 2, 3, 4, 5, 6, 7, 8, 9}, a.Kind) {
		return no(api.ErrKind)
	}
	if a.Kind == api.ActTick {
		return w.tick(a.N)
	}
	if !owner.Named(a.Name) {
		return no(api.ErrForm)
	}
	x, there := w.things[a.Name]
	switch a.Kind {
	case api.ActCreate:
		if there {
			return no(api.ErrTwice)
		}
		if len(w.things) == api.MaxThings {
			return no(api.ErrFull)
		}
	case api.ActApply:
		if !there && len(w.things) == api.MaxThings {
			return no(api.ErrFull)
		}
	default:
		if !there {
			return no(api.ErrNone)
		}
	}
	switch a.Kind {
	case api.ActDelete:
		delete(w.things, a.Name)
		return api.Reply{N: x.Version}
	case api.ActGet:
		s, e := json.Print(x.Value)
		if e != api.OK {
			return no(e)
		}
		return api.Reply{N: x.Version, Body: s}
	case api.ActOrder:
		spec, _ := stage.Read(x.Value)
		status, e := stage.Next(spec, x.Status, w.now, a.Order)
		if e != api.OK {
			return no(e)
		}
		x.Status = status
		w.things[a.Name] = x
		return api.Reply{N: status.Phase}
	case api.ActPut, api.ActMerge, api.ActPatch:
		if a.Version != 0 && a.Version != x.Version {
			return no(api.ErrOld)
		}
	}
	return w.write(a, x, there)
}

func (w *words) tick(n int) api.Reply {
	if n < 1 || w.now+n > api.MaxTime {
		return api.Reply{Code: api.ErrRange}
	}
	w.now += n
	for name, x := range w.things {
		spec, _ := stage.Read(x.Value)
		x.Status, _ = stage.Next(spec, x.Status, w.now, api.Go)
		w.things[name] = x
	}
	return api.Reply{}
}

func (w *words) write(a api.Act, x api.Thing, there bool) api.Reply {
	v, e := json.Parse(a.Body)
	if e != api.OK {
		return api.Reply{Code: e}
	}
	owners := x.Owners
	switch a.Kind {
	case api.ActMerge:
		v, e = merge.Merge(x.Value, v)
	case api.ActPatch:
		var l []api.Op
		if l, e = patch.Read(v); e == api.OK {
			v, e = patch.All(x.Value, l)
		}
	case api.ActApply:
		from := api.Value{Kind: api.Object}
		if there {
			from = x.Value
		}
		v, owners, _, e = owner.Apply(from, owners, a.Who, v, a.Force)
	}
	if e != api.OK {
		return api.Reply{Code: e}
	}
	if a.Kind != api.ActApply {
		owners = owner.Keep(v, owners)
	}
	spec, e := stage.Read(v)
	if e != api.OK {
		return api.Reply{Code: e}
	}
	if !there {
		x.Name = a.Name
		x.Status, _ = stage.First(spec)
	}
	sameValue := there && json.Same(v, x.Value)
	sameOwners := len(owners) == len(x.Owners) && (len(owners) == 0 || reflect.DeepEqual(owners, x.Owners))
	if !sameValue || !sameOwners {
		w.given++
		x.Version = w.given
	}
	if !sameValue {
		x.Generation++
	}
	x.Value, x.Owners = v, owners
	x.Status, _ = stage.Next(spec, x.Status, w.now, api.Go)
	w.things[a.Name] = x
	return api.Reply{N: x.Version}
}

// sameThings is whether the things of a server are those of the words, by name.
func sameThings(l []api.Thing, m map[string]api.Thing) bool {
	names := slices.Sorted(maps.Keys(m))
	return slices.EqualFunc(l, names, func(x api.Thing, name string) bool {
		return x.Name == name && told(x) == told(m[name]) && x.Status == m[name].Status && json.Same(x.Value, m[name].Value)
	})
}

func anyOf[T any](r *rand.Rand, l ...T) T { return l[r.Intn(len(l))] }

func anyBody(r *rand.Rand, kind int) string {
	if r.Intn(25) == 0 {
		return anyOf(r, `{`, `[]`, `1`, `{}`, `{"image":""}`, `{"steps":[101]}`, `{"image":null}`, strings.Repeat(" ", api.MaxBytes+1))
	}
	image := anyOf(r, `"x"`, `"y"`, `"z"`)
	steps := anyOf(r, `[]`, `[10,{"pause":0},50]`, `[{"pause":2},30,{"pause":3}]`, `[20]`)
	if kind == api.ActPatch {
		return anyOf(r,
			`[{"op":"replace","path":"/image","value":`+image+`}]`,
			`[{"op":"add","path":"/steps","value":`+steps+`}]`,
			`[{"op":"add","path":"/n","value":{"m":1}},{"op":"copy","from":"/n","path":"/o"}]`,
			`[{"op":"remove","path":"/n"}]`,
			`[{"op":"test","path":"/image","value":`+image+`},{"op":"move","from":"/n","path":"/o"}]`)
	}
	return anyOf(r,
		`{"image":`+image+`}`,
		`{"image":`+image+`,"steps":`+steps+`}`,
		`{"image":`+image+`,"n":`+anyOf(r, `1`, `2`, `{"m":1}`, `{}`, `null`)+`}`,
		`{"steps":`+steps+`}`,
		`{"n":`+anyOf(r, `1`, `2`, `{"m":2}`, `{}`)+`}`,
		`{"n":{"k":3},"o":`+anyOf(r, `[1]`, `{"m":1}`)+`}`)
}

func anyAct(r *rand.Rand) api.Act {
	kind := anyOf(r, 1, 1, 2, 3, 3, 3, 4, 4, 5, 5, 5, 5, 6, 7, 7, 8, 8, 9)
	if r.Intn(50) == 0 {
		kind = anyOf(r, 0, 10, -1)
	}
	return api.Act{
		Kind:    kind,
		Name:    anyOf(r, "a", "a", "a", "b", "b", "c", "d", "e", "f", "g", "h", "i", "j", "A"),
		Who:     anyOf(r, "ann", "bob", "cy", "di", "eve", "flo", "gus", "hal", ""),
		Body:    anyBody(r, kind),
		Version: anyOf(r, 0, 0, 0, 0, 1, 2, 3, r.Intn(100)),
		N:       anyOf(r, 1, 1, 2, 3, 0),
		Order:   anyOf(r, api.Go, api.Resume, api.Resume, api.Promote, api.Abort, 4),
		Force:   r.Intn(3) == 0,
	}
}

func TestByTheWords(t *testing.T) { // P7.1 to P7.6
	seen := map[api.Errno]int{}
	for seed := range int64(300) {
		r := rand.New(rand.NewSource(seed))
		s, w := server.New(), &words{things: map[string]api.Thing{}}
		var acts []api.Act
		var replies []api.Reply
		for i := range api.MaxActs + 2 {
			a := anyAct(r)
			got, want := s.Do(a), w.do(a)
			if got != want {
				t.Fatalf("%d, %d: %+v: %+v; wanted %+v", seed, i, a, got, want)
			}
			if !sameThings(s.Things(), w.things) || s.Time() != w.now {
				t.Fatalf("%d, %d: %+v: %+v at %d; wanted %+v at %d", seed, i, a, s.Things(), s.Time(), w.things, w.now)
			}
			seen[got.Code]++
			acts, replies = append(acts, a), append(replies, got)
		}
		if l, e := server.Run(acts[:api.MaxActs]); e != api.OK || !slices.Equal(l, replies[:api.MaxActs]) {
			t.Fatalf("%d: %d", seed, e)
		}
	}
	for e := api.OK; e <= api.ErrFull; e++ {
		if seen[e] < 30 {
			t.Errorf("error %d was seen %d times alone: %v", e, seen[e], seen)
		}
	}
}
