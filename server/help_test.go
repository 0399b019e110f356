package server_test

import (
	"reflect"
	"strconv"
	"strings"
	"testing"

	"stairwell/api"
	"stairwell/json"
	"stairwell/server"
)

// The acts, in short.

func create(name, body string) api.Act {
	return api.Act{Kind: api.ActCreate, Name: name, Body: body}
}

func put(name, body string) api.Act { return api.Act{Kind: api.ActPut, Name: name, Body: body} }

func merges(name, body string) api.Act {
	return api.Act{Kind: api.ActMerge, Name: name, Body: body}
}

func patches(name, body string) api.Act {
	return api.Act{Kind: api.ActPatch, Name: name, Body: body}
}

func apply(name, who, body string) api.Act {
	return api.Act{Kind: api.ActApply, Name: name, Who: who, Body: body}
}

func force(name, who, body string) api.Act {
	a := apply(name, who, body)
	a.Force = true
	return a
}

func remove(name string) api.Act { return api.Act{Kind: api.ActDelete, Name: name} }

func order(name string, o int) api.Act {
	return api.Act{Kind: api.ActOrder, Name: name, Order: o}
}

func tick(n int) api.Act      { return api.Act{Kind: api.ActTick, N: n} }
func get(name string) api.Act { return api.Act{Kind: api.ActGet, Name: name} }
func old(a api.Act, n int) api.Act {
	a.Version = n
	return a
}

// does asks for a reply that is no error.
func does(t *testing.T, s *server.Server, a api.Act, n int) {
	t.Helper()
	if r := s.Do(a); r != (api.Reply{N: n}) {
		t.Errorf("%+v: %+v; wanted %d", a, r, n)
	}
}

// refuses asks for an error, and that all stands as it stood.
func refuses(t *testing.T, s *server.Server, a api.Act, e api.Errno) {
	t.Helper()
	was, time := s.Things(), s.Time()
	if r := s.Do(a); r != (api.Reply{Code: e}) {
		t.Errorf("%+v: %+v; wanted error %d", a, r, e)
	}
	if now := s.Things(); !reflect.DeepEqual(now, was) || s.Time() != time {
		t.Errorf("%+v: %+v at %d; it was %+v at %d", a, now, s.Time(), was, time)
	}
}

// thing is the one of a name.
func thing(t *testing.T, s *server.Server, name string) api.Thing {
	t.Helper()
	for _, x := range s.Things() {
		if x.Name == name {
			return x
		}
	}
	t.Fatalf("there is no %s", name)
	return api.Thing{}
}

// told is the text of a thing: its value, whose is what, version, generation.
func told(x api.Thing) string {
	s, e := json.Print(x.Value)
	if e != api.OK {
		s = "error " + strconv.Itoa(int(e))
	}
	for _, o := range x.Owners {
		s += " " + o.Name + ":" + strings.Join(o.Paths, ",")
	}
	return s + " v" + strconv.Itoa(x.Version) + " g" + strconv.Itoa(x.Generation)
}

func stands(t *testing.T, s *server.Server, name, want string) {
	t.Helper()
	if got := told(thing(t, s, name)); got != want {
		t.Errorf("%s: %s; wanted %s", name, got, want)
	}
}

func isStatus(t *testing.T, s *server.Server, name string, want api.Status) {
	t.Helper()
	if got := thing(t, s, name).Status; got != want {
		t.Errorf("%s: %+v; wanted %+v", name, got, want)
	}
}

func all(image string) api.Status {
	return api.Status{Stable: image, Comes: image, Phase: api.Healthy, Weight: 100}
}

func waits(step, weight, since int) api.Status {
	return api.Status{Stable: "x", Comes: "y", Phase: api.Paused, Step: step, Weight: weight, Since: since}
}

// kept is a server with one thing, a, of version 1.
func kept(t *testing.T, body string) *server.Server {
	t.Helper()
	s := server.New()
	does(t, s, create("a", body), 1)
	return s
}

// full is a server with as many things as may be: a, b, ..
func full(t *testing.T) *server.Server {
	t.Helper()
	s := server.New()
	for i := range api.MaxThings {
		does(t, s, create(string(rune('a'+i)), `{"image":"x"}`), i+1)
	}
	return s
}

// wide is an object of so many members whose keys begin with a letter, each
// with a text of 60 bytes, and of an image.
func wide(letter string, n int) string {
	var b strings.Builder
	b.WriteString(`{"image":"x"`)
	for i := range n {
		b.WriteString(`,"` + letter + strconv.Itoa(i) + `":"` + strings.Repeat("t", api.MaxText) + `"`)
	}
	return b.String() + "}"
}
