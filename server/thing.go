package server

import (
	"slices"
	"strings"

	"stairwell/api"
	"stairwell/json"
	"stairwell/merge"
	"stairwell/owner"
	"stairwell/patch"
	"stairwell/stage"
)

// written is a thing behind an act's body. No version is given, unless all of
// it can be done.
func (s *Server) written(t api.Thing, a api.Act) (api.Thing, api.Errno) {
	v, owners, e := wanted(t, a)
	if e != api.OK {
		return t, e
	}
	spec, e := stage.Read(v)
	if e != api.OK {
		return t, e
	}
	isNew := t.Generation == 0
	other := isNew || !json.Same(v, t.Value)
	if other || !sameOwners(owners, t.Owners) {
		s.version++
		t.Version = s.version
	}
	if other {
		t.Generation++
	}
	if isNew {
		t.Status, _ = stage.First(spec)
	}
	t.Value, t.Owners = v, owners
	t.Status, _ = stage.Next(spec, t.Status, s.time, api.Go)
	return t, api.OK
}

// wanted is what a thing's value is to be behind an act, and whose is what then.
func wanted(t api.Thing, a api.Act) (api.Value, []api.Owner, api.Errno) {
	body, e := json.Parse(a.Body)
	if e != api.OK {
		return t.Value, t.Owners, e
	}
	if a.Kind == api.ActApply {
		v, owners, _, e := owner.Apply(t.Value, t.Owners, a.Who, body, a.Force)
		return v, owners, e
	}
	v, e := changed(t.Value, a.Kind, body)
	if e != api.OK {
		return t.Value, t.Owners, e
	}
	return v, owner.Keep(v, t.Owners), api.OK
}

// changed is a value behind an act that is nobody's.
func changed(v api.Value, kind int, body api.Value) (api.Value, api.Errno) {
	switch kind {
	case api.ActMerge:
		return merge.Merge(v, body)
	case api.ActPatch:
		l, e := patch.Read(body)
		if e != api.OK {
			return v, e
		}
		return patch.All(v, l)
	}
	return body, api.OK
}

func sameOwners(a, b []api.Owner) bool {
	return slices.EqualFunc(a, b, func(x, y api.Owner) bool {
		return x.Name == y.Name && slices.Equal(x.Paths, y.Paths)
	})
}

// find is where among things a name stands, or would stand.
func find(l []api.Thing, name string) (int, bool) {
	return slices.BinarySearchFunc(l, name, func(t api.Thing, name string) int {
		return strings.Compare(t.Name, name)
	})
}

// twin is a thing once more, in memory of its own.
func twin(t api.Thing) api.Thing {
	t.Value = twinValue(t.Value)
	t.Owners = slices.Clone(t.Owners)
	for i, o := range t.Owners {
		t.Owners[i].Paths = slices.Clone(o.Paths)
	}
	return t
}

func twinValue(v api.Value) api.Value {
	v.Keys, v.L = slices.Clone(v.Keys), slices.Clone(v.L)
	for i, x := range v.L {
		v.L[i] = twinValue(x)
	}
	return v
}
