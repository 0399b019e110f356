package owner

import (
	"slices"
	"strings"

	"stairwell/api"
	"stairwell/json"
)

// Apply is an object behind what somebody wants of it, and whose is what then; or the conflicts.
func Apply(v api.Value, l []api.Owner, who string, want api.Value, force bool) (api.Value, []api.Owner, []api.Conflict, api.Errno) {
	if !goodObject(v) || !goodObject(want) || !Good(l) || !Named(who) {
		return v, l, nil, api.ErrForm
	}
	if found := Conflicts(v, l, who, want); len(found) > 0 && !force {
		return v, l, found, api.ErrConflict
	}
	w := wishOf(want)
	others := kept(l, func(name, p string) bool {
		return name != who && !w.blockedBy(v, p)
	})
	result := w.laidInto(w.cleared(v, pathsOf(l, who), others))
	owners := withOwner(others, api.Owner{Name: who, Paths: w.leaves})
	if !json.Good(result) || len(owners) > api.MaxOwners {
		return v, l, nil, api.ErrLong
	}
	return result, owners, nil, api.OK
}

// cleared is an object without what was somebody's alone and is not wanted any more.
func (w wish) cleared(v api.Value, had []string, others []api.Owner) api.Value {
	for _, p := range had {
		// Whether something is there comes ahead of the others: a good object
		// is small, while there may be very many paths on either side.
		if _, there := standing(v, p); !there || w.hasLeaf(p) || concerned(others, p) {
			continue
		}
		v = without(v, namesOf(p))
	}
	return v
}

// concerned is whether somebody has that path, or one above it or below.
func concerned(l []api.Owner, p string) bool {
	return slices.ContainsFunc(l, func(o api.Owner) bool {
		return slices.ContainsFunc(o.Paths, func(q string) bool {
			return q == p || above(q, p) || above(p, q)
		})
	})
}

// laidInto is an object in which all that is wanted stands. It may be too
// large to be good.
func (w wish) laidInto(v api.Value) api.Value {
	for _, leaf := range w.leaves {
		x, _ := standing(w.want, leaf)
		v = with(v, namesOf(leaf), x)
	}
	return v
}

// pathsOf is what somebody has, nothing if there is no such owner.
func pathsOf(l []api.Owner, who string) []string {
	if i, there := find(l, who); there {
		return l[i].Paths
	}
	return nil
}

// withOwner is owners with one more, at his place; not without paths, though.
func withOwner(others []api.Owner, o api.Owner) []api.Owner {
	if len(o.Paths) == 0 {
		return others
	}
	i, _ := find(others, o.Name)
	return slices.Insert(others, i, o)
}

// find is where among owners a name stands, or would stand.
func find(l []api.Owner, name string) (int, bool) {
	return slices.BinarySearchFunc(l, name, func(o api.Owner, name string) int {
		return strings.Compare(o.Name, name)
	})
}
