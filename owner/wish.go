package owner

import (
	"slices"
	"strings"

	"stairwell/api"
	"stairwell/json"
)

// A wish is what somebody wants, beside its leaves: they are asked for of each
// path anew.
type wish struct {
	want   api.Value
	leaves []string
}

func wishOf(want api.Value) wish {
	return wish{want, Leaves(want)}
}

func (w wish) hasLeaf(p string) bool {
	_, is := slices.BinarySearchFunc(w.leaves, p, strings.Compare)
	return is
}

// blockedBy is whether a path of somebody else is in the way of the wish.
func (w wish) blockedBy(v api.Value, p string) bool {
	if w.hasLeaf(p) {
		return w.other(v, p)
	}
	return slices.ContainsFunc(w.leaves, func(leaf string) bool {
		return above(leaf, p) || above(p, leaf)
	})
}

// other is whether at a leaf stands something else than is wanted there. An
// object is not, where an empty one is wanted: that leaves it as it is.
func (w wish) other(v api.Value, leaf string) bool {
	x, there := standing(v, leaf)
	wanted, _ := standing(w.want, leaf)
	if !there {
		return true
	}
	return !json.Same(x, wanted) && !(x.Kind == api.Object && wanted.Kind == api.Object)
}

// above is whether a path begins with another one and a /.
func above(p, longer string) bool {
	rest, begins := strings.CutPrefix(longer, p)
	return begins && strings.HasPrefix(rest, "/")
}
