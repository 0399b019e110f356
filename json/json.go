// Package json: see ../../shared/doc/01-json.md.
package json

import (
	"slices"

	"stairwell/api"
)

// Good is whether a value is one: not too deep, not too large.
func Good(v api.Value) bool {
	room := api.MaxCount
	return good(v, api.MaxDepth, &room)
}

// The room is shared by all that call each other: one value may stand in many
// lists, and what is far too large must not be gone through to its end.
func good(v api.Value, depth int, room *int) bool {
	*room--
	if depth == 0 || *room < 0 || !shaped(v) {
		return false
	}
	for _, x := range v.L {
		if !good(x, depth-1, room) {
			return false
		}
	}
	return true
}

// shaped is whether a value is of its kind's form, but for its items.
func shaped(v api.Value) bool {
	switch v.Kind {
	case api.Null:
		return v.N == 0 && v.S == "" && listless(v)
	case api.Bool:
		return (v.N == 0 || v.N == 1) && v.S == "" && listless(v)
	case api.Number:
		return v.N >= -api.MaxNumber && v.N <= api.MaxNumber && v.S == "" && listless(v)
	case api.Text:
		return v.N == 0 && plain(v.S) && listless(v)
	case api.List:
		return v.N == 0 && v.S == "" && len(v.Keys) == 0
	case api.Object:
		return v.N == 0 && v.S == "" && len(v.Keys) == len(v.L) && plainRising(v.Keys)
	}
	return false
}

func listless(v api.Value) bool {
	return len(v.Keys) == 0 && len(v.L) == 0
}

func plain(s string) bool {
	if len(s) > api.MaxText {
		return false
	}
	for i := 0; i < len(s); i++ {
		if s[i] >= 128 {
			return false
		}
	}
	return true
}

func plainRising(keys []string) bool {
	for i, k := range keys {
		if !plain(k) || i > 0 && keys[i-1] >= k {
			return false
		}
	}
	return true
}

// Count is how many values there are in one, itself too.
func Count(v api.Value) int {
	n := 1
	// Lists that wait, and no call of itself: a value that is not good may be
	// deeper than calls can go.
	waiting := [][]api.Value{v.L}
	for len(waiting) > 0 {
		last := len(waiting) - 1
		l := waiting[last]
		waiting = waiting[:last]
		n += len(l)
		for _, x := range l {
			if len(x.L) > 0 {
				waiting = append(waiting, x.L)
			}
		}
	}
	return n
}

// Same is whether two values are alike.
func Same(a, b api.Value) bool {
	// As in Count: lists that wait, those of a and of b side by side.
	left, right := [][]api.Value{{a}}, [][]api.Value{{b}}
	for len(left) > 0 {
		last := len(left) - 1
		x, y := left[last], right[last]
		left, right = left[:last], right[:last]
		for i := range x {
			if !alikeButItems(x[i], y[i]) {
				return false
			}
			if len(x[i].L) > 0 {
				left, right = append(left, x[i].L), append(right, y[i].L)
			}
		}
	}
	return true
}

func alikeButItems(a, b api.Value) bool {
	return a.Kind == b.Kind && a.N == b.N && a.S == b.S &&
		slices.Equal(a.Keys, b.Keys) && len(a.L) == len(b.L)
}

// Member is what an object has by a key; false: nothing.
func Member(v api.Value, key string) (api.Value, bool) {
	i := find(v, key)
	if i < 0 {
		return api.Value{}, false
	}
	return v.L[i], true
}

// With is an object with a member more, or another one, of that key.
func With(v api.Value, key string, x api.Value) api.Value {
	if !paired(v) {
		return v
	}
	if i := find(v, key); i >= 0 {
		v.L = slices.Concat(v.L[:i], []api.Value{x}, v.L[i+1:])
		return v
	}
	at := 0
	for at < len(v.Keys) && v.Keys[at] < key {
		at++
	}
	v.Keys = slices.Concat(v.Keys[:at], []string{key}, v.Keys[at:])
	v.L = slices.Concat(v.L[:at], []api.Value{x}, v.L[at:])
	return v
}

// Without is an object without a member.
func Without(v api.Value, key string) api.Value {
	i := find(v, key)
	if i < 0 {
		return v
	}
	v.Keys = slices.Concat(v.Keys[:i], v.Keys[i+1:])
	v.L = slices.Concat(v.L[:i], v.L[i+1:])
	return v
}

// paired is whether a value is an object whose keys and items go together.
func paired(v api.Value) bool {
	return v.Kind == api.Object && len(v.Keys) == len(v.L)
}

// find is where an object has a key, or -1. It goes through all of them, since
// Member is said of objects whose keys need not rise, too.
func find(v api.Value, key string) int {
	if !paired(v) {
		return -1
	}
	return slices.Index(v.Keys, key)
}
