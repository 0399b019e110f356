package json_test

import (
	"strings"

	"stairwell/api"
)

func null() api.Value         { return api.Value{} }
func number(n int) api.Value  { return api.Value{Kind: api.Number, N: n} }
func text(s string) api.Value { return api.Value{Kind: api.Text, S: s} }
func list(l ...api.Value) api.Value {
	return api.Value{Kind: api.List, L: l}
}

func truth(b bool) api.Value {
	if b {
		return api.Value{Kind: api.Bool, N: 1}
	}
	return api.Value{Kind: api.Bool}
}

// object is one of keys, parted by spaces, and their values.
func object(keys string, l ...api.Value) api.Value {
	return api.Value{Kind: api.Object, Keys: strings.Fields(keys), L: l}
}

// lists is as deep as is said, of lists with one item each.
func lists(depth int) api.Value {
	v := list()
	for range depth - 1 {
		v = list(v)
	}
	return v
}

// objects is likewise of objects, with a number innermost.
func objects(depth int) api.Value {
	v := number(7)
	for range depth - 1 {
		v = object("k", v)
	}
	return v
}

// endless is a list that is its own item.
func endless() api.Value {
	l := make([]api.Value, 1)
	l[0] = list(l...)
	return l[0]
}

// zero is whether a value is the one that goes with an error.
func zero(v api.Value) bool {
	return v.Kind == 0 && v.N == 0 && v.S == "" && len(v.Keys) == 0 && len(v.L) == 0
}
