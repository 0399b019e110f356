package point

import (
	"slices"

	"stairwell/api"
	"stairwell/json"
)

// A changer makes of an object or list another one, at the name; false: it
// cannot be done there.
type changer func(in api.Value, name string) (api.Value, bool)

// change is a value in which the last name of a path was changed, in what the
// others mean. There must be a last one: nothing is around the value itself in
// which it could be changed.
func change(v api.Value, p string, how changer) (api.Value, api.Errno) {
	names, e := Split(p)
	if e != api.OK {
		return v, e
	}
	if len(names) == 0 || !json.Good(v) {
		return v, api.ErrForm
	}
	w, done := down(v, names, how)
	if !done {
		return v, api.ErrNone
	}
	if !json.Good(w) {
		return v, api.ErrLong
	}
	return w, api.OK
}

func down(v api.Value, names []string, how changer) (api.Value, bool) {
	if len(names) == 1 {
		return how(v, names[0])
	}
	inner, there := meant(v, names[0])
	if !there {
		return v, false
	}
	inner, done := down(inner, names[1:], how)
	if !done {
		return v, false
	}
	return replaced(v, names[0], inner)
}

func added(in api.Value, name string, x api.Value) (api.Value, bool) {
	switch in.Kind {
	case api.Object:
		return json.With(in, name, x), true
	case api.List:
		i, there := place(in.L, name)
		if !there {
			return in, false
		}
		in.L = slices.Concat(in.L[:i], []api.Value{x}, in.L[i:])
		return in, true
	}
	return in, false
}

func replaced(in api.Value, name string, x api.Value) (api.Value, bool) {
	if _, there := meant(in, name); !there {
		return in, false
	}
	if in.Kind == api.Object {
		return json.With(in, name, x), true
	}
	i, _ := place(in.L, name)
	in.L = slices.Concat(in.L[:i], []api.Value{x}, in.L[i+1:])
	return in, true
}

func removed(in api.Value, name string) (api.Value, bool) {
	if _, there := meant(in, name); !there {
		return in, false
	}
	if in.Kind == api.Object {
		return json.Without(in, name), true
	}
	i, _ := place(in.L, name)
	in.L = slices.Concat(in.L[:i], in.L[i+1:])
	return in, true
}

// meant is what a name means in an object or a list.
func meant(in api.Value, name string) (api.Value, bool) {
	if in.Kind != api.List {
		return json.Member(in, name)
	}
	i, there := place(in.L, name)
	if !there || i == len(in.L) {
		return api.Value{}, false
	}
	return in.L[i], true
}

// place is where in a list a name points to: at an item, or behind the last
// one, told by - or by how many there are.
func place(l []api.Value, name string) (int, bool) {
	if name == "-" {
		return len(l), true
	}
	i, is := number(name)
	if !is || i > len(l) {
		return 0, false
	}
	return i, true
}

const mostDigits = 4

func number(name string) (int, bool) {
	if name == "" || len(name) > mostDigits || name[0] == '0' && name != "0" {
		return 0, false
	}
	n := 0
	for i := 0; i < len(name); i++ {
		if name[i] < '0' || name[i] > '9' {
			return 0, false
		}
		n = n*10 + int(name[i]-'0')
	}
	return n, true
}
