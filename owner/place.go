package owner

import (
	"stairwell/api"
	"stairwell/json"
	"stairwell/point"
)

// standing is what stands at a good path, through objects. Package point would
// go through lists as well.
func standing(v api.Value, p string) (api.Value, bool) {
	for _, name := range namesOf(p) {
		inner, there := json.Member(v, name)
		if !there {
			return api.Value{}, false
		}
		v = inner
	}
	return v, true
}

// namesOf is the names of a good path, of which there is at least one.
func namesOf(p string) []string {
	names, _ := point.Split(p)
	return names
}

// without is an object without what stands at names, and without those objects
// in it that are empty by that. Something must stand there: else one that was
// empty before would be gone, too.
func without(v api.Value, names []string) api.Value {
	if len(names) == 1 {
		return json.Without(v, names[0])
	}
	inner, _ := json.Member(v, names[0])
	inner = without(inner, names[1:])
	if len(inner.L) == 0 {
		return json.Without(v, names[0])
	}
	return json.With(v, names[0], inner)
}

// with is a value in which x stands at names; what they go through becomes an
// object.
func with(v api.Value, names []string, x api.Value) api.Value {
	if v.Kind != api.Object {
		v = api.Value{Kind: api.Object}
	}
	// Of a key that is not there Member answers Null, which is no object.
	was, _ := json.Member(v, names[0])
	if len(names) > 1 {
		return json.With(v, names[0], with(was, names[1:], x))
	}
	// What is laid is a leaf: if it is an object, it is an empty one.
	if was.Kind == api.Object && x.Kind == api.Object {
		return v
	}
	return json.With(v, names[0], x)
}
