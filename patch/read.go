package patch

import (
	"stairwell/api"
	"stairwell/json"
)

// words tell the kinds of operations, by their order, from api.Add on.
var words = [...]string{"add", "remove", "replace", "move", "copy", "test"}

// Read is the operations that a value tells.
func Read(v api.Value) ([]api.Op, api.Errno) {
	if v.Kind != api.List || !json.Good(v) {
		return nil, api.ErrForm
	}
	if len(v.L) > api.MaxOps {
		return nil, api.ErrLong
	}
	ops := make([]api.Op, len(v.L))
	for i, item := range v.L {
		o, told := operation(item)
		if !told {
			return nil, api.ErrForm
		}
		ops[i] = o
	}
	return ops, api.OK
}

// operation is what an item tells; false: something is lacking, or wrong. Of
// the members that its kind does not ask for none is taken.
func operation(item api.Value) (api.Op, bool) {
	word, isWord := text(item, "op")
	path, isPath := text(item, "path")
	kind := kindOf(word)
	if !isWord || !isPath || kind == 0 {
		return api.Op{}, false
	}
	o := api.Op{Kind: kind, Path: path}
	told := true
	switch kind {
	case api.Add, api.Replace, api.Test:
		o.Value, told = json.Member(item, "value")
	case api.Move, api.Copy:
		o.From, told = text(item, "from")
	}
	return o, told
}

// kindOf is the kind that a word tells, 0 if it tells none.
func kindOf(word string) int {
	for i, w := range words {
		if w == word {
			return api.Add + i
		}
	}
	return 0
}

// text is the text that an object has by a key.
func text(v api.Value, key string) (string, bool) {
	x, there := json.Member(v, key)
	if !there || x.Kind != api.Text {
		return "", false
	}
	return x.S, true
}
