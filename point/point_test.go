package point_test

import (
	"math"
	"strconv"
	"strings"
	"testing"

	"stairwell/api"
	"stairwell/json"
	"stairwell/point"
)

const sample = `{"":5,"-":6,"0":{"1":7},"a":[1,[2,3],{"x":null}],"b":{"/":8,"c/d":3,"~":4,"~1":9},"t":"text","y":true}`

func TestGet(t *testing.T) { // P2.2, P2.3
	v := of(t, sample)
	for p, want := range map[string]string{
		"": sample, "/": "5", "/-": "6", "/0": `{"1":7}`, "/0/1": "7",
		"/a": `[1,[2,3],{"x":null}]`, "/a/0": "1", "/a/1": "[2,3]", "/a/1/0": "2", "/a/1/1": "3",
		"/a/2": `{"x":null}`, "/a/2/x": "null",
		"/b/~1": "8", "/b/c~1d": "3", "/b/~0": "4", "/b/~01": "9", "/t": `"text"`, "/y": "true",
	} {
		if x, e := point.Get(v, p); e != api.OK || show(x) != want {
			t.Errorf("%q: %s, %d; wanted %s", p, show(x), e, want)
		}
	}
}

func TestGetOfNothing(t *testing.T) { // P2.2, P2.3
	v := of(t, sample)
	for _, p := range []string{
		"/c", "/A", "/aa", "//", "/a/", "/a/3", "/a/-", "/a/1/2", "/a/1/-", "/a/00", "/a/01", "/a/0000", "/a/001", "/a/+1", "/a/-0", "/a/-1",
		"/a/1 ", "/a/ 1", "/a/1.0", "/a/1e0", "/a/0x1", "/a/x", "/a/~1", "/a/~0", "/a/:", "/a/\x80", "/a/1_0", "/a/٠",
		"/a/9999", "/a/10000", "/a/18446744073709551616", "/a/18446744073709551617", "/a/4294967296", "/a/256", "/a/" + strings.Repeat("9", 1000),
		"/a/0/0", "/a/0/-", "/a/0/", "/a/2/0", "/a/2/x/0", "/t/0", "/t/", "/t/-", "/y/0", "/-/0", "/\x80", strings.Repeat("/", api.MaxBytes),
	} {
		if x, e := point.Get(v, p); e != api.ErrNone || !zero(x) {
			t.Errorf("%q: %+v, %d", p, x, e)
		}
	}
	for _, s := range []string{"null", "true", "3", `"a"`, "[]", "{}"} {
		for _, p := range []string{"/", "/0", "/-", "/a"} {
			if x, e := point.Get(of(t, s), p); e != api.ErrNone || !zero(x) {
				t.Errorf("%s, %q: %+v, %d", s, p, x, e)
			}
		}
	}
}

func TestGetOfLongList(t *testing.T) { // P2.2
	v := of(t, numbers(api.MaxCount-1))
	for i := -1; i < 1200; i++ {
		x, e := point.Get(v, "/"+strconv.Itoa(i))
		if there := i >= 0 && i < api.MaxCount-1; there && (e != api.OK || x.N != i) || !there && e != api.ErrNone {
			t.Errorf("%d: %+v, %d", i, x, e)
		}
	}
}

// All names of one byte, and of two: digits alone tell a number.
func TestGetByOtherBytes(t *testing.T) { // P2.2
	v := of(t, numbers(api.MaxCount-1))
	for _, front := range []string{"", "1", "0", ":", "\x00"} {
		for c := range 256 {
			name := front + string([]byte{byte(c)})
			x, e := point.Get(v, point.Join([]string{name}))
			n, err := strconv.Atoi(name)
			if is := err == nil && strconv.Itoa(n) == name; is && (e != api.OK || x.N != n) || !is && e != api.ErrNone {
				t.Errorf("%q: %+v, %d", name, x, e)
			}
		}
	}
}

func TestGetRefuses(t *testing.T) { // P2.3
	v := of(t, sample)
	for _, p := range wrongPaths() {
		if x, e := point.Get(v, p); e != api.ErrForm || !zero(x) {
			t.Errorf("%q: %+v, %d", p, x, e)
		}
	}
	for i, v := range wrong() {
		for _, p := range []string{"", "/0", "/a", "/c", "a"} {
			if x, e := point.Get(v, p); e != api.ErrForm || !zero(x) {
				t.Errorf("wrong value %d, %q: %+v, %d", i, p, x, e)
			}
		}
	}
}

func wrongPaths() []string {
	return []string{"a", "~", "0", "/~", "/b/~2", "/c/~", "/a/9/~", "/a/~/0", strings.Repeat("/", api.MaxBytes+1)}
}

// A change is one of the three functions, with x where it takes one.
type change struct {
	name string
	of   func(v api.Value, p string, x api.Value) (api.Value, api.Errno)
}

func changes() []change {
	return []change{{"Add", point.Add}, {"Put", point.Put},
		{"Remove", func(v api.Value, p string, _ api.Value) (api.Value, api.Errno) { return point.Remove(v, p) }}}
}

type trial struct {
	v, p, x, want string
	e             api.Errno
}

func try(t *testing.T, c change, trials []trial) {
	t.Helper()
	for _, k := range trials {
		v, x := roomy(of(t, k.v)), roomy(of(t, k.x))
		w, e := c.of(v, k.p, x)
		if e != k.e || e == api.OK && show(w) != k.want || e != api.OK && !asItWas(w, v) {
			t.Errorf("%s of %s, %q, %s: %s, %d; wanted %s, %d", c.name, k.v, k.p, k.x, show(w), e, k.want, k.e)
		}
		if show(v) != show(of(t, k.v)) || show(x) != show(of(t, k.x)) || !untouched(v) || !untouched(x) {
			t.Errorf("%s of %s, %q, %s changed what it was handed", c.name, k.v, k.p, k.x)
		}
	}
}

func TestAdd(t *testing.T) { // P2.4, P2.5
	try(t, changes()[0], []trial{
		{`{"b":1}`, "/a", "9", `{"a":9,"b":1}`, api.OK},
		{`{"b":1}`, "/c", "9", `{"b":1,"c":9}`, api.OK},
		{`{"a":0,"c":1}`, "/b", "[9]", `{"a":0,"b":[9],"c":1}`, api.OK},
		{`{"b":1}`, "/b", `{"x":2}`, `{"b":{"x":2}}`, api.OK},
		{`{"a":1,"b":2,"c":3}`, "/b", "null", `{"a":1,"b":null,"c":3}`, api.OK},
		{`{}`, "/", "9", `{"":9}`, api.OK},
		{`{}`, "/-", "9", `{"-":9}`, api.OK},
		{`{}`, "/01", "9", `{"01":9}`, api.OK},
		{`{}`, "/a~1~0~01", "9", `{"a/~~1":9}`, api.OK},
		{`{"a":[1,2]}`, "/a/0", "9", `{"a":[9,1,2]}`, api.OK},
		{`{"a":[1,2]}`, "/a/1", "9", `{"a":[1,9,2]}`, api.OK},
		{`{"a":[1,2]}`, "/a/2", "9", `{"a":[1,2,9]}`, api.OK},
		{`{"a":[1,2]}`, "/a/-", "[9]", `{"a":[1,2,[9]]}`, api.OK},
		{`[]`, "/0", "9", `[9]`, api.OK},
		{`[]`, "/-", "9", `[9]`, api.OK},
		{`[[],{"a":[{}]},3]`, "/1/a/0/b", "9", `[[],{"a":[{"b":9}]},3]`, api.OK},
		{`{"a":{"b":1,"c":[4,[5]]},"d":6}`, "/a/c/1/0", "9", `{"a":{"b":1,"c":[4,[9,5]]},"d":6}`, api.OK},
		{`{"a":1}`, "", "[9]", `[9]`, api.OK},
		{`3`, "", "null", `null`, api.OK},
	})
}

func TestAddNowhere(t *testing.T) { // P2.4, P2.5
	try(t, changes()[0], []trial{
		{`{"a":[1,2]}`, "/a/3", "9", "", api.ErrNone},
		{`{"a":[1,2]}`, "/a/02", "9", "", api.ErrNone},
		{`{"a":[1,2]}`, "/a/00", "9", "", api.ErrNone},
		{`{"a":[1,2]}`, "/a/", "9", "", api.ErrNone},
		{`{"a":[1,2]}`, "/a/x", "9", "", api.ErrNone},
		{`{"a":[1,2]}`, "/a/--", "9", "", api.ErrNone},
		{`{"a":[1,2]}`, "/a/-1", "9", "", api.ErrNone},
		{`{"a":[1,2]}`, "/a/10000", "9", "", api.ErrNone},
		{`{"a":[1,2]}`, "/a/18446744073709551617", "9", "", api.ErrNone},
		{`{"a":[1,2]}`, "/a/\x80", "9", "", api.ErrNone},
		{`[]`, "/1", "9", "", api.ErrNone},
		{`{"a":[1,2]}`, "/b/c", "9", "", api.ErrNone},
		{`{"a":[1,2]}`, "/a/2/0", "9", "", api.ErrNone},
		{`{"a":[[]]}`, "/a/-/0", "9", "", api.ErrNone},
		{`{"a":[[]]}`, "/a/00/0", "9", "", api.ErrNone},
		{`{"a":[1,2]}`, "/a/0/x", "9", "", api.ErrNone},
		{`{"a":[1,2]}`, "/a/0/0", "9", "", api.ErrNone},
		{`{"a":[1,2]}`, "/a/0/-", "9", "", api.ErrNone},
		{`null`, "/a", "9", "", api.ErrNone},
		{`true`, "/0", "9", "", api.ErrNone},
		{`4`, "/-", "9", "", api.ErrNone},
		{`"a"`, "/0", "9", "", api.ErrNone},
	})
}

func TestPut(t *testing.T) { // P2.4, P2.6
	try(t, changes()[1], []trial{
		{`{"a":1,"b":2,"c":3}`, "/b", "[9]", `{"a":1,"b":[9],"c":3}`, api.OK},
		{`{"":1}`, "/", "9", `{"":9}`, api.OK},
		{`{"-":1}`, "/-", "9", `{"-":9}`, api.OK},
		{`{"a/b":1,"~1":2}`, "/~01", "9", `{"a/b":1,"~1":9}`, api.OK},
		{`[1,2,3]`, "/0", "9", `[9,2,3]`, api.OK},
		{`[1,2,3]`, "/1", "9", `[1,9,3]`, api.OK},
		{`[1,2,3]`, "/2", "9", `[1,2,9]`, api.OK},
		{`[[],{"a":[{"b":0}]},3]`, "/1/a/0/b", "9", `[[],{"a":[{"b":9}]},3]`, api.OK},
		{`{"a":1}`, "", "[9]", `[9]`, api.OK},
		{`{"a":1}`, "/b", "9", "", api.ErrNone},
		{`{"a":1}`, "/b/c", "9", "", api.ErrNone},
		{`{"a":1}`, "/a/b", "9", "", api.ErrNone},
		{`{"a":1}`, "/\x80", "9", "", api.ErrNone},
		{`[1,2]`, "/2", "9", "", api.ErrNone},
		{`[1,2]`, "/-", "9", "", api.ErrNone},
		{`[1,2]`, "/01", "9", "", api.ErrNone},
		{`[1,2]`, "/10000", "9", "", api.ErrNone},
		{`[1,2]`, "/0/0", "9", "", api.ErrNone},
		{`[[1]]`, "/-/0", "9", "", api.ErrNone},
		{`null`, "/", "9", "", api.ErrNone},
		{`"a"`, "/0", "9", "", api.ErrNone},
	})
}

func TestRemove(t *testing.T) { // P2.4, P2.6
	try(t, changes()[2], []trial{
		{`{"a":1,"b":2,"c":3}`, "/a", "null", `{"b":2,"c":3}`, api.OK},
		{`{"a":1,"b":2,"c":3}`, "/b", "null", `{"a":1,"c":3}`, api.OK},
		{`{"a":1}`, "/a", "null", `{}`, api.OK},
		{`{"":1,"/":2}`, "/~1", "null", `{"":1}`, api.OK},
		{`{"":1,"/":2}`, "/", "null", `{"/":2}`, api.OK},
		{`[1,2,3]`, "/0", "null", `[2,3]`, api.OK},
		{`[1,2,3]`, "/1", "null", `[1,3]`, api.OK},
		{`[1,2,3]`, "/2", "null", `[1,2]`, api.OK},
		{`[1]`, "/0", "null", `[]`, api.OK},
		{`[[],{"a":[{"b":0}]},3]`, "/1/a/0/b", "null", `[[],{"a":[{}]},3]`, api.OK},
		{`{"a":1}`, "", "null", "", api.ErrForm},
		{`{"a":1}`, "/b", "null", "", api.ErrNone},
		{`{"a":1}`, "/b/c", "null", "", api.ErrNone},
		{`{"a":1}`, "/a/b", "null", "", api.ErrNone},
		{`{"a":1}`, "/\x80", "null", "", api.ErrNone},
		{`[1,2]`, "/2", "null", "", api.ErrNone},
		{`[1,2]`, "/-", "null", "", api.ErrNone},
		{`[1,2]`, "/00", "null", "", api.ErrNone},
		{`[1,2]`, "/0/0", "null", "", api.ErrNone},
		{`[[1]]`, "/-/0", "null", "", api.ErrNone},
		{`4`, "/0", "null", "", api.ErrNone},
	})
}

func TestChangesTooLarge(t *testing.T) { // P2.4
	key := strings.Repeat("k", api.MaxText)
	full := numbers(api.MaxCount - 1)
	add, put := changes()[0], changes()[1]
	try(t, add, []trial{
		{`{}`, "/\x80", "9", "", api.ErrLong},
		{`{}`, "/" + key, "9", `{"` + key + `":9}`, api.OK},
		{`{}`, "/" + key + "k", "9", "", api.ErrLong},
		{`{"a":[]}`, "/a/-", deep(api.MaxDepth - 3), `{"a":[` + deep(api.MaxDepth-3) + `]}`, api.OK},
		{`{"a":[]}`, "/a/-", deep(api.MaxDepth - 2), "", api.ErrLong},
		{`{"a":[]}`, "/b", deep(api.MaxDepth - 1), "", api.ErrLong},
		{`[]`, "/0", numbers(api.MaxCount - 2), "[" + numbers(api.MaxCount-2) + "]", api.OK},
		{`[]`, "/0", full, "", api.ErrLong},
		{full, "/-", "9", "", api.ErrLong},
		{full, "/0", "9", "", api.ErrLong},
		{full, "/" + strconv.Itoa(api.MaxCount-1), "9", "", api.ErrLong},
		{full, "/" + strconv.Itoa(api.MaxCount), "9", "", api.ErrNone},
		{full, "", full, full, api.OK},
	})
	try(t, put, []trial{
		{full, "/3", "-9", strings.Replace(full, ",3,", ",-9,", 1), api.OK},
		{full, "/3", "[]", strings.Replace(full, ",3,", ",[],", 1), api.OK},
		{full, "/3", "[9]", "", api.ErrLong},
		{`{"a":[0]}`, "/a/0", deep(api.MaxDepth - 3), `{"a":[` + deep(api.MaxDepth-3) + `]}`, api.OK},
		{`{"a":[0]}`, "/a/0", deep(api.MaxDepth - 2), "", api.ErrLong},
		{full, "", deep(api.MaxDepth - 1), deep(api.MaxDepth - 1), api.OK},
	})
	try(t, changes()[2], []trial{
		{deep(api.MaxDepth - 1), strings.Repeat("/0", api.MaxDepth-1), "null", strings.Repeat("[", api.MaxDepth-1) + strings.Repeat("]", api.MaxDepth-1), api.OK},
		{deep(api.MaxDepth - 1), strings.Repeat("/0", api.MaxDepth), "null", "", api.ErrNone},
		{full, "/0", "null", "[" + full[3:], api.OK},
	})
}

func TestChangesRefuse(t *testing.T) { // P2.4
	v := of(t, sample)
	for _, c := range changes() {
		for _, p := range wrongPaths() {
			if w, e := c.of(v, p, number(9)); e != api.ErrForm || !asItWas(w, v) {
				t.Errorf("%s, %q: %s, %d", c.name, p, show(w), e)
			}
		}
		for i, v := range wrong() {
			for _, p := range []string{"", "/", "/0", "/a", "/b/c", "a"} {
				if w, e := c.of(v, p, number(9)); e != api.ErrForm || !asItWas(w, v) {
					t.Errorf("%s of wrong value %d, %q: %d", c.name, i, p, e)
				}
			}
		}
	}
	for _, c := range changes()[:2] {
		for i, x := range wrong() {
			for _, p := range []string{"", "/a", "/a/0", "/c", "/c/d", "/t/0", "/\x80", "a"} {
				if w, e := c.of(v, p, x); e != api.ErrForm || !asItWas(w, v) {
					t.Errorf("%s of wrong x %d, %q: %d", c.name, i, p, e)
				}
			}
		}
	}
}

// Numbers that come near the ends of what an int holds mean nothing.
func TestNoNumberWrapsRound(t *testing.T) { // P2.2
	v := of(t, "[0,1,2]")
	for _, n := range []uint64{1 << 16, 1 << 32, math.MaxInt64, 1 << 63, math.MaxUint64} {
		p := "/" + strconv.FormatUint(n, 10)
		for _, c := range changes() {
			if w, e := c.of(v, p, number(9)); e != api.ErrNone || !json.Same(w, v) {
				t.Errorf("%s, %s: %s, %d", c.name, p, show(w), e)
			}
		}
	}
}

// What a change answers is good, and at its path stands what was laid there.
func TestChangesAndGetGoTogether(t *testing.T) { // P2.3 to P2.6
	v := of(t, sample)
	for _, p := range []string{"/", "/-", "/0", "/0/1", "/a", "/a/0", "/a/1", "/a/1/1", "/a/2", "/a/2/x", "/b/~1", "/b/~01", "/t"} {
		for _, c := range changes()[:2] {
			w, e := c.of(v, p, number(99))
			x, f := point.Get(w, p)
			if e != api.OK || f != api.OK || x.N != 99 || !json.Good(w) {
				t.Errorf("%s, %q: %s, %d, %d", c.name, p, show(w), e, f)
			}
		}
		old, _ := point.Get(v, p)
		w, e := point.Remove(v, p)
		if back, f := point.Add(w, p, old); e != api.OK || f != api.OK || !json.Same(back, v) {
			t.Errorf("%q: removed %s, %d, added %s, %d", p, show(w), e, show(back), f)
		}
	}
	if show(v) != sample {
		t.Errorf("the value is %s now", show(v))
	}
}
