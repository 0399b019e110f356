package point_test

import (
	"slices"
	"strings"
	"testing"

	"stairwell/api"
	"stairwell/point"
)

func paths() map[string][]string {
	return map[string][]string{
		"":              nil,
		"/":             {""},
		"//":            {"", ""},
		"/a":            {"a"},
		"/a/b":          {"a", "b"},
		"/a//b/":        {"a", "", "b", ""},
		"/~0":           {"~"},
		"/~1":           {"/"},
		"/~01":          {"~1"},
		"/~00":          {"~0"},
		"/~10":          {"/0"},
		"/~11":          {"/1"},
		"/~0~1~1~0":     {"~//~"},
		"/~00~01/~10":   {"~0~1", "/0"},
		"/~0/~1":        {"~", "/"},
		"/a~1b/~0/":     {"a/b", "~", ""},
		"/0/-/01":       {"0", "-", "01"},
		"/ \t\x00\x7f":  {" \t\x00\x7f"},
		"/\x80/\xff~0é": {"\x80", "\xff~é"},
	}
}

func TestSplit(t *testing.T) { // P2.1
	for p, want := range paths() {
		if l, e := point.Split(p); e != api.OK || !slices.Equal(l, want) {
			t.Errorf("%q: %q, %d; wanted %q", p, l, e, want)
		}
	}
}

func TestSplitRefuses(t *testing.T) { // P2.1
	for _, p := range []string{
		"a", "a/", "a/b", "~", "~0", "~1a", " /a", "\x80", "-", "0",
		"/~", "/~2", "/~a", "/~/", "/~/0", "/~~0", "/~~1", "/~0~", "/a/~", "/a~", "/a~/b", "/~\x00", "/~/~1", "/~.",
	} {
		if l, e := point.Split(p); e != api.ErrForm || len(l) != 0 {
			t.Errorf("%q: %q, %d", p, l, e)
		}
	}
}

func TestSplitLength(t *testing.T) { // P2.1
	for _, one := range []string{"/", "/a", "/~0~1", "/\xff"} {
		most := strings.Repeat(one, api.MaxBytes)[:api.MaxBytes]
		if l, e := point.Split(most); e != api.OK || len(l) != strings.Count(most, "/") {
			t.Errorf("%d bytes of %q: %d names, %d", len(most), one, len(l), e)
		}
		if l, e := point.Split(most + "/"); e != api.ErrForm || len(l) != 0 {
			t.Errorf("a byte more of %q: %d names, %d", one, len(l), e)
		}
	}
}

func TestJoin(t *testing.T) { // P2.1
	for want, l := range paths() {
		if p := point.Join(l); p != want {
			t.Errorf("%q: %q, wanted %q", l, p, want)
		}
	}
	if p := point.Join([]string{}); p != "" {
		t.Errorf("no names: %q", p)
	}
	// No bound is named of what is joined.
	long := strings.Repeat("a", api.MaxBytes)
	if p := point.Join([]string{long, "~"}); p != "/"+long+"/~0" {
		t.Errorf("long names: %d bytes", len(p))
	}
}

func TestJoinLeavesNamesAsTheyAre(t *testing.T) { // P2.1
	l := []string{"a/b", "~", "c"}
	point.Join(l[:2])
	if !slices.Equal(l, []string{"a/b", "~", "c"}) {
		t.Errorf("the names are %q now", l)
	}
}

// All names of up to four of these bytes, alone and in pairs.
func TestJoinAndSplitGoTogether(t *testing.T) { // P2.1
	names := []string{""}
	for at := 0; len(names[at]) < 4; at++ {
		for _, c := range "~/01" {
			names = append(names, names[at]+string(c))
		}
	}
	for i, a := range names {
		for _, l := range [][]string{{a}, {a, names[len(names)-1-i]}} {
			p := point.Join(l)
			back, e := point.Split(p)
			if e != api.OK || !slices.Equal(back, l) || strings.Count(p, "/") != len(l) {
				t.Errorf("%q: %q, then %q, %d", l, p, back, e)
			}
		}
	}
}
