package server_test

import (
	"math"
	"strings"
	"testing"

	"stairwell/api"
	"stairwell/server"
)

func TestOld(t *testing.T) { // P7.4: ahead of what is wrong with the body; 0 is whichever
	s := kept(t, `{"image":"x"}`)
	does(t, s, merges("a", `{"n":1}`), 2)
	does(t, s, create("b", `{"image":"x"}`), 3)
	bodies := []string{`{"image":"y"}`, `[]`, `{`, strings.Repeat(" ", api.MaxBytes+1)}
	for _, kind := range []int{api.ActPut, api.ActMerge, api.ActPatch} {
		for _, version := range []int{1, 3, 4, -2, -1, math.MinInt, math.MaxInt} {
			for _, body := range bodies {
				refuses(t, s, api.Act{Kind: kind, Name: "a", Body: body, Version: version}, api.ErrOld)
			}
		}
	}
	does(t, s, old(put("a", `{"image":"x","n":2}`), 2), 4)
	refuses(t, s, old(put("a", `{"image":"x","n":3}`), 2), api.ErrOld)
	does(t, s, old(merges("a", `{"n":3}`), 4), 5)
	does(t, s, old(patches("a", `[{"op":"replace","path":"/n","value":4}]`), 5), 6)
	does(t, s, put("a", `{"image":"x"}`), 7)
	does(t, s, merges("a", `{"n":1}`), 8)
	does(t, s, patches("a", `[]`), 8)
}

func TestOldIsNoneOfOthers(t *testing.T) { // P7.4: ActCreate and ActApply ask for no version
	s := server.New()
	does(t, s, old(create("a", `{"image":"x"}`), 9), 1)
	does(t, s, old(apply("a", "ann", `{"n":1}`), 9), 2)
	does(t, s, old(apply("b", "ann", `{"image":"x"}`), -9), 3)
}

func TestWriteParses(t *testing.T) { // P7.4: Parse's error, ahead of what is wrong with who, or with the patch
	s := kept(t, `{"image":"x"}`)
	long := `{"image":"x"}` + strings.Repeat(" ", api.MaxBytes)
	for body, e := range map[string]api.Errno{
		``: api.ErrForm, `{`: api.ErrForm, `{"image":"x"}}`: api.ErrForm, `{"image":"x","image":"x"}`: api.ErrForm,
		`{"image":"é"}`: api.ErrForm, `{"image":"` + strings.Repeat("x", api.MaxText+1) + `"}`: api.ErrForm,
		long: api.ErrLong, strings.Repeat("[", api.MaxBytes+1): api.ErrLong,
	} {
		refuses(t, s, create("b", body), e)
		refuses(t, s, put("a", body), e)
		refuses(t, s, merges("a", body), e)
		refuses(t, s, patches("a", body), e)
		refuses(t, s, apply("a", "ann", body), e)
		refuses(t, s, apply("a", "A", body), e)
		refuses(t, s, force("b", "ann", body), e)
	}
	does(t, s, put("a", long[:api.MaxBytes]), 1)
}

func TestPut(t *testing.T) { // P7.4: all of the value
	s := kept(t, `{"image":"x","n":1}`)
	does(t, s, put("a", `{"image":"x","m":null}`), 2)
	stands(t, s, "a", `{"image":"x","m":null} v2 g2`)
}

func TestMerge(t *testing.T) { // P7.4
	s := kept(t, `{"image":"x","n":1,"o":{"p":2,"q":3}}`)
	does(t, s, merges("a", `{"m":{"k":null},"n":null,"o":{"q":4}}`), 2)
	stands(t, s, "a", `{"image":"x","m":{},"o":{"p":2,"q":4}} v2 g2`)
	does(t, s, merges("a", `{}`), 2)
	does(t, s, merges("a", `{"image":"x","z":null}`), 2)
	stands(t, s, "a", `{"image":"x","m":{},"o":{"p":2,"q":4}} v2 g2`)
	many := `{"l":[` + strings.Repeat("0,", 111) + `0]}`
	does(t, s, merges("a", many), 3) // 1 + image + m + o, p, q + l and its 112
	refuses(t, s, merges("a", `{"z":[1]}`), api.ErrLong)
	does(t, s, merges("a", `{"z":1}`), 4)
	refuses(t, s, merges("a", `{"y":1}`), api.ErrLong)
}

func TestPatch(t *testing.T) { // P7.4: Read's errors, All's errors, all or none
	s := kept(t, `{"image":"x","l":[1,2],"n":1}`)
	does(t, s, patches("a", `[{"op":"test","path":"/n","value":1},{"op":"move","from":"/l/0","path":"/n"},{"op":"copy","from":"/l","path":"/m"}]`), 2)
	stands(t, s, "a", `{"image":"x","l":[2],"m":[2],"n":1} v2 g2`)
	for body, e := range map[string]api.Errno{
		`{"op":"remove","path":"/n"}`:                                                                     api.ErrForm,
		`[{"op":"rename","path":"/n"}]`:                                                                   api.ErrForm,
		`[{"op":"add","path":"/n"}]`:                                                                      api.ErrForm,
		`[{"op":"remove","path":"/n"},{"op":"remove","path":"n"}]`:                                        api.ErrForm,
		`[{"op":"remove","path":"/n"},{"op":"remove","path":"/n"}]`:                                       api.ErrNone,
		`[{"op":"remove","path":"/z"},{"op":"remove"}]`:                                                   api.ErrForm, // it is read ahead of all that is done
		`[{"op":"remove","path":"/n"},{"op":"test","path":"/l/0","value":1}]`:                             api.ErrTest,
		`[` + strings.Repeat(`{"op":"remove","path":"/n"},`, api.MaxOps) + `{"op":"remove","path":"/n"}]`: api.ErrLong,
		`[{"op":"remove","path":"/image"}]`:                                                               api.ErrForm,
		`[{"op":"replace","path":"","value":{}}]`:                                                         api.ErrForm,
	} {
		refuses(t, s, patches("a", body), e)
	}
	does(t, s, patches("a", `[{"op":"remove","path":"/image"},{"op":"add","path":"/image","value":"x"}]`), 2)
	does(t, s, patches("a", `[{"op":"replace","path":"","value":{"image":"x"}}]`), 3)
	stands(t, s, "a", `{"image":"x"} v3 g3`)
}

func TestApply(t *testing.T) { // P7.4: the second and the third example of the whole
	s := kept(t, `{"image":"x"}`)
	does(t, s, apply("a", "ann", `{"a":1}`), 2)
	stands(t, s, "a", `{"a":1,"image":"x"} ann:/a v2 g2`)
	refuses(t, s, apply("a", "bob", `{"a":2}`), api.ErrConflict)
	does(t, s, force("a", "bob", `{"a":2}`), 3)
	stands(t, s, "a", `{"a":2,"image":"x"} bob:/a v3 g3`)
	refuses(t, s, apply("a", "ann", `{"a":1}`), api.ErrConflict)
	does(t, s, apply("a", "ann", `{"a":2,"b":{"c":3}}`), 4)
	stands(t, s, "a", `{"a":2,"b":{"c":3},"image":"x"} ann:/a,/b/c bob:/a v4 g4`)
	does(t, s, apply("a", "ann", `{}`), 5)
	stands(t, s, "a", `{"a":2,"image":"x"} bob:/a v5 g5`)
	for _, who := range []string{"", "A", "a1", strings.Repeat("a", api.MaxName+1)} {
		refuses(t, s, apply("a", who, `{"a":2}`), api.ErrForm)
		refuses(t, s, force("a", who, `{"a":1}`), api.ErrForm)
		refuses(t, s, force("b", who, `{"image":"x"}`), api.ErrForm)
	}
	for _, body := range []string{`1`, `[]`, `null`, `"image"`} {
		refuses(t, s, apply("a", "ann", body), api.ErrForm)
		refuses(t, s, force("b", "ann", body), api.ErrForm)
	}
}

func TestApplyTooMany(t *testing.T) { // P7.4: Apply's ErrLong
	s := kept(t, `{"image":"x"}`)
	for i := range api.MaxOwners {
		does(t, s, apply("a", string(rune('a'+i)), `{"n":1}`), i+2)
	}
	refuses(t, s, apply("a", "z", `{"n":1}`), api.ErrLong)
	refuses(t, s, apply("a", "z", `{"m":1}`), api.ErrLong)
	does(t, s, apply("a", "z", `{}`), api.MaxOwners+1)
	does(t, s, force("a", "z", `{"n":2}`), api.MaxOwners+2) // by force, since the others lose it
	stands(t, s, "a", `{"image":"x","n":2} z:/n v8 g3`)
}

func TestApplyNew(t *testing.T) { // P7.3, P7.4: it begins with an empty object
	s := server.New()
	refuses(t, s, apply("a", "ann", `{}`), api.ErrForm)
	refuses(t, s, apply("a", "ann", `{"n":1}`), api.ErrForm)
	does(t, s, apply("a", "ann", `{"image":"x","o":{"p":[1],"q":{}},"steps":[10,{"pause":0}]}`), 1)
	stands(t, s, "a", `{"image":"x","o":{"p":[1],"q":{}},"steps":[10,{"pause":0}]} ann:/image,/o/p,/o/q,/steps v1 g1`)
	isStatus(t, s, "a", all("x"))
	refuses(t, s, apply("a", "ann", `{"n":1}`), api.ErrForm) // the image would be gone
	does(t, s, apply("a", "bob", `{"image":"x"}`), 2)
	does(t, s, apply("a", "ann", `{"n":1}`), 3)
	stands(t, s, "a", `{"image":"x","n":1} ann:/n bob:/image v3 g2`)
	does(t, s, remove("a"), 3)
	does(t, s, apply("a", "cy", `{"image":"y"}`), 4) // what was bob's is forgotten
	stands(t, s, "a", `{"image":"y"} cy:/image v4 g1`)
}

func TestKeep(t *testing.T) { // P7.4: behind all others than ActApply the owners have what still stands
	begun := func() *server.Server {
		s := kept(t, `{"image":"x"}`)
		does(t, s, apply("a", "ann", `{"m":1,"o":{"p":1,"q":2}}`), 2)
		does(t, s, apply("a", "bob", `{"n":1}`), 3)
		stands(t, s, "a", `{"image":"x","m":1,"n":1,"o":{"p":1,"q":2}} ann:/m,/o/p,/o/q bob:/n v3 g3`)
		return s
	}
	s := begun()
	does(t, s, put("a", `{"image":"x","m":2,"o":{"q":[]}}`), 4)
	stands(t, s, "a", `{"image":"x","m":2,"o":{"q":[]}} ann:/m,/o/q v4 g4`)
	does(t, s, put("a", `{"image":"x"}`), 5)
	stands(t, s, "a", `{"image":"x"} v5 g5`)
	s = begun()
	does(t, s, merges("a", `{"m":null,"o":null}`), 4)
	stands(t, s, "a", `{"image":"x","n":1} bob:/n v4 g4`)
	s = begun()
	does(t, s, patches("a", `[{"op":"remove","path":"/n"},{"op":"move","from":"/o/p","path":"/n"}]`), 4)
	stands(t, s, "a", `{"image":"x","m":1,"n":1,"o":{"q":2}} ann:/m,/o/q bob:/n v4 g4`)
	s = begun()
	does(t, s, patches("a", `[{"op":"replace","path":"/o","value":[1,2]}]`), 4)
	stands(t, s, "a", `{"image":"x","m":1,"n":1,"o":[1,2]} ann:/m bob:/n v4 g4`)
}

func TestApplyKeepsNot(t *testing.T) { // P7.4: behind ActApply the owners are what that says, and nothing is kept beside
	s := kept(t, `{"image":"x","o":{}}`)
	does(t, s, apply("a", "ann", `{"o":{}}`), 2)
	does(t, s, merges("a", `{"o":{"p":1}}`), 3)
	stands(t, s, "a", `{"image":"x","o":{"p":1}} ann:/o v3 g2`)
	does(t, s, apply("a", "bob", `{"o":{}}`), 4)
	stands(t, s, "a", `{"image":"x","o":{"p":1}} ann:/o bob:/o v4 g2`)
}

func TestNoSpec(t *testing.T) { // P7.5
	s := kept(t, `{"image":"x","n":1}`)
	for _, body := range []string{
		`null`, `1`, `"image"`, `[]`, `{}`, `{"image":""}`, `{"image":1}`, `{"image":["x"]}`, `{"Image":"x"}`,
		`{"image":"x","steps":1}`, `{"image":"x","steps":null}`, `{"image":"x","steps":[101]}`, `{"image":"x","steps":[-1]}`,
		`{"image":"x","steps":[{}]}`, `{"image":"x","steps":[{"pause":-1}]}`, `{"image":"x","steps":[1,1,1,1,1,1,1,1,1]}`,
	} {
		refuses(t, s, create("b", body), api.ErrForm)
		refuses(t, s, put("a", body), api.ErrForm)
		refuses(t, s, patches("a", `[{"op":"replace","path":"","value":`+body+`}]`), api.ErrForm)
		refuses(t, s, force("b", "ann", body), api.ErrForm)
	}
	for _, body := range []string{`null`, `[]`, `{"image":null}`, `{"image":1}`, `{"steps":7}`, `{"steps":[101]}`} {
		refuses(t, s, merges("a", body), api.ErrForm)
	}
	refuses(t, s, apply("a", "ann", `{"steps":[101]}`), api.ErrForm)
	refuses(t, s, force("a", "ann", `{"image":{"y":1}}`), api.ErrForm)
	// What was refused took no version.
	does(t, s, put("a", `{"image":"x"}`), 2)
	stands(t, s, "a", `{"image":"x"} v2 g2`)
}

func TestVersions(t *testing.T) { // P7.5: of all things together; a generation is each one's own
	s := server.New()
	does(t, s, create("a", `{"image":"x"}`), 1)
	does(t, s, create("b", `{"image":"x"}`), 2)
	does(t, s, merges("a", `{"n":1}`), 3)
	does(t, s, merges("b", `{"n":1}`), 4)
	does(t, s, merges("b", `{"n":2}`), 5)
	does(t, s, put("a", `{"image":"x","n":1}`), 3) // alike: nothing is given
	does(t, s, patches("a", `[{"op":"test","path":"/n","value":1}]`), 3)
	does(t, s, put("a", ` {"n" : 1 , "image" : "x"} `), 3)
	does(t, s, order("a", api.Go), api.Healthy)
	does(t, s, tick(1), 0)
	stands(t, s, "a", `{"image":"x","n":1} v3 g2`)
	stands(t, s, "b", `{"image":"x","n":2} v5 g3`)
	does(t, s, put("a", `{"image":"x"}`), 6)
	does(t, s, put("a", `{"image":"x","n":1}`), 7) // alike an older one: that is none that it had last
	stands(t, s, "a", `{"image":"x","n":1} v7 g4`)
}

func TestVersionOfOwners(t *testing.T) { // P7.5: other owners of a value that is alike: a version, and no generation
	s := kept(t, `{"image":"x","n":1}`)
	does(t, s, apply("a", "ann", `{"n":1}`), 2)
	stands(t, s, "a", `{"image":"x","n":1} ann:/n v2 g1`)
	does(t, s, apply("a", "ann", `{"n":1}`), 2)
	does(t, s, apply("a", "bob", `{"n":1}`), 3)
	does(t, s, apply("a", "ann", `{"image":"x"}`), 4)
	stands(t, s, "a", `{"image":"x","n":1} ann:/image bob:/n v4 g1`)
	does(t, s, force("a", "ann", `{"image":"x"}`), 4)
	does(t, s, put("a", `{"image":"x","n":1}`), 4)
	does(t, s, apply("a", "cy", `{}`), 4) // nobody wants nothing
	does(t, s, apply("a", "ann", `{"image":"x","n":1}`), 5)
	does(t, s, apply("a", "bob", `{}`), 6)
	stands(t, s, "a", `{"image":"x","n":1} ann:/image,/n v6 g1`)
}

func TestStatusOfNew(t *testing.T) { // P7.5: it is healthy, whatever its steps are
	s := server.New()
	does(t, s, tick(4), 0)
	does(t, s, create("a", `{"image":"x","steps":[10,{"pause":0},50]}`), 1)
	does(t, s, apply("b", "ann", `{"image":"y","steps":[{"pause":3}]}`), 2)
	isStatus(t, s, "a", all("x"))
	isStatus(t, s, "b", all("y"))
	x := thing(t, s, "a")
	if x.Version != 1 || x.Generation != 1 || len(x.Owners) != 0 {
		t.Errorf("%+v", x)
	}
}

func TestStatusByEachKind(t *testing.T) { // P7.5: by each of those that write, another image comes step by step, from now on
	const body = `{"image":"y","steps":[10,{"pause":5},50]}`
	for _, a := range []api.Act{
		put("a", body), merges("a", body), apply("a", "ann", body),
		patches("a", `[{"op":"replace","path":"/image","value":"y"},{"op":"add","path":"/steps","value":[10,{"pause":5},50]}]`),
	} {
		s := kept(t, `{"image":"x"}`)
		does(t, s, tick(7), 0)
		does(t, s, a, 2)
		isStatus(t, s, "a", waits(1, 10, 7))
		does(t, s, tick(4), 0)
		does(t, s, a, 2) // alike: it still waits since then
		isStatus(t, s, "a", waits(1, 10, 7))
		does(t, s, tick(1), 0)
		isStatus(t, s, "a", all("y"))
	}
}

func TestStatusOfOtherSteps(t *testing.T) { // P7.5: Next, by the steps that are told now
	s := kept(t, `{"image":"x"}`)
	does(t, s, merges("a", `{"image":"y","steps":[10,{"pause":9},50]}`), 2)
	does(t, s, tick(3), 0)
	does(t, s, merges("a", `{"steps":[10,{"pause":3},50,{"pause":0}]}`), 3) // so long went by already
	isStatus(t, s, "a", waits(3, 50, 3))
	does(t, s, merges("a", `{"n":1}`), 4) // no other image: it goes on as it goes
	isStatus(t, s, "a", waits(3, 50, 3))
	does(t, s, merges("a", `{"image":"z"}`), 5)
	isStatus(t, s, "a", api.Status{Stable: "x", Comes: "z", Phase: api.Paused, Step: 1, Weight: 10, Since: 3})
	does(t, s, merges("a", `{"image":"x"}`), 6)
	isStatus(t, s, "a", all("x"))
	does(t, s, merges("a", `{"image":"y"}`), 7)
	does(t, s, order("a", api.Abort), api.Aborted)
	does(t, s, merges("a", `{"steps":null}`), 8)
	isStatus(t, s, "a", api.Status{Stable: "x", Comes: "y", Phase: api.Aborted})
	does(t, s, merges("a", `{"image":"z"}`), 9)
	isStatus(t, s, "a", all("z"))
}

func TestExamplesOfTheWhole(t *testing.T) { // P7.4, P7.5: the first and the fourth
	s := kept(t, `{"image":"x"}`)
	isStatus(t, s, "a", all("x"))
	got := s.Do(get("a"))
	does(t, s, merges("a", `{"image":"y","steps":[10,{"pause":0},50]}`), 2)
	isStatus(t, s, "a", waits(1, 10, 0))
	does(t, s, tick(api.MaxTime), 0)
	isStatus(t, s, "a", waits(1, 10, 0))
	refuses(t, s, old(put("a", got.Body), got.N), api.ErrOld)
	does(t, s, order("a", api.Resume), api.Healthy)
	isStatus(t, s, "a", all("y"))
}
