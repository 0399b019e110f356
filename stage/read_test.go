package stage_test

import (
	"slices"
	"strconv"
	"strings"
	"testing"

	"stairwell/api"
	"stairwell/stage"
)

func TestRead(t *testing.T) { // P6.2
	most := strings.Repeat("x", api.MaxText)
	for _, c := range []struct {
		text string
		want api.Spec
	}{
		{`{"image":"x"}`, rollout("x")},
		{`{"image":"` + most + `"}`, rollout(most)},
		{`{"image":" "}`, rollout(" ")},
		{`{"image":"x","steps":[]}`, rollout("x")},
		{`{"image":"x","Steps":5,"step":5,"Image":5,"pause":5}`, rollout("x")},
		{`{"steps":[10,{"pause":5},50,{"pause":0},80],"image":"y"}`, rollout("y", to(10), wait(5), to(50), wait(0), to(80))},
		{`{"image":"y","steps":[0,100,1,99]}`, rollout("y", to(0), to(100), to(1), to(99))},
		{`{"image":"y","steps":[{"pause":1099511627776}]}`, rollout("y", wait(api.MaxTime))},
		{`{"image":"y","steps":[{"pause":101,"weight":3,"a":null}]}`, rollout("y", wait(101))},
		{`{"image":"y","steps":[1,2,3,4,5,6,7,8]}`, rollout("y", to(1), to(2), to(3), to(4), to(5), to(6), to(7), to(8))},
	} {
		got, e := stage.Read(of(t, c.text))
		if got.Image != c.want.Image || !slices.Equal(got.Steps, c.want.Steps) || e != api.OK || !stage.GoodSpec(got) {
			t.Errorf("%s: %+v, %d", c.text, got, e)
		}
	}
}

func refused(t *testing.T, v api.Value) {
	t.Helper()
	if got, e := stage.Read(v); got.Image != "" || len(got.Steps) != 0 || e != api.ErrForm {
		t.Errorf("%+v, %d", got, e)
	}
}

func TestReadRefuses(t *testing.T) { // P6.2
	for _, s := range []string{
		`null`, `"image"`, `["image","x"]`, `5`, `{}`, `{"Image":"x"}`, `{"steps":[10]}`, `{"a":{"image":"x"}}`,
		`{"image":""}`, `{"image":null}`, `{"image":5}`, `{"image":true}`, `{"image":["x"]}`, `{"image":{"a":"x"}}`, `{"image":{}}`,
		`{"image":"","steps":[10]}`,
	} {
		t.Run(s, func(t *testing.T) { refused(t, of(t, s)) })
	}
	for _, s := range []string{
		`null`, `false`, `10`, `"10"`, `{}`, `{"pause":5}`, `[1,2,3,4,5,6,7,8,9]`,
		`[-1]`, `[101]`, `[9007199254740992]`, `[-9007199254740992]`, `[null]`, `[true]`, `["10"]`, `[[]]`, `[[10]]`, `[{}]`,
		`[{"weight":10}]`, `[{"Pause":5}]`, `[{"pause":-1}]`, `[{"pause":1099511627777}]`, `[{"pause":null}]`, `[{"pause":true}]`,
		`[{"pause":"5"}]`, `[{"pause":[5]}]`, `[{"pause":{"pause":5}}]`, `[["pause",5]]`,
		`[10,101]`, `[101,10]`, `[10,{"pause":5},{},50]`, `[1,2,3,4,5,6,7,-1]`,
	} {
		t.Run("steps "+s, func(t *testing.T) { refused(t, of(t, `{"image":"x","steps":`+s+`}`)) })
	}
}

func TestReadOfWrongValues(t *testing.T) { // P6.2
	image := text("x")
	l := make([]api.Value, 1)
	l[0] = object("image l", image, api.Value{Kind: api.List, L: l})
	many := object("image l", image, api.Value{Kind: api.List, L: make([]api.Value, api.MaxCount)})
	for i, v := range []api.Value{
		object("image image", image, image), object("steps image", api.Value{Kind: api.List}, image),
		object("image", text("\x80")), object("image", text(strings.Repeat("x", api.MaxText+1))),
		object("image", api.Value{Kind: api.Text, S: "x", N: 1}), object("a image", api.Value{Kind: 9}, image),
		{Kind: api.Object, Keys: []string{"image"}}, {Kind: api.Object, Keys: []string{"image", "steps"}, L: []api.Value{image}},
		{Kind: api.List, Keys: []string{"image"}, L: []api.Value{image}}, {Keys: []string{"image"}, L: []api.Value{image}},
		{Kind: api.Object, N: 1, Keys: []string{"image"}, L: []api.Value{image}},
		object("image steps", image, api.Value{Kind: api.List, L: []api.Value{{Kind: api.Number, N: 5, S: "5"}}}),
		object("image steps", image, api.Value{Kind: api.List, L: []api.Value{object("pause pause", number(5), number(5))}}),
		many, l[0],
	} {
		t.Run(strconv.Itoa(i), func(t *testing.T) { refused(t, v) })
	}
}

func TestReadLeavesTheValue(t *testing.T) { // P6.2: what is handed in is not changed, its spare room neither
	room := []api.Value{number(10), object("pause", number(5)), number(77)}
	v := object("image steps", text("y"), api.Value{Kind: api.List, L: room[:2]})
	got, e := stage.Read(v)
	if len(got.Steps) != 2 || e != api.OK {
		t.Fatalf("%+v, %d", got, e)
	}
	got.Steps[0].Weight = 99
	if room[0].N != 10 || room[1].L[0].N != 5 || room[2].N != 77 {
		t.Errorf("%+v", room)
	}
	if again, _ := stage.Read(v); again.Steps[0] != to(10) {
		t.Errorf("%+v", again)
	}
}
