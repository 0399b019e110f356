package stage_test

import (
	"strings"
	"testing"

	"stairwell/api"
	"stairwell/json"
)

func number(n int) api.Value  { return api.Value{Kind: api.Number, N: n} }
func text(s string) api.Value { return api.Value{Kind: api.Text, S: s} }

// object is one of keys, parted by spaces, and their values.
func object(keys string, l ...api.Value) api.Value {
	return api.Value{Kind: api.Object, Keys: strings.Fields(keys), L: l}
}

// of is the value that a text tells.
func of(t *testing.T, s string) api.Value {
	t.Helper()
	v, e := json.Parse(s)
	if e != api.OK {
		t.Fatalf("%s tells nothing: %d", s, e)
	}
	return v
}

// to is a step to a weight, wait one that is a pause.
func to(weight int) api.Step { return api.Step{Weight: weight} }
func wait(long int) api.Step { return api.Step{Weight: -1, Pause: long} }

// rollout is a spec of an image and its steps.
func rollout(image string, steps ...api.Step) api.Spec {
	return api.Spec{Image: image, Steps: steps}
}

// all is the status of an image that is all there is.
func all(image string) api.Status {
	return api.Status{Stable: image, Comes: image, Phase: api.Healthy, Weight: 100}
}

// The statuses of a rollout from x to y.
func going(step, weight int) api.Status {
	return api.Status{Stable: "x", Comes: "y", Phase: api.Progressing, Step: step, Weight: weight}
}

func waits(step, weight, since int) api.Status {
	return api.Status{Stable: "x", Comes: "y", Phase: api.Paused, Step: step, Weight: weight, Since: since}
}

func stopped() api.Status {
	return api.Status{Stable: "x", Comes: "y", Phase: api.Aborted}
}

// wrongSpecs are some specs that are not good.
func wrongSpecs() []api.Spec {
	return []api.Spec{
		{}, rollout(""), rollout("", to(1)), rollout(strings.Repeat("x", api.MaxText+1)),
		rollout("y", make([]api.Step, api.MaxSteps+1)...), rollout("y", to(101)), rollout("y", to(1), to(-2)),
		rollout("y", to(0), wait(-1)), rollout("y", wait(api.MaxTime+1), to(0)), rollout("y", api.Step{Weight: 5, Pause: 1}),
	}
}

// wrongStatuses are some statuses that are not good.
func wrongStatuses() []api.Status {
	return []api.Status{
		{}, {Phase: api.Healthy, Weight: 100}, {Comes: "x", Phase: api.Progressing}, {Stable: "x", Phase: api.Progressing},
		{Stable: "x", Comes: "y"}, {Stable: "x", Comes: "y", Phase: 5}, {Stable: "x", Comes: "y", Phase: -1},
		{Stable: "x", Comes: "x", Phase: api.Progressing}, {Stable: "x", Comes: "y", Phase: api.Healthy, Weight: 100},
		going(-1, 0), going(api.MaxSteps+1, 0), going(0, -1), going(0, 101), waits(0, 0, -1), waits(0, 0, api.MaxTime+1),
	}
}
