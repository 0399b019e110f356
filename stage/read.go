package stage

import (
	"stairwell/api"
	"stairwell/json"
)

// Read is the spec that a value tells: its members image and steps.
func Read(v api.Value) (api.Spec, api.Errno) {
	if !json.Good(v) {
		return api.Spec{}, api.ErrForm
	}
	image, there := json.Member(v, "image")
	if !there || image.Kind != api.Text || image.S == "" {
		return api.Spec{}, api.ErrForm
	}
	l, there := json.Member(v, "steps")
	if !there {
		return api.Spec{Image: image.S}, api.OK
	}
	steps, ok := readSteps(l)
	if !ok {
		return api.Spec{}, api.ErrForm
	}
	return api.Spec{Image: image.S, Steps: steps}, api.OK
}

func readSteps(v api.Value) ([]api.Step, bool) {
	if v.Kind != api.List || len(v.L) > api.MaxSteps {
		return nil, false
	}
	steps := make([]api.Step, len(v.L))
	for i, x := range v.L {
		step, ok := readStep(x)
		if !ok {
			return nil, false
		}
		steps[i] = step
	}
	return steps, true
}

func readStep(v api.Value) (api.Step, bool) {
	if v.Kind == api.Number {
		return api.Step{Weight: v.N}, isWeight(v.N)
	}
	long, there := json.Member(v, "pause")
	return api.Step{Weight: pause, Pause: long.N}, there && long.Kind == api.Number && isTime(long.N)
}
