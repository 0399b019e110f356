package stage_test

import (
	"math"
	"strings"
	"testing"

	"stairwell/api"
	"stairwell/stage"
)

func TestGoodStep(t *testing.T) { // P6.1
	for _, s := range []api.Step{
		to(0), to(1), to(50), to(99), to(100),
		wait(0), wait(1), wait(100), wait(101), wait(api.MaxTime - 1), wait(api.MaxTime),
	} {
		if !stage.GoodStep(s) {
			t.Errorf("not good: %+v", s)
		}
	}
	for _, s := range []api.Step{
		to(-2), to(-100), to(101), to(math.MinInt), to(math.MaxInt),
		wait(-1), wait(api.MaxTime + 1), wait(math.MinInt), wait(math.MaxInt),
		{Weight: 0, Pause: 1}, {Weight: 0, Pause: -1}, {Weight: 100, Pause: 1}, {Weight: 10, Pause: api.MaxTime},
		{Weight: -2, Pause: 1}, {Weight: 101, Pause: 1},
	} {
		if stage.GoodStep(s) {
			t.Errorf("good: %+v", s)
		}
	}
}

func TestGoodSpec(t *testing.T) { // P6.1
	most := make([]api.Step, api.MaxSteps)
	for i := range most {
		most[i] = wait(i)
	}
	for _, s := range []api.Spec{
		rollout("y"), {Image: "y", Steps: []api.Step{}}, rollout("y", to(10), wait(5), to(50), wait(0), to(80)),
		rollout("y", to(50), to(10), to(10)), rollout("y", wait(0), wait(0)), rollout("y", most...),
		rollout(strings.Repeat("x", api.MaxText)), rollout(" "), rollout("\x00\x80\xff"),
	} {
		if !stage.GoodSpec(s) {
			t.Errorf("not good: %+v", s)
		}
	}
	for _, s := range wrongSpecs() {
		if stage.GoodSpec(s) {
			t.Errorf("good: %+v", s)
		}
	}
	for i := range most { // a wrong step wherever it stands
		was := most[i]
		most[i] = api.Step{Weight: 1, Pause: 1}
		if stage.GoodSpec(rollout("y", most...)) {
			t.Errorf("good with a wrong step %d", i)
		}
		most[i] = was
	}
}

func TestGood(t *testing.T) { // P6.3
	long := strings.Repeat("x", api.MaxText+1)
	for _, s := range []api.Status{
		all("x"), all("\xff"), all(long), stopped(), going(0, 0), going(0, 100), going(3, 7), going(api.MaxSteps, 100),
		waits(0, 0, 0), waits(1, 10, 3), waits(api.MaxSteps, 100, api.MaxTime),
		{Stable: long, Comes: "y", Phase: api.Aborted}, {Stable: "x", Comes: "X", Phase: api.Paused},
	} {
		if !stage.Good(s) {
			t.Errorf("not good: %+v", s)
		}
	}
	for _, s := range wrongStatuses() {
		if stage.Good(s) {
			t.Errorf("good: %+v", s)
		}
	}
}

// goodByTheWords is Good once more, as the chapter says it.
func goodByTheWords(s api.Status) bool {
	if s.Stable == "" || s.Comes == "" || (s.Stable == s.Comes) != (s.Phase == api.Healthy) {
		return false
	}
	if s.Phase != api.Healthy && s.Phase != api.Progressing && s.Phase != api.Paused && s.Phase != api.Aborted {
		return false
	}
	if s.Step < 0 || s.Step > api.MaxSteps || s.Weight < 0 || s.Weight > 100 || s.Since < 0 || s.Since > api.MaxTime {
		return false
	}
	if s.Since != 0 && s.Phase != api.Paused {
		return false
	}
	if s.Phase == api.Healthy && (s.Step != 0 || s.Weight != 100) {
		return false
	}
	return s.Phase != api.Aborted || s.Step == 0 && s.Weight == 0
}

func TestGoodByTheWords(t *testing.T) { // P6.3
	images := []string{"", "x", "y"}
	many := 0
	for at := range 9 {
		for _, phase := range []int{math.MinInt, -1, 0, 1, 2, 3, 4, 5, math.MaxInt} {
			for _, step := range []int{math.MinInt, -1, 0, 1, api.MaxSteps, api.MaxSteps + 1, math.MaxInt} {
				for _, weight := range []int{math.MinInt, -1, 0, 1, 99, 100, 101, math.MaxInt} {
					for _, since := range []int{math.MinInt, -1, 0, 1, api.MaxTime, api.MaxTime + 1, math.MaxInt} {
						s := api.Status{Stable: images[at/3], Comes: images[at%3], Phase: phase, Step: step, Weight: weight, Since: since}
						want := goodByTheWords(s)
						if got := stage.Good(s); got != want {
							t.Errorf("%+v: %v", s, got)
						}
						if want {
							many++
						}
					}
				}
			}
		}
	}
	if many != 100 { // 2 Healthy, 2 Aborted, 2*3*4 Progressing, 2*3*4*3 Paused
		t.Errorf("%d are good", many)
	}
}

func TestFirst(t *testing.T) { // P6.3
	for _, s := range []api.Spec{
		rollout("x"), rollout("y", to(10), wait(0)), rollout("\xff"), rollout(strings.Repeat("x", api.MaxText)),
	} {
		got, e := stage.First(s)
		if got != all(s.Image) || e != api.OK || !stage.Good(got) {
			t.Errorf("%+v: %+v, %d", s, got, e)
		}
	}
	for _, s := range wrongSpecs() {
		if got, e := stage.First(s); got != (api.Status{}) || e != api.ErrForm {
			t.Errorf("%+v: %+v, %d", s, got, e)
		}
	}
}
