package stage_test

import (
	"math"
	"slices"
	"testing"

	"stairwell/api"
	"stairwell/stage"
)

var orders = []int{api.Go, api.Resume, api.Promote, api.Abort}

func next(t *testing.T, spec api.Spec, s api.Status, now, order int, want api.Status) {
	t.Helper()
	got, e := stage.Next(spec, s, now, order)
	if got != want || e != api.OK || !stage.Good(got) {
		t.Errorf("%+v, %+v, at %d, order %d: %+v, %d", spec, s, now, order, got, e)
	}
}

func TestNextRefuses(t *testing.T) { // P6.4: in the order that the chapter names them, and the status as it was
	spec, s := rollout("y", to(10), wait(0)), all("x")
	refuses := func(spec api.Spec, s api.Status, now, order int, want api.Errno) {
		t.Helper()
		if got, e := stage.Next(spec, s, now, order); got != s || e != want {
			t.Errorf("%+v, %+v, at %d, order %d: %+v, %d", spec, s, now, order, got, e)
		}
	}
	for _, wrong := range wrongSpecs() {
		refuses(wrong, s, 0, api.Go, api.ErrForm)
		refuses(wrong, s, -1, 9, api.ErrForm)
		refuses(wrong, waits(1, 10, 3), 0, 4, api.ErrForm)
	}
	for _, wrong := range wrongStatuses() {
		refuses(spec, wrong, 0, api.Go, api.ErrForm)
		refuses(spec, wrong, -1, 9, api.ErrForm)
		refuses(rollout("x"), wrong, 0, api.Promote, api.ErrForm)
	}
	for _, now := range []int{-1, api.MaxTime + 1, math.MinInt, math.MaxInt} {
		for _, s := range []api.Status{all("x"), all("y"), stopped(), waits(1, 10, 3), going(2, 10)} {
			refuses(spec, s, now, api.Go, api.ErrRange)
			refuses(spec, s, now, 4, api.ErrRange)
			refuses(spec, s, now, api.Promote, api.ErrRange)
		}
	}
	for _, order := range []int{-1, 4, math.MinInt, math.MaxInt} {
		for _, s := range []api.Status{all("x"), all("y"), stopped(), waits(1, 10, 3), going(2, 10)} {
			refuses(spec, s, 0, order, api.ErrKind)
			refuses(rollout("x"), s, api.MaxTime, order, api.ErrKind)
		}
	}
}

func TestNextOfStableImage(t *testing.T) { // P6.4: back to what is stable, whatever the order is
	back := rollout("x", to(10), wait(0))
	for _, order := range orders {
		for _, s := range []api.Status{all("x"), stopped(), going(0, 0), going(2, 50), waits(1, 10, 3)} {
			next(t, back, s, 5, order, all("x"))
		}
	}
}

func TestNextOfAnotherImage(t *testing.T) { // P6.4: it comes from its first step on, in place of what came
	other := rollout("z", wait(0), to(10))
	coming := api.Status{Stable: "x", Comes: "z", Phase: api.Paused, Since: 5}
	for _, s := range []api.Status{all("x"), stopped(), going(1, 50), waits(1, 70, 3)} {
		next(t, other, s, 5, api.Go, coming)
		next(t, other, s, 5, api.Resume, coming)
		next(t, other, s, 5, api.Promote, all("z"))
		next(t, other, s, 5, api.Abort, api.Status{Stable: "x", Comes: "z", Phase: api.Aborted})
		next(t, rollout("z"), s, 5, api.Go, all("z"))
		next(t, rollout("z"), s, 5, api.Abort, api.Status{Stable: "x", Comes: "z", Phase: api.Aborted})
	}
}

func TestNextStays(t *testing.T) { // P6.4: Healthy and Aborted
	for _, order := range orders {
		for _, spec := range []api.Spec{rollout("y"), rollout("y", to(10), wait(0)), rollout("y", wait(3))} {
			next(t, spec, all("y"), 5, order, all("y"))
			next(t, spec, stopped(), 5, order, stopped())
		}
	}
}

func TestNextPromoteAndAbort(t *testing.T) { // P6.4
	for _, spec := range []api.Spec{rollout("y"), rollout("y", to(10), wait(0), to(20), wait(0)), rollout("y", wait(3))} {
		for _, s := range []api.Status{going(0, 0), going(1, 10), waits(0, 0, 0), waits(1, 10, 3), waits(8, 100, 3)} {
			next(t, spec, s, 3, api.Promote, all("y"))
			next(t, spec, s, 3, api.Abort, stopped())
		}
	}
}

func TestNextStepByStep(t *testing.T) { // P6.5
	spec := rollout("y", to(10), wait(5), to(50), wait(0), to(80))
	s := all("x")
	for i, c := range []struct {
		now, order int
		want       api.Status
	}{
		{3, api.Go, waits(1, 10, 3)},
		{3, api.Go, waits(1, 10, 3)},
		{7, api.Go, waits(1, 10, 3)},
		{8, api.Go, waits(3, 50, 8)},
		{99, api.Go, waits(3, 50, 8)},
		{api.MaxTime, api.Go, waits(3, 50, 8)},
		{99, api.Resume, all("y")},
		{99, api.Resume, all("y")},
	} {
		var e api.Errno
		if s, e = stage.Next(spec, s, c.now, c.order); s != c.want || e != api.OK || !stage.Good(s) {
			t.Errorf("%d: %+v, %d", i, s, e)
		}
	}
}

func TestNextWeights(t *testing.T) { // P6.5
	next(t, rollout("y"), all("x"), 5, api.Go, all("y"))
	next(t, rollout("y", to(10), to(0), to(70)), all("x"), 5, api.Go, all("y"))
	next(t, rollout("y", to(10), to(70), wait(1)), all("x"), 5, api.Go, waits(2, 70, 5))
	next(t, rollout("y", to(70), to(10), wait(1)), going(0, 0), 5, api.Resume, waits(2, 10, 5))
	next(t, rollout("y", to(70), to(10), wait(1)), going(2, 33), 5, api.Go, waits(2, 33, 5))
	next(t, rollout("y", to(70), to(0), wait(1)), going(1, 33), 5, api.Go, waits(2, 0, 5))
	next(t, rollout("y", to(1), to(2), to(3), to(4), to(5), to(6), to(7), wait(0)), all("x"), 5, api.Go, waits(7, 7, 5))
}

func TestNextPauses(t *testing.T) { // P6.5
	const most = api.MaxTime
	for _, c := range []struct {
		long, since, now int
		over             bool
	}{
		{0, 0, 0, false}, {0, 3, 3, false}, {0, 0, most, false},
		{1, 3, 3, false}, {1, 3, 4, true}, {1, 3, 5, true},
		{5, 3, 7, false}, {5, 3, 8, true}, {5, 3, 9, true}, {5, 0, 4, false}, {5, 0, 5, true},
		{most, 0, most - 1, false}, {most, 0, most, true}, {most, 1, most, false},
		{5, 9, 3, false}, {1, most, 0, false}, {most, most, 0, false}, // what began later than now is not over
	} {
		spec, s := rollout("y", to(1), wait(c.long), to(20), wait(0)), waits(1, 10, c.since)
		want := s
		if c.over {
			want = waits(3, 20, c.now)
		}
		next(t, spec, s, c.now, api.Go, want)
		next(t, spec, s, c.now, api.Resume, waits(3, 20, c.now))
	}
}

func TestNextResumesOnce(t *testing.T) { // P6.5: out of one pause, and of none that begins only now
	spec := rollout("y", wait(0), wait(0), wait(2), wait(0))
	next(t, spec, all("x"), 5, api.Resume, waits(0, 0, 5))
	next(t, spec, going(0, 0), 5, api.Resume, waits(0, 0, 5))
	next(t, spec, going(1, 30), 5, api.Resume, waits(1, 30, 5))
	next(t, spec, waits(0, 0, 5), 6, api.Resume, waits(1, 0, 6))
	next(t, spec, waits(1, 0, 6), 6, api.Resume, waits(2, 0, 6))
	next(t, spec, waits(2, 0, 6), 6, api.Resume, waits(3, 0, 6))
	next(t, spec, waits(2, 0, 6), 50, api.Go, waits(3, 0, 50))
	next(t, spec, waits(3, 0, 6), 6, api.Resume, all("y"))
	next(t, rollout("y", wait(1), wait(1)), waits(0, 0, 0), 9, api.Go, waits(1, 0, 9)) // the next one begins now
}

func TestNextOfOtherSteps(t *testing.T) { // P6.5: the steps are others than those that it came by
	for _, order := range []int{api.Go, api.Resume} {
		next(t, rollout("y", to(5)), waits(1, 10, 3), 5, order, all("y"))
		next(t, rollout("y"), waits(8, 10, 3), 5, order, all("y"))
		next(t, rollout("y"), going(0, 10), 5, order, all("y"))
		next(t, rollout("y", wait(0)), going(8, 10), 5, order, all("y"))
		next(t, rollout("y", wait(0)), going(1, 10), 5, order, all("y"))
		next(t, rollout("y", to(1), to(5), wait(0)), waits(1, 10, 3), 5, order, waits(2, 5, 5))
	}
}

// nextByTheWords is Next once more, as the chapter says it, of good ones.
func nextByTheWords(spec api.Spec, s api.Status, now, order int) api.Status {
	if spec.Image != s.Comes && spec.Image == s.Stable {
		return all(spec.Image)
	}
	if spec.Image != s.Comes {
		s.Comes, s.Phase, s.Step, s.Weight, s.Since = spec.Image, api.Progressing, 0, 0, 0
	}
	if s.Phase == api.Healthy || s.Phase == api.Aborted {
		return s
	}
	if order == api.Promote {
		return all(s.Comes)
	}
	if order == api.Abort {
		s.Phase, s.Step, s.Weight, s.Since = api.Aborted, 0, 0, 0
		return s
	}
	for i, step := range spec.Steps {
		if i < s.Step {
			continue
		}
		if step.Weight >= 0 {
			s.Weight = step.Weight
		} else if s.Phase == api.Progressing {
			s.Phase, s.Since = api.Paused, now
			return s
		} else if order == api.Resume {
			order = api.Go
		} else if step.Pause == 0 || s.Since+step.Pause > now {
			return s
		}
		s.Phase, s.Since, s.Step = api.Progressing, 0, s.Step+1
	}
	return all(s.Comes)
}

func TestNextByTheWords(t *testing.T) { // P6.4, P6.5
	statuses := []api.Status{all("x"), all("y"), stopped()}
	for step := range 5 {
		for _, since := range []int{0, 1, 3} {
			statuses = append(statuses, waits(step, 33, since))
		}
		statuses = append(statuses, going(step, 33))
	}
	kinds := []api.Step{to(0), to(40), wait(0), wait(1), wait(2)}
	try := func(steps []api.Step) {
		for _, image := range []string{"x", "y", "z"} {
			for _, s := range statuses {
				for now := range 5 {
					for _, order := range orders {
						spec := api.Spec{Image: image, Steps: steps}
						next(t, spec, s, now, order, nextByTheWords(spec, s, now, order))
					}
				}
			}
		}
	}
	var longer func(steps []api.Step)
	longer = func(steps []api.Step) {
		try(steps)
		if len(steps) == 3 {
			return
		}
		for _, kind := range kinds {
			longer(append(slices.Clone(steps), kind))
		}
	}
	longer(nil)
}

func TestNextLeavesTheSteps(t *testing.T) { // P6.5: what is handed in is not changed, its spare room neither
	room := []api.Step{to(10), wait(5), to(50), to(77), wait(3)}
	was := slices.Clone(room)
	for _, order := range orders {
		for _, s := range []api.Status{all("x"), stopped(), going(0, 0), waits(1, 10, 3)} {
			if _, e := stage.Next(api.Spec{Image: "y", Steps: room[:3]}, s, 9, order); e != api.OK || !slices.Equal(room, was) {
				t.Errorf("%+v, %d", room, e)
			}
		}
	}
}
