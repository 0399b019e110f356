package stage

import "stairwell/api"

// Next is a status behind an order, at a time: as many steps as go without waiting.
func Next(spec api.Spec, s api.Status, now, order int) (api.Status, api.Errno) {
	switch {
	case !GoodSpec(spec) || !Good(s):
		return s, api.ErrForm
	case !isTime(now):
		return s, api.ErrRange
	case order < api.Go || order > api.Abort:
		return s, api.ErrKind
	}
	if spec.Image != s.Comes {
		if spec.Image == s.Stable {
			return healthy(s.Stable), api.OK
		}
		s = begun(s.Stable, spec.Image)
	}
	switch {
	case s.Phase == api.Healthy || s.Phase == api.Aborted:
		return s, api.OK
	case order == api.Promote:
		return healthy(s.Comes), api.OK
	case order == api.Abort:
		return aborted(s.Stable, s.Comes), api.OK
	}
	return roll(spec.Steps, s, now, order == api.Resume), api.OK
}

// roll goes on from a status step by step, till there is something to wait for.
// To resume is out of one pause at most, for behind it the status is no longer
// Paused, and the next pause is the end. The status may stand behind the last
// step: the steps may be others than those that it came by.
func roll(steps []api.Step, s api.Status, now int, resume bool) api.Status {
	for s.Step < len(steps) {
		step := steps[s.Step]
		switch {
		case step.Weight != pause:
			s.Weight = step.Weight
		case s.Phase != api.Paused:
			s.Phase, s.Since = api.Paused, now
			return s
		case !resume && (step.Pause == 0 || now-s.Since < step.Pause):
			return s
		}
		s.Phase, s.Since = api.Progressing, 0
		s.Step++
	}
	return healthy(s.Comes)
}
