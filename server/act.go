package server

import (
	"slices"

	"stairwell/api"
	"stairwell/json"
	"stairwell/stage"
)

// tick is time that goes on, for all things.
func (s *Server) tick(n int) api.Reply {
	if n < 1 || n > api.MaxTime-s.time {
		return refused(api.ErrRange)
	}
	s.time += n
	for i, t := range s.things {
		s.things[i].Status, _ = s.next(t, api.Go)
	}
	return api.Reply{}
}

// next is a thing's status behind an order.
func (s *Server) next(t api.Thing, order int) (api.Status, api.Errno) {
	// Of what is kept each value tells a spec.
	spec, _ := stage.Read(t.Value)
	return stage.Next(spec, t.Status, s.time, order)
}

// named is what comes of an act on the thing of its name.
func (s *Server) named(a api.Act) api.Reply {
	i, there := find(s.things, a.Name)
	if e := s.barred(a.Kind, there); e != api.OK {
		return refused(e)
	}
	switch a.Kind {
	case api.ActDelete:
		return s.remove(i)
	case api.ActOrder:
		return s.order(i, a.Order)
	case api.ActGet:
		return told(s.things[i])
	}
	if !there {
		return s.begin(i, a)
	}
	return s.change(i, a)
}

// barred is why an act cannot be done on a thing that is there, or is not.
func (s *Server) barred(kind int, there bool) api.Errno {
	begins := kind == api.ActCreate || kind == api.ActApply && !there
	switch {
	case begins && there:
		return api.ErrTwice
	case begins && len(s.things) == api.MaxThings:
		return api.ErrFull
	case !begins && !there:
		return api.ErrNone
	}
	return api.OK
}

func (s *Server) remove(i int) api.Reply {
	n := s.things[i].Version
	s.things = slices.Delete(s.things, i, i+1)
	return api.Reply{N: n}
}

func (s *Server) order(i, order int) api.Reply {
	status, e := s.next(s.things[i], order)
	if e != api.OK {
		return refused(e)
	}
	s.things[i].Status = status
	return api.Reply{N: status.Phase}
}

func told(t api.Thing) api.Reply {
	body, e := json.Print(t.Value)
	if e != api.OK {
		return refused(e)
	}
	return api.Reply{N: t.Version, Body: body}
}

// begin puts in a new thing, at its place.
func (s *Server) begin(i int, a api.Act) api.Reply {
	empty := api.Thing{Name: a.Name, Value: api.Value{Kind: api.Object}}
	t, e := s.written(empty, a)
	if e != api.OK {
		return refused(e)
	}
	s.things = slices.Insert(s.things, i, t)
	return api.Reply{N: t.Version}
}

func (s *Server) change(i int, a api.Act) api.Reply {
	// What somebody applies is held against whose is what, not against a version.
	if a.Kind != api.ActApply && a.Version != 0 && a.Version != s.things[i].Version {
		return refused(api.ErrOld)
	}
	t, e := s.written(s.things[i], a)
	if e != api.OK {
		return refused(e)
	}
	s.things[i] = t
	return api.Reply{N: t.Version}
}
