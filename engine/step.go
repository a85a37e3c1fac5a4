package engine

import (
	"slices"

	"beadle/api"
	"beadle/duty"
	"beadle/monitor"
	"beadle/policy"
	"beadle/session"
	"beadle/update"
)

// step is an event that is taken: its time, who has to look again, and what is told of it.
type step struct {
	*Engine
	at     int64
	marked [api.MaxIds]bool
	told   []api.Verdict
}

// tell puts a verdict behind the others.
func (s *step) tell(id int, kind int, code api.Errno) {
	s.told = append(s.told, api.Verdict{Id: id, Kind: kind, Code: code})
}

// mark marks all open sessions that fit.
func (s *step) mark(fits func(*session.Session) bool) {
	for _, id := range s.Open() {
		if fits(s.slots[id].session) {
			s.marked[id] = true
		}
	}
}

// readers marks all who read what a session's updates set.
func (s *step) readers(id int, l []api.Update) {
	x := monitor.Moment{Subject: s.slots[id].subject, Object: s.slots[id].object}
	for _, pair := range update.Touched(l, x) {
		s.mark(func(x *session.Session) bool { return x.Reads(pair[0], pair[1]) })
	}
}

// expire lets duties be violated, and revokes whose have to be kept.
func (s *step) expire() {
	for _, x := range s.duties.Expire(s.at) {
		if x.Keep && s.slots[x.Id].state == isOpen {
			s.revoke(x.Id, api.ErrLate)
		}
	}
}

// happen does what the event itself asks for.
func (s *step) happen(e api.Event) {
	switch e.Kind {
	case try:
		s.try(e)
	case use:
		if s.slots[e.Id].state == isOpen {
			s.use(e)
		}
	case end:
		if s.slots[e.Id].state == isOpen {
			s.shut(e.Id, isEnded)
			s.tell(e.Id, ended, api.OK)
		}
	case set:
		s.store.Set(e.Subject, e.Name, e.Value)
		s.mark(func(x *session.Session) bool { return x.Reads(e.Subject, e.Name) })
	case tick:
		s.mark(func(*session.Session) bool { return true })
	}
}

// try lets somebody begin, or denies it.
func (s *step) try(e api.Event) {
	r, _ := policy.Find(s.policy, e.Name)
	instances, ok := s.instances(e.Id, r, "")
	if !ok {
		s.deny(e.Id, api.ErrOver)
		return
	}
	x, after, err := session.Open(s.store, r, e.Id, e.Subject, e.Object, s.at)
	if err != api.OK {
		s.deny(e.Id, err)
		return
	}
	s.store = after
	s.slots[e.Id] = slot{state: isOpen, session: x, right: r, subject: e.Subject, object: e.Object}
	s.tell(e.Id, granted, api.OK)
	s.add(instances)
	s.marked[e.Id] = true
	s.readers(e.Id, r.Before)
}

// deny notes that somebody may not begin.
func (s *step) deny(id int, code api.Errno) {
	s.slots[id] = slot{state: isDenied}
	s.tell(id, denied, code)
}

// instances tells those of a right's duties that begin with an act, or with the grant; false, if a Due is too great.
func (s *step) instances(id int, r api.Right, on string) ([]duty.Instance, bool) {
	var l []duty.Instance
	for place, d := range r.Duties {
		if d.On != on {
			continue
		}
		due, ok := duty.Due(s.at, d.Within)
		if !ok {
			return nil, false
		}
		l = append(l, duty.Instance{Id: id, Place: place, Act: d.Act, Due: due, Keep: d.Keep})
	}
	return l, true
}

// add puts instances behind the others.
func (s *step) add(l []duty.Instance) {
	for _, x := range l {
		s.duties.Add(x)
	}
}

// use lets somebody who is open do something, or revokes the session.
func (s *step) use(e api.Event) {
	here := s.slots[e.Id]
	s.duties.Fulfil(e.Id, e.Name, s.at)
	if err := here.session.Look(s.store, s.at, e.Name); err != api.OK {
		s.revoke(e.Id, err)
		return
	}
	instances, ok := s.instances(e.Id, here.right, e.Name)
	if !ok {
		s.revoke(e.Id, api.ErrOver)
		return
	}
	s.add(instances)
	// Without updates the store would be copied for nothing, at each use.
	if len(here.right.During) > 0 {
		after, err := here.session.Use(s.store, s.at, e.Name)
		if err != api.OK {
			s.revoke(e.Id, err)
			return
		}
		s.store = after
	}
	s.tell(e.Id, goesOn, api.OK)
	s.readers(e.Id, here.right.During)
}

// revoke takes back what was granted.
func (s *step) revoke(id int, code api.Errno) {
	s.shut(id, isRevoked)
	s.tell(id, revoked, code)
}

// shut closes an open session: what it still had to do is void, and whoever reads what its end sets has to look.
func (s *step) shut(id int, state int) {
	here := s.slots[id]
	s.store = here.session.Close(s.store, s.at, state)
	s.duties.Void(id)
	s.slots[id].state = state
	s.readers(id, here.right.After)
	s.slots[id] = slot{state: state}
}

// settle lets all who are marked look, again and again, till none is.
func (s *step) settle() {
	for slices.Contains(s.marked[:], true) {
		for id := range s.marked {
			if !s.marked[id] {
				continue
			}
			s.marked[id] = false
			s.look(id)
		}
	}
}

// look lets a session look, if it is open still, and revokes it, if something speaks against it.
func (s *step) look(id int) {
	if s.slots[id].state != isOpen {
		return
	}
	if err := s.slots[id].session.Look(s.store, s.at, ""); err != api.OK {
		s.revoke(id, err)
	}
}
