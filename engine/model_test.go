package engine_test

import (
	"math/rand"
	"slices"
	"testing"

	"beadle/api"
	"beadle/bound"
	"beadle/duty"
	"beadle/monitor"
	"beadle/policy"
	"beadle/store"
	"beadle/truth"
	"beadle/update"
	"beadle/value"
)

// user is a session of the model: all its moments are kept.
type user struct {
	state           int
	r               api.Right
	subject, object string
	points          []truth.Point
	marked          bool
}

// model tells by the policy's words, and by all that was, what an engine should.
type model struct {
	p      api.Policy
	s      *store.Store
	users  [64]*user
	duties []duty.Instance
	now    int64
	told   []api.Verdict
}

func (m *model) tell(id, kind int, code api.Errno) {
	m.told = append(m.told, api.Verdict{Id: id, Kind: kind, Code: code})
}

// look asks a session's On by all points up to now.
func (m *model) look(id int, act string) api.Errno {
	u := m.users[id]
	u.points = append(u.points, truth.Point{Moment: monitor.Moment{At: m.now, Act: act, Subject: u.subject, Object: u.object}, Store: m.s.Clone()})
	v, err := truth.Eval(u.r.On, u.points)
	if err == api.OK && v.N == 0 {
		return api.ErrDenied
	}
	return err
}

// wrote marks all open ones whose On reads what was set.
func (m *model) wrote(id int, l []api.Update) {
	u := m.users[id]
	for _, x := range l {
		entity := u.object
		if x.Side == api.Subject {
			entity = u.subject
		}
		m.mark(entity, x.Name)
	}
}

func (m *model) mark(entity, name string) {
	for _, u := range m.users {
		if u != nil && u.state == 1 && readsOf(u.r.On, u, entity, name) {
			u.marked = true
		}
	}
}

func readsOf(e api.Expr, u *user, entity, name string) bool {
	if e.Kind == api.Subject && e.Name == name && u.subject == entity || e.Kind == api.Object && e.Name == name && u.object == entity {
		return true
	}
	return slices.ContainsFunc(e.Kids, func(k api.Expr) bool { return readsOf(k, u, entity, name) })
}

// apply applies updates, all or none.
func (m *model) apply(id int, l []api.Update, act string) api.Errno {
	u := m.users[id]
	s, err := update.Apply(m.s, l, monitor.Moment{At: m.now, Act: act, Subject: u.subject, Object: u.object})
	if err == api.OK {
		m.s = s
	}
	return err
}

func (m *model) shut(id, state int) {
	m.users[id].state = state
	m.apply(id, m.users[id].r.After, "")
	for i := range m.duties {
		if m.duties[i].Id == id && m.duties[i].State == 1 {
			m.duties[i].State = 4
		}
	}
	m.wrote(id, m.users[id].r.After)
}

func (m *model) revoke(id int, code api.Errno) {
	m.shut(id, 3)
	m.tell(id, 4, code)
}

// begin makes instances of the duties that begin with on; false, if a Due is too great.
func (m *model) begin(id int, on string) bool {
	var l []duty.Instance
	for place, d := range m.users[id].r.Duties {
		if d.On == on {
			if m.now > most-d.Within {
				return false
			}
			l = append(l, duty.Instance{Id: id, Place: place, Act: d.Act, Due: m.now + d.Within, Keep: d.Keep, State: 1})
		}
	}
	m.duties = append(m.duties, l...)
	return true
}

func (m *model) try(e api.Event) {
	u := &user{subject: e.Subject, object: e.Object, state: 2}
	for _, r := range m.p.Rights {
		if r.Name == e.Name {
			u.r = r
		}
	}
	m.users[e.Id] = u
	code := api.OK
	if !m.begin(e.Id, "") {
		code = api.ErrOver
	} else {
		n := len(m.duties)
		now := monitor.Moment{At: m.now, Subject: u.subject, Object: u.object}
		v, err := truth.Eval(u.r.Pre, []truth.Point{{Moment: now, Store: m.s}})
		if code = err; code == api.OK && v.N == 0 {
			code = api.ErrDenied
		}
		if code == api.OK {
			code = m.apply(e.Id, u.r.Before, "")
		}
		if code != api.OK {
			begun := 0
			for _, d := range u.r.Duties {
				if d.On == "" {
					begun++
				}
			}
			m.duties = m.duties[:n-begun]
		}
	}
	if code != api.OK {
		m.tell(e.Id, 2, code)
		return
	}
	u.state = 1
	m.tell(e.Id, 1, api.OK)
	u.marked = true
	m.wrote(e.Id, u.r.Before)
}

func (m *model) use(e api.Event) {
	for i, d := range m.duties {
		if d.Id == e.Id && d.Act == e.Name && d.State == 1 && d.Due >= m.now {
			m.duties[i].State = 2
		}
	}
	code := m.look(e.Id, e.Name)
	if code == api.OK && !m.begin(e.Id, e.Name) {
		code = api.ErrOver
	}
	if code == api.OK {
		code = m.apply(e.Id, m.users[e.Id].r.During, e.Name)
	}
	if code != api.OK {
		m.revoke(e.Id, code)
		return
	}
	m.tell(e.Id, 3, api.OK)
	m.wrote(e.Id, m.users[e.Id].r.During)
}

// step takes an event that is not refused.
func (m *model) step(e api.Event) []api.Verdict {
	m.told, m.now = nil, e.At
	var late []int
	for i, d := range m.duties {
		if d.State == 1 && d.Due < e.At {
			m.duties[i].State = 3
			if d.Keep {
				late = append(late, d.Id)
			}
		}
	}
	for _, id := range late {
		if m.users[id].state == 1 {
			m.revoke(id, api.ErrLate)
		}
	}
	switch {
	case e.Kind == 1:
		m.try(e)
	case e.Kind == 2 && m.users[e.Id].state == 1:
		m.use(e)
	case e.Kind == 3 && m.users[e.Id].state == 1:
		m.shut(e.Id, 4)
		m.tell(e.Id, 5, api.OK)
	case e.Kind == 4:
		m.s.Set(e.Subject, e.Name, e.Value)
		m.mark(e.Subject, e.Name)
	case e.Kind == 5:
		for _, u := range m.users {
			if u != nil {
				u.marked = true
			}
		}
	}
	for again := true; again; {
		again = false
		for id, u := range m.users {
			if u == nil || u.state != 1 || !u.marked {
				continue
			}
			again, u.marked = true, false
			if code := m.look(id, ""); code != api.OK {
				m.revoke(id, code)
			}
		}
	}
	return m.told
}

// kept tells whether no more is remembered than the policy's cells, times the open sessions, times one more than the unlike times within its longest span.
func kept(p api.Policy, cells, open int, times []int64) bool {
	longest := int64(0)
	for _, r := range p.Rights {
		longest = max(longest, bound.Longest(r.On))
	}
	unlike := map[int64]bool{}
	for _, at := range times {
		if times[len(times)-1]-at <= longest {
			unlike[at] = true
		}
	}
	return cells <= policy.Cells(p)*open*(1+len(unlike))
}

// texts are policies whose sessions meet one another.
func texts() []string {
	return []string{
		`attr n int; attr b bool;
right r { pre s.n < 6; on o.n < 5 and times(x, 4) <= 2; before o.n := o.n + 1; during s.n := s.n + 1; after o.n := o.n - 1; duty pay act y within 3 keep; }
right q { on not once[1,4](s.b) and since[0,*](s.n < 9, true); before s.b := not s.b; after s.n := 0; duty d on x act y within 2; duty e on x act x within 4 keep; }
right w { pre not o.b; on hist[0,3](o.n < 5) or prev(s.b or act(y)); after o.b := s.n < o.n; duty f act z within 9223372036854775800; }`,
		`attr n int; attr b bool;
right r { on s.n * s.n * 1000000000 * s.n < 9000000000000000000 or s.b; during s.n := s.n * 7; after o.n := o.n * 9 + 1; }
right q { pre once[0,0](o.b) or s.n < 3; on s.n + 9223372036854775800 < 9223372036854775807; during o.b := s.n = o.n; during s.n := o.n + now; }
right w { on since[1,5](not o.b, act(x) or o.n < 3) or now < 20; before s.n := 1; before o.n := 1; after o.b := not o.b; after s.n := s.n + 1; duty g on z act x within 1 keep; }`,
	}
}

// some is an event by chance.
func some(r *rand.Rand, now int64) api.Event {
	e := api.Event{At: now, Kind: 1 + r.Intn(5)}
	entity := func() string { return []string{"a", "b", "c"}[r.Intn(3)] }
	switch e.Kind {
	case 1:
		e.Id, e.Subject, e.Object, e.Name = r.Intn(64), entity(), entity(), []string{"r", "q", "w"}[r.Intn(3)]
	case 2:
		e.Id, e.Name = r.Intn(64), []string{"x", "y", "z"}[r.Intn(3)]
	case 3:
		e.Id = r.Intn(64)
	case 4:
		e.Subject = entity()
		if e.Name, e.Value = "n", value.Int(int64(r.Intn(8))); r.Intn(2) == 0 {
			e.Name, e.Value = "b", value.Bool(r.Intn(2) == 0)
		}
	}
	return e
}

// TestAgainstModel: each record is that of the policy's words, looked at by all events that were taken up to it.
func TestAgainstModel(t *testing.T) {
	r := rand.New(rand.NewSource(9))
	taken, verdicts := 0, map[int]int{}
	for round := range 60 {
		text := texts()[round%2]
		g := made(t, text)
		p, _ := policy.Parse(text)
		m := &model{p: p, s: store.New(p.Decls...)}
		var times []int64
		now := int64(0)
		for range 300 {
			now += int64(max(r.Intn(4)-1, 0))
			e := some(r, now)
			if open := g.Open(); (e.Kind == 2 || e.Kind == 3 && r.Intn(3) > 0) && len(open) > 0 {
				e.Id = open[r.Intn(len(open))]
			}
			if r.Intn(20) == 0 {
				e.At--
			}
			was := whole(g)
			got, err := g.Step(e)
			if err != api.OK {
				if whole(g) != was {
					t.Fatalf("P26.2: %v changed something", e)
				}
				continue
			}
			taken++
			times = append(times, e.At)
			want := m.step(e)
			if !slices.Equal(got, want) || !slices.Equal(g.Duties(), m.duties) {
				t.Fatalf("G1: round %d, %v: %v, not %v; %v, not %v", round, e, got, want, g.Duties(), m.duties)
			}
			for _, v := range got {
				verdicts[v.Kind]++
			}
			for id, u := range m.users {
				if u != nil && g.State(id) != u.state {
					t.Fatalf("G1: state of %d: %d, not %d", id, g.State(id), u.state)
				}
			}
			for _, entity := range []string{"a", "b", "c"} {
				for _, name := range []string{"n", "b"} {
					v, _ := g.Get(entity, name)
					if w, _ := m.s.Get(entity, name); !value.Same(v, w) {
						t.Fatalf("G1: %s.%s: %v, not %v", entity, name, v, w)
					}
				}
			}
			if !kept(p, g.Cells(), len(g.Open()), times) {
				t.Fatalf("G3: %d cells", g.Cells())
			}
		}
	}
	for kind := 1; kind <= 5; kind++ {
		if verdicts[kind] < 50 {
			t.Errorf("the test tells only %d verdicts of kind %d in %d events", verdicts[kind], kind, taken)
		}
	}
}

// TestDuties: an instance is fulfilled just if its act comes, of its session, by its Due, else violated by the first event behind.
func TestDuties(t *testing.T) {
	for within := range int64(5) {
		for at := range int64(8) {
			for _, keep := range []string{"", " keep"} {
				g := made(t, "right r { duty d act pay within "+string(rune('0'+within))+keep+"; }")
				play(t, g, scene{try(1, 0, "a", "o", "r"), "0grant0"}, scene{try(1, 1, "a", "o", "r"), "1grant0"})
				g.Step(use(1+at, 0, "pay"))
				state, open := 2, 1
				if at > within {
					state = 3
					if keep != "" {
						open = 3
					}
				}
				if g.Duties()[0].State != state || g.State(0) != open {
					t.Errorf("G2: within %d%s, paid %d later: %v, state %d", within, keep, at, g.Duties()[0], g.State(0))
				}
				if other := g.Duties()[1].State; other == 2 {
					t.Error("G2: another session's act")
				}
			}
		}
	}
}

// TestApart: what a session does not look at does not change its verdicts.
func TestApart(t *testing.T) {
	r := rand.New(rand.NewSource(10))
	text := "attr n int; attr b bool; right r { on s.n < 5 and times(x, 4) <= 2 or act(z); during s.n := s.n + 1; duty pay act y within 5 keep; } right q { during o.b := not o.b; after o.b := true; before o.b := false; on not prev(act(z)) or o.b; }"
	for range 50 {
		g, alone := made(t, text), made(t, text)
		now := int64(0)
		for range 120 {
			now += int64(r.Intn(2))
			e := some(r, now)
			if e.Name == "w" || e.Id > 6 {
				continue
			}
			if e.Id == 0 && e.Kind == 1 {
				e.Subject, e.Object, e.Name = "me", "mine", "r"
			}
			got, err := g.Step(e)
			own := slices.DeleteFunc(got, func(v api.Verdict) bool { return v.Id != 0 })
			if e.Kind == 4 || e.Kind <= 3 && e.Id != 0 {
				// Only the time, at which a duty may be late, may show.
				late := slices.ContainsFunc(own, func(v api.Verdict) bool { return v.Code != api.ErrLate })
				if late {
					t.Fatalf("G5: %v: %v", e, own)
				}
				if err == api.OK && len(own) > 0 {
					break
				}
				continue
			}
			want, wantErr := alone.Step(e)
			if err != wantErr || !slices.Equal(own, want) {
				t.Fatalf("G5: %v: %v, not %v", e, own, want)
			}
		}
	}
}
