package session_test

import (
	"reflect"
	"testing"

	"beadle/api"
	"beadle/policy"
	"beadle/session"
	"beadle/store"
	"beadle/value"
)

const attributes = "attr n int; attr b bool; attr t text; "

// right is the first right of a policy's text, behind the attributes.
func right(t *testing.T, clauses string) api.Right {
	t.Helper()
	p, err := policy.Parse(attributes + "right r { " + clauses + " }")
	if err != nil {
		t.Fatal(clauses, err)
	}
	return p.Rights[0]
}

// filled is a store where n of a is 5, and that of o is the greatest.
func filled(t *testing.T) *store.Store {
	t.Helper()
	p, err := policy.Parse(attributes)
	if err != nil {
		t.Fatal(err)
	}
	s := store.New(p.Decls...)
	s.Set("a", "n", value.Int(5))
	s.Set("o", "n", value.Int(1<<63-1))
	return s
}

// n is an entity's n.
func n(s *store.Store, entity string) int64 {
	v, _ := s.Get(entity, "n")
	return v.N
}

// opened is an open session of a on o.
func opened(t *testing.T, clauses string) *session.Session {
	t.Helper()
	x, _, err := session.Open(filled(t), right(t, clauses), 7, "a", "o", 1)
	if err != api.OK {
		t.Fatal(clauses, err)
	}
	return x
}

func TestOpen(t *testing.T) {
	for _, c := range []struct {
		clauses string
		state   int
		code    api.Errno
		n       int64
	}{
		{"", 1, api.OK, 5},
		{"on false;", 1, api.OK, 5},
		{"on s.n < 0 - s.n; before s.n := s.n + now;", 1, api.OK, 8},
		{"pre s.n = 5; before s.n := 6;", 1, api.OK, 6},
		{"pre now = 3 and not act(read); before s.n := now; before s.n := s.n * 2;", 1, api.OK, 6},
		{"pre s.n = 6; before s.n := 6;", 2, api.ErrDenied, 5},
		{"pre o.n + 1 = 0; before s.n := 6;", 2, api.ErrOver, 5},
		{"pre prev(true); before s.n := 6;", 2, api.ErrDenied, 5},
		{"pre once[0,0](true);", 1, api.OK, 5},
		{"pre times(read, 9) = 0;", 1, api.OK, 5},
		{"before s.n := 6; before o.n := o.n + 1;", 2, api.ErrOver, 5},
		{"after s.n := 6; during s.n := 7;", 1, api.OK, 5},
	} {
		s := filled(t)
		r := right(t, c.clauses)
		x, after, err := session.Open(s, r, 7, "a", "o", 3)
		if err != c.code || x.State() != c.state || x.Id() != 7 || n(after, "a") != c.n {
			t.Errorf("P25.1: Open of %s: %d, state %d, n %d", c.clauses, err, x.State(), n(after, "a"))
			continue
		}
		if n(s, "a") != 5 {
			t.Error("P2: Open changed the store")
		}
		after.Set("a", "n", value.Int(99))
		if n(s, "a") != 5 {
			t.Error("P25.1: Open's store is not apart")
		}
		if c.state == 2 && (x.Look(s, 3, "") != api.ErrState || x.Cells() != 0) {
			t.Error("P25.4: a denied session looks")
		}
	}
	if x, after, err := session.Open(filled(t), api.Right{Pre: right(t, "").Pre, On: right(t, "").Pre, Before: []api.Update{{Side: 5, Name: "x", To: right(t, "").Pre}}}, 1, "a", "o", 0); err != api.ErrNone || x.State() != 2 || after.Count() != 2 {
		t.Errorf("P25.1: Before's error: %d", err)
	}
	number := right(t, "")
	number.Pre = api.Expr{Kind: api.Int, N: 1}
	if x, _, err := session.Open(filled(t), number, 1, "a", "o", 0); err != api.ErrDenied || x.State() != 2 {
		t.Errorf("P25.1: a number is not true: %d", err)
	}
}

func TestOpenState(t *testing.T) {
	r := right(t, "")
	noPre, noOn := right(t, ""), right(t, "pre false;")
	noPre.Pre, noOn.On = api.Expr{}, api.Expr{Kind: api.Int, N: -1}
	for _, c := range []struct {
		s *store.Store
		r api.Right
	}{{nil, r}, {&store.Store{}, r}, {filled(t), noPre}, {filled(t), noOn}, {nil, noPre}} {
		if x, s, err := session.Open(c.s, c.r, 1, "a", "o", 0); x != nil || s != nil || err != api.ErrState {
			t.Errorf("P25.1: %v %v %d", x, s, err)
		}
	}
}

func TestLook(t *testing.T) {
	x := opened(t, "on times(read, 9) <= 1 and s.n < 9;")
	s := filled(t)
	for i, c := range []struct {
		at   int64
		act  string
		want api.Errno
	}{{1, "", api.OK}, {2, "read", api.OK}, {3, "write", api.OK}, {3, "read", api.ErrDenied}} {
		if got := x.Look(s, c.at, c.act); got != c.want {
			t.Errorf("P25.2: Look %d: %d, not %d", i, got, c.want)
		}
		if x.State() != 1 {
			t.Error("P25.2: Look does not close")
		}
	}
	if x.Cells() != 2 {
		t.Errorf("P25.3: Cells: %d", x.Cells())
	}
	s.Set("a", "n", value.Int(9))
	if got := opened(t, "on s.n < 9;").Look(s, 1, ""); got != api.ErrDenied {
		t.Errorf("P25.2: Look at what changed: %d", got)
	}
	if got := opened(t, "on o.n * 2 = 0;").Look(s, 1, ""); got != api.ErrOver {
		t.Errorf("P25.2: Look with an error: %d", got)
	}
	if got := opened(t, "on s.n < 9;").Look(nil, 1, ""); got != api.ErrNone {
		t.Errorf("P25.2: Look with no store: %d", got)
	}
	p := opened(t, "on prev(true) or act(go);")
	if p.Look(s, 1, "go") != api.OK || p.Look(s, 1, "") != api.OK {
		t.Error("P25.2: the monitor's next step")
	}
}

func TestUse(t *testing.T) {
	x := opened(t, "during s.n := s.n + now; during s.b := act(read);")
	s := filled(t)
	after, err := x.Use(s, 3, "read")
	if b, _ := after.Get("a", "b"); err != api.OK || n(after, "a") != 8 || b.N != 1 || n(s, "a") != 5 || x.State() != 1 {
		t.Errorf("P25.2: Use: %d", err)
	}
	if after, err := opened(t, "during s.n := 1; during s.n := o.n + 1;").Use(s, 3, "read"); after != nil || err != api.ErrOver {
		t.Errorf("P25.2: Use with an error: %d", err)
	}
	if after, err := x.Use(nil, 3, "read"); after != nil || err != api.ErrState {
		t.Errorf("P25.2: Use with no store: %d", err)
	}
	if after, err := opened(t, "").Use(s, 3, "read"); err != api.OK || after == s || n(after, "a") != 5 {
		t.Errorf("P25.2: Use of a right without more: %d", err)
	}
}

func TestClose(t *testing.T) {
	for given, want := range map[int]int{3: 3, 4: 4, 0: 3, 1: 3, 2: 3, 5: 3, -1: 3} {
		x := opened(t, "after s.n := s.n + now; after s.b := act(read); on once[0,9](true);")
		s := filled(t)
		x.Look(s, 1, "read")
		after := x.Close(s, 3, given)
		if x.State() != want || n(after, "a") != 8 || n(s, "a") != 5 || x.Cells() != 0 {
			t.Errorf("P25.2: Close(%d): state %d, n %d", given, x.State(), n(after, "a"))
		}
		again := x.Close(s, 3, 3)
		if x.State() != want || n(again, "a") != 5 || again == s {
			t.Errorf("P25.4: Close again: state %d", x.State())
		}
		if _, err := x.Use(s, 3, ""); err != api.ErrState || x.Look(s, 3, "") != api.ErrState || x.Reads("a", "n") {
			t.Error("P25.4: what is closed goes on")
		}
		if x.Close(nil, 3, 3) != nil {
			t.Error("P25.2: Close of what is not open, with no store")
		}
	}
	x := opened(t, "after s.n := 1; after s.n := o.n + 1;")
	s := filled(t)
	if after := x.Close(s, 3, 4); x.State() != 4 || n(after, "a") != 5 || after == s {
		t.Error("P25.2: After that can't be")
	}
	y := opened(t, "after s.n := 1;")
	if after := y.Close(nil, 3, 4); after != nil || y.State() != 4 {
		t.Error("P25.2: Close with no store")
	}
	d, _, _ := session.Open(s, right(t, "pre false; after s.n := 1;"), 1, "a", "o", 0)
	if after := d.Close(s, 3, 4); d.State() != 2 || n(after, "a") != 5 {
		t.Error("P25.4: Close of what is denied")
	}
}

func TestReads(t *testing.T) {
	x := opened(t, "on s.n < 9 and not o.b; pre s.t = o.t; during s.b := o.b;")
	for _, c := range []struct {
		entity, name string
		want         bool
	}{{"a", "n", true}, {"o", "b", true}, {"o", "n", false}, {"a", "b", false}, {"a", "t", false}, {"o", "t", false}, {"z", "n", false}, {"", "n", false}, {"a", "", false}} {
		if got := x.Reads(c.entity, c.name); got != c.want {
			t.Errorf("P25.3: Reads(%s, %s): %v", c.entity, c.name, got)
		}
	}
	same, _, _ := session.Open(filled(t), right(t, "on s.n < 9 and not o.b;"), 1, "a", "a", 0)
	if !same.Reads("a", "n") || !same.Reads("a", "b") || same.Reads("a", "t") {
		t.Error("P25.3: Reads of one entity on both sides")
	}
}

// like tells whether two rights are alike.
func like(a, b api.Right) bool {
	return policy.Same(api.Policy{Rights: []api.Right{a}}, api.Policy{Rights: []api.Right{b}})
}

const full = "pre s.n < 9; on s.n < 9 and prev(true) or act(go); before s.n := s.n + 1; during s.n := s.n + 2; after s.n := s.n + 3; duty d act a within 1;"

func TestRight(t *testing.T) {
	r := right(t, full)
	x, _, _ := session.Open(filled(t), r, 1, "a", "o", 0)
	r.On.Kids[0].Kind = api.And
	r.After[0].To.Kids[0].Name = "z"
	r.Duties[0].Name = "z"
	if !like(x.Right(), right(t, full)) {
		t.Error("P2: Open keeps the right")
	}
	got := x.Right()
	got.On.Kids[0].Kind = api.And
	got.After[0].To.Kids[0].Name = "z"
	got.Duties[0].Name = "z"
	if !like(x.Right(), right(t, full)) {
		t.Error("P25.3: Right is not apart")
	}
}

func TestClone(t *testing.T) {
	x := opened(t, "on times(read, 9) <= 1;")
	x.Look(filled(t), 1, "read")
	c := x.Clone()
	if c.Look(filled(t), 2, "read") != api.ErrDenied || x.Cells() != 1 || x.Look(filled(t), 2, "") != api.OK {
		t.Error("P25.3: Clone is not apart")
	}
	c.Close(filled(t), 2, 4)
	if x.State() != 1 || c.State() != 4 || c.Clone().State() != 4 || c.Id() != 7 {
		t.Error("P25.3: Clone")
	}
}

func TestNobodyMade(t *testing.T) {
	for _, x := range []*session.Session{nil, {}} {
		if x.State() != 0 || x.Id() != 0 || x.Reads("", "") || x.Cells() != 0 || x.Clone() != nil || !reflect.DeepEqual(x.Right(), api.Right{}) {
			t.Error("P25.3: of one that nobody made")
		}
		after, err := x.Use(filled(t), 0, "")
		if after != nil || err != api.ErrState || x.Look(filled(t), 0, "") != api.ErrState || x.Close(filled(t), 0, 3) != nil {
			t.Error("P25.3: of one that nobody made")
		}
	}
}
