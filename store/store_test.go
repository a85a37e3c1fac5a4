package store_test

import (
	"slices"
	"strings"
	"testing"

	"beadle/api"
	"beadle/store"
	"beadle/value"
)

// declared are attributes of all kinds.
func declared() []api.Decl {
	return []api.Decl{{Name: "n", Kind: 1}, {Name: "b", Kind: 2}, {Name: "t", Kind: 3}, {Name: "l", Kind: 4}}
}

func TestKind(t *testing.T) {
	s := store.New(append(declared(),
		api.Decl{Name: "n", Kind: 2},
		api.Decl{Name: "x", Kind: 0}, api.Decl{Name: "x", Kind: 3}, api.Decl{Name: "x", Kind: 1},
		api.Decl{Name: "y", Kind: 5}, api.Decl{Name: "z", Kind: -1}, api.Decl{Name: "", Kind: 4})...)
	for name, want := range map[string]int{"n": 1, "b": 2, "t": 3, "l": 4, "x": 3, "y": 0, "z": 0, "": 4, "other": 0} {
		if got := s.Kind(name); got != want {
			t.Errorf("P5.1: Kind(%q): %d, not %d", name, got, want)
		}
	}
	if store.New().Kind("n") != 0 {
		t.Error("P5.1: Kind of nothing declared")
	}
}

func TestGetAndSet(t *testing.T) {
	s := store.New(declared()...)
	for name, want := range map[string]api.Value{"n": value.Zero(1), "b": value.Zero(2), "t": value.Zero(3), "l": value.Zero(4)} {
		if v, ok := s.Get("a", name); !ok || !value.Same(v, want) {
			t.Errorf("P5.1: Get of what was not set: %v %v", v, ok)
		}
	}
	if v, ok := s.Get("a", "x"); ok || !value.Same(v, api.Value{}) {
		t.Errorf("P5.1: Get of what is not declared: %v %v", v, ok)
	}
	for name, v := range map[string]api.Value{"n": value.Int(-3), "b": value.Bool(true), "t": value.Text("x"), "l": value.Set("p", "q")} {
		if err := s.Set("a", name, v); err != api.OK {
			t.Errorf("P5.1: Set: %d", err)
		}
		if got, ok := s.Get("a", name); !ok || !value.Same(got, v) {
			t.Errorf("P5.1: Get of what was set: %v, not %v", got, v)
		}
		if got, ok := s.Get("b", name); !ok || !value.Same(got, value.Zero(v.Kind)) {
			t.Errorf("P5.1: Get of another entity's: %v", got)
		}
	}
	s.Set("a", "n", value.Int(5))
	if got, _ := s.Get("a", "n"); got.N != 5 {
		t.Errorf("P5.1: Get of what was set again: %v", got)
	}
}

func TestSetErrors(t *testing.T) {
	s := store.New(declared()...)
	for _, c := range []struct {
		name string
		v    api.Value
		want api.Errno
	}{
		{"x", value.Int(1), api.ErrNone},
		{"x", api.Value{}, api.ErrNone},
		{"n", value.Bool(true), api.ErrType},
		{"n", api.Value{}, api.ErrType},
		{"t", api.Value{Kind: 4, L: []string{"b", "a"}}, api.ErrType},
		{"n", api.Value{Kind: 1, S: "a"}, api.ErrRange},
		{"b", api.Value{Kind: 2, N: 2}, api.ErrRange},
		{"t", value.Text(strings.Repeat("x", 33)), api.ErrLong},
		{"l", api.Value{Kind: 4, L: make([]string, 9)}, api.ErrCount},
		{"l", api.Value{Kind: 4, L: []string{"b", "a"}}, api.ErrRange},
	} {
		if got := s.Set("a", c.name, c.v); got != c.want {
			t.Errorf("P5.1: Set of %s, %v: %d, not %d", c.name, c.v, got, c.want)
		}
	}
	if s.Count() != 0 || len(s.Names("a")) != 0 {
		t.Error("P4: Set with an error has set something")
	}
}

func TestCountAndNames(t *testing.T) {
	s := store.New(declared()...)
	if s.Count() != 0 || len(s.Names("a")) != 0 {
		t.Error("P5.1: at first")
	}
	s.Set("a", "n", value.Int(0))
	s.Set("a", "n", value.Int(1))
	s.Set("a", "b", value.Bool(false))
	s.Set("b", "t", value.Text(""))
	s.Set("a", "t", value.Text(""))
	s.Set("", "l", value.Set())
	if s.Count() != 5 {
		t.Errorf("P5.1: Count: %d", s.Count())
	}
	for entity, want := range map[string][]string{"a": {"b", "n", "t"}, "b": {"t"}, "": {"l"}, "c": {}} {
		if got := s.Names(entity); !slices.Equal(got, want) {
			t.Errorf("P5.1: Names(%q): %v, not %v", entity, got, want)
		}
	}
}

func TestClone(t *testing.T) {
	s := store.New(declared()...)
	s.Set("a", "n", value.Int(1))
	c := s.Clone()
	c.Set("a", "n", value.Int(2))
	c.Set("b", "n", value.Int(3))
	s.Set("a", "b", value.Bool(true))
	if v, _ := s.Get("a", "n"); v.N != 1 || s.Count() != 2 {
		t.Error("P5.1: a clone changed what it came from")
	}
	if v, _ := c.Get("a", "n"); v.N != 2 || c.Count() != 2 || c.Kind("l") != 4 {
		t.Error("P5.1: a clone is changed by what it came from")
	}
}

// TestApart: nothing that is handed in is kept, nothing that is kept is handed out.
func TestApart(t *testing.T) {
	d := declared()
	s := store.New(d...)
	clear(d)
	l := []string{"a", "b"}
	if s.Set("e", "l", api.Value{Kind: 4, L: l}) != api.OK {
		t.Error("P2: New kept its list")
	}
	l[0] = "z"
	v, _ := s.Get("e", "l")
	if !slices.Equal(v.L, []string{"a", "b"}) {
		t.Error("P2: Set kept a list")
	}
	v.L[1] = "z"
	c := s.Clone()
	w, _ := c.Get("e", "l")
	w.L[0] = "z"
	for _, x := range []*store.Store{s, c} {
		if v, _ := x.Get("e", "l"); !slices.Equal(v.L, []string{"a", "b"}) {
			t.Error("P2: Get handed out what is kept")
		}
	}
}

func TestNobodyMade(t *testing.T) {
	for _, s := range []*store.Store{nil, {}} {
		v, ok := s.Get("a", "n")
		if ok || !value.Same(v, api.Value{}) || s.Kind("n") != 0 || s.Clone() != nil || s.Count() != 0 || s.Names("a") != nil {
			t.Error("P5.1: of one that nobody made")
		}
		if err := s.Set("a", "n", value.Int(1)); err != api.ErrState {
			t.Errorf("P5.1: Set of one that nobody made: %d", err)
		}
	}
}
