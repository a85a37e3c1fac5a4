package update_test

import (
	"slices"
	"strings"
	"testing"

	"beadle/api"
	"beadle/monitor"
	"beadle/parse"
	"beadle/store"
	"beadle/update"
	"beadle/value"
)

// declared are attributes of all kinds.
func declared() []api.Decl {
	return []api.Decl{{Name: "n", Kind: 1}, {Name: "b", Kind: 2}, {Name: "t", Kind: 3}, {Name: "l", Kind: 4}, {Name: "n", Kind: 3}}
}

// to is an update of s.name or o.name.
func to(t *testing.T, target string, s string) api.Update {
	t.Helper()
	e, err := parse.Expr(s)
	if err != nil {
		t.Fatal(s, err)
	}
	side := api.Subject
	if target[0] == 'o' {
		side = api.Object
	}
	return api.Update{Side: side, Name: target[2:], To: e}
}

// moment is one of subject a and object b.
func moment() monitor.Moment {
	return monitor.Moment{At: 7, Act: "read", Subject: "a", Object: "b"}
}

// get is the number of an entity's n.
func get(s *store.Store, entity string) int64 {
	v, _ := s.Get(entity, "n")
	return v.N
}

func TestApply(t *testing.T) {
	s := store.New(declared()...)
	s.Set("a", "n", value.Int(5))
	l := []api.Update{to(t, "s.n", "s.n + 1"), to(t, "o.n", "s.n * 2"), to(t, "s.n", "o.n + now"), to(t, "s.b", "act(read)"), to(t, "o.t", "\"x\""), to(t, "o.l", "{\"p\", \"q\"}")}
	got, err := update.Apply(s, l, moment())
	if err != api.OK || get(got, "a") != 19 || get(got, "b") != 12 || got.Count() != 5 {
		t.Fatalf("P20.1: Apply: %d %d", err, got.Count())
	}
	for name, want := range map[string]api.Value{"t": value.Text("x"), "l": value.Set("p", "q")} {
		if v, _ := got.Get("b", name); !value.Same(v, want) {
			t.Errorf("P20.1: Apply: %s is %v", name, v)
		}
	}
	if v, _ := got.Get("a", "b"); v.N != 1 {
		t.Error("P20.1: the act of the moment")
	}
	if get(s, "a") != 5 || s.Count() != 1 {
		t.Error("P2: Apply changed its store")
	}
	got.Set("a", "n", value.Int(99))
	if get(s, "a") != 5 {
		t.Error("P2: Apply's store is not apart")
	}
}

func TestApplyNone(t *testing.T) {
	s := store.New(declared()...)
	s.Set("a", "n", value.Int(5))
	got, err := update.Apply(s, nil, moment())
	if err != api.OK || get(got, "a") != 5 || got == s {
		t.Error("P20.1: Apply of none")
	}
	got.Set("a", "n", value.Int(6))
	if get(s, "a") != 5 {
		t.Error("P20.1: Apply of none is a clone")
	}
	low, _ := update.Apply(s, []api.Update{to(t, "s.n", "now")}, monitor.Moment{At: -9, Subject: "a"})
	if get(low, "a") != 0 {
		t.Error("P20.1: a time below 0 counts as 0")
	}
	side, _ := update.Apply(s, []api.Update{{Side: 0, Name: "n", To: api.Expr{Kind: api.Int, N: 3}}}, moment())
	if get(side, "b") != 3 || get(side, "a") != 5 {
		t.Error("P20.1: a side that is not the subject is the object")
	}
}

// TestApplyPast: what looks back finds that moment alone.
func TestApplyPast(t *testing.T) {
	for text, want := range map[string]api.Value{
		"times(read, 0)":                        value.Int(1),
		"times(pay, 9) + 2":                     value.Int(2),
		"once[0,5](act(read))":                  value.Bool(true),
		"once[1,*](true)":                       value.Bool(false),
		"hist[0,*](s.n = 5)":                    value.Bool(true),
		"hist[0,0](false)":                      value.Bool(false),
		"hist[1,2](false)":                      value.Bool(true),
		"since[0,*](false, s.n = 5)":            value.Bool(true),
		"since[1,7](true, true)":                value.Bool(false),
		"prev(true)":                            value.Bool(false),
		"not prev(prev(true)) and not s.b":      value.Bool(true),
		"now = 7 and once[0,0](hist[0,0](o.b))": value.Bool(true),
	} {
		s := store.New(declared()...)
		s.Set("a", "n", value.Int(5))
		name := map[int]string{1: "n", 2: "b"}[want.Kind]
		// What is set ahead counts at that moment.
		l := []api.Update{to(t, "o.b", "true"), to(t, "s."+name, text)}
		got, err := update.Apply(s, l, moment())
		if v, _ := got.Get("a", name); err != api.OK || !value.Same(v, want) {
			t.Errorf("P20.1: Apply of %s: %v %d, not %v", text, v, err, want)
		}
	}
	// Each one looks at that moment as the first one.
	twice := []api.Update{to(t, "s.n", "times(read, 9)"), to(t, "s.n", "s.n + times(read, 9)"), to(t, "s.b", "prev(true)"), to(t, "s.b", "prev(true)")}
	got, err := update.Apply(store.New(declared()...), twice, moment())
	if v, _ := got.Get("a", "b"); err != api.OK || get(got, "a") != 2 || v.N != 0 {
		t.Errorf("P20.1: Apply of two that look back: %d %v %d", get(got, "a"), v, err)
	}
}

func TestApplyErrors(t *testing.T) {
	int1 := api.Expr{Kind: api.Int, N: 1}
	for _, c := range []struct {
		name string
		u    api.Update
		want api.Errno
	}{
		{"what looks back at what is not declared", to(t, "s.b", "prev(s.x)"), api.ErrNone},
		{"what looks back at no truth", to(t, "s.b", "once[0,1](1)"), api.ErrType},
		{"what looks back at no truth, within", to(t, "s.b", "not hist[0,1](s.n)"), api.ErrType},
		{"what looks back, of another kind", to(t, "s.t", "times(a, 1)"), api.ErrType},
		{"kids first", to(t, "s.b", "prev(1) and s.x"), api.ErrType},
		{"no kind", api.Update{Side: 5, Name: "n"}, api.ErrState},
		{"a kid too few", api.Update{Side: 5, Name: "n", To: api.Expr{Kind: api.Add, Kids: []api.Expr{int1}}}, api.ErrState},
		{"not declared", to(t, "s.n", "s.x"), api.ErrNone},
		{"too great", to(t, "s.n", "9223372036854775807 + s.n"), api.ErrOver},
		{"kids of other kinds", to(t, "s.n", "1 + s.t"), api.ErrType},
		{"target not declared", to(t, "s.x", "1"), api.ErrNone},
		{"target of another kind", to(t, "s.t", "1"), api.ErrType},
		{"a text too long", api.Update{Side: 5, Name: "t", To: api.Expr{Kind: api.Text, Name: strings.Repeat("x", 33)}}, api.ErrState},
	} {
		s := store.New(declared()...)
		l := []api.Update{to(t, "s.n", "s.n + 1"), c.u, to(t, "s.n", "s.y")}
		if got, err := update.Apply(s, l, moment()); got != nil || err != c.want {
			t.Errorf("P20.1: Apply of %s: %d, not %d", c.name, err, c.want)
		}
		if s.Count() != 0 {
			t.Errorf("P20.2: with an error nothing is set: %s", c.name)
		}
	}
	for _, s := range []*store.Store{nil, {}} {
		if got, err := update.Apply(s, []api.Update{to(t, "s.n", "s.x")}, moment()); got != nil || err != api.ErrState {
			t.Errorf("P20.1: Apply to a store that nobody made: %d", err)
		}
	}
}

func TestCheck(t *testing.T) {
	ok := to(t, "s.n", "o.n + 1")
	deep := to(t, "s.b", "true")
	for range 12 {
		deep.To = api.Expr{Kind: api.Not, Kids: []api.Expr{deep.To}}
	}
	side := ok
	side.Side = 4
	past := to(t, "s.x", "times(a, 1)")
	for _, c := range []struct {
		name string
		l    []api.Update
		want api.Errno
	}{
		{"none", nil, api.OK},
		{"one", []api.Update{ok}, api.OK},
		{"all kinds", []api.Update{ok, to(t, "o.b", "true"), to(t, "s.t", "o.t"), to(t, "s.l", "{}")}, api.OK},
		{"eight", slices.Repeat([]api.Update{ok}, 8), api.OK},
		{"nine", slices.Repeat([]api.Update{ok}, 9), api.ErrCount},
		{"nine wrong ones", make([]api.Update, 9), api.ErrCount},
		{"no side", []api.Update{side}, api.ErrKind},
		{"what looks back", []api.Update{past}, api.ErrKind},
		{"what looks back, within", []api.Update{to(t, "s.b", "true and once[0,1](true)")}, api.ErrKind},
		{"not declared", []api.Update{to(t, "s.x", "1 + true")}, api.ErrNone},
		{"not declared, within", []api.Update{to(t, "s.n", "s.x")}, api.ErrNone},
		{"kids of other kinds", []api.Update{to(t, "s.n", "1 + true")}, api.ErrType},
		{"another kind", []api.Update{to(t, "s.n", "true")}, api.ErrType},
		{"another kind than the first declaration", []api.Update{to(t, "s.n", "\"a\"")}, api.ErrType},
		{"too deep", []api.Update{deep}, api.ErrDepth},
		{"no expression", []api.Update{{Side: 5, Name: "n"}}, api.ErrKind},
		{"the first wrong one counts", []api.Update{ok, to(t, "s.n", "true"), side}, api.ErrType},
	} {
		d := declared()
		if got := update.Check(d, c.l); got != c.want {
			t.Errorf("P20.1: Check of %s: %d, not %d", c.name, got, c.want)
		}
		if !slices.Equal(d, declared()) {
			t.Error("P2: Check changed its declarations")
		}
	}
}

func TestTouched(t *testing.T) {
	l := []api.Update{{Side: 6, Name: "z"}, {Side: 5, Name: "a"}, {Side: 6, Name: "z"}, {Side: 6, Name: "a"}, {Side: 9, Name: "a"}}
	if got := update.Touched(l, moment()); !slices.Equal(got, [][2]string{{"b", "z"}, {"a", "a"}, {"b", "a"}}) {
		t.Errorf("P20.1: Touched: %v", got)
	}
	x := moment()
	x.Object = x.Subject
	if got := update.Touched(l, x); !slices.Equal(got, [][2]string{{"a", "z"}, {"a", "a"}}) {
		t.Errorf("P20.1: Touched with one entity on both sides: %v", got)
	}
	if len(update.Touched(nil, moment())) != 0 {
		t.Error("P20.1: Touched of none")
	}
}
