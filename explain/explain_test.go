package explain_test

import (
	"slices"
	"testing"

	"beadle/api"
	"beadle/ast"
	"beadle/explain"
	"beadle/monitor"
	"beadle/parse"
	"beadle/print"
	"beadle/store"
	"beadle/value"
)

// expr is the expression of a text.
func expr(t *testing.T, s string) api.Expr {
	t.Helper()
	e, err := parse.Expr(s)
	if err != nil {
		t.Fatal(s, err)
	}
	return e
}

// filled is a store where n of a is 5.
func filled() *store.Store {
	s := store.New(api.Decl{Name: "n", Kind: 1}, api.Decl{Name: "b", Kind: 2}, api.Decl{Name: "t", Kind: 3})
	s.Set("a", "n", value.Int(5))
	return s
}

// now is a moment of subject a and object o.
func now() monitor.Moment {
	return monitor.Moment{At: 7, Act: "read", Subject: "a", Object: "o"}
}

func TestParts(t *testing.T) {
	for s, want := range map[string][]string{
		"true":                                {"true"},
		"not not s.b":                         {"s.b"},
		"s.b and o.b or not (s.b and act(x))": {"s.b", "o.b", "act(x)"},
		"o.b or s.b or o.b":                   {"o.b", "s.b"},
		"once[0,1](s.b and o.b) and not prev(not s.b)": {"once[0,1]((s.b and o.b))", "prev(not s.b)"},
		"(s.b and o.b) = not s.b":                      {"((s.b and o.b) = not s.b)"},
		"1 + 2":                                        {"(1 + 2)"},
		"{\"a\"}":                                      {"{\"a\"}"},
		"s.n < 3 and (s.n < 3 or 3 < s.n)":             {"(s.n < 3)", "(3 < s.n)"},
	} {
		var got []string
		for _, e := range explain.Parts(expr(t, s)) {
			got = append(got, print.Expr(e))
		}
		if !slices.Equal(got, want) {
			t.Errorf("P29.1: Parts(%s): %v, not %v", s, got, want)
		}
	}
	for _, e := range []api.Expr{{}, {Kind: api.Not}, {Kind: api.And, Kids: []api.Expr{{Kind: api.Now}, {Kind: api.Int, N: -1}}}} {
		if got := explain.Parts(e); len(got) != 0 {
			t.Errorf("P29.1: Parts of what may not be: %v", got)
		}
	}
}

func TestShort(t *testing.T) {
	for s, want := range map[string]string{
		"true":                              "yes true=yes",
		"not true":                          "no true=yes",
		"s.n < 3 or not o.b":                "yes (s.n < 3)=no o.b=no",
		"s.n < 9 and act(read) and now = 7": "yes (s.n < 9)=yes act(read)=yes (now = 7)=yes",
		"not (s.n = 5 and not (o.n = 5))":   "no (s.n = 5)=yes (o.n = 5)=no",
		"o.b or o.b":                        "no o.b=no",
		"s.t in {\"\", \"a\"} or false":     "yes (s.t in {\"\", \"a\"})=yes false=no",
		"(s.b and o.b) = not s.b":           "no ((s.b and o.b) = not s.b)=no",
		// What looks back finds that moment alone.
		"once[0,5](true)":                           "yes once[0,5](true)=yes",
		"once[1,5](true)":                           "no once[1,5](true)=no",
		"once[7,*](true)":                           "no once[7,*](true)=no",
		"hist[0,*](s.b)":                            "no hist[0,*](s.b)=no",
		"hist[1,5](s.b)":                            "yes hist[1,5](s.b)=yes",
		"since[0,0](s.b, true)":                     "yes since[0,0](s.b, true)=yes",
		"since[0,*](true, s.b)":                     "no since[0,*](true, s.b)=no",
		"prev(true) or not prev(prev(true))":        "yes prev(true)=no prev(prev(true))=no",
		"times(read, 0) = 1":                        "yes (times(read, 0) = 1)=yes",
		"times(pay, 9) = 0":                         "yes (times(pay, 9) = 0)=yes",
		"s.n = 5 and once[0,0](hist[1,1](o.n = 1))": "yes (s.n = 5)=yes once[0,0](hist[1,1]((o.n = 1)))=yes",
	} {
		if got, err := explain.Short(expr(t, s), filled(), now()); err != api.OK || got != want {
			t.Errorf("P29.1: Short(%s): %q %d, not %q", s, got, err, want)
		}
	}
}

func TestWhy(t *testing.T) {
	e := expr(t, "s.n < 3 or not o.b")
	l, err := explain.Why(e, filled(), now())
	if err != api.OK || len(l) != 2 || l[0].Is || l[1].Is || !ast.Same(l[0].Expr, e.Kids[0]) || !ast.Same(l[1].Expr, e.Kids[1].Kids[0]) {
		t.Errorf("P29.1: Why: %v %d", l, err)
	}
	low := now()
	low.At = -4
	if l, _ := explain.Why(expr(t, "now = 0"), filled(), low); len(l) != 1 || !l[0].Is {
		t.Errorf("P29.1: Why at a time below 0: %v", l)
	}
}

func TestErrors(t *testing.T) {
	deep := api.Expr{Kind: api.Bool, N: 1}
	for range api.MaxDepth {
		deep = api.Expr{Kind: api.Not, Kids: []api.Expr{deep}}
	}
	for _, c := range []struct {
		e    api.Expr
		want api.Errno
	}{
		{api.Expr{}, api.ErrState},
		{api.Expr{Kind: api.And, Kids: []api.Expr{expr(t, "s.x"), {Kind: api.Int, N: -1}}}, api.ErrState},
		{deep, api.ErrState},
		{api.Expr{Kind: api.Prev, Kids: []api.Expr{{Kind: api.And}}}, api.ErrState},
		{api.Expr{Kind: api.Once, Lo: 2, Hi: 1, Kids: []api.Expr{expr(t, "s.x")}}, api.ErrState},
		{expr(t, "prev(s.x)"), api.ErrNone},
		{expr(t, "once[0,1](1)"), api.ErrType},
		{expr(t, "hist[0,1](s.n)"), api.ErrType},
		{expr(t, "since[0,1](true, 1)"), api.ErrType},
		{expr(t, "prev(1) and s.x"), api.ErrType},
		{expr(t, "since[0,1](true, s.x) and prev(1)"), api.ErrNone},
		{expr(t, "times(read, 1)"), api.ErrType},
		{expr(t, "true or once[0,*](9223372036854775807 + s.n = 1)"), api.ErrOver},
		{expr(t, "true or s.x"), api.ErrNone},
		{expr(t, "false and 9223372036854775807 + s.n = 1"), api.ErrOver},
		{expr(t, "true or s.n"), api.ErrType},
		{expr(t, "not s.n and s.x"), api.ErrType},
		{expr(t, "s.n"), api.ErrType},
		{expr(t, "{\"a\"}"), api.ErrType},
	} {
		if l, err := explain.Why(c.e, filled(), now()); len(l) != 0 || err != c.want {
			t.Errorf("P29.1: Why(%s): %v %d, not %d", print.Expr(c.e), l, err, c.want)
		}
		if s, err := explain.Short(c.e, filled(), now()); s != "" || err != c.want {
			t.Errorf("P29.1: Short(%s): %q %d, not %d", print.Expr(c.e), s, err, c.want)
		}
	}
	if _, err := explain.Why(expr(t, "s.b"), nil, now()); err != api.ErrNone {
		t.Errorf("P29.1: Why with no store: %d", err)
	}
}

// TestApart: parts share nothing with their expression.
func TestApart(t *testing.T) {
	e := expr(t, "s.n < 3 or not (s.n < 3)")
	was := ast.Clone(e)
	parts := explain.Parts(e)
	parts[0].Kids[0].Name = "z"
	l, _ := explain.Why(e, filled(), now())
	l[0].Expr.Kids[0].Name = "z"
	if !ast.Same(e, was) {
		t.Error("P2: parts share memory")
	}
}
