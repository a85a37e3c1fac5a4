package types_test

import (
	"slices"
	"strings"
	"testing"

	"beadle/api"
	"beadle/parse"
	"beadle/types"
)

// declared are attributes of all kinds; the first of each name counts.
func declared() []api.Decl {
	return []api.Decl{{Name: "n", Kind: 1}, {Name: "b", Kind: 2}, {Name: "t", Kind: 3}, {Name: "l", Kind: 4}, {Name: "n", Kind: 2}}
}

func TestOf(t *testing.T) {
	for s, want := range map[string]int{
		"1": 1, "true": 2, "\"a\"": 3, "{}": 4, "{\"a\"}": 4, "s.n": 1, "s.b": 2, "o.t": 3, "o.l": 4, "now": 1, "times(a, 5)": 1,
		"1 + s.n": 1, "s.n - now": 1, "1 * times(a,1)": 1, "-o.n": 1, "len(s.t)": 1, "len(\"a\")": 1, "len({})": 1,
		"act(a)": 2, "1 = s.n": 2, "true = s.b": 2, "\"a\" = o.t": 2, "{} = s.l": 2, "1 < 2": 2, "\"a\" < \"b\"": 2, "1 <= 2": 2, "\"a\" <= s.t": 2,
		"\"a\" in s.l": 2, "s.t in {}": 2, "not s.b": 2, "s.b and true": 2, "s.b or true": 2, "once[0,1](s.b)": 2, "hist[0,1](true)": 2,
		"since[0,1](true, s.b)": 2, "prev(s.b)": 2,
	} {
		e, err := parse.Expr(s)
		if err != nil {
			t.Fatal(s, err)
		}
		l := declared()
		got, code := types.Of(l, e)
		if got != want || code != api.OK {
			t.Errorf("P10.1: Of(%s): %d %d, not %d", s, got, code, want)
		}
		wantTruth := api.OK
		if want != 2 {
			wantTruth = api.ErrType
		}
		if got := types.Truth(l, e); got != wantTruth {
			t.Errorf("P10.1: Truth(%s): %d", s, got)
		}
		if !slices.Equal(l, declared()) {
			t.Error("P2: Of changed its declarations")
		}
	}
}

func TestOfErrors(t *testing.T) {
	for s, want := range map[string]api.Errno{
		"s.x": api.ErrNone, "o.x": api.ErrNone, "s.N": api.ErrNone,
		"1 + true": api.ErrType, "true + 1": api.ErrType, "1 - s.t": api.ErrType, "s.l * 1": api.ErrType, "-true": api.ErrType,
		"len(1)": api.ErrType, "len(true)": api.ErrType,
		"1 = true": api.ErrType, "\"a\" = {}": api.ErrType, "1 < \"a\"": api.ErrType, "true < false": api.ErrType, "{} < {}": api.ErrType,
		"true <= false": api.ErrType, "{} <= {}": api.ErrType, "1 <= \"a\"": api.ErrType, "\"a\" < {}": api.ErrType,
		"1 in {}": api.ErrType, "\"a\" in \"a\"": api.ErrType, "{} in {}": api.ErrType, "s.l in s.t": api.ErrType,
		"not 1": api.ErrType, "1 and true": api.ErrType, "true and 1": api.ErrType, "true or \"a\"": api.ErrType, "{} or true": api.ErrType,
		"once[0,1](1)": api.ErrType, "hist[0,1](\"a\")": api.ErrType, "since[0,1](1, true)": api.ErrType, "since[0,1](true, 1)": api.ErrType, "prev(1)": api.ErrType,
		// kids ahead of what they stand in, from left to right
		"1 + s.x = true":             api.ErrNone,
		"(1 + true) = s.x":           api.ErrType,
		"s.x = (1 + true)":           api.ErrNone,
		"not (s.x)":                  api.ErrNone,
		"1 and s.x":                  api.ErrNone,
		"(1 and true) or (s.x or 1)": api.ErrType,
	} {
		e, err := parse.Expr(s)
		if err != nil {
			t.Fatal(s, err)
		}
		if got, code := types.Of(declared(), e); got != 0 || code != want {
			t.Errorf("P10.1: Of(%s): %d %d, not %d", s, got, code, want)
		}
		if got := types.Truth(declared(), e); got != want {
			t.Errorf("P10.1: Truth(%s): %d, not %d", s, got, want)
		}
	}
}

// TestMayNotBe: ast's error goes ahead.
func TestMayNotBe(t *testing.T) {
	deep := api.Expr{Kind: api.Subject, Name: "x"}
	for range 12 {
		deep = api.Expr{Kind: api.Not, Kids: []api.Expr{deep}}
	}
	for _, c := range []struct {
		e    api.Expr
		want api.Errno
	}{
		{api.Expr{}, api.ErrKind},
		{deep, api.ErrDepth},
		{api.Expr{Kind: api.Add, Kids: []api.Expr{{Kind: api.Subject, Name: "x"}, {Kind: api.Int, N: -1}}}, api.ErrKind},
	} {
		if got, code := types.Of(nil, c.e); got != 0 || code != c.want {
			t.Errorf("P10.1: Of(%v): %d %d, not %d", c.e, got, code, c.want)
		}
		if got := types.Truth(nil, c.e); got != c.want {
			t.Errorf("P10.1: Truth(%v): %d, not %d", c.e, got, c.want)
		}
	}
}

func TestDecls(t *testing.T) {
	many := func(n int) []api.Decl {
		l := []api.Decl{}
		for i := range n {
			l = append(l, api.Decl{Name: strings.Repeat("a", i+1), Kind: 1 + i%4})
		}
		return l
	}
	for _, c := range []struct {
		l    []api.Decl
		want api.Errno
	}{
		{nil, api.OK},
		{declared()[:4], api.OK},
		{many(8), api.OK},
		{many(9), api.ErrCount},
		{make([]api.Decl, 9), api.ErrCount},
		{declared(), api.ErrTwice},
		{[]api.Decl{{Name: "", Kind: 1}}, api.ErrSyntax},
		{[]api.Decl{{Name: "1", Kind: 0}}, api.ErrSyntax},
		{[]api.Decl{{Name: "a", Kind: 0}}, api.ErrKind},
		{[]api.Decl{{Name: "a", Kind: 5}}, api.ErrKind},
		{[]api.Decl{{Name: "a", Kind: 1}, {Name: "a", Kind: 5}}, api.ErrKind},
		{[]api.Decl{{Name: "a", Kind: 1}, {Name: "a", Kind: 1}, {Name: "1", Kind: 1}}, api.ErrTwice},
		{[]api.Decl{{Name: "a", Kind: 9}, {Name: "1", Kind: 1}}, api.ErrKind},
		{[]api.Decl{{Name: strings.Repeat("a", 17), Kind: 1}}, api.ErrSyntax},
	} {
		if got := types.Decls(c.l); got != c.want {
			t.Errorf("P10.1: Decls(%v): %d, not %d", c.l, got, c.want)
		}
	}
}
