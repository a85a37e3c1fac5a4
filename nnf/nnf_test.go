package nnf_test

import (
	"math/rand"
	"testing"

	"beadle/api"
	"beadle/ast"
	"beadle/monitor"
	"beadle/nnf"
	"beadle/parse"
	"beadle/print"
	"beadle/store"
	"beadle/truth"
	"beadle/value"
)

// expr is the expression of a text.
func expr(t *testing.T, s string) api.Expr {
	t.Helper()
	e, err := parse.Expr(s)
	if err != nil {
		t.Fatal(s, err)
	}
	return e
}

func TestOf(t *testing.T) {
	for s, want := range map[string]string{
		"not (s.a and s.b)":                     "(not s.a or not s.b)",
		"not (s.a or s.b)":                      "(not s.a and not s.b)",
		"not not s.a":                           "s.a",
		"not not not s.a":                       "not s.a",
		"not true":                              "false",
		"not false":                             "true",
		"not once[1,5](s.a)":                    "hist[1,5](not s.a)",
		"not hist[2,*](not s.a)":                "once[2,*](s.a)",
		"not since[0,5](s.a, s.b)":              "not since[0,5](s.a, s.b)",
		"not prev(not not s.a)":                 "not prev(s.a)",
		"not (1 < 2)":                           "not (1 < 2)",
		"not act(a)":                            "not act(a)",
		"s.a and true":                          "s.a",
		"true and s.a":                          "s.a",
		"s.a and false":                         "false",
		"false and s.a":                         "false",
		"s.a or false":                          "s.a",
		"false or s.a":                          "s.a",
		"s.a or true":                           "true",
		"true or s.a":                           "true",
		"true and false":                        "false",
		"true or false":                         "true",
		"not (s.a and not (s.b or not o.c))":    "(not s.a or (s.b or not o.c))",
		"not (s.a and true)":                    "not s.a",
		"not (s.a or not (true and not false))": "not s.a",
		"once[0,1](true and s.a)":               "once[0,1](s.a)",
		"once[0,1](true)":                       "once[0,1](true)",
		"not once[0,1](true)":                   "hist[0,1](false)",
		"hist[0,1](not once[2,3](s.a and not s.b))": "hist[0,1](hist[2,3]((not s.a or s.b)))",
		"since[0,1](not not s.a, s.b or true)":      "since[0,1](s.a, true)",
		"prev(not (s.a and s.b))":                   "prev((not s.a or not s.b))",
		"(not not s.a) = (s.b or true)":             "(s.a = true)",
		"1 + 2":                                     "(1 + 2)",
		"\"a\" in {\"a\", \"b\"}":                   "(\"a\" in {\"a\", \"b\"})",
		"not 1":                                     "not 1",
		"1 and true":                                "1",
	} {
		e := expr(t, s)
		was := ast.Clone(e)
		got := nnf.Of(e)
		if print.Expr(got) != want {
			t.Errorf("P30.1: Of(%s): %s, not %s", s, print.Expr(got), want)
		}
		if nnf.Is(e) != ast.Same(e, got) || !nnf.Is(got) {
			t.Errorf("P30.1: Is(%s): %v", s, nnf.Is(e))
		}
		no := nnf.Not(e)
		if !ast.Same(no, nnf.Of(api.Expr{Kind: api.Not, Kids: []api.Expr{e}})) {
			t.Errorf("P30.1: Not(%s): %s", s, print.Expr(no))
		}
		// what is told is new memory
		for _, x := range []api.Expr{got, no} {
			spoil(x)
		}
		if !ast.Same(e, was) {
			t.Errorf("P2: %s was changed", s)
		}
	}
}

// spoil changes all kids.
func spoil(e api.Expr) {
	for i := range e.Kids {
		spoil(e.Kids[i])
		e.Kids[i].Name += "z"
	}
}

func TestNot(t *testing.T) {
	for s, want := range map[string]string{"true": "false", "s.a": "not s.a", "not s.a": "s.a", "s.a and not s.b": "(not s.a or s.b)", "once[0,*](s.a)": "hist[0,*](not s.a)"} {
		if got := print.Expr(nnf.Not(expr(t, s))); got != want {
			t.Errorf("P30.1: Not(%s): %s, not %s", s, got, want)
		}
	}
}

// TestOthers: what may not be stays as it is.
func TestOthers(t *testing.T) {
	deep := api.Expr{Kind: api.Bool, N: 1}
	for range 12 {
		deep = api.Expr{Kind: api.Not, Kids: []api.Expr{deep}}
	}
	for _, e := range []api.Expr{{}, {Kind: api.Not}, {Kind: api.And, Kids: []api.Expr{{Kind: api.Bool, N: 1}}}, {Kind: api.Not, Kids: []api.Expr{{Kind: api.Bool, N: 7}}}, deep} {
		was := ast.Clone(e)
		of, not := nnf.Of(e), nnf.Not(e)
		if !ast.Same(of, e) || !ast.Same(not, e) || !nnf.Is(e) {
			t.Errorf("P30.1: of what may not be: %v", e)
		}
		spoil(of)
		spoil(not)
		if !ast.Same(e, was) {
			t.Error("P2: what is told shares memory")
		}
	}
}

// some is a truth by chance, at most so deep.
func some(r *rand.Rand, depth int) api.Expr {
	if depth <= 1 {
		return []api.Expr{{Kind: api.Bool, N: int64(r.Intn(2))}, {Kind: api.Act, Name: "a"}, {Kind: api.Act, Name: "b"}, {Kind: api.Subject, Name: "b"}}[r.Intn(4)]
	}
	e := api.Expr{Kind: []int{api.Not, api.Not, api.And, api.Or, api.Once, api.Hist, api.Since, api.Prev, api.Eq}[r.Intn(9)]}
	if e.Kind == api.Once || e.Kind == api.Hist || e.Kind == api.Since {
		e.Lo = int64(r.Intn(3))
		if e.Hi = -1; r.Intn(3) > 0 {
			e.Hi = e.Lo + int64(r.Intn(5))
		}
	}
	for range ast.Kids(e.Kind) {
		e.Kids = append(e.Kids, some(r, depth-1-r.Intn(2)))
	}
	return e
}

// TestMeaning: what is made simple means the same, and Not the other thing.
func TestMeaning(t *testing.T) {
	r := rand.New(rand.NewSource(13))
	held := 0
	for i := range 3000 {
		e := some(r, 1+i%8)
		of, not := nnf.Of(e), nnf.Not(e)
		if ast.Check(e) != api.OK || ast.Check(of) != api.OK || ast.Check(not) != api.OK {
			continue
		}
		held++
		var l []truth.Point
		at := int64(0)
		for range 8 {
			at += int64(r.Intn(3))
			s := store.New(api.Decl{Name: "b", Kind: 2})
			s.Set("a", "b", value.Bool(r.Intn(2) == 0))
			l = append(l, truth.Point{Moment: monitor.Moment{At: at, Act: []string{"", "a", "b"}[r.Intn(3)], Subject: "a"}, Store: s})
			want, err := truth.Eval(e, l)
			got, errOf := truth.Eval(of, l)
			other, errNot := truth.Eval(not, l)
			if err != api.OK || errOf != api.OK || errNot != api.OK || got.N != want.N || other.N == want.N {
				t.Fatalf("P30.2: %s is %d, %s is %d, %s is %d", print.Expr(e), want.N, print.Expr(of), got.N, print.Expr(not), other.N)
			}
		}
	}
	if held < 1000 {
		t.Errorf("the test holds only %d expressions", held)
	}
}
