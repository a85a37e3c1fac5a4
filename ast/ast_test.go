package ast_test

import (
	"strings"
	"testing"

	"beadle/api"
	"beadle/ast"
)

// x is an expression of a kind with kids.
func x(kind int, kids ...api.Expr) api.Expr {
	return api.Expr{Kind: kind, Kids: kids}
}

// n is a number, tt a text, yes what is true.
func n(i int64) api.Expr    { return api.Expr{Kind: api.Int, N: i} }
func tt(s string) api.Expr  { return api.Expr{Kind: api.Text, Name: s} }
func yes() api.Expr         { return api.Expr{Kind: api.Bool, N: 1} }
func sub(s string) api.Expr { return api.Expr{Kind: api.Subject, Name: s} }

// span is an expression with a span.
func span(kind int, lo, hi int64, kids ...api.Expr) api.Expr {
	return api.Expr{Kind: kind, Lo: lo, Hi: hi, Kids: kids}
}

// chain is so many parts in one another.
func chain(depth int) api.Expr {
	e := yes()
	for range depth - 1 {
		e = x(api.Not, e)
	}
	return e
}

// wide is an expression of an odd number of parts, not deep.
func wide(size int) api.Expr {
	l := []api.Expr{}
	for range (size + 1) / 2 {
		l = append(l, yes())
	}
	for len(l) > 1 {
		l = append(l[2:], x(api.And, l[0], l[1]))
	}
	return l[0]
}

func TestKids(t *testing.T) {
	want := map[int]int{
		api.Int: 0, api.Bool: 0, api.Text: 0, api.Set: -1, api.Subject: 0, api.Object: 0, api.Now: 0,
		api.Add: 2, api.Sub: 2, api.Mul: 2, api.Neg: 1, api.Len: 1, api.Times: 0, api.Eq: 2, api.Lt: 2, api.Le: 2, api.In: 2,
		api.Not: 1, api.And: 2, api.Or: 2, api.Act: 0, api.Once: 1, api.Hist: 1, api.Since: 2, api.Prev: 1,
		0: -2, -1: -2, 26: -2, 1 << 40: -2,
	}
	for kind, k := range want {
		if got := ast.Kids(kind); got != k {
			t.Errorf("P7.1: Kids(%d): %d, not %d", kind, got, k)
		}
	}
}

func TestDepthAndSize(t *testing.T) {
	set := x(api.Set, tt("a"), tt("b"))
	for _, c := range []struct {
		e           api.Expr
		depth, size int
	}{
		{x(api.Add, sub("a"), n(1)), 2, 3},
		{n(1), 1, 1},
		{api.Expr{}, 1, 1},
		{set, 1, 1},
		{x(api.In, tt("a"), set), 2, 3},
		{x(api.Or, chain(3), chain(5)), 6, 9},
		{x(api.Text, n(1)), 2, 2},
		{x(99, x(99), x(99, x(99))), 3, 4},
		{chain(1000), 1000, 1000},
	} {
		if d, s := ast.Depth(c.e), ast.Size(c.e); d != c.depth || s != c.size {
			t.Errorf("P7.1: of %v: depth %d, size %d, not %d, %d", c.e, d, s, c.depth, c.size)
		}
	}
}

// set is a set of texts.
func set(l ...string) api.Expr {
	e := api.Expr{Kind: api.Set}
	for _, s := range l {
		e.Kids = append(e.Kids, tt(s))
	}
	return e
}

// each is an expression of each kind that may be.
func each() []api.Expr {
	l := []api.Expr{
		n(0), n(1<<63 - 1), {Kind: api.Bool}, yes(), tt(""), tt(strings.Repeat("x", 32)),
		set(), set("a"), set("", "1", "2", "3", "4", "5", "6", "7"), {Kind: api.Set, Kids: []api.Expr{}},
		sub("a"), {Kind: api.Object, Name: strings.Repeat("o", 16)}, {Kind: api.Act, Name: "_"}, {Kind: api.Now}, {Kind: api.Now, Kids: []api.Expr{}},
		{Kind: api.Times, Name: "a"}, {Kind: api.Times, Name: "a", Hi: 1<<63 - 1},
	}
	for _, kind := range []int{api.Neg, api.Len, api.Not, api.Prev} {
		l = append(l, x(kind, yes()))
	}
	for _, kind := range []int{api.Add, api.Sub, api.Mul, api.Eq, api.Lt, api.Le, api.In, api.And, api.Or} {
		l = append(l, x(kind, n(1), yes()))
	}
	for _, s := range [][2]int64{{0, 0}, {0, -1}, {5, 5}, {5, -1}, {0, 1<<63 - 1}, {3, 9}} {
		l = append(l, span(api.Once, s[0], s[1], yes()), span(api.Hist, s[0], s[1], yes()), span(api.Since, s[0], s[1], yes(), yes()))
	}
	return append(l, chain(12), wide(63), x(api.Not, wide(63)))
}

func TestMayBe(t *testing.T) {
	for _, e := range each() {
		if got := ast.Check(e); got != api.OK {
			t.Errorf("P7.1: Check(%v): %d", e, got)
		}
	}
}

// TestOneFieldMore: an expression that may be, with one field more, may not.
func TestOneFieldMore(t *testing.T) {
	for _, e := range each() {
		has := map[string]bool{}
		switch e.Kind {
		case api.Int, api.Bool:
			has["N"] = true
		case api.Text, api.Subject, api.Object, api.Act:
			has["Name"] = true
		case api.Times:
			has["Name"], has["Hi"] = true, true
		case api.Once, api.Hist, api.Since:
			has["Lo"], has["Hi"] = true, true
		}
		for field, put := range map[string]func(*api.Expr){
			"Name": func(e *api.Expr) { e.Name = "b" },
			"N":    func(e *api.Expr) { e.N = 1 },
			"Lo":   func(e *api.Expr) { e.Lo = 1 },
			"Hi":   func(e *api.Expr) { e.Hi = 1 },
			"Kids": func(e *api.Expr) { e.Kids = append([]api.Expr{yes()}, e.Kids...) },
		} {
			other := e
			put(&other)
			if got := ast.Check(other); !has[field] && got == api.OK {
				t.Errorf("P7.1: Check(%v) with %s: %d", e, field, got)
			}
		}
	}
}

func TestMayNotBe(t *testing.T) {
	for _, c := range []struct {
		name string
		e    api.Expr
		want api.Errno
	}{
		{"nothing", api.Expr{}, api.ErrKind},
		{"kind 26", api.Expr{Kind: 26}, api.ErrKind},
		{"kind -1", api.Expr{Kind: -1}, api.ErrKind},
		{"-1", n(-1), api.ErrKind},
		{"truth 2", api.Expr{Kind: api.Bool, N: 2}, api.ErrKind},
		{"truth -1", api.Expr{Kind: api.Bool, N: -1}, api.ErrKind},
		{"text with a quote", tt("a\""), api.ErrKind},
		{"text too long", tt(strings.Repeat("x", 33)), api.ErrKind},
		{"no name", sub(""), api.ErrKind},
		{"name of a digit", sub("1"), api.ErrKind},
		{"act without a name", api.Expr{Kind: api.Act}, api.ErrKind},
		{"times without a name", api.Expr{Kind: api.Times, Hi: 1}, api.ErrKind},
		{"times below 0", api.Expr{Kind: api.Times, Name: "a", Hi: -1}, api.ErrKind},
		{"set that falls", set("b", "a"), api.ErrKind},
		{"set with one twice", set("a", "a"), api.ErrKind},
		{"set too great", set("1", "2", "3", "4", "5", "6", "7", "8", "9"), api.ErrKind},
		{"set of numbers", x(api.Set, n(1)), api.ErrKind},
		{"set of what is no text", x(api.Set, api.Expr{Kind: api.Text, Name: "a", N: 1}), api.ErrKind},
		{"set of texts with kids", x(api.Set, x(api.Text, tt(""))), api.ErrKind},
		{"set of a text that is not plain", set("a\n"), api.ErrKind},
		{"no kid", x(api.Not), api.ErrKind},
		{"two kids", x(api.Not, yes(), yes()), api.ErrKind},
		{"one kid", x(api.And, yes()), api.ErrKind},
		{"three kids", x(api.And, yes(), yes(), yes()), api.ErrKind},
		{"lo below 0", span(api.Once, -1, 5, yes()), api.ErrKind},
		{"lo below 0 without end", span(api.Since, -1, -1, yes(), yes()), api.ErrKind},
		{"hi below lo", span(api.Hist, 5, 4, yes()), api.ErrKind},
		{"hi -2", span(api.Once, 0, -2, yes()), api.ErrKind},
		{"since with one kid", span(api.Since, 0, 1, yes()), api.ErrKind},
		{"within", x(api.And, yes(), x(api.Not, n(-1))), api.ErrKind},
		{"within, first", x(api.And, n(-1), yes()), api.ErrKind},
		{"too deep", chain(13), api.ErrDepth},
		{"depth ahead of count", x(api.And, chain(12), wide(65)), api.ErrDepth},
		{"depth ahead of kind", x(0, chain(12)), api.ErrDepth},
		{"too many", wide(65), api.ErrCount},
		{"count ahead of kind", x(api.And, wide(63), n(-1)), api.ErrCount},
		{"64 parts of a wrong kind", x(0, wide(63)), api.ErrKind},
	} {
		if got := ast.Check(c.e); got != c.want {
			t.Errorf("P7.1: Check of %s: %d, not %d", c.name, got, c.want)
		}
	}
}

func TestSame(t *testing.T) {
	l := append(each(), api.Expr{}, x(api.And, yes(), n(2)), x(api.And, n(2), yes()), x(api.And, yes()), span(api.Once, 3, 8, yes()), span(api.Once, 2, 9, yes()), sub("b"), tt("a"))
	for i, a := range l {
		for j, b := range l {
			empty := a.Kind == b.Kind && len(a.Kids)+len(b.Kids) == 0 && (a.Kind == api.Set || a.Kind == api.Now)
			if got := ast.Same(a, b); got != (i == j || empty) {
				t.Errorf("P7.1: Same(%v, %v): %v", a, b, got)
			}
		}
	}
	if ast.Same(set("a"), x(api.Set, n(1))) {
		t.Error("P7.1: Same of unlike sets")
	}
}

func TestPast(t *testing.T) {
	for kind := range 27 {
		want := kind == api.Once || kind == api.Hist || kind == api.Since || kind == api.Prev || kind == api.Times
		e := api.Expr{Kind: kind}
		if ast.Past(e) != want || ast.Past(x(api.And, yes(), x(api.Not, e))) != want || ast.Past(x(api.And, e, yes())) != want {
			t.Errorf("P7.1: Past of kind %d: %v", kind, !want)
		}
	}
	if ast.Past(x(api.Set, x(api.Prev, yes()))) {
		t.Error("P7.1: a set's texts do not count")
	}
}

func TestClone(t *testing.T) {
	for _, e := range each() {
		if !ast.Same(e, ast.Clone(e)) {
			t.Errorf("P7.1: Clone of %v", e)
		}
	}
	e := x(api.And, x(api.Not, yes()), set("a"))
	c := ast.Clone(e)
	c.Kids[0].Kids[0].N = 0
	c.Kids[1].Kids[0].Name = "b"
	c.Kids[0].Kind = api.Neg
	if !ast.Same(e, x(api.And, x(api.Not, yes()), set("a"))) {
		t.Error("P2: a clone shares memory")
	}
}
