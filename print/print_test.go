package print_test

import (
	"math/rand"
	"strings"
	"testing"

	"beadle/api"
	"beadle/ast"
	"beadle/parse"
	"beadle/print"
)

// x is an expression of a kind with kids.
func x(kind int, kids ...api.Expr) api.Expr {
	return api.Expr{Kind: kind, Kids: kids}
}

func n(i int64) api.Expr    { return api.Expr{Kind: api.Int, N: i} }
func tt(s string) api.Expr  { return api.Expr{Kind: api.Text, Name: s} }
func sub(s string) api.Expr { return api.Expr{Kind: api.Subject, Name: s} }

func TestExpr(t *testing.T) {
	a, b := sub("a"), api.Expr{Kind: api.Object, Name: "b"}
	for _, c := range []struct {
		e    api.Expr
		want string
	}{
		{x(api.Add, a, n(1)), "(s.a + 1)"},
		{n(0), "0"},
		{n(1<<63 - 1), "9223372036854775807"},
		{api.Expr{Kind: api.Bool}, "false"},
		{api.Expr{Kind: api.Bool, N: 1}, "true"},
		{tt("a b"), "\"a b\""},
		{x(api.Set), "{}"},
		{x(api.Set, tt("")), "{\"\"}"},
		{x(api.Set, tt("a"), tt("b")), "{\"a\", \"b\"}"},
		{b, "o.b"},
		{x(api.Now), "now"},
		{api.Expr{Kind: api.Times, Name: "read", Hi: 9}, "times(read, 9)"},
		{api.Expr{Kind: api.Act, Name: "read"}, "act(read)"},
		{x(api.Neg, a), "-s.a"},
		{x(api.Neg, x(api.Neg, n(1))), "--1"},
		{x(api.Not, b), "not o.b"},
		{x(api.Not, x(api.Not, b)), "not not o.b"},
		{x(api.Not, x(api.Eq, a, b)), "not (s.a = o.b)"},
		{x(api.Len, a), "len(s.a)"},
		{x(api.Prev, x(api.Or, a, b)), "prev((s.a or o.b))"},
		{api.Expr{Kind: api.Once, Lo: 1, Hi: 2, Kids: []api.Expr{a}}, "once[1,2](s.a)"},
		{api.Expr{Kind: api.Hist, Lo: 1, Hi: -1, Kids: []api.Expr{a}}, "hist[1,*](s.a)"},
		{api.Expr{Kind: api.Since, Hi: 7, Kids: []api.Expr{a, b}}, "since[0,7](s.a, o.b)"},
		{x(api.Sub, a, b), "(s.a - o.b)"},
		{x(api.Mul, a, b), "(s.a * o.b)"},
		{x(api.Eq, a, b), "(s.a = o.b)"},
		{x(api.Lt, a, b), "(s.a < o.b)"},
		{x(api.Le, a, b), "(s.a <= o.b)"},
		{x(api.In, a, b), "(s.a in o.b)"},
		{x(api.And, a, b), "(s.a and o.b)"},
		{x(api.Or, x(api.And, a, b), x(api.Not, a)), "((s.a and o.b) or not s.a)"},
	} {
		if got := print.Expr(c.e); got != c.want {
			t.Errorf("P9.1: Expr: %s, not %s", got, c.want)
		}
	}
}

func TestSpan(t *testing.T) {
	for want, s := range map[string][2]int64{"[0,0]": {0, 0}, "[1,*]": {1, -1}, "[5,9223372036854775807]": {5, 1<<63 - 1}, "[-1,-2]": {-1, -2}} {
		if got := print.Span(s[0], s[1]); got != want {
			t.Errorf("P9.1: Span: %s, not %s", got, want)
		}
	}
}

func TestQuote(t *testing.T) {
	for s, want := range map[string]string{"": "\"\"", "a b": "\"a b\"", "\"": "\"\"\"", "\n": "\"\n\""} {
		if got := print.Quote(s); got != want {
			t.Errorf("P9.1: Quote: %s, not %s", got, want)
		}
	}
}

// some is an expression that may be, at most so deep.
func some(r *rand.Rand, depth int) api.Expr {
	names := []string{"a", "or", "s", "true", "_", "times", strings.Repeat("n", 16)}
	e := api.Expr{Kind: 1 + r.Intn(25)}
	if depth <= 1 {
		e.Kind = []int{1, 2, 3, 4, 5, 6, 7, 13, 21}[r.Intn(9)]
	}
	switch e.Kind {
	case api.Int:
		e.N = int64(r.Uint64() >> (1 + r.Intn(63)))
	case api.Bool:
		e.N = int64(r.Intn(2))
	case api.Text:
		e.Name = []string{"", " ", "true", "\t\r\x00\xff", strings.Repeat("x", 32)}[r.Intn(5)]
	case api.Set:
		for i := range r.Intn(9) {
			e.Kids = append(e.Kids, tt(string(rune('a'+i))+"}, "))
		}
	case api.Subject, api.Object, api.Act, api.Times:
		e.Name = names[r.Intn(len(names))]
	}
	if e.Kind == api.Times {
		e.Hi = int64(r.Intn(99))
	}
	if e.Kind == api.Once || e.Kind == api.Hist || e.Kind == api.Since {
		e.Lo = int64(r.Intn(9))
		if e.Hi = -1; r.Intn(3) > 0 {
			e.Hi = e.Lo + int64(r.Intn(9))
		}
	}
	for range ast.Kids(e.Kind) {
		e.Kids = append(e.Kids, some(r, depth-1))
	}
	return e
}

// TestThereAndBack: printed and parsed it is the same.
func TestThereAndBack(t *testing.T) {
	r := rand.New(rand.NewSource(1))
	held := 0
	for i := range 20000 {
		e := some(r, 1+i%12)
		s := print.Expr(e)
		if ast.Check(e) != api.OK || len(s) > api.MaxSource {
			continue
		}
		held++
		if got, err := parse.Expr(s); err != nil || !ast.Same(got, e) {
			t.Fatalf("P9.2: %s: %v, not %v (%v)", s, got, e, err)
		}
	}
	if held < 5000 {
		t.Errorf("the test holds only %d expressions", held)
	}
	deep := n(1)
	for range 11 {
		deep = x(api.Neg, deep)
	}
	if got, err := parse.Expr(print.Expr(deep)); err != nil || !ast.Same(got, deep) {
		t.Errorf("P9.2: the deepest: %v", err)
	}
}

// TestOthers: of what may not be some text is told.
func TestOthers(t *testing.T) {
	deep := api.Expr{}
	for i := range 1 << 15 {
		deep = x(i%27, deep)
	}
	for _, e := range []api.Expr{{}, {Kind: -1}, x(api.Not), x(api.And, n(1)), x(api.And, n(-1), n(1), n(2)), x(api.Since), x(99, n(1)), x(api.Set, x(api.Set, n(1))), deep} {
		print.Expr(e)
	}
}

// TestKept: what is handed in is not changed.
func TestKept(t *testing.T) {
	e := x(api.And, sub("a"), x(api.Not, sub("b")))
	was := ast.Clone(e)
	print.Expr(e)
	if !ast.Same(e, was) {
		t.Error("P2: Expr changed its expression")
	}
}
