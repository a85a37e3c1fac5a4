package parse_test

import (
	"slices"
	"strings"
	"testing"

	"beadle/api"
	"beadle/ast"
	"beadle/fault"
	"beadle/lex"
	"beadle/parse"
)

// x is an expression of a kind with kids.
func x(kind int, kids ...api.Expr) api.Expr {
	return api.Expr{Kind: kind, Kids: kids}
}

func n(i int64) api.Expr    { return api.Expr{Kind: api.Int, N: i} }
func tt(s string) api.Expr  { return api.Expr{Kind: api.Text, Name: s} }
func sub(s string) api.Expr { return api.Expr{Kind: api.Subject, Name: s} }
func obj(s string) api.Expr { return api.Expr{Kind: api.Object, Name: s} }

// span is an expression with a span.
func span(kind int, lo, hi int64, kids ...api.Expr) api.Expr {
	return api.Expr{Kind: kind, Lo: lo, Hi: hi, Kids: kids}
}

func TestExpr(t *testing.T) {
	yes, no := api.Expr{Kind: api.Bool, N: 1}, api.Expr{Kind: api.Bool}
	for _, c := range []struct {
		s    string
		want api.Expr
	}{
		{"0", n(0)},
		{"9223372036854775807", n(1<<63 - 1)},
		{"\"a b\"", tt("a b")},
		{"true", yes},
		{"false", no},
		{"now", x(api.Now)},
		{"{}", x(api.Set)},
		{"{\"a\"}", x(api.Set, tt("a"))},
		{"{ \"\", \"a\", \"b\" }", x(api.Set, tt(""), tt("a"), tt("b"))},
		{"{\"1\",\"2\",\"3\",\"4\",\"5\",\"6\",\"7\",\"8\"}", x(api.Set, tt("1"), tt("2"), tt("3"), tt("4"), tt("5"), tt("6"), tt("7"), tt("8"))},
		{"s.n", sub("n")},
		{"o . or", obj("or")},
		{"s.s", sub("s")},
		{"act(read)", api.Expr{Kind: api.Act, Name: "read"}},
		{"act(act)", api.Expr{Kind: api.Act, Name: "act"}},
		{"times(true, 9)", api.Expr{Kind: api.Times, Name: "true", Hi: 9}},
		{"len(s.n)", x(api.Len, sub("n"))},
		{"prev(true or false)", x(api.Prev, x(api.Or, yes, no))},
		{"not true", x(api.Not, yes)},
		{"not not true", x(api.Not, x(api.Not, yes))},
		{"- 1", x(api.Neg, n(1))},
		{"--1", x(api.Neg, x(api.Neg, n(1)))},
		{"not - true", x(api.Not, x(api.Neg, yes))},
		{"((1))", n(1)},
		{"once[0,5](true)", span(api.Once, 0, 5, yes)},
		{"once[5,5](true)", span(api.Once, 5, 5, yes)},
		{"hist[3,*](s.b)", span(api.Hist, 3, -1, sub("b"))},
		{"since[1, 2](true, false or true)", span(api.Since, 1, 2, yes, x(api.Or, no, yes))},
		{"1 + 2 * 3", x(api.Add, n(1), x(api.Mul, n(2), n(3)))},
		{"1 * 2 + 3", x(api.Add, x(api.Mul, n(1), n(2)), n(3))},
		{"1 - 2 - 3", x(api.Sub, x(api.Sub, n(1), n(2)), n(3))},
		{"1 - 2 + 3", x(api.Add, x(api.Sub, n(1), n(2)), n(3))},
		{"1 - (2 - 3)", x(api.Sub, n(1), x(api.Sub, n(2), n(3)))},
		{"1 * 2 * 3", x(api.Mul, x(api.Mul, n(1), n(2)), n(3))},
		{"-1 * 2", x(api.Mul, x(api.Neg, n(1)), n(2))},
		{"1 + 1 = 2", x(api.Eq, x(api.Add, n(1), n(1)), n(2))},
		{"1 != 2", x(api.Not, x(api.Eq, n(1), n(2)))},
		{"1 < 2 + 3", x(api.Lt, n(1), x(api.Add, n(2), n(3)))},
		{"1 <= 2", x(api.Le, n(1), n(2))},
		{"\"a\" in o.l", x(api.In, tt("a"), obj("l"))},
		{"1 < 2 and 3 < 4", x(api.And, x(api.Lt, n(1), n(2)), x(api.Lt, n(3), n(4)))},
		{"true or true and false", x(api.Or, yes, x(api.And, yes, no))},
		{"true and true or false", x(api.Or, x(api.And, yes, yes), no)},
		{"true or false or no = 1", api.Expr{}},
		{"not true and false", x(api.And, x(api.Not, yes), no)},
		{"not (true and false)", x(api.Not, x(api.And, yes, no))},
		{"not 1 = 2", x(api.Eq, x(api.Not, n(1)), n(2))},
		{"true or false or true", x(api.Or, x(api.Or, yes, no), yes)},
		{"true and false and true", x(api.And, x(api.And, yes, no), yes)},
	} {
		got, err := parse.Expr(c.s)
		if c.want.Kind == 0 {
			if fault.Code(err) != api.ErrSyntax {
				t.Errorf("P8.1: Expr(%q): %v", c.s, err)
			}
		} else if err != nil || !ast.Same(got, c.want) {
			t.Errorf("P8.1: Expr(%q): %v %v, not %v", c.s, got, err, c.want)
		}
	}
}

// nested is "true" within so many brackets.
func nested(k int, s string) string {
	return strings.Repeat("(", k) + s + strings.Repeat(")", k)
}

func TestFaults(t *testing.T) {
	for _, c := range []struct {
		s     string
		code  api.Errno
		at    int
		depth int
	}{
		// lex's
		{"1 + ?", api.ErrSyntax, 4, 1},
		{strings.Repeat(" ", 4097), api.ErrLong, 0, 1},
		{"s." + strings.Repeat("n", 17), api.ErrLong, 2, 1},
		// Take's, wrapped
		{"", api.ErrSyntax, 0, 2},
		{"  ", api.ErrSyntax, 2, 2},
		{"1 + ", api.ErrSyntax, 4, 2},
		{"foo", api.ErrSyntax, 0, 2},
		{" or", api.ErrSyntax, 1, 2},
		{"1 + )", api.ErrSyntax, 4, 2},
		{"s n", api.ErrSyntax, 2, 2},
		{"s.1", api.ErrSyntax, 2, 2},
		{"s.\"n\"", api.ErrSyntax, 2, 2},
		{"act read", api.ErrSyntax, 4, 2},
		{"act(1)", api.ErrSyntax, 4, 2},
		{"act(a,1)", api.ErrSyntax, 5, 2},
		{"times(a)", api.ErrSyntax, 7, 2},
		{"times(a,b)", api.ErrSyntax, 8, 2},
		{"times(a,1", api.ErrSyntax, 9, 2},
		{"len 1", api.ErrSyntax, 4, 2},
		{"prev()", api.ErrSyntax, 5, 2},
		{"prev(true", api.ErrSyntax, 9, 2},
		{"(1", api.ErrSyntax, 2, 2},
		{"not", api.ErrSyntax, 3, 2},
		{"not or", api.ErrSyntax, 4, 2},
		{"{1}", api.ErrSyntax, 1, 2},
		{"{\"a\",}", api.ErrSyntax, 5, 2},
		{"{\"a\" \"b\"}", api.ErrSyntax, 5, 2},
		{"{,}", api.ErrSyntax, 1, 2},
		{"{\"b\", \"a\"} = {}", api.ErrSyntax, 9, 2},
		{"{\"a\", \"a\" }", api.ErrSyntax, 10, 2},
		{"{\"b\", \"a\", 1}", api.ErrSyntax, 9, 2},
		{"{\"a\", \"c\", \"b\", \"d\"}", api.ErrSyntax, 14, 2},
		{"{\"b\", \"a\"", api.ErrSyntax, 9, 2},
		{"{\"b\", \"a\" 1}", api.ErrSyntax, 10, 2},
		{"{\"1\",\"2\",\"3\",\"4\",\"5\",\"6\",\"7\",\"8\",\"9\"} ", api.ErrSyntax, 36, 2},
		{"{\"1\",\"2\",\"3\",\"4\",\"5\",\"6\",\"7\",\"8\",\"9\",\"10\"}", api.ErrSyntax, 36, 2},
		{"{\"1\",\"2\",\"3\",\"4\",\"5\",\"6\",\"7\",\"8\",9}", api.ErrSyntax, 33, 2},
		{"once(true)", api.ErrSyntax, 4, 2},
		{"once[*,1](true)", api.ErrSyntax, 5, 2},
		{"once[1](true)", api.ErrSyntax, 6, 2},
		{"once[1,2,3](true)", api.ErrSyntax, 8, 2},
		{"once[1,-1](true)", api.ErrSyntax, 7, 2},
		{"once[5,4] (true)", api.ErrSyntax, 8, 2},
		{"hist[5, 4 ](true)", api.ErrSyntax, 10, 2},
		{"since[1,0](true, false)", api.ErrSyntax, 9, 2},
		{"once[5,4", api.ErrSyntax, 8, 2},
		{"once[5,4 true", api.ErrSyntax, 9, 2},
		{"once[5,*](", api.ErrSyntax, 10, 2},
		{"once[1,2]true", api.ErrSyntax, 9, 2},
		{"once[1,2](true, true)", api.ErrSyntax, 14, 2},
		{"since[1,2](true)", api.ErrSyntax, 15, 2},
		{"since[1,2](true,)", api.ErrSyntax, 16, 2},
		{nested(32, "true"), api.ErrDepth, 32, 2},
		{strings.Repeat("(", 32) + ")", api.ErrDepth, 32, 2},
		{strings.Repeat("- ", 32), api.ErrDepth, 64, 2},
		{strings.Repeat("not ", 33) + "true", api.ErrDepth, 128, 2},
		{strings.Repeat("(", 31) + ")", api.ErrSyntax, 31, 2},
		// what is left
		{"1 2", api.ErrSyntax, 2, 1},
		{"1 < 2 < 3", api.ErrSyntax, 6, 1},
		{"1 = 2 != 3", api.ErrSyntax, 6, 1},
		{"true)", api.ErrSyntax, 4, 1},
		{"s.a s.b", api.ErrSyntax, 4, 1},
		// ast's
		{"1" + strings.Repeat("+1", 12), api.ErrDepth, 0, 1},
		{strings.Repeat("not ", 12) + "true", api.ErrDepth, 0, 1},
		{"-" + strings.Repeat("("+strings.Repeat("1+", 7)+"1)*", 3) + "(" + strings.Repeat("1+", 7) + "1)", api.OK, -1, 0},
		{strings.Repeat("("+strings.Repeat("1+", 7)+"1)*", 4) + "1", api.ErrCount, 0, 1},
	} {
		e, err := parse.Expr(c.s)
		if fault.Code(err) != c.code || fault.Place(err) != c.at || fault.Depth(err) != c.depth || err != nil && e.Kind != 0 {
			t.Errorf("P8.1: Expr(%.60q): %v (depth %d), not %d at %d", c.s, err, fault.Depth(err), c.code, c.at)
		}
	}
	if _, err := parse.Expr(nested(31, "true")); err != nil {
		t.Errorf("P8.1: within 31 others: %v", err)
	}
}

// words are the words of a text, without the end.
func words(s string) []lex.Token {
	l, _ := lex.All(s)
	return l[:len(l)-1]
}

func TestTake(t *testing.T) {
	for _, c := range []struct {
		s    string
		n    int
		want api.Expr
	}{
		{"1", 1, n(1)},
		{"1 2", 1, n(1)},
		{"1 ; attr", 1, n(1)},
		{"1 + 2 ) 3", 3, x(api.Add, n(1), n(2))},
		{"1 < 2 < 3", 3, x(api.Lt, n(1), n(2))},
		{"(1) = 2 =", 5, x(api.Eq, n(1), n(2))},
		{"{} }", 2, x(api.Set)},
	} {
		for _, l := range [][]lex.Token{words(c.s), append(words(c.s), lex.Token{Kind: 5, At: len(c.s)})} {
			was := slices.Clone(l)
			e, k, err := parse.Take(l)
			if err != nil || k != c.n || !ast.Same(e, c.want) {
				t.Errorf("P8.1: Take(%q): %v %d %v", c.s, e, k, err)
			}
			if !slices.Equal(l, was) {
				t.Error("P2: Take changed its words")
			}
		}
	}
}

// TestTakeFaults: where no words are left, the last one counts.
func TestTakeFaults(t *testing.T) {
	for _, c := range []struct {
		l    []lex.Token
		code api.Errno
		at   int
	}{
		{nil, api.ErrSyntax, 0},
		{words("  ("), api.ErrSyntax, 2},
		{words("1 + "), api.ErrSyntax, 2},
		{words("once[5,4](true)"), api.ErrSyntax, 8},
		{words("once[5,4"), api.ErrSyntax, 7},
		{words("{\"b\",\"a\"} = 1"), api.ErrSyntax, 8},
		{words("{\"b\",\"a\""), api.ErrSyntax, 5},
		{words(strings.Repeat("(", 32)), api.ErrDepth, 31},
		{[]lex.Token{{Kind: 5, At: 7}}, api.ErrSyntax, 7},
		{[]lex.Token{{At: -3}}, api.ErrSyntax, -3},
		{[]lex.Token{{Kind: 4, S: "true", At: 3}}, api.ErrSyntax, 3},
		{[]lex.Token{{Kind: 1, S: "(", At: 3}}, api.ErrSyntax, 3},
		{[]lex.Token{{Kind: 99, S: "true", At: 3}}, api.ErrSyntax, 3},
	} {
		e, k, err := parse.Take(c.l)
		if fault.Code(err) != c.code || fault.Place(err) != c.at || fault.Depth(err) != 1 || k != 0 || e.Kind != 0 {
			t.Errorf("P8.1: Take(%v): %v %d %v", c.l, e, k, err)
		}
	}
}

// TestAnyWords: words in any order end in an expression or a fault; what Expr tells may be.
func TestAnyWords(t *testing.T) {
	pool := strings.Fields(`1 2 "a" "b" true false now { } s o . n act ( ) times , len prev not - once hist since [ ] * + = != < <= in and or foo ;`)
	seed := uint32(7)
	took := 0
	for range 60000 {
		l := []string{}
		seed = seed*1664525 + 1013904223
		for range 1 + seed>>8%7 {
			seed = seed*1664525 + 1013904223
			l = append(l, pool[int(seed>>8)%len(pool)])
		}
		s := strings.Join(l, " ")
		e, err := parse.Expr(s)
		if err == nil {
			took++
			if ast.Check(e) != api.OK {
				t.Fatalf("P8.2: Expr(%q): %v may not be", s, e)
			}
		} else if at := fault.Place(err); at < 0 || at > len(s) {
			t.Fatalf("P8.1: Expr(%q): %v", s, err)
		}
		ws, _ := lex.All(s)
		e2, k, err2 := parse.Take(ws)
		if err == nil && (err2 != nil || k != len(ws)-1 || !ast.Same(e, e2)) {
			t.Fatalf("P8.1: Take(%q): %d %v", s, k, err2)
		}
		if err2 == nil {
			// What was taken is an expression by itself.
			if e3, k3, err3 := parse.Take(ws[:k]); err3 != nil || k3 != k || !ast.Same(e2, e3) {
				t.Fatalf("P8.1: Take of what was taken of %q: %d %v", s, k3, err3)
			}
		}
	}
	if took < 100 {
		t.Errorf("the test takes only %d expressions", took)
	}
}

// TestManyWords: a long row of words is taken without waiting.
func TestManyWords(t *testing.T) {
	l := []lex.Token{{Kind: 2, N: 1}}
	for range 30000 {
		l = append(l, lex.Token{Kind: 4, S: "+"}, lex.Token{Kind: 2, N: 1})
	}
	if _, k, err := parse.Take(l); k != len(l) || err != nil {
		t.Errorf("P8.1: Take of many words: %d %v", k, err)
	}
}
