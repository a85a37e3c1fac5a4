package policy_test

import (
	"fmt"
	"math/rand"
	"reflect"
	"slices"
	"strings"
	"testing"

	"beadle/api"
	"beadle/ast"
	"beadle/fault"
	"beadle/parse"
	"beadle/policy"
)

// expr is the expression of a text.
func expr(t *testing.T, s string) api.Expr {
	t.Helper()
	e, err := parse.Expr(s)
	if err != nil {
		t.Fatal(s, err)
	}
	return e
}

const whole = `attr n int; attr b bool; attr t text; attr l set;
right use {
	on times(read, 9) <= 2; pre s.n < 3 and not o.b;
	duty pay act pay within 4 keep;
	after o.b := true; before s.n := s.n + 1; during s.t := "x"; during o.l := {"a", "b"};
	duty log on read act write within 0;
}
right on { }
`

const printed = `attr n int;
attr b bool;
attr t text;
attr l set;
right use {
  pre ((s.n < 3) and not o.b);
  on (times(read, 9) <= 2);
  before s.n := (s.n + 1);
  during s.t := "x";
  during o.l := {"a", "b"};
  after o.b := true;
  duty pay act pay within 4 keep;
  duty log on read act write within 0;
}
right on {
  pre true;
  on true;
}
`

// made is what whole says.
func made(t *testing.T) api.Policy {
	yes := expr(t, "true")
	return api.Policy{
		Decls: []api.Decl{{Name: "n", Kind: 1}, {Name: "b", Kind: 2}, {Name: "t", Kind: 3}, {Name: "l", Kind: 4}},
		Rights: []api.Right{{
			Name:   "use",
			Pre:    expr(t, "s.n < 3 and not o.b"),
			On:     expr(t, "times(read, 9) <= 2"),
			Before: []api.Update{{Side: 5, Name: "n", To: expr(t, "s.n + 1")}},
			During: []api.Update{{Side: 5, Name: "t", To: expr(t, "\"x\"")}, {Side: 6, Name: "l", To: expr(t, "{\"a\", \"b\"}")}},
			After:  []api.Update{{Side: 6, Name: "b", To: yes}},
			Duties: []api.Duty{{Name: "pay", Act: "pay", Within: 4, Keep: true}, {Name: "log", On: "read", Act: "write"}},
		}, {Name: "on", Pre: yes, On: yes}},
	}
}

func TestParse(t *testing.T) {
	p, err := policy.Parse(whole)
	if err != nil || !policy.Same(p, made(t)) {
		t.Errorf("P22.1: Parse: %v %v", p, err)
	}
	if p, err = policy.Parse(""); err != nil || !policy.Same(p, api.Policy{}) {
		t.Errorf("P22.1: Parse of nothing: %v %v", p, err)
	}
	// A name's word is taken as it stands.
	for s, want := range map[string]api.Policy{
		"attr attr int; attr int bool;":                     {Decls: []api.Decl{{Name: "attr", Kind: 1}, {Name: "int", Kind: 2}}},
		"right right{}":                                     {Rights: []api.Right{{Name: "right", Pre: expr(t, "true"), On: expr(t, "true")}}},
		"right r{duty on act act within 1;}":                {Rights: []api.Right{{Name: "r", Pre: expr(t, "true"), On: expr(t, "true"), Duties: []api.Duty{{Name: "on", Act: "act", Within: 1}}}}},
		"right r{duty act on on act within within 2;}":      {Rights: []api.Right{{Name: "r", Pre: expr(t, "true"), On: expr(t, "true"), Duties: []api.Duty{{Name: "act", On: "on", Act: "within", Within: 2}}}}},
		"right r{duty d on act act keep within 3 keep;}":    {Rights: []api.Right{{Name: "r", Pre: expr(t, "true"), On: expr(t, "true"), Duties: []api.Duty{{Name: "d", On: "act", Act: "keep", Within: 3, Keep: true}}}}},
		"attr on int; right r { before o.on := 1; on 1=1;}": {Decls: []api.Decl{{Name: "on", Kind: 1}}, Rights: []api.Right{{Name: "r", Pre: expr(t, "true"), On: expr(t, "1=1"), Before: []api.Update{{Side: 6, Name: "on", To: expr(t, "1")}}}}},
	} {
		if p, err := policy.Parse(s); err != nil || !policy.Same(p, want) {
			t.Errorf("P22.1: Parse(%q): %v %v", s, p, err)
		}
	}
}

func TestFaults(t *testing.T) {
	for _, c := range []struct {
		s    string
		code api.Errno
		at   int
	}{
		{"attr n ?", api.ErrSyntax, 7},
		{strings.Repeat(" ", 4097), api.ErrLong, 0},
		{"attr " + strings.Repeat("n", 17), api.ErrLong, 5},
		{"x", api.ErrSyntax, 0},
		{"attr", api.ErrSyntax, 4},
		{"attr 1", api.ErrSyntax, 5},
		{"attr n number;", api.ErrSyntax, 7},
		{"attr n \"int\";", api.ErrSyntax, 7},
		{"attr n int attr m int;", api.ErrSyntax, 11},
		{"right r { } attr n int;", api.ErrSyntax, 12},
		{"right r { };", api.ErrSyntax, 11},
		{"right { }", api.ErrSyntax, 6},
		{"right r ;", api.ErrSyntax, 8},
		{"right r {", api.ErrSyntax, 9},
		{"right r { foo true; }", api.ErrSyntax, 10},
		{"right r { pre true }", api.ErrSyntax, 19},
		{"right r { pre 1 < 2 < 3; }", api.ErrSyntax, 20},
		{"right r { pre ; }", api.ErrSyntax, 14},
		{"right r { pre once[2,1](true); }", api.ErrSyntax, 22},
		{"right r { pre \"a\" in {\"b\",\"a\"}; }", api.ErrSyntax, 29},
		{"right r { pre " + strings.Repeat("(", 33) + "true; }", api.ErrDepth, 46},
		{"right r { pre true; on true; pre true; }", api.ErrTwice, 29},
		{"right r { on true; on ); }", api.ErrTwice, 19},
		{"right r { before n := 1; }", api.ErrSyntax, 17},
		{"right r { before s n := 1; }", api.ErrSyntax, 19},
		{"right r { before s.1 := 1; }", api.ErrSyntax, 19},
		{"right r { before s.n = 1; }", api.ErrSyntax, 21},
		{"right r { during s.n := ; }", api.ErrSyntax, 24},
		{"right r { after s.n := 1 }", api.ErrSyntax, 25},
		{"right r { duty 1 act a within 1; }", api.ErrSyntax, 15},
		{"right r { duty d a within 1; }", api.ErrSyntax, 17},
		{"right r { duty d on 1 act a within 1; }", api.ErrSyntax, 20},
		{"right r { duty d on a within 1; }", api.ErrSyntax, 22},
		{"right r { duty d act within 1; }", api.ErrSyntax, 28},
		{"right r { duty d act a 1; }", api.ErrSyntax, 23},
		{"right r { duty d act a within b; }", api.ErrSyntax, 30},
		{"right r { duty d act a within 1 kept; }", api.ErrSyntax, 32},
		{"right r { duty d act a within 1 keep keep; }", api.ErrSyntax, 37},
		// Check's
		{"attr n int; attr n int;", api.ErrTwice, 0},
		{" right r {} right r {}", api.ErrTwice, 0},
		{" right r { pre s.x; }", api.ErrNone, 0},
		{" right r { on 1; }", api.ErrType, 0},
		{" right r { before s.x := 1; }", api.ErrNone, 0},
		{"attr n int; right r { during s.n := times(a, 1); }", api.ErrKind, 0},
		{"attr n int; right r { after s.n := true; }", api.ErrType, 0},
		{strings.Repeat("right r {}", 9), api.ErrCount, 0},
		{"right r {" + strings.Repeat("duty d act a within 1;", 9) + "}", api.ErrCount, 0},
	} {
		p, err := policy.Parse(c.s)
		if fault.Code(err) != c.code || fault.Place(err) != c.at || fault.Depth(err) != 1 || !policy.Same(p, api.Policy{}) {
			t.Errorf("P22.1: Parse(%.50q): %v, not %d at %d", c.s, err, c.code, c.at)
		}
	}
}

func TestPrint(t *testing.T) {
	p := made(t)
	if got := policy.Print(p); got != printed {
		t.Errorf("P22.1: Print: %s", got)
	}
	if back, err := policy.Parse(printed); err != nil || !policy.Same(back, p) {
		t.Errorf("P22.2: %v", err)
	}
	if policy.Print(api.Policy{}) != "" {
		t.Error("P22.1: Print of nothing")
	}
	odd := api.Policy{Decls: []api.Decl{{Name: "?", Kind: 9}}, Rights: []api.Right{{Before: make([]api.Update, 99), Duties: make([]api.Duty, 99)}}}
	policy.Print(odd)
}

func TestCheck(t *testing.T) {
	deep := expr(t, "true")
	for range 12 {
		deep = api.Expr{Kind: api.Not, Kids: []api.Expr{deep}}
	}
	bad := api.Update{Side: 1}
	for i, c := range []struct {
		want api.Errno
		turn func(*api.Policy)
	}{
		{api.OK, func(p *api.Policy) {}},
		{api.ErrCount, func(p *api.Policy) { p.Decls = make([]api.Decl, 9) }},
		{api.ErrSyntax, func(p *api.Policy) { p.Decls[0].Name = "" }},
		{api.ErrKind, func(p *api.Policy) { p.Decls[3].Kind = 5; p.Rights = make([]api.Right, 9) }},
		{api.ErrCount, func(p *api.Policy) { p.Rights = make([]api.Right, 9) }},
		{api.ErrSyntax, func(p *api.Policy) { p.Rights[1].Name = "1"; p.Rights[1].Pre = deep }},
		{api.ErrTwice, func(p *api.Policy) { p.Rights[1].Name = "use"; p.Rights[1].Pre = deep }},
		{api.ErrDepth, func(p *api.Policy) { p.Rights[1].Pre = deep; p.Rights[1].On = api.Expr{} }},
		{api.ErrType, func(p *api.Policy) { p.Rights[0].Pre = expr(t, "1"); p.Rights[1].Name = "" }},
		{api.ErrNone, func(p *api.Policy) { p.Rights[0].On = expr(t, "s.x"); p.Rights[0].Before[0] = bad }},
		{api.ErrKind, func(p *api.Policy) { p.Rights[0].Before[0] = bad; p.Rights[0].During[0].Name = "x" }},
		{api.ErrNone, func(p *api.Policy) { p.Rights[0].During[1].Name = "x"; p.Rights[0].After[0] = bad }},
		{api.ErrCount, func(p *api.Policy) { p.Rights[0].After = make([]api.Update, 9); p.Rights[0].Duties[0].Name = "" }},
		{api.ErrCount, func(p *api.Policy) { p.Rights[0].Duties = make([]api.Duty, 9) }},
		{api.ErrSyntax, func(p *api.Policy) { p.Rights[0].Duties[1].Name = "" }},
		{api.ErrSyntax, func(p *api.Policy) { p.Rights[0].Duties[0].Act = ""; p.Rights[0].Duties[0].Within = -1 }},
		{api.ErrSyntax, func(p *api.Policy) { p.Rights[0].Duties[0].On = "1" }},
		{api.ErrRange, func(p *api.Policy) { p.Rights[0].Duties[0].Within = -1; p.Rights[0].Duties[1].Name = "" }},
		{api.OK, func(p *api.Policy) { p.Rights[0].Duties = slices.Repeat(p.Rights[0].Duties, 4) }},
		{api.OK, func(p *api.Policy) {
			for len(p.Rights) < 8 {
				r := p.Rights[0]
				r.Name = fmt.Sprint("r", len(p.Rights))
				p.Rights = append(p.Rights, r)
			}
		}},
		{api.OK, func(p *api.Policy) { p.Rights[0].Pre = expr(t, "once[0,1](prev(s.b))") }},
	} {
		p := made(t)
		c.turn(&p)
		if got := policy.Check(p); got != c.want {
			t.Errorf("P22.1: Check %d: %d, not %d", i, got, c.want)
		}
	}
}

func TestFind(t *testing.T) {
	p := made(t)
	p.Rights = append(p.Rights, api.Right{Name: "use"})
	r, ok := policy.Find(p, "use")
	if !ok || !policy.Same(api.Policy{Rights: []api.Right{r}}, api.Policy{Rights: p.Rights[:1]}) {
		t.Errorf("P22.1: Find: %v %v", r, ok)
	}
	r.Pre.Kids[0].Kids[0].Name = "z"
	r.Before[0].To.Kids[0].Name = "z"
	r.During[0].Name = "z"
	r.After[0].Side = 1
	r.Duties[0].Act = "z"
	r.On.Kids[0].Name = "z"
	if !policy.Same(api.Policy{Rights: p.Rights[:2]}, api.Policy{Rights: made(t).Rights}) {
		t.Error("P2: Find hands out the policy's own")
	}
	for _, name := range []string{"", "x", "Use"} {
		if r, ok := policy.Find(p, name); ok || !reflect.DeepEqual(r, api.Right{}) {
			t.Errorf("P22.1: Find(%q): %v %v", name, r, ok)
		}
	}
}

func TestSame(t *testing.T) {
	for i, turn := range []func(*api.Policy){
		func(p *api.Policy) { p.Decls[0].Name = "z" },
		func(p *api.Policy) { p.Decls[0].Kind = 2 },
		func(p *api.Policy) { p.Decls = p.Decls[:3] },
		func(p *api.Policy) { p.Decls[0], p.Decls[1] = p.Decls[1], p.Decls[0] },
		func(p *api.Policy) { p.Rights = p.Rights[:1] },
		func(p *api.Policy) { p.Rights[1].Name = "z" },
		func(p *api.Policy) { p.Rights[0].Pre = expr(t, "true") },
		func(p *api.Policy) { p.Rights[0].On = expr(t, "true") },
		func(p *api.Policy) { p.Rights[0].Before = nil },
		func(p *api.Policy) { p.Rights[0].Before[0].Side = 6 },
		func(p *api.Policy) { p.Rights[0].During[0].Name = "z" },
		func(p *api.Policy) { p.Rights[0].During[0].To = expr(t, "\"y\"") },
		func(p *api.Policy) { p.Rights[0].After = append(p.Rights[0].After, p.Rights[0].After[0]) },
		func(p *api.Policy) { p.Rights[0].Duties[0].Name = "z" },
		func(p *api.Policy) { p.Rights[0].Duties[0].On = "z" },
		func(p *api.Policy) { p.Rights[0].Duties[0].Act = "z" },
		func(p *api.Policy) { p.Rights[0].Duties[0].Within++ },
		func(p *api.Policy) { p.Rights[0].Duties[0].Keep = false },
	} {
		p := made(t)
		turn(&p)
		if policy.Same(p, made(t)) || policy.Same(made(t), p) {
			t.Errorf("P22.1: Same %d", i)
		}
	}
	empty := api.Policy{Decls: []api.Decl{}, Rights: []api.Right{{Before: []api.Update{}, Duties: []api.Duty{}}}}
	if !policy.Same(made(t), made(t)) || !policy.Same(empty, api.Policy{Rights: []api.Right{{}}}) {
		t.Error("P22.1: Same of what is alike")
	}
}

func TestCells(t *testing.T) {
	for s, want := range map[string]int{
		"": 0, "right r {}": 0, whole: 1,
		"right a { on prev(true); pre prev(prev(prev(true))); } right b { on once[0,1](prev(true)); } right c {}": 2,
	} {
		p, err := policy.Parse(s)
		if got := policy.Cells(p); err != nil || got != want {
			t.Errorf("P22.1: Cells(%.30q): %d, not %d", s, got, want)
		}
	}
}

// pick is one of l by chance.
func pick(r *rand.Rand, l ...string) string {
	return l[r.Intn(len(l))]
}

// TestThereAndBack: printed and parsed it is the same.
func TestThereAndBack(t *testing.T) {
	r := rand.New(rand.NewSource(8))
	truths := []string{"true", "s.n < 3", "not (o.b and s.b)", "times(on, 4) <= s.n", "since[1,*](prev(s.b), act(act))", "\"x\" in {\"a\", \"x\"} or hist[0,5](o.b)"}
	held := 0
	for range 2000 {
		s := "attr n int; attr b bool;"
		for i := range r.Intn(8) {
			s += fmt.Sprint(" right r", i, " {")
			if r.Intn(2) == 0 {
				s += "pre " + pick(r, truths...) + ";"
			}
			if r.Intn(2) == 0 {
				s += "on " + pick(r, truths...) + ";"
			}
			for range r.Intn(6) {
				s += pick(r, "before ", "during ", "after ") + pick(r, "s.n := o.n * 2 - 1;", "o.b := not s.b;", "o.n := -now;")
			}
			for range r.Intn(4) {
				s += pick(r, "duty on ", "duty pay on act ", "duty act on on ") + pick(r, "act act", "act keep") + " within " + pick(r, "0", "9") + pick(r, "", " keep") + ";"
			}
			s += "}"
		}
		p, err := policy.Parse(s)
		if err != nil {
			if fault.Code(err) != api.ErrLong {
				t.Fatal(s, err)
			}
			continue
		}
		text := policy.Print(p)
		if len(text) > api.MaxSource {
			continue
		}
		held++
		if back, err := policy.Parse(text); err != nil || !policy.Same(back, p) {
			t.Fatalf("P22.2: %s: %v", text, err)
		}
	}
	if held < 500 {
		t.Errorf("the test holds only %d policies", held)
	}
}

// TestKept: what is handed in is not changed.
func TestKept(t *testing.T) {
	p := made(t)
	policy.Check(p)
	policy.Print(p)
	policy.Find(p, "use")
	policy.Cells(p)
	policy.Same(p, p)
	if !policy.Same(p, made(t)) || !ast.Same(p.Rights[0].Pre, made(t).Rights[0].Pre) {
		t.Error("P2: a policy was changed")
	}
}
