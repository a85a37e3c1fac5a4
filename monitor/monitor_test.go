package monitor_test

import (
	"math/rand"
	"testing"

	"beadle/api"
	"beadle/ast"
	"beadle/bound"
	"beadle/monitor"
	"beadle/parse"
	"beadle/store"
	"beadle/value"
)

const most = 1<<63 - 1

// expr is the expression of a text.
func expr(t *testing.T, s string) api.Expr {
	t.Helper()
	e, err := parse.Expr(s)
	if err != nil {
		t.Fatal(s, err)
	}
	return e
}

// filled is a store with something set of the entities a and b.
func filled() *store.Store {
	s := store.New(api.Decl{Name: "n", Kind: 1}, api.Decl{Name: "b", Kind: 2}, api.Decl{Name: "t", Kind: 3}, api.Decl{Name: "l", Kind: 4})
	s.Set("a", "n", value.Int(5))
	s.Set("b", "n", value.Int(most))
	s.Set("a", "b", value.Bool(true))
	s.Set("a", "t", value.Text("x"))
	s.Set("b", "l", value.Set("x", "y"))
	return s
}

// at is a moment of subject a and object b.
func at(time int64, act string) monitor.Moment {
	return monitor.Moment{At: time, Act: act, Subject: "a", Object: "b"}
}

func TestStep(t *testing.T) {
	for s, want := range map[string]api.Value{
		"7":                               value.Int(7),
		"true":                            value.Bool(true),
		"\"q\"":                           value.Text("q"),
		"{\"p\", \"q\"}":                  value.Set("p", "q"),
		"s.n":                             value.Int(5),
		"o.n":                             value.Int(most),
		"o.t":                             value.Text(""),
		"o.l":                             value.Set("x", "y"),
		"s.b":                             value.Bool(true),
		"o.b":                             value.Bool(false),
		"now":                             value.Int(3),
		"now + s.n":                       value.Int(8),
		"1 - s.n":                         value.Int(-4),
		"2 * -s.n":                        value.Int(-10),
		"len(s.t)":                        value.Int(1),
		"len(o.l)":                        value.Int(2),
		"len({})":                         value.Int(0),
		"s.t = \"x\"":                     value.Bool(true),
		"{} = s.l":                        value.Bool(true),
		"o.l = {\"x\"}":                   value.Bool(false),
		"1 < 1":                           value.Bool(false),
		"0 < 1":                           value.Bool(true),
		"1 <= 1":                          value.Bool(true),
		"2 <= 1":                          value.Bool(false),
		"\"a\" < \"aa\"":                  value.Bool(true),
		"\"b\" <= \"aa\"":                 value.Bool(false),
		"s.t in o.l":                      value.Bool(true),
		"o.t in o.l":                      value.Bool(false),
		"not s.b":                         value.Bool(false),
		"true and false":                  value.Bool(false),
		"true and true":                   value.Bool(true),
		"false or false":                  value.Bool(false),
		"false or true":                   value.Bool(true),
		"act(read)":                       value.Bool(true),
		"act(write)":                      value.Bool(false),
		"times(read, 0)":                  value.Int(1),
		"times(write, 9)":                 value.Int(0),
		"prev(true)":                      value.Bool(false),
		"once[0,0](true)":                 value.Bool(true),
		"once[1,5](true)":                 value.Bool(false),
		"hist[0,*](true)":                 value.Bool(true),
		"hist[0,0](false)":                value.Bool(false),
		"hist[1,5](false)":                value.Bool(true),
		"since[0,0](false, true)":         value.Bool(true),
		"since[0,0](true, false)":         value.Bool(false),
		"once[0,*](o.n = s.n or s.n = 5)": value.Bool(true),
	} {
		m := monitor.New(expr(t, s))
		if got, err := m.Step(filled(), at(3, "read")); err != api.OK || !value.Same(got, want) {
			t.Errorf("P18.1: Step of %s: %v %d, not %v", s, got, err, want)
		}
	}
}

func TestErrors(t *testing.T) {
	for s, want := range map[string]api.Errno{
		"s.x":                             api.ErrNone,
		"o.n + 1":                         api.ErrOver,
		"0 - o.n - 2":                     api.ErrOver,
		"o.n * 2":                         api.ErrOver,
		"1 + s.b":                         api.ErrType,
		"s.t * 2":                         api.ErrType,
		"-s.b":                            api.ErrType,
		"len(s.n)":                        api.ErrType,
		"s.n = s.b":                       api.ErrType,
		"s.b < o.b":                       api.ErrType,
		"o.l <= o.l":                      api.ErrType,
		"s.n < s.t":                       api.ErrType,
		"s.n in o.l":                      api.ErrType,
		"s.t in s.t":                      api.ErrType,
		"not s.n":                         api.ErrType,
		"s.n and true":                    api.ErrType,
		"true or s.n":                     api.ErrType,
		"once[0,1](s.n)":                  api.ErrType,
		"hist[0,1](s.t)":                  api.ErrType,
		"since[0,1](s.n, true)":           api.ErrType,
		"since[0,1](true, s.n)":           api.ErrType,
		"prev(s.n)":                       api.ErrType,
		"not s.x":                         api.ErrNone,
		"s.n and s.x":                     api.ErrNone,
		"not s.n and s.x":                 api.ErrType,
		"s.x and not s.n":                 api.ErrNone,
		"false and o.n + 1 = 1":           api.ErrOver,
		"true or 1 = 1 + o.n":             api.ErrOver,
		"once[0,1](true) and s.x":         api.ErrNone,
		"since[0,1](s.n, s.x)":            api.ErrNone,
		"(o.n + 1) * s.x":                 api.ErrOver,
		"(\"a\" in {\"a\"}) = (len(1)=1)": api.ErrType,
	} {
		m := monitor.New(expr(t, s))
		if got, err := m.Step(filled(), at(3, "read")); err != want || !value.Same(got, api.Value{}) {
			t.Errorf("P18.1: Step of %s: %v %d, not %d", s, got, err, want)
		}
		m.Step(filled(), at(4, "")) // nothing is promised of it, but that it ends
	}
	if _, err := monitor.New(expr(t, "s.n = 1")).Step(nil, at(0, "")); err != api.ErrNone {
		t.Errorf("P18.1: Step with no store: %d", err)
	}
	neg := monitor.New(expr(t, "-(-o.n - 1)"))
	if _, err := neg.Step(filled(), at(0, "")); err != api.ErrOver {
		t.Errorf("P18.1: Neg of the least: %d", err)
	}
}

func TestMoments(t *testing.T) {
	for s, want := range map[string][]string{
		"prev(true)":                          {"false", "true", "true", "true", "true", "true"},
		"prev(act(a))":                        {"false", "true", "false", "true", "true", "false"},
		"prev(prev(act(a)))":                  {"false", "false", "true", "false", "true", "true"},
		"once[0,1](act(b))":                   {"false", "true", "true", "true", "false", "false"},
		"once[1,*](act(a))":                   {"false", "false", "true", "true", "true", "true"},
		"hist[0,1](act(a))":                   {"true", "false", "false", "false", "false", "false"},
		"since[0,9](act(a), act(b))":          {"false", "true", "true", "true", "false", "false"},
		"times(a, 3) = 2":                     {"false", "false", "true", "false", "false", "false"},
		"once[0,0](times(a, 0) = 2)":          {"false", "false", "false", "true", "false", "false"},
		"now = 5":                             {"false", "false", "false", "false", "true", "true"},
		"prev(true) and not prev(not act(a))": {"false", "true", "false", "true", "true", "false"},
	} {
		m := monitor.New(expr(t, s))
		for i, x := range []monitor.Moment{at(-3, "a"), at(0, "b"), at(1, "a"), at(1, "a"), at(5, ""), at(4, "c")} {
			got, err := m.Step(filled(), x)
			if err != api.OK || got.Kind != api.Bool || (got.N == 1) != (want[i] == "true") {
				t.Errorf("P18.1: %s at moment %d: %v %d, not %s", s, i, got, err, want[i])
			}
		}
	}
}

func TestCells(t *testing.T) {
	m := monitor.New(expr(t, "prev(once[0,2](act(a)) or hist[0,*](act(a))) and times(a, 3) < 9 and since[0,2](true, act(a))"))
	if got := m.Cells(); got != 1 {
		t.Errorf("P18.1: Cells at first: %d", got)
	}
	for i, want := range []int{4, 7, 10, 11, 3} {
		m.Step(filled(), at([]int64{0, 1, 2, 3, 6}[i], []string{"a", "a", "a", "a", ""}[i]))
		// Once, Since within 2: at 0..3 as many as 1, 2, 3, 3; Times within 3: 1, 2, 3, 4; Hist remembers the first moment without a.
		if got := m.Cells(); got != want {
			t.Errorf("P18.1: Cells at moment %d: %d, not %d", i, got, want)
		}
	}
}

// TestBound: what is remembered is at most bound.Most.
func TestBound(t *testing.T) {
	r := rand.New(rand.NewSource(5))
	for _, s := range []string{
		"times(a, 7) < 3 and once[2,7](act(b)) or hist[1,5](act(a)) and prev(since[0,7](act(a), act(b)))",
		"hist[3,*](act(a)) and since[2,*](act(a), once[0,4](act(b)))",
	} {
		e := expr(t, s)
		m := monitor.New(e)
		now, times := int64(0), []int64{}
		for range 3000 {
			now += int64(r.Intn(3))
			if len(times) == 0 || times[len(times)-1] != now {
				times = append(times, now)
			}
			for times[0] < now-bound.Longest(e) {
				times = times[1:]
			}
			m.Step(filled(), at(now, []string{"", "a", "b"}[r.Intn(3)]))
			if got, limit := m.Cells(), bound.Most(e, len(times)); got > limit {
				t.Fatalf("P18.2: %s: %d cells, more than %d", s, got, limit)
			}
		}
	}
}

func TestClone(t *testing.T) {
	for _, s := range []string{"prev(act(a))", "once[0,3](act(a))", "hist[0,3](act(a))", "since[0,3](act(b), act(a))", "times(a, 3) = 1", "now = 9", "\"x\" in {\"x\"} and prev(act(a))"} {
		m, same := monitor.New(expr(t, s)), monitor.New(expr(t, s))
		for _, x := range []monitor.Moment{at(1, "a"), at(2, "b"), at(9, "")} {
			c := m.Clone()
			for i := range int64(5) {
				c.Step(filled(), at(20+i, "a"))
			}
			got, err := m.Step(filled(), x)
			want, wantErr := same.Step(filled(), x)
			d := m.Clone()
			if err != wantErr || !value.Same(got, want) || m.Cells() != same.Cells() || d.Cells() != m.Cells() {
				t.Errorf("P18.1: %s: a clone is not apart", s)
			}
			m = d
		}
	}
}

// TestClonesGoOn: whatever a clone meets, the one that it came from tells the same as ever.
func TestClonesGoOn(t *testing.T) {
	r := rand.New(rand.NewSource(21))
	for _, s := range []string{"since[0,3](not act(b), act(a))", "since[2,*](not act(b), act(a))", "once[1,3](act(a))", "hist[1,4](not act(b))", "times(a, 4) = 2", "prev(act(a))"} {
		m, same := monitor.New(expr(t, s)), monitor.New(expr(t, s))
		now := int64(0)
		for range 200 {
			now += int64(r.Intn(2))
			c := m.Clone()
			for range 3 {
				c.Step(filled(), at(now+int64(r.Intn(3)), []string{"", "a", "b"}[r.Intn(3)]))
			}
			x := at(now, []string{"", "a", "b"}[r.Intn(3)])
			got, err := m.Step(filled(), x)
			want, wantErr := same.Step(filled(), x)
			if err != wantErr || !value.Same(got, want) || m.Cells() != same.Cells() {
				t.Fatalf("P18.1: %s: a clone is not apart", s)
			}
		}
	}
}

// TestApart: nothing is kept of what is handed in, nothing handed out that is kept.
func TestApart(t *testing.T) {
	e := expr(t, "\"x\" in {\"x\", \"y\"} and s.b")
	was := ast.Clone(e)
	m := monitor.New(e)
	e.Kids[0].Kids[1].Kids[0].Name = "w"
	e.Kids[1].Name = "z"
	if v, err := m.Step(filled(), at(0, "")); err != api.OK || v.N != 1 {
		t.Error("P2: New kept its expression")
	}
	e = ast.Clone(was)
	monitor.New(e).Step(filled(), at(0, ""))
	if !ast.Same(e, was) {
		t.Error("P2: an expression was changed")
	}
	set := monitor.New(expr(t, "{\"x\", \"y\"}"))
	s := filled()
	for _, m := range []*monitor.Monitor{set, monitor.New(expr(t, "o.l"))} {
		v, _ := m.Step(s, at(0, ""))
		clear(v.L)
		if v, _ = m.Step(s, at(0, "")); v.L[0] != "x" {
			t.Error("P2: a value shares memory")
		}
	}
}

func TestNobodyMade(t *testing.T) {
	for _, m := range []*monitor.Monitor{nil, {}, monitor.New(api.Expr{}), monitor.New(api.Expr{Kind: api.Int, N: -1})} {
		v, err := m.Step(filled(), at(0, ""))
		if err != api.ErrState || !value.Same(v, api.Value{}) || m.Cells() != 0 || m.Clone() != nil {
			t.Error("P18.1: of one that nobody made")
		}
	}
	if monitor.New(api.Expr{}) != nil {
		t.Error("P18.1: New of what may not be")
	}
}

func TestPlain(t *testing.T) {
	n, b, x, l := value.Int(4), value.Bool(true), value.Text("x"), value.Set("x")
	for _, c := range []struct {
		e    api.Expr
		l    []api.Value
		want api.Value
		err  api.Errno
	}{
		{api.Expr{Kind: api.Int, N: -4}, nil, value.Int(-4), api.OK},
		{api.Expr{Kind: api.Add}, []api.Value{n, n}, value.Int(8), api.OK},
		{api.Expr{Kind: api.Add, Kids: []api.Expr{{}}}, []api.Value{n, n}, value.Int(8), api.OK},
		{api.Expr{Kind: api.Sub}, []api.Value{n, value.Int(-1 << 63)}, api.Value{}, api.ErrOver},
		{api.Expr{Kind: api.Mul}, []api.Value{n, b}, api.Value{}, api.ErrType},
		{api.Expr{Kind: api.Neg}, []api.Value{n}, value.Int(-4), api.OK},
		{api.Expr{Kind: api.Neg}, []api.Value{value.Int(-1 << 63)}, api.Value{}, api.ErrOver},
		{api.Expr{Kind: api.Len}, []api.Value{l}, value.Int(1), api.OK},
		{api.Expr{Kind: api.Not}, []api.Value{b}, value.Bool(false), api.OK},
		{api.Expr{Kind: api.In}, []api.Value{x, l}, b, api.OK},
		{api.Expr{Kind: api.Eq}, []api.Value{l, value.Set("x")}, b, api.OK},
		{api.Expr{Kind: api.Set, Kids: []api.Expr{{Kind: api.Text, Name: "p"}}}, nil, value.Set("p"), api.OK},
		{api.Expr{Kind: api.Subject, Name: "n"}, nil, value.Int(5), api.OK},
		{api.Expr{Kind: api.Object, Name: "zz"}, nil, api.Value{}, api.ErrNone},
		{api.Expr{Kind: api.Act, Name: "read"}, nil, b, api.OK},
		{api.Expr{Kind: api.Act}, nil, value.Bool(false), api.OK},
		{api.Expr{Kind: api.Now}, nil, value.Int(3), api.OK},
		{api.Expr{}, nil, api.Value{}, api.ErrState},
		{api.Expr{Kind: -1}, nil, api.Value{}, api.ErrState},
		{api.Expr{Kind: 26}, nil, api.Value{}, api.ErrState},
		{api.Expr{Kind: api.Times, Name: "read", Hi: 1}, nil, api.Value{}, api.ErrState},
		{api.Expr{Kind: api.Once}, []api.Value{b}, api.Value{}, api.ErrState},
		{api.Expr{Kind: api.Hist}, []api.Value{b}, api.Value{}, api.ErrState},
		{api.Expr{Kind: api.Prev}, []api.Value{b}, api.Value{}, api.ErrState},
		{api.Expr{Kind: api.Since}, []api.Value{b, b}, api.Value{}, api.ErrState},
		{api.Expr{Kind: api.Int}, []api.Value{n}, api.Value{}, api.ErrState},
		{api.Expr{Kind: api.Add}, []api.Value{n}, api.Value{}, api.ErrState},
		{api.Expr{Kind: api.Add}, []api.Value{n, n, n}, api.Value{}, api.ErrState},
		{api.Expr{Kind: api.Not}, nil, api.Value{}, api.ErrState},
		{api.Expr{Kind: api.Set}, []api.Value{x}, api.Value{}, api.ErrState},
		{api.Expr{Kind: api.And}, []api.Value{b, {}}, api.Value{}, api.ErrType},
	} {
		if got, err := monitor.Plain(c.e, c.l, filled(), at(3, "read")); err != c.err || !value.Same(got, c.want) {
			t.Errorf("P18.1: Plain(%v, %v): %v %d, not %v %d", c.e, c.l, got, err, c.want, c.err)
		}
	}
	if v, _ := monitor.Plain(api.Expr{Kind: api.Now}, nil, nil, at(-5, "")); v.N != 0 {
		t.Error("P18.1: Plain at a time below 0")
	}
	if v, _ := monitor.Plain(api.Expr{Kind: api.Act}, nil, nil, at(0, "")); v.N != 0 {
		t.Error("P18.1: no act is none's")
	}
}
