package truth_test

import (
	"math/rand"
	"slices"
	"testing"

	"beadle/api"
	"beadle/ast"
	"beadle/monitor"
	"beadle/parse"
	"beadle/store"
	"beadle/truth"
	"beadle/value"
)

// expr is the expression of a text.
func expr(t *testing.T, s string) api.Expr {
	t.Helper()
	e, err := parse.Expr(s)
	if err != nil {
		t.Fatal(s, err)
	}
	return e
}

// with is a store with n and b of the entity a.
func with(n int64, b bool) *store.Store {
	s := store.New(api.Decl{Name: "n", Kind: 1}, api.Decl{Name: "b", Kind: 2})
	s.Set("a", "n", value.Int(n))
	s.Set("a", "b", value.Bool(b))
	return s
}

// point is a point of subject a.
func point(at int64, act string, n int64, b bool) truth.Point {
	return truth.Point{Moment: monitor.Moment{At: at, Act: act, Subject: "a", Object: "o"}, Store: with(n, b)}
}

func TestTimes(t *testing.T) {
	l := []truth.Point{}
	for _, at := range []int64{-5, 3, 2, 3, 9, -1 << 63, 1<<63 - 1, 0} {
		l = append(l, truth.Point{Moment: monitor.Moment{At: at}})
	}
	if got := truth.Times(l); !slices.Equal(got, []int64{0, 3, 3, 3, 9, 9, 1<<63 - 1, 1<<63 - 1}) {
		t.Errorf("P19.1: Times: %v", got)
	}
	if len(truth.Times(nil)) != 0 {
		t.Error("P19.1: Times of no points")
	}
}

func TestState(t *testing.T) {
	l := []truth.Point{point(1, "", 1, true)}
	for _, c := range []struct {
		e api.Expr
		l []truth.Point
		i int
	}{{expr(t, "true"), nil, 0}, {expr(t, "true"), nil, -1}, {expr(t, "true"), l, -1}, {expr(t, "true"), l, 1}, {expr(t, "true"), l, 1<<63 - 1}, {api.Expr{}, l, 0}, {api.Expr{Kind: api.Int, N: -1}, l, 0}} {
		if v, err := truth.At(c.e, c.l, c.i); err != api.ErrState || v.Kind != 0 {
			t.Errorf("P19.1: At(%v, %d points, %d): %v %d", c.e, len(c.l), c.i, v, err)
		}
	}
	if v, err := truth.Eval(expr(t, "true"), nil); err != api.ErrState || v.Kind != 0 {
		t.Errorf("P19.1: Eval of no points: %v %d", v, err)
	}
	if v, err := truth.Eval(api.Expr{}, l); err != api.ErrState || v.Kind != 0 {
		t.Errorf("P19.1: Eval of what may not be: %v %d", v, err)
	}
}

func TestAt(t *testing.T) {
	l := []truth.Point{point(-3, "a", 0, false), point(0, "b", 1, true), point(1, "a", 2, true), point(1, "a", 3, false), point(5, "", 4, true), point(4, "c", 5, true)}
	for s, want := range map[string][]int64{
		"prev(true)":                 {0, 1, 1, 1, 1, 1},
		"prev(act(a))":               {0, 1, 0, 1, 1, 0},
		"once[0,1](act(b))":          {0, 1, 1, 1, 0, 0},
		"once[1,*](act(a))":          {0, 0, 1, 1, 1, 1},
		"once[4,5](s.b)":             {0, 0, 0, 0, 1, 1},
		"hist[0,1](act(a))":          {1, 0, 0, 0, 0, 0},
		"hist[4,5](s.b)":             {1, 1, 1, 1, 0, 0},
		"since[0,9](act(a), act(b))": {0, 1, 1, 1, 0, 0},
		"since[5,*](s.n < 9, s.b)":   {0, 0, 0, 0, 1, 1},
		"times(a, 3)":                {1, 1, 2, 3, 0, 0},
		"times(a, 4)":                {1, 1, 2, 3, 2, 2},
		"now":                        {0, 0, 1, 1, 5, 5},
		"s.n":                        {0, 1, 2, 3, 4, 5},
		"once[0,0](prev(s.b))":       {0, 0, 1, 1, 0, 1},
	} {
		for i := range l {
			got, err := truth.At(expr(t, s), l, i)
			if err != api.OK || got.N != want[i] {
				t.Errorf("P19.1: %s at point %d: %v %d, not %d", s, i, got, err, want[i])
			}
			last, errLast := truth.Eval(expr(t, s), l[:i+1])
			if errLast != err || !value.Same(last, got) {
				t.Errorf("P19.1: Eval of %s at point %d: %v %d", s, i, last, errLast)
			}
		}
	}
}

func TestErrors(t *testing.T) {
	none := truth.Point{Moment: monitor.Moment{At: 0, Subject: "a"}}
	l := []truth.Point{none, point(1, "", 1, true), point(2, "", 0, true)}
	for _, c := range []struct {
		s    string
		i    int
		want api.Value
		err  api.Errno
	}{
		// an error at a point ahead counts as not true there
		{"once[0,*](s.b)", 1, value.Bool(true), api.OK},
		{"once[1,*](s.b)", 1, value.Bool(false), api.OK},
		{"once[1,*](not s.b)", 1, value.Bool(false), api.OK},
		{"hist[0,*](s.b)", 1, value.Bool(false), api.OK},
		{"hist[0,0](s.b)", 1, value.Bool(true), api.OK},
		{"prev(s.b)", 1, value.Bool(false), api.OK},
		{"prev(not s.b)", 1, value.Bool(false), api.OK},
		{"since[1,*](true, s.b)", 2, value.Bool(true), api.OK},
		{"since[2,*](true, s.b)", 2, value.Bool(false), api.OK},
		{"prev(once[0,*](s.b))", 1, value.Bool(false), api.OK},
		{"once[1,*](hist[0,*](s.b))", 2, value.Bool(false), api.OK},
		// the first error at the point itself
		{"once[0,*](s.b)", 0, api.Value{}, api.ErrNone},
		{"prev(s.b)", 0, api.Value{}, api.ErrNone},
		{"true or s.b", 0, api.Value{}, api.ErrNone},
		{"prev(s.n)", 1, api.Value{}, api.ErrType},
		{"since[0,1](s.n, s.x)", 1, api.Value{}, api.ErrNone},
		{"since[0,1](true, s.n)", 1, api.Value{}, api.ErrType},
		{"hist[0,1](s.n)", 2, api.Value{}, api.ErrType},
		{"once[0,1](9223372036854775807 + s.n = 0)", 1, api.Value{}, api.ErrOver},
		{"once[0,1](9223372036854775807 + s.n = 0)", 2, value.Bool(false), api.OK},
		{"not s.n and s.x", 1, api.Value{}, api.ErrType},
	} {
		if got, err := truth.At(expr(t, c.s), l, c.i); err != c.err || !value.Same(got, c.want) {
			t.Errorf("P19.1: %s at point %d: %v %d, not %v %d", c.s, c.i, got, err, c.want, c.err)
		}
	}
}

func TestMost(t *testing.T) {
	l := []truth.Point{}
	for range api.MaxTimes + 5 {
		l = append(l, truth.Point{Moment: monitor.Moment{At: 3, Act: "a"}})
	}
	l = append(l, truth.Point{Moment: monitor.Moment{At: 4, Act: "a"}})
	if got, err := truth.Eval(expr(t, "times(a, 1)"), l); err != api.OK || got.N != api.MaxTimes+1 {
		t.Errorf("P19.1: one time counts MaxTimes at most: %v %d", got, err)
	}
}

// some is a truth by chance, at most so deep.
func some(r *rand.Rand, depth int) api.Expr {
	if depth <= 1 {
		return []api.Expr{{Kind: api.Bool, N: int64(r.Intn(2))}, {Kind: api.Act, Name: "a"}, {Kind: api.Act, Name: "b"}, {Kind: api.Subject, Name: "b"},
			{Kind: api.Lt, Kids: []api.Expr{{Kind: api.Times, Name: "a", Hi: int64(r.Intn(6))}, {Kind: api.Int, N: int64(r.Intn(4))}}},
			{Kind: api.Le, Kids: []api.Expr{{Kind: api.Subject, Name: "n"}, {Kind: api.Now}}}}[r.Intn(6)]
	}
	e := api.Expr{Kind: []int{api.Not, api.And, api.Or, api.Once, api.Hist, api.Since, api.Prev, api.Eq}[r.Intn(8)]}
	if e.Kind == api.Once || e.Kind == api.Hist || e.Kind == api.Since {
		e.Lo = int64(r.Intn(3))
		if e.Hi = -1; r.Intn(3) > 0 {
			e.Hi = e.Lo + int64(r.Intn(5))
		}
	}
	for range ast.Kids(e.Kind) {
		e.Kids = append(e.Kids, some(r, depth-1-r.Intn(2)))
	}
	return e
}

// TestAgainstMonitor: as long as there was no error, a monitor tells it, too.
func TestAgainstMonitor(t *testing.T) {
	r := rand.New(rand.NewSource(6))
	for i := range 800 {
		e := some(r, 1+i%7)
		if ast.Check(e) != api.OK {
			continue
		}
		was := ast.Clone(e)
		m := monitor.New(e)
		var l []truth.Point
		at := int64(0)
		for range 25 {
			at += int64(r.Intn(4)) - 1
			p := point(at, []string{"", "a", "b"}[r.Intn(3)], int64(r.Intn(20)), r.Intn(2) == 0)
			l = append(l, p)
			want, wantErr := m.Step(p.Store, p.Moment)
			got, err := truth.Eval(e, l)
			if err != wantErr || !value.Same(got, want) {
				t.Fatalf("P19.2: %v at point %d: %v %d, not %v %d", e, len(l)-1, got, err, want, wantErr)
			}
		}
		if !ast.Same(e, was) {
			t.Fatal("P2: an expression was changed")
		}
	}
}
