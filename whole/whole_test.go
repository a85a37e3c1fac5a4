// Package whole has tests of what all layers keep together.
package whole

import (
	"fmt"
	"math/rand"
	"reflect"
	"testing"

	"beadle/api"
	"beadle/ast"
	"beadle/bound"
	"beadle/delegate"
	"beadle/delta"
	"beadle/driver"
	"beadle/engine"
	"beadle/event"
	"beadle/explain"
	"beadle/lattice"
	"beadle/lex"
	"beadle/monitor"
	"beadle/nnf"
	"beadle/octet"
	"beadle/outline"
	"beadle/pack"
	"beadle/parse"
	"beadle/policy"
	"beadle/print"
	"beadle/reads"
	"beadle/record"
	"beadle/replay"
	"beadle/roles"
	"beadle/script"
	"beadle/session"
	"beadle/store"
	"beadle/table"
	"beadle/truth"
	"beadle/types"
	"beadle/update"
	"beadle/value"
)

// chance makes things that may be, or not, by chance.
type chance struct {
	*rand.Rand
}

func (c chance) text() string {
	l := []string{"", "a", "n", "b", "read", "1", "a b", "\"", "\n", "a text that is longer than any text may be", "s", "o", "t", "l", "n < 3"}
	return l[c.Intn(len(l))]
}

func (c chance) number() int64 {
	l := []int64{0, 1, -1, 2, 3, 5, 1<<63 - 1, -1 << 63, 64, 63, 255, 256, 1 << 31, 1 << 40}
	return l[c.Intn(len(l))]
}

func (c chance) value() api.Value {
	v := api.Value{Kind: c.Intn(6)}
	if c.Intn(2) == 0 {
		v.N = c.number()
	}
	if c.Intn(3) == 0 {
		v.S = c.text()
	}
	for range c.Intn(3) {
		v.L = append(v.L, c.text())
	}
	return v
}

func (c chance) expr(depth int) api.Expr {
	e := api.Expr{Kind: c.Intn(28) - 1}
	for _, field := range []*int64{&e.N, &e.Lo, &e.Hi} {
		if c.Intn(3) == 0 {
			*field = c.number()
		}
	}
	if c.Intn(2) == 0 {
		e.Name = c.text()
	}
	n := c.Intn(4)
	if k := ast.Kids(e.Kind); k >= 0 && c.Intn(4) > 0 {
		n = k
	}
	for range n {
		if depth > 0 {
			e.Kids = append(e.Kids, c.expr(depth-1))
		}
	}
	return e
}

func (c chance) decls() []api.Decl {
	var l []api.Decl
	for range c.Intn(5) {
		l = append(l, api.Decl{Name: c.text(), Kind: c.Intn(6)})
	}
	return l
}

func (c chance) updates() []api.Update {
	var l []api.Update
	for range c.Intn(4) {
		l = append(l, api.Update{Side: 4 + c.Intn(4), Name: c.text(), To: c.expr(2)})
	}
	return l
}

func (c chance) right() api.Right {
	r := api.Right{Name: c.text(), Pre: c.expr(3), On: c.expr(3), Before: c.updates(), During: c.updates(), After: c.updates()}
	if c.Intn(2) == 0 {
		r.Pre = api.Expr{Kind: api.Bool, N: 1}
	}
	for range c.Intn(3) {
		r.Duties = append(r.Duties, api.Duty{Name: c.text(), On: c.text(), Act: c.text(), Within: c.number(), Keep: true})
	}
	return r
}

func (c chance) policy() api.Policy {
	p := api.Policy{Decls: c.decls()}
	for range c.Intn(4) {
		p.Rights = append(p.Rights, c.right())
	}
	return p
}

func (c chance) event() api.Event {
	return api.Event{At: c.number(), Kind: c.Intn(7), Id: int(c.number()), Subject: c.text(), Object: c.text(), Name: c.text(), Value: c.value()}
}

func (c chance) octets() []byte {
	b := make([]byte, c.Intn(60))
	for i := range b {
		b[i] = byte(c.Intn(6))
	}
	return b
}

func (c chance) moment() monitor.Moment {
	return monitor.Moment{At: c.number(), Act: c.text(), Subject: c.text(), Object: c.text()}
}

func (c chance) store() *store.Store {
	switch c.Intn(8) {
	case 0:
		return nil
	case 1:
		return &store.Store{}
	}
	s := store.New(c.decls()...)
	for range 5 {
		s.Set(c.text(), c.text(), c.value())
	}
	return s
}

func (c chance) rows() []table.Row {
	var l []table.Row
	for range c.Intn(5) {
		l = append(l, table.Row{Kind: c.Intn(27), Name: c.text(), N: c.number(), Lo: c.number(), Hi: c.number(), Set: []string{c.text()}[:c.Intn(2)], Kids: []int{int(c.number()), c.Intn(4)}[:c.Intn(3)]})
	}
	return l
}

func (c chance) record() record.Record {
	r := record.Record{Code: api.Errno(c.number())}
	for range c.Intn(3) {
		r.Verdicts = append(r.Verdicts, api.Verdict{Id: int(c.number()), Kind: int(c.number()), Code: api.Errno(c.number())})
	}
	return r
}

// TestAnything: no call panics, or changes what it is given.
func TestAnything(t *testing.T) {
	c := chance{rand.New(rand.NewSource(19))}
	for range 6000 {
		// What is given is written down, before and behind all calls.
		e, o, p, q, r, v, ev := c.expr(c.Intn(4)), c.expr(c.Intn(4)), c.policy(), c.policy(), c.right(), c.value(), c.event()
		d, u, rows, rec, b := c.decls(), c.updates(), c.rows(), c.record(), c.octets()
		was := fmt.Sprint(e, o, p, q, r, v, ev, d, u, rows, rec, b)
		c.expressions(e, o, d, rows, b)
		c.sessions(e, r, d, u)
		c.policies(p, q, r, ev, rec, b)
		c.others(v, b)
		if got := fmt.Sprint(e, o, p, q, r, v, ev, d, u, rows, rec, b); got != was {
			t.Fatalf("P2: %s was changed to %s", was, got)
		}
	}
}

// expressions calls what takes expressions, tables and octets.
func (c chance) expressions(e, o api.Expr, d []api.Decl, rows []table.Row, b []byte) {
	ast.Check(e)
	ast.Same(e, o)
	ast.Past(e)
	parse.Expr(print.Expr(e))
	lex.All(c.text() + c.text())
	parse.Take([]lex.Token{{Kind: c.Intn(6), S: c.text()}, {Kind: c.Intn(6), S: c.text(), At: int(c.number())}})
	types.Truth(d, e)
	types.Decls(d)
	bound.Longest(e)
	bound.Most(e, int(c.number()))
	table.Back(rows)
	pack.Put(rows)
	pack.Put(table.Of(e))
	pack.Read(b)
	pack.Expr(e)
	pack.Back(b)
	nnf.Of(e)
	nnf.Not(e)
	nnf.Is(e)
}

// sessions calls what takes moments and stores.
func (c chance) sessions(e api.Expr, r api.Right, d []api.Decl, u []api.Update) {
	m := monitor.New(e)
	l := []truth.Point{}
	for range 3 {
		m.Step(c.store(), c.moment())
		l = append(l, truth.Point{Moment: c.moment(), Store: c.store()})
	}
	m.Cells()
	m.Clone()
	monitor.Plain(e, []api.Value{c.value(), c.value(), c.value()}[:c.Intn(4)], c.store(), c.moment())
	truth.Eval(e, l)
	truth.At(e, l, int(c.number()))
	update.Apply(c.store(), u, c.moment())
	update.Check(d, u)
	update.Touched(u, c.moment())
	reads.Writes(u)
	reads.Right(r)
	explain.Why(e, c.store(), c.moment())
	explain.Short(e, c.store(), c.moment())
	x, _, _ := session.Open(c.store(), r, int(c.number()), c.text(), c.text(), c.number())
	x.Look(c.store(), c.number(), c.text())
	x.Use(c.store(), c.number(), c.text())
	x.Reads(c.text(), c.text())
	x.Clone().Close(c.store(), c.number(), c.Intn(6))
	x.Close(c.store(), c.number(), c.Intn(6))
	x.Right()
}

// policies calls what takes policies, events and records.
func (c chance) policies(p, q api.Policy, r api.Right, e api.Event, rec record.Record, b []byte) {
	policy.Check(p)
	policy.Same(p, q)
	policy.Find(p, c.text())
	policy.Cells(p)
	g, _ := engine.New(p)
	g.Step(e)
	g.Frame(b)
	g.State(e.Id)
	g.Clone().Step(e)
	event.Put(e)
	event.Read(b)
	record.Put(rec)
	record.Read(b)
	record.Of(rec, e.Id)
	replay.Run(p, [][]byte{b, nil})
	replay.Without([][]byte{b, nil}, e.Id)
	script.Line(e)
	script.All([]api.Event{e})
	script.Read(c.text() + "\n")
	delta.Between(p, q)
	delta.Merge(p, q)
	delta.Stricter(r, r)
	outline.Record(rec)
	outline.Right(r)
	driver.Main(policy.Print(p), c.text())
}

// others calls what stands by itself.
func (c chance) others(v api.Value, b []byte) {
	value.Check(v)
	value.Cmp(v, c.value())
	outline.Value(v)
	var w octet.Out
	w.Value(v)
	w.Byte(int(c.number()))
	w.Done()
	in := octet.Open(b)
	in.Value()
	in.Text()
	in.Int()
	x, y := lattice.Label{Level: int(c.number()), Groups: []string{c.text(), c.text()}}, lattice.Label{Groups: []string{c.text()}}
	lattice.Check(x)
	lattice.Range(lattice.Meet(x, y), lattice.Join(x, y), x)
	pairs := []roles.Pair{{Low: c.text(), High: c.text()}, {Low: c.text(), High: c.text()}}
	roles.Check(pairs)
	roles.Reduce(pairs)
	roles.Level(pairs, c.text())
	grants := []delegate.Grant{{From: c.text(), To: c.text(), Depth: int(c.number()), At: c.number(), Until: c.number()}, {From: c.text(), To: c.text(), Depth: 3, Until: 9}}
	delegate.Chain(c.text(), grants, c.text(), c.number())
}

// TestAlike: what a call answers hangs on its arguments alone.
func TestAlike(t *testing.T) {
	tell := func() []any {
		c := chance{rand.New(rand.NewSource(20))}
		var all []any
		for range 300 {
			p, e := c.policy(), c.expr(3)
			check, code := policy.Check(p), ast.Check(e)
			l := []truth.Point{{Moment: c.moment(), Store: c.store()}, {Moment: c.moment(), Store: c.store()}}
			v, err := truth.Eval(e, l)
			all = append(all, check, code, v, err, print.Expr(e), policy.Print(p), reads.Of(e), delta.Between(p, c.policy()))
		}
		return all
	}
	first, again := tell(), tell()
	if !reflect.DeepEqual(first, again) {
		t.Error("P3: the same calls answer something else")
	}
}

// TestExamples: the examples of the whole that are told as scripts.
func TestExamples(t *testing.T) {
	for _, c := range []struct {
		policy, script, want string
	}{
		{"right r { }", "1 try 0 a o r\n1 end 0\n", "2 2 1 0 0 1 0 0"},
		{"attr n int; right r { on s.n < 3; }", "1 try 0 a o r\n2 set a n 3\n", "2 2 1 0 1 0 0 0"},
		{"right r { on times(read, 9) <= 2; }", "1 try 0 a o r\n2 use 0 read\n3 use 0 read\n11 use 0 read\n", "4 4 1 0 1 0 0 0"},
		{"right r { duty pay act pay within 4 keep; }", "1 try 0 a o r\n5 tick\n6 tick\n", "3 3 1 0 1 0 0 0"},
		{"attr n int; right r { before s.n := s.n + 1; pre s.n < 1; }", "1 try 0 a o r\n1 try 1 a o r\n", "2 2 1 1 0 0 1 0"},
		{"right r { }", "1 try 0 a o r\n1 try 1 a o r\n1 try 2 a o r\n1 try 3 a o r\n1 try 4 a o r\n1 try 5 a o r\n1 try 6 a o r\n1 try 7 a o r\n1 try 8 a o r\n0 tick\n1 end 0\n1 try 8 a o r\n", "12 10 9 0 0 1 8 0"},
		{"right r { on prev(true) or true; }", "1 try 0 a o r\n", "1 1 1 0 0 0 1 1"},
		{"", "", "0 0 0 0 0 0 0 0"},
	} {
		r, err := driver.Main(c.policy, c.script)
		if got := driver.Line(r); err != api.OK || got != c.want {
			t.Errorf("%s; %q: %s %d, not %s", c.policy, c.script, got, err, c.want)
		}
	}
}
