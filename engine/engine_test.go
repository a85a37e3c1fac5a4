package engine_test

import (
	"bytes"
	"fmt"
	"reflect"
	"slices"
	"strings"
	"testing"

	"beadle/api"
	"beadle/duty"
	"beadle/engine"
	"beadle/event"
	"beadle/policy"
	"beadle/record"
	"beadle/value"
)

const most = 1<<63 - 1

func try(at int64, id int, subject, object, right string) api.Event {
	return api.Event{At: at, Kind: 1, Id: id, Subject: subject, Object: object, Name: right}
}

func use(at int64, id int, act string) api.Event {
	return api.Event{At: at, Kind: 2, Id: id, Name: act}
}

func end(at int64, id int) api.Event {
	return api.Event{At: at, Kind: 3, Id: id}
}

func set(at int64, subject, name string, v api.Value) api.Event {
	return api.Event{At: at, Kind: 4, Subject: subject, Name: name, Value: v}
}

func tick(at int64) api.Event {
	return api.Event{At: at, Kind: 5}
}

// made is an engine of a policy's text.
func made(t *testing.T, s string) *engine.Engine {
	t.Helper()
	p, err := policy.Parse(s)
	if err != nil {
		t.Fatal(s, err)
	}
	g, code := engine.New(p)
	if code != api.OK {
		t.Fatal(s, code)
	}
	return g
}

// told is what a step tells, as a short text: of each verdict Id, kind, code; or the error.
func told(l []api.Verdict, err api.Errno) string {
	if err != api.OK {
		if len(l) != 0 {
			return "verdicts beside an error"
		}
		return fmt.Sprint("error ", int(err))
	}
	var parts []string
	for _, v := range l {
		parts = append(parts, fmt.Sprint(v.Id, []string{"", "grant", "deny", "go", "revoke", "end"}[v.Kind], int(v.Code)))
	}
	return strings.Join(parts, " ")
}

// inst is an instance of a duty.
func inst(id, place int, act string, due int64, keep bool, state int) duty.Instance {
	return duty.Instance{Id: id, Place: place, Act: act, Due: due, Keep: keep, State: state}
}

// scene is an event, and what is told of it.
type scene struct {
	e    api.Event
	want string
}

// play holds what an engine tells of events against what is wanted.
func play(t *testing.T, g *engine.Engine, l ...scene) {
	t.Helper()
	for i, c := range l {
		if got := told(g.Step(c.e)); got != c.want {
			t.Errorf("P26.1: event %d, %v: %q, not %q", i, c.e, got, c.want)
		}
	}
}

func TestExamples(t *testing.T) {
	play(t, made(t, "right r { }"), scene{try(1, 0, "a", "o", "r"), "0grant0"}, scene{end(1, 0), "0end0"})
	play(t, made(t, "attr n int; right r { on s.n < 3; }"), scene{try(1, 4, "a", "o", "r"), "4grant0"}, scene{set(2, "b", "n", value.Int(3)), ""}, scene{set(2, "a", "n", value.Int(3)), "4revoke34"})
	play(t, made(t, "right r { on times(read, 9) <= 2; }"), scene{try(1, 1, "a", "o", "r"), "1grant0"}, scene{use(1, 1, "read"), "1go0"}, scene{use(5, 1, "read"), "1go0"}, scene{use(10, 1, "read"), "1revoke34"})
	play(t, made(t, "right r { on times(read, 9) <= 2; }"), scene{try(1, 1, "a", "o", "r"), "1grant0"}, scene{use(1, 1, "read"), "1go0"}, scene{use(5, 1, "read"), "1go0"}, scene{use(11, 1, "read"), "1go0"})
	for _, e := range []api.Event{tick(6), use(6, 0, "pay"), end(6, 0), try(6, 1, "a", "o", "x")} {
		want := "0revoke35"
		if e.Kind == 1 {
			want = "error 14"
		}
		play(t, made(t, "right r { duty pay act pay within 4 keep; }"), scene{try(1, 0, "a", "o", "r"), "0grant0"}, scene{tick(5), ""}, scene{e, want})
	}
	play(t, made(t, "attr n int; right r { before s.n := s.n + 1; pre s.n < 1; }"), scene{try(1, 0, "a", "o", "r"), "0grant0"}, scene{try(1, 1, "a", "o", "r"), "1deny34"}, scene{try(1, 2, "b", "o", "r"), "2grant0"})
	g := made(t, "right r { }")
	for id := range 8 {
		play(t, g, scene{try(1, id, "a", "o", "r"), fmt.Sprint(id, "grant0")})
	}
	play(t, g, scene{try(1, 8, "a", "o", "r"), "error 10"}, scene{end(1, 3), "3end0"}, scene{try(1, 8, "a", "o", "r"), "8grant0"}, scene{tick(0), "error 33"}, scene{tick(1), ""})
	if got := g.Frame([]byte{7}); !bytes.Equal(got, []byte{0x10, 0}) {
		t.Errorf("P26.1: Frame of one octet: %x", got)
	}
	p := made(t, "right r { on prev(true) or true; }")
	play(t, p, scene{try(1, 0, "a", "o", "r"), "0grant0"}, scene{try(1, 1, "a", "o", "r"), "1grant0"})
	if p.Cells() != 2 {
		t.Errorf("P26.1: Cells: %d", p.Cells())
	}
}

func TestErrors(t *testing.T) {
	text := "attr n int; right r { } right no { pre false; }"
	full := []api.Event{}
	for id := range 8 {
		full = append(full, try(4, 50+id, "a", "o", "r"))
	}
	ahead := []api.Event{try(5, 0, "a", "o", "r"), try(5, 1, "a", "o", "no"), try(5, 2, "a", "o", "r"), end(5, 2)}
	for _, c := range []struct {
		ahead []api.Event
		e     api.Event
		want  string
	}{
		{ahead, api.Event{Kind: 6, At: -1}, "error 12"},
		{ahead, tick(-1), "error 4"},
		{ahead, try(1, 64, "a", "o", "r"), "error 4"},
		{ahead, try(1, 5, "", "o", "r"), "error 16"},
		{ahead, tick(4), "error 33"},
		{ahead, try(4, 0, "a", "o", "x"), "error 33"},
		{ahead, try(5, 0, "a", "o", "x"), "error 22"},
		{ahead, api.Event{At: 4, Kind: 5, Id: 64}, "error 4"},
		{ahead, api.Event{At: 4, Kind: 5, Id: 1}, "error 16"},
		{ahead, try(5, 1, "a", "o", "r"), "error 22"},
		{ahead, try(5, 2, "a", "o", "r"), "error 22"},
		{ahead, try(5, 3, "a", "o", "x"), "error 14"},
		{full, try(5, 3, "a", "o", "x"), "error 14"},
		{full, try(5, 50, "a", "o", "r"), "error 22"},
		{full, try(5, 3, "a", "o", "r"), "error 10"},
		{full, try(5, 3, "a", "o", "no"), "error 10"},
		{ahead, use(5, 3, "read"), "error 14"},
		{ahead, end(5, 3), "error 14"},
		{ahead, use(5, 1, "read"), "error 9"},
		{ahead, end(5, 1), "error 9"},
		{ahead, use(5, 2, "read"), "error 9"},
		{ahead, end(5, 2), "error 9"},
		{ahead, set(5, "a", "x", value.Int(1)), "error 14"},
		{ahead, set(5, "a", "n", value.Bool(true)), "error 31"},
		{ahead, set(5, "a", "n", api.Value{Kind: 1, S: "a"}), "error 16"},
	} {
		g := made(t, text)
		for _, e := range c.ahead {
			g.Step(e)
		}
		was := whole(g)
		play(t, g, scene{c.e, c.want})
		if got := whole(g); got != was {
			t.Errorf("P26.2: %v changed %s to %s", c.e, was, got)
		}
	}
}

// whole is all that an engine tells of itself.
func whole(g *engine.Engine) string {
	s := fmt.Sprint(g.Last(), g.Open(), g.Duties(), g.Cells())
	for id := range 64 {
		s += fmt.Sprint(g.State(id))
	}
	for _, entity := range []string{"a", "b", "c", "o", "p"} {
		for _, name := range []string{"n", "m", "b"} {
			v, ok := g.Get(entity, name)
			s += fmt.Sprint(v, ok)
		}
	}
	return s
}

func TestTry(t *testing.T) {
	play(t, made(t, "attr n int; right r { before s.n := 9223372036854775807; before s.n := s.n + 1; }"), scene{try(1, 0, "a", "o", "r"), "0deny30"})
	play(t, made(t, "attr n int; right r { pre s.n + 9223372036854775807 = 0; }"), scene{set(1, "a", "n", value.Int(1)), ""}, scene{try(1, 0, "a", "o", "r"), "0deny30"})
	// A duty whose Due is too great denies, ahead of all else.
	g := made(t, "attr n int; right r { pre false; before s.n := 1; duty d act a within 9223372036854775807; } right q { duty d on x act a within 9223372036854775807; }")
	play(t, g, scene{try(1, 0, "a", "o", "r"), "0deny30"}, scene{try(1, 1, "a", "o", "q"), "1grant0"})
	if g.State(0) != 2 || len(g.Duties()) != 0 {
		t.Error("P26.1: denied with ErrOver")
	}
	play(t, made(t, "right r { duty d act a within 9223372036854775807; }"), scene{try(0, 0, "a", "o", "r"), "0grant0"})
	// It looks, once it is granted, at what Before set.
	h := made(t, "attr n int; right r { before s.n := s.n + 1; on s.n < 2; }")
	play(t, h, scene{try(1, 5, "a", "o", "r"), "5grant0"}, scene{try(1, 2, "a", "o", "r"), "2grant0 2revoke34 5revoke34"})
	// On is looked at as soon as it is granted.
	play(t, made(t, "right r { on false; }"), scene{try(1, 0, "a", "o", "r"), "0grant0 0revoke34"})
	// Instances of duties without On, in order.
	d := made(t, "right r { duty x act a within 3; duty y on u act b within 4; duty z act c within 5 keep; }")
	play(t, d, scene{try(1, 9, "a", "o", "r"), "9grant0"})
	if got := d.Duties(); !slices.Equal(got, []duty.Instance{inst(9, 0, "a", 4, false, 1), inst(9, 2, "c", 6, true, 1)}) {
		t.Errorf("P26.1: Duties: %v", got)
	}
}

func TestUse(t *testing.T) {
	g := made(t, "attr n int; right r { on s.n < 3 and o.n < 3; during s.n := s.n + 1; duty x on read act write within 3; duty y on read act log within 4 keep; duty z act write within 9; after o.n := o.n + 1; }")
	play(t, g,
		scene{try(1, 0, "a", "o", "r"), "0grant0"},
		scene{try(1, 1, "a", "p", "r"), "1grant0"},
		scene{use(2, 0, "read"), "0go0"},
		scene{use(3, 0, "write"), "0go0"},
	)
	if got := g.Duties(); !slices.Equal(got, []duty.Instance{inst(0, 2, "write", 10, false, 2), inst(1, 2, "write", 10, false, 1), inst(0, 0, "write", 5, false, 2), inst(0, 1, "log", 6, true, 1)}) {
		t.Errorf("P26.1: Duties: %v", got)
	}
	// The third one sets n to 3: both look again, the one that used it, too.
	play(t, g, scene{use(3, 0, "log"), "0go0 0revoke34 1revoke34"})
	if v, _ := g.Get("a", "n"); v.N != 3 {
		t.Errorf("P26.1: n: %v", v)
	}
	if got := g.Duties(); got[1].State != 4 || got[3].State != 2 {
		t.Errorf("P26.1: Duties: %v", got)
	}
	// What was to be done by a use that does not go on is fulfilled all the same.
	f := made(t, "right r { on not act(pay); duty d act pay within 3; }")
	play(t, f, scene{try(1, 0, "a", "o", "r"), "0grant0"}, scene{use(2, 0, "pay"), "0revoke34"})
	if got := f.Duties(); got[0].State != 2 {
		t.Errorf("P26.1: Duties: %v", got)
	}
	// A Due that is too great revokes, and makes no instance.
	o := made(t, "attr n int; right r { during s.n := s.n + 1; duty c on x act a within 1; duty d on x act a within 9223372036854775807; }")
	play(t, o, scene{try(0, 0, "a", "o", "r"), "0grant0"}, scene{use(0, 0, "x"), "0go0"}, scene{use(1, 0, "x"), "0revoke30"})
	if v, _ := o.Get("a", "n"); v.N != 1 || len(o.Duties()) != 2 {
		t.Errorf("P26.1: of what is too great: %v", o.Duties())
	}
	// During's error revokes; the instances of this use are void.
	e := made(t, "attr n int; right r { during s.n := s.n * 3 + 1; during o.n := 9223372036854775807 + s.n; duty d on x act a within 1; }")
	play(t, e, scene{try(0, 0, "a", "o", "r"), "0grant0"}, scene{use(0, 0, "x"), "0revoke30"})
	if v, _ := e.Get("a", "n"); v.N != 0 || len(e.Duties()) != 1 || e.Duties()[0].State != 4 {
		t.Errorf("P26.1: During's error: %v %v", v, e.Duties())
	}
	// A use looks with its act, what is set lets it look without.
	m := made(t, "attr n int; right r { on times(x, 9) < 2 and not prev(act(y)); during s.n := 1; }")
	play(t, m, scene{try(0, 0, "a", "o", "r"), "0grant0"}, scene{use(1, 0, "x"), "0go0"}, scene{use(2, 0, "y"), "0go0"}, scene{tick(2), "0revoke34"})
}

func TestEnd(t *testing.T) {
	g := made(t, "attr n int; right r { on s.n < 1; after s.n := s.n + 1; duty d act a within 3 keep; } right q { after o.n := 9223372036854775807 + 1; } right w { on o.n < 9; }")
	play(t, g,
		scene{try(1, 0, "a", "o", "r"), "0grant0"},
		scene{try(1, 1, "a", "o", "r"), "1grant0"},
		scene{try(1, 2, "b", "o", "r"), "2grant0"},
		scene{try(1, 3, "b", "o", "q"), "3grant0"},
		scene{end(2, 1), "1end0 0revoke34"},
		scene{end(2, 3), "3end0"},
	)
	if v, _ := g.Get("a", "n"); v.N != 2 {
		t.Errorf("P26.1: After of an end, and of a revocation: %v", v)
	}
	if l := g.Duties(); l[0].State != 4 || l[1].State != 4 || l[2].State != 1 || g.State(1) != 4 || g.State(0) != 3 || g.State(3) != 4 {
		t.Errorf("P26.1: Duties: %v", l)
	}
	if !slices.Equal(g.Open(), []int{2}) {
		t.Errorf("P26.1: Open: %v", g.Open())
	}
}

// TestMarks: who reads what an end sets looks again, even if that can't be.
func TestMarks(t *testing.T) {
	// Whether w was asked again shows in what prev told it.
	g := made(t, "attr n int; right r { after o.n := 9223372036854775807 + 1; } right w { on (o.n < 9) and not prev(prev(true)); }")
	play(t, g,
		scene{try(1, 0, "a", "o", "r"), "0grant0"},
		scene{try(1, 1, "b", "o", "w"), "1grant0"},
		scene{try(1, 2, "b", "p", "w"), "2grant0"},
		scene{end(2, 0), "0end0"},
		scene{tick(2), "1revoke34"},
		scene{set(2, "p", "n", value.Int(0)), "2revoke34"},
	)
	// What is set to what it was is looked at all the same.
	h := made(t, "attr n int; right w { on (s.n < 9) and not prev(prev(true)); }")
	play(t, h, scene{try(1, 0, "a", "o", "w"), "0grant0"}, scene{set(1, "a", "n", value.Int(0)), ""}, scene{set(1, "a", "n", value.Int(0)), "0revoke34"})
}

// TestRounds: in the order of Ids, again and again.
func TestRounds(t *testing.T) {
	g := made(t, `attr n int;
right top { on s.n < 1; after o.n := 1; }
right both { on s.n < 1; after o.n := 1; }`)
	play(t, g,
		scene{try(1, 5, "a", "b", "top"), "5grant0"},
		scene{try(1, 3, "b", "c", "both"), "3grant0"},
		scene{try(1, 7, "c", "d", "both"), "7grant0"},
		scene{try(1, 1, "d", "e", "both"), "1grant0"},
		scene{try(1, 6, "d", "f", "both"), "6grant0"},
		scene{try(1, 2, "b", "g", "both"), "2grant0"},
		// 5 sets b: 2 and 3 in the next round; 3 sets c: 7 in that round; 7 sets d: 1 and 6 in the one behind.
		scene{set(2, "a", "n", value.Int(1)), "5revoke34 2revoke34 3revoke34 7revoke34 1revoke34 6revoke34"},
	)
}

func TestLate(t *testing.T) {
	text := "attr n int; right k { on s.n < 1; duty d act pay within 4 keep; duty e act pay within 2; after o.n := o.n + 1; } right w { on s.n < 1; }"
	g := made(t, text)
	play(t, g,
		scene{try(1, 0, "a", "b", "k"), "0grant0"},
		scene{try(1, 1, "c", "x", "k"), "1grant0"},
		scene{try(2, 2, "b", "x", "w"), "2grant0"},
		scene{use(3, 1, "pay"), "1go0"},
		scene{tick(4), ""},
	)
	if l := g.Duties(); l[0].State != 1 || l[1].State != 3 || l[2].State != 2 || l[3].State != 2 {
		t.Errorf("P26.1: Duties: %v", l)
	}
	play(t, g, scene{use(6, 0, "pay"), "0revoke35 2revoke34"}, scene{use(6, 0, "pay"), "error 9"}, scene{use(6, 1, "pay"), "1go0"})
	if l := g.Duties(); l[0].State != 3 {
		t.Errorf("P26.1: Duties: %v", l)
	}
	// A refused event lets nothing expire.
	h := made(t, text)
	play(t, h, scene{try(1, 0, "a", "b", "k"), "0grant0"}, scene{use(9, 7, "pay"), "error 14"})
	if h.Duties()[0].State != 1 {
		t.Error("P26.2: a refused event violated a duty")
	}
	play(t, h, scene{use(5, 0, "pay"), "0go0"}, scene{tick(99), ""})
	// Who is revoked by the same event is closed already when it ends, or tries.
	o := made(t, text)
	play(t, o, scene{try(1, 0, "a", "b", "k"), "0grant0"}, scene{try(7, 1, "b", "x", "w"), "0revoke35 1grant0 1revoke34"})
	both := made(t, "right k { duty d act pay within 4 keep; duty e act pay within 3 keep; }")
	play(t, both, scene{try(1, 0, "a", "b", "k"), "0grant0"}, scene{try(1, 1, "a", "b", "k"), "1grant0"}, scene{tick(9), "0revoke35 1revoke35"})
	if l := both.Duties(); l[0].State != 3 || l[1].State != 3 || l[3].State != 3 {
		t.Errorf("P26.1: all expire ahead of what they revoke: %v", l)
	}
}

func TestFrame(t *testing.T) {
	g, same := made(t, "attr n int; right r { on s.n < 3; }"), made(t, "attr n int; right r { on s.n < 3; }")
	for _, e := range []api.Event{try(1, 0, "a", "o", "r"), try(1, 0, "a", "o", "r"), use(2, 0, "x"), set(3, "a", "n", value.Int(3)), tick(1), tick(3)} {
		b, _ := event.Put(e)
		was := bytes.Clone(b)
		l, err := same.Step(e)
		want, _ := record.Put(record.Record{Code: err, Verdicts: l})
		if got := g.Frame(b); !bytes.Equal(got, want) || !bytes.Equal(b, was) {
			t.Errorf("P26.1: Frame of %v: %x, not %x", e, got, want)
		}
	}
	if got := g.Frame(make([]byte, 513)); !bytes.Equal(got, []byte{5, 0}) {
		t.Errorf("P26.1: Frame of 513 octets: %x", got)
	}
	if got := g.Frame(nil); !bytes.Equal(got, []byte{16, 0}) {
		t.Errorf("P26.1: Frame of none: %x", got)
	}
}

func TestNew(t *testing.T) {
	for want, p := range map[api.Errno]api.Policy{
		api.ErrSyntax: {Decls: []api.Decl{{}}},
		api.ErrCount:  {Rights: make([]api.Right, 9)},
		api.ErrKind:   {Rights: []api.Right{{Name: "r"}}},
	} {
		if g, err := engine.New(p); g != nil || err != want {
			t.Errorf("P26.1: New: %d, not %d", err, want)
		}
	}
	p, _ := policy.Parse("attr n int; right r { on s.n < 3; before s.n := s.n + 1; duty d act a within 5; }")
	g, _ := engine.New(p)
	p.Decls[0].Name = "m"
	p.Rights[0].Name = "q"
	p.Rights[0].On.Kids[0].Name = "m"
	p.Rights[0].Before[0].Name = "m"
	p.Rights[0].Duties[0].Within = 9
	play(t, g, scene{try(1, 0, "a", "o", "r"), "0grant0"})
	if v, ok := g.Get("a", "n"); !ok || v.N != 1 || g.Duties()[0].Due != 6 {
		t.Error("P2: New keeps its policy")
	}
}

func TestAsked(t *testing.T) {
	g := made(t, "attr l set; right r { }")
	if g.Last() != 0 || g.State(0) != 0 || g.State(-1) != 0 || g.State(64) != 0 || len(g.Open()) != 0 || g.Cells() != 0 || len(g.Duties()) != 0 {
		t.Error("P26.1: at first")
	}
	play(t, g, scene{set(4, "a", "l", value.Set("x", "y")), ""}, scene{try(most, 63, "a", "o", "r"), "63grant0"}, scene{try(most, 0, "a", "o", "r"), "0grant0"})
	v, ok := g.Get("a", "l")
	if !ok || !value.Same(v, value.Set("x", "y")) || g.Last() != most || g.State(63) != 1 || !slices.Equal(g.Open(), []int{0, 63}) {
		t.Error("P26.1: what is asked")
	}
	clear(v.L)
	if v, _ := g.Get("a", "l"); v.L[0] != "x" {
		t.Error("P2: Get shares memory")
	}
	if v, ok := g.Get("a", "x"); ok || v.Kind != 0 {
		t.Error("P26.1: Get of what is not declared")
	}
	e := set(most, "a", "l", value.Set("p", "q"))
	g.Step(e)
	clear(e.Value.L)
	if v, _ := g.Get("a", "l"); v.L[0] != "p" {
		t.Error("P2: Step keeps its event")
	}
}

func TestClone(t *testing.T) {
	text := "attr n int; right r { on times(x, 9) < 3 and s.n < 3; duty d act pay within 4; }"
	g, same := made(t, text), made(t, text)
	for _, e := range []api.Event{try(1, 0, "a", "o", "r"), use(2, 0, "x"), try(2, 1, "b", "o", "r"), use(3, 0, "x"), use(3, 0, "pay"), use(4, 0, "x"), set(5, "b", "n", value.Int(3))} {
		c := g.Clone()
		c.Step(set(5, "a", "n", value.Int(1)))
		c.Step(try(9, 7, "a", "o", "r"))
		c.Step(use(9, 0, "x"))
		c.Step(set(9, "a", "n", value.Int(3)))
		c.Step(set(9, "b", "n", value.Int(3)))
		c.Step(end(9, 7))
		d := g.Clone()
		want := told(same.Step(e))
		if got := told(d.Step(e)); got != want || whole(d) != whole(same) {
			t.Errorf("P26.1: a clone tells %q, not %q", got, want)
		}
		if got := told(g.Step(e)); got != want || whole(g) != whole(same) {
			t.Errorf("P26.1: a clone is not apart: %q, not %q", got, want)
		}
	}
}

func TestNobodyMade(t *testing.T) {
	for _, g := range []*engine.Engine{nil, {}} {
		v, ok := g.Get("a", "n")
		if told(g.Step(tick(1))) != "error 9" || told(g.Step(api.Event{})) != "error 9" || g.Last() != 0 || g.State(0) != 0 || ok || v.Kind != 0 || g.Duties() != nil || g.Open() != nil || g.Cells() != 0 || g.Clone() != nil {
			t.Error("P26.1: of one that nobody made")
		}
		b, _ := event.Put(tick(1))
		if got := g.Frame(b); !bytes.Equal(got, []byte{9, 0}) {
			t.Errorf("P26.1: Frame of one that nobody made: %x", got)
		}
	}
	if g, err := engine.New(api.Policy{}); err != api.OK || !reflect.DeepEqual(g.Open(), g.Clone().Open()) {
		t.Error("P26.1: New of nothing")
	}
}
