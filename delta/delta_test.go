package delta_test

import (
	"bytes"
	"fmt"
	"math/rand"
	"slices"
	"strings"
	"testing"

	"beadle/api"
	"beadle/delta"
	"beadle/engine"
	"beadle/event"
	"beadle/policy"
	"beadle/value"
)

// made is the policy of a text.
func made(t *testing.T, s string) api.Policy {
	t.Helper()
	p, err := policy.Parse(s)
	if err != nil {
		t.Fatal(s, err)
	}
	return p
}

// told are changes as a short text.
func told(l []delta.Change) string {
	var parts []string
	for _, c := range l {
		parts = append(parts, fmt.Sprint(c.Kind, c.Name, ":", c.Part))
	}
	return strings.Join(parts, " ")
}

func TestBetween(t *testing.T) {
	base := "attr n int; attr b bool; right r { pre s.b; before s.n := 1; duty d act a within 1; } right q { }"
	for s, want := range map[string]string{
		base: "",
		"":   "2b:attr 2n:attr 2q:right 2r:right",
		"attr b bool; attr n int; right q { } right r { pre s.b; before s.n := 1; duty d act a within 1; }":                           "",
		"attr z set; attr n text; attr a int; right r { on true; } right k { }":                                                       "1a:attr 2b:attr 3n:kind 1z:attr 1k:right 2q:right 3r:pre 3r:before 3r:duties",
		"attr n int; attr b bool; right r { on s.b; during s.n := 1; after s.n := 1; duty d act a within 2; } right q { pre false; }": "3q:pre 3r:pre 3r:on 3r:before 3r:during 3r:after 3r:duties",
		"attr n int; attr b bool; right r { pre s.b; before o.n := 1; duty d act a within 1 keep; } right q { }":                      "3r:before 3r:duties",
		"attr n int; attr b bool; right r { pre s.b; before s.n := 2; duty d act a within 1; } right q { }":                           "3r:before",
	} {
		a, b := made(t, base), made(t, s)
		if got := told(delta.Between(a, b)); got != want {
			t.Errorf("P36.1: Between(base, %q): %s, not %s", s, got, want)
		}
		turn := strings.NewReplacer("1", "2", "2", "1")
		var turned []string
		for _, f := range strings.Fields(want) {
			turned = append(turned, turn.Replace(f[:1])+f[1:])
		}
		if got := told(delta.Between(b, a)); got != strings.Join(turned, " ") {
			t.Errorf("P36.1: Between(%q, base): %s, not %s", s, got, turned)
		}
		if !policy.Same(a, made(t, base)) || !policy.Same(b, made(t, s)) {
			t.Error("P2: a policy was changed")
		}
	}
	twice := api.Policy{Decls: []api.Decl{{Name: "n", Kind: 1}, {Name: "n", Kind: 2}}, Rights: []api.Right{{Name: "r"}, {Name: "r", Duties: []api.Duty{{}}}}}
	once := api.Policy{Decls: twice.Decls[:1], Rights: twice.Rights[:1]}
	if l := delta.Between(twice, once); len(l) != 0 {
		t.Errorf("P36.1: the first of a name counts: %v", l)
	}
	empty := api.Policy{Rights: []api.Right{{Name: "r", Before: []api.Update{}, Duties: []api.Duty{}}}}
	if l := delta.Between(empty, api.Policy{Rights: once.Rights}); len(l) != 0 {
		t.Errorf("P5: nil and empty lists are one: %v", l)
	}
}

func TestStricter(t *testing.T) {
	base := "pre s.b; on s.n < 3; before s.n := 1; during s.n := 2; after s.n := 3; duty d act a within 1;"
	rest := " before s.n := 1; during s.n := 2; after s.n := 3; duty d act a within 1;"
	right := func(clauses string) api.Right {
		return made(t, "attr n int; attr b bool; right r {"+clauses+"}").Rights[0]
	}
	for s, want := range map[string]bool{
		base:                                  true,
		"pre s.b and o.b; on s.n < 3;" + rest: true,
		"pre s.b; on s.n < 3 and prev(true);" + rest:                   true,
		"pre s.b and (o.b or s.b); on s.n < 3 and s.n < 3;" + rest:     true,
		"pre o.b and s.b; on s.n < 3;" + rest:                          false,
		"pre s.b or o.b; on s.n < 3;" + rest:                           false,
		"pre s.b and o.b and s.b; on s.n < 3;" + rest:                  false,
		"pre s.b; on s.n < 2;" + rest:                                  false,
		"pre s.b; on true;" + rest:                                     false,
		strings.Replace(base, "before s.n := 1", "before s.n := 9", 1): false,
		strings.Replace(base, "during s.n", "during o.n", 1):           false,
		strings.Replace(base, "after s.n := 3;", "", 1):                false,
		strings.Replace(base, "within 1", "within 0", 1):               false,
		base + "duty e act a within 1;":                                false,
	} {
		a, b := right(base), right(s)
		if got := delta.Stricter(a, b); got != want {
			t.Errorf("P36.1: Stricter(base, %s): %v", s, got)
		}
		b.Name = "q"
		if delta.Stricter(a, b) {
			t.Error("P36.1: Stricter of another name")
		}
	}
	if !delta.Stricter(api.Right{}, api.Right{}) || delta.Stricter(right(base), api.Right{}) {
		t.Error("P36.1: Stricter of nothing")
	}
}

func TestMerge(t *testing.T) {
	a := "attr n int; attr b bool; right r { pre s.b; } right q { }"
	for _, c := range []struct {
		a, b, want string
	}{
		{a, a, a},
		{a, "", a},
		{"", a, a},
		{a, "attr z set; attr b bool; attr a text; right k { on \"x\" in s.z; } right q { } right c { }", "attr n int; attr b bool; attr z set; attr a text; right r { pre s.b; } right q { } right k { on \"x\" in s.z; } right c { }"},
	} {
		x, y := made(t, c.a), made(t, c.b)
		got, err := delta.Merge(x, y)
		if err != api.OK || !policy.Same(got, made(t, c.want)) {
			t.Errorf("P36.1: Merge(%q, %q): %s %d", c.a, c.b, policy.Print(got), err)
		}
		for i := range got.Rights {
			got.Rights[i].Pre.Name = "z"
			for k := range got.Rights[i].On.Kids {
				got.Rights[i].On.Kids[k].Name = "z"
			}
		}
		clear(got.Decls)
		if !policy.Same(x, made(t, c.a)) || !policy.Same(y, made(t, c.b)) {
			t.Error("P2: Merge shares memory")
		}
	}
}

func TestMergeErrors(t *testing.T) {
	many := func(word string, n int, kind string) string {
		s := ""
		for i := range n {
			s += fmt.Sprint(word, i, kind)
		}
		return s
	}
	bad := api.Policy{Decls: []api.Decl{{Name: "n", Kind: 7}}}
	worse := api.Policy{Decls: []api.Decl{{Name: "", Kind: 7}}}
	for _, c := range []struct {
		name string
		a, b api.Policy
		want api.Errno
	}{
		{"a's error", bad, worse, api.ErrKind},
		{"b's error", made(t, "attr n text;"), worse, api.ErrSyntax},
		{"another kind", made(t, "attr n int;"), made(t, "attr n text;"), api.ErrTwice},
		{"another right", made(t, "right r { }"), made(t, "right r { pre false; }"), api.ErrTwice},
		{"another duty", made(t, "right r { duty d act a within 1; }"), made(t, "right r { duty d act a within 2; }"), api.ErrTwice},
		{"too many attributes", made(t, many("attr n", 5, " int;")), made(t, many("attr m", 5, " int;")), api.ErrCount},
		{"too many rights", made(t, many("right n", 8, " { }")), made(t, many("right m", 1, " { }")), api.ErrCount},
		{"twice ahead of count", made(t, many("attr n", 5, " int;")), made(t, many("attr m", 5, " int;")+"attr n0 set;"), api.ErrTwice},
	} {
		if p, err := delta.Merge(c.a, c.b); err != c.want || !policy.Same(p, api.Policy{}) {
			t.Errorf("P36.1: Merge with %s: %d, not %d", c.name, err, c.want)
		}
	}
}

// TestAlike: what is merged answers as each one does, where only its rights are asked for.
func TestAlike(t *testing.T) {
	a := made(t, "attr n int; right r { on s.n < 3 and times(x, 4) <= 2; during s.n := s.n + 1; duty d act y within 3 keep; }")
	b := made(t, "attr n int; attr b bool; right q { pre not s.b; on not o.b or prev(o.n < 2); after o.b := true; }")
	p, err := delta.Merge(a, b)
	if err != api.OK {
		t.Fatal(err)
	}
	r := rand.New(rand.NewSource(18))
	for round := range 40 {
		one, names := a, []string{"r"}
		if round%2 == 1 {
			one, names = b, []string{"q"}
		}
		g, _ := engine.New(one)
		h, _ := engine.New(p)
		now := int64(0)
		for range 100 {
			now += int64(r.Intn(2))
			e := api.Event{At: now, Kind: 1 + r.Intn(5)}
			switch e.Kind {
			case 1:
				e.Id, e.Subject, e.Object, e.Name = r.Intn(20), string(rune('a'+r.Intn(3))), "o", names[0]
			case 2:
				e.Id, e.Name = r.Intn(20), string(rune('x'+r.Intn(2)))
			case 3:
				e.Id = r.Intn(20)
			case 4:
				e.Subject, e.Name, e.Value = "a", "n", value.Int(int64(r.Intn(4)))
			}
			f, _ := event.Put(e)
			if x, y := g.Frame(f), h.Frame(f); !bytes.Equal(x, y) {
				t.Fatalf("G6: %v: %x, not %x", e, y, x)
			}
		}
		if !slices.Equal(g.Duties(), h.Duties()) {
			t.Fatal("G6: duties")
		}
	}
}
