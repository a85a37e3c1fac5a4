package reads_test

import (
	"slices"
	"testing"

	"beadle/api"
	"beadle/parse"
	"beadle/reads"
)

// expr is the expression of a text.
func expr(t *testing.T, s string) api.Expr {
	t.Helper()
	e, err := parse.Expr(s)
	if err != nil {
		t.Fatal(s, err)
	}
	return e
}

func TestOf(t *testing.T) {
	for s, want := range map[string][]reads.Read{
		"now":                                {},
		"act(a) or times(b, 1) = 1":          {},
		"{\"a\"} = {}":                       {},
		"s.n":                                {{5, "n"}},
		"o.n":                                {{6, "n"}},
		"o.a + s.b + s.a + o.a":              {{5, "a"}, {5, "b"}, {6, "a"}},
		"once[0,1](prev(o.z)) and not s.Z":   {{5, "Z"}, {6, "z"}},
		"since[0,*](s.ab = 1, len(s.a) < 2)": {{5, "a"}, {5, "ab"}},
	} {
		if got := reads.Of(expr(t, s)); !slices.Equal(got, want) {
			t.Errorf("P12.1: Of(%s): %v, not %v", s, got, want)
		}
	}
	sub := api.Expr{Kind: api.Subject, Name: "x", Kids: []api.Expr{{Kind: api.Object, Name: "y"}}}
	set := api.Expr{Kind: api.Set, Kids: []api.Expr{sub}}
	odd := api.Expr{Kind: 77, Kids: []api.Expr{set, sub, {}}}
	if len(reads.Of(set)) != 0 || !slices.Equal(reads.Of(odd), []reads.Read{{5, "x"}, {6, "y"}}) {
		t.Error("P12.1: Of what may not be")
	}
}

func TestUnion(t *testing.T) {
	a := []reads.Read{{6, "b"}, {5, "z"}, {5, "a"}}
	b := []reads.Read{{5, "a"}, {6, "a"}, {5, "a"}}
	wasA, wasB := slices.Clone(a), slices.Clone(b)
	got := reads.Union(a, nil, b, a)
	if !slices.Equal(got, []reads.Read{{5, "a"}, {5, "z"}, {6, "a"}, {6, "b"}}) {
		t.Errorf("P12.1: Union: %v", got)
	}
	one := reads.Union(a)
	clear(got)
	clear(one)
	if !slices.Equal(a, wasA) || !slices.Equal(b, wasB) {
		t.Error("P2: Union changed or shared its lists")
	}
	if len(reads.Union()) != 0 || len(reads.Union(nil, []reads.Read{})) != 0 {
		t.Error("P12.1: Union of nothing")
	}
	l := [][]reads.Read{a, b}
	reads.Union(l...)
	if !slices.Equal(l[0], wasA) || !slices.Equal(l[1], wasB) {
		t.Error("P2: Union changed its list of lists")
	}
}

func TestWrites(t *testing.T) {
	l := []api.Update{{Side: 6, Name: "b", To: expr(t, "s.x")}, {Side: 5, Name: "z"}, {Side: 6, Name: "b"}, {Side: 5, Name: "a"}}
	if got := reads.Writes(l); !slices.Equal(got, []reads.Read{{5, "a"}, {5, "z"}, {6, "b"}}) {
		t.Errorf("P12.1: Writes: %v", got)
	}
	if l[0].Name != "b" || l[3].Name != "a" {
		t.Error("P2: Writes changed its list")
	}
	if len(reads.Writes(nil)) != 0 {
		t.Error("P12.1: Writes of nothing")
	}
}

func TestRight(t *testing.T) {
	up := func(s string) []api.Update {
		return []api.Update{{Side: 5, Name: "set", To: expr(t, s)}, {Side: 6, Name: "set", To: expr(t, "1")}}
	}
	r := api.Right{Name: "r", Pre: expr(t, "s.p = o.a"), On: expr(t, "o.on"), Before: up("s.before"), During: up("o.during + s.p"), After: up("o.after")}
	want := []reads.Read{{5, "before"}, {5, "p"}, {6, "a"}, {6, "after"}, {6, "during"}, {6, "on"}}
	if got := reads.Right(r); !slices.Equal(got, want) {
		t.Errorf("P12.1: Right: %v, not %v", got, want)
	}
	if len(reads.Right(api.Right{})) != 0 {
		t.Error("P12.1: Right of nothing")
	}
}
