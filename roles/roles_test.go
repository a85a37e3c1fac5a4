package roles_test

import (
	"fmt"
	"math/rand"
	"slices"
	"strings"
	"testing"

	"beadle/api"
	"beadle/roles"
)

// pairs are those of words: low, high, low, high ..
func pairs(s string) []roles.Pair {
	var l []roles.Pair
	f := strings.Fields(s)
	for i := 0; i < len(f); i += 2 {
		l = append(l, roles.Pair{Low: f[i], High: f[i+1]})
	}
	return l
}

func TestCheck(t *testing.T) {
	var many []roles.Pair
	for i := range 65 {
		many = append(many, roles.Pair{Low: fmt.Sprint("r", i), High: fmt.Sprint("r", i+1)})
	}
	for _, c := range []struct {
		l    []roles.Pair
		want api.Errno
	}{
		{nil, api.OK},
		{pairs("a b b c a c a b"), api.OK},
		{many[:64], api.OK},
		{many, api.ErrCount},
		{make([]roles.Pair, 65), api.ErrCount},
		{pairs("a 1"), api.ErrSyntax},
		{pairs("a b b.c d"), api.ErrSyntax},
		{append(pairs("a a"), roles.Pair{Low: "a"}), api.ErrSyntax},
		{pairs("a a"), api.ErrState},
		{pairs("a b b a"), api.ErrState},
		{pairs("x a a b b c c a"), api.ErrState},
		{append(slices.Clone(many[:63]), roles.Pair{Low: "r63", High: "r0"}), api.ErrState},
	} {
		if got := roles.Check(c.l); got != c.want {
			t.Errorf("P31.1: Check(%v): %d, not %d", c.l, got, c.want)
		}
	}
}

func TestAsked(t *testing.T) {
	l := pairs("a b b c x c c top a top y y2")
	for role, want := range map[string]string{"a": "a b c top", "b": "b c top", "c": "c top", "top": "top", "x": "c top x", "y": "y y2", "z": "z", "": ""} {
		if got := strings.Join(roles.Reach(l, role), " "); got != want {
			t.Errorf("P31.1: Reach(%s): %s, not %s", role, got, want)
		}
	}
	for role, want := range map[string]int{"a": 3, "b": 2, "c": 1, "top": 0, "x": 2, "y": 1, "y2": 0, "z": 0} {
		if got := roles.Level(l, role); got != want {
			t.Errorf("P31.1: Level(%s): %d, not %d", role, got, want)
		}
	}
	for _, c := range []struct {
		low, high string
		want      bool
	}{{"a", "top", true}, {"a", "a", true}, {"top", "a", false}, {"a", "x", false}, {"z", "z", true}, {"z", "a", false}, {"a", "z", false}, {"x", "b", false}} {
		if got := roles.Has(l, c.low, c.high); got != c.want {
			t.Errorf("P31.1: Has(%s, %s): %v", c.low, c.high, got)
		}
	}
	if got := roles.Tops(l); !slices.Equal(got, []string{"top", "y2"}) {
		t.Errorf("P31.1: Tops: %v", got)
	}
	if got := roles.Reduce(l); !slices.Equal(got, pairs("a b b c c top x c y y2")) {
		t.Errorf("P31.1: Reduce: %v", got)
	}
	if len(roles.Tops(nil)) != 0 || len(roles.Reduce(nil)) != 0 || roles.Level(nil, "a") != 0 || !slices.Equal(roles.Reach(nil, "a"), []string{"a"}) {
		t.Error("P31.1: of no pairs")
	}
}

func TestRings(t *testing.T) {
	l := pairs("b a a b c d b a d e e e")
	for role, want := range map[string]string{"a": "a b", "b": "a b", "c": "c d e", "e": "e"} {
		if got := strings.Join(roles.Reach(l, role), " "); got != want {
			t.Errorf("P31.1: Reach(%s): %s, not %s", role, got, want)
		}
	}
	for _, role := range []string{"a", "c", "e", "z"} {
		if got := roles.Level(l, role); got != -1 {
			t.Errorf("P31.1: Level(%s) with a ring: %d", role, got)
		}
	}
	if got := roles.Reduce(l); !slices.Equal(got, l) {
		t.Errorf("P31.1: Reduce with a ring: %v", got)
	}
	if len(roles.Tops(l)) != 0 || !slices.Equal(roles.Tops(pairs("a a a b")), []string{"b"}) {
		t.Errorf("P31.1: Tops with a ring: %v", roles.Tops(l))
	}
}

// reaches looks at all pairs again and again.
func reaches(l []roles.Pair, low string) map[string]bool {
	is := map[string]bool{low: true}
	for n := -1; n != len(is); {
		n = len(is)
		for _, p := range l {
			if is[p.Low] {
				is[p.High] = true
			}
		}
	}
	return is
}

func TestByChance(t *testing.T) {
	r := rand.New(rand.NewSource(14))
	for range 400 {
		var l []roles.Pair
		for range r.Intn(14) {
			a, b := r.Intn(7), r.Intn(7)
			if a < b {
				l = append(l, roles.Pair{Low: string(rune('a' + (a*3)%7)), High: string(rune('a' + (b*3)%7))})
			}
		}
		was := slices.Clone(l)
		reduced := roles.Reduce(l)
		for _, p := range l {
			others := slices.DeleteFunc(slices.Clone(l), func(q roles.Pair) bool { return q == p })
			if slices.Contains(reduced, p) == reaches(others, p.Low)[p.High] {
				t.Fatalf("P31.1: Reduce(%v): %v", l, reduced)
			}
		}
		if !slices.IsSortedFunc(reduced, func(a, b roles.Pair) int { return strings.Compare(a.Low+a.High, b.Low+b.High) }) || len(slices.Compact(slices.Clone(reduced))) != len(reduced) {
			t.Fatalf("P31.1: Reduce(%v): %v", l, reduced)
		}
		for c := 'a'; c <= 'g'; c++ {
			want := reaches(l, string(c))
			got := roles.Reach(l, string(c))
			if len(got) != len(want) || !slices.IsSorted(got) || !slices.ContainsFunc(got, func(s string) bool { return want[s] }) {
				t.Fatalf("P31.1: Reach(%v, %c): %v", l, c, got)
			}
			level := 0
			for _, p := range l {
				if p.Low == string(c) {
					level = max(level, 1+roles.Level(l, p.High))
				}
			}
			if roles.Level(l, string(c)) != level || roles.Level(reduced, string(c)) != level {
				t.Fatalf("P31.1: Level(%v, %c): %d", l, c, roles.Level(l, string(c)))
			}
		}
		if !slices.Equal(l, was) {
			t.Fatal("P2: pairs were changed")
		}
	}
}

// TestApart: what Reduce tells is new memory, and many pairs are told without waiting.
func TestApart(t *testing.T) {
	l := pairs("b a a b")
	clear(roles.Reduce(l))
	if l[0].Low != "b" {
		t.Error("P2: Reduce shares memory")
	}
	var long []roles.Pair
	for i := range 50000 {
		long = append(long, roles.Pair{Low: fmt.Sprint(i + 1), High: fmt.Sprint(i)})
	}
	if roles.Level(long, "50000") != 50000 || len(roles.Reach(long, "50000")) != 50001 || !slices.Equal(roles.Tops(long), []string{"0"}) {
		t.Error("P31.1: of many pairs")
	}
}
