package delegate_test

import (
	"math/rand"
	"slices"
	"strings"
	"testing"

	"beadle/delegate"
)

// grant is one that is in force from 0 to 9.
func grant(from, to string, depth int) delegate.Grant {
	return delegate.Grant{From: from, To: to, Depth: depth, Until: 9}
}

// asked holds all that is told of somebody against what is wanted; chain is empty of who has no right.
func asked(t *testing.T, l []delegate.Grant, who string, at int64, depth int, chain string) {
	t.Helper()
	was := slices.Clone(l)
	if got := delegate.Depth("root", l, who, at); got != depth {
		t.Errorf("P35.1: Depth(%v, %s, %d): %d, not %d", l, who, at, got, depth)
	}
	if got := delegate.Holds("root", l, who, at); got != (depth >= 0) {
		t.Errorf("P35.1: Holds(%v, %s, %d): %v", l, who, at, got)
	}
	got, ok := delegate.Chain("root", l, who, at)
	if ok != (depth >= 0) || strings.Join(got, " ") != chain {
		t.Errorf("P35.1: Chain(%v, %s, %d): %v %v, not %s", l, who, at, got, ok, chain)
	}
	if slices.Contains(delegate.All("root", l, at), who) != (depth >= 0) {
		t.Errorf("P35.1: All(%v, %d): %v", l, at, delegate.All("root", l, at))
	}
	if !slices.Equal(l, was) {
		t.Error("P2: grants were changed")
	}
}

func TestDepth(t *testing.T) {
	l := []delegate.Grant{grant("root", "a", 0), grant("a", "b", 0)}
	asked(t, l, "root", 0, 12, "root")
	asked(t, l, "a", 0, 0, "root a")
	asked(t, l, "b", 0, -1, "")
	asked(t, nil, "root", 5, 12, "root")
	asked(t, nil, "a", 5, -1, "")
	asked(t, []delegate.Grant{grant("root", "a", 99)}, "a", 0, 11, "root a")
	asked(t, []delegate.Grant{grant("root", "a", -1)}, "a", 0, -1, "")
	asked(t, []delegate.Grant{grant("root", "root", 3), grant("a", "root", 3)}, "root", 0, 12, "root")
	asked(t, []delegate.Grant{grant("a", "a", 3)}, "a", 0, -1, "")
	asked(t, []delegate.Grant{grant("b", "c", 3), grant("a", "b", 5), grant("root", "a", 4)}, "c", 0, 2, "root a b c")
	ring := []delegate.Grant{grant("a", "b", 9), grant("b", "a", 9), grant("root", "a", 3)}
	asked(t, ring, "a", 0, 3, "root a")
	asked(t, ring, "b", 0, 2, "root a b")
}

func TestTimes(t *testing.T) {
	l := []delegate.Grant{{From: "root", To: "a", Depth: 1, At: 3, Until: 5}, {From: "a", To: "b", Depth: 1, At: 5, Until: 5}, {From: "root", To: "c", At: 5, Until: 4}, {From: "root", To: "d", At: -1 << 63, Until: 1<<63 - 1}}
	for at, want := range map[int64][2]int{2: {-1, -1}, 3: {1, -1}, 4: {1, -1}, 5: {1, 0}, 6: {-1, -1}, -1: {-1, -1}} {
		chains := map[int]string{-1: "", 1: "root a", 0: "root a b"}
		asked(t, l, "a", at, want[0], chains[want[0]])
		asked(t, l, "b", at, want[1], chains[want[1]])
		asked(t, l, "c", at, -1, "")
		asked(t, l, "d", at, 0, "root d")
	}
	asked(t, l, "d", -1<<63, 0, "root d")
	asked(t, l, "d", 1<<63-1, 0, "root d")
}

// TestFirst: ahead of each stands who gave the first grant by which it may let others as far as it may.
func TestFirst(t *testing.T) {
	l := []delegate.Grant{grant("a", "c", 2), grant("b", "c", 3), grant("root", "c", 3), grant("root", "a", 9), grant("root", "b", 8), grant("a", "c", 3)}
	asked(t, l, "c", 0, 3, "root b c")
	l[1].Until = -1
	asked(t, l, "c", 0, 3, "root c")
	long := []delegate.Grant{}
	for i := range 13 {
		from := string(rune('a' + i - 1))
		if i == 0 {
			from = "root"
		}
		long = append(long, grant(from, string(rune('a'+i)), 99))
	}
	asked(t, long, "l", 0, 0, "root a b c d e f g h i j k l")
	asked(t, long, "m", 0, -1, "")
	slices.Reverse(long)
	asked(t, long, "l", 0, 0, "root a b c d e f g h i j k l")
}

func TestAll(t *testing.T) {
	l := []delegate.Grant{grant("root", "z", 0), grant("z", "y", 0), grant("root", "a", 2), grant("a", "", 0), grant("root", "a", 1)}
	if got := delegate.All("root", l, 0); !slices.Equal(got, []string{"", "a", "root", "z"}) {
		t.Errorf("P35.1: All: %v", got)
	}
	if got := delegate.All("root", l, 10); !slices.Equal(got, []string{"root"}) {
		t.Errorf("P35.1: All when none is in force: %v", got)
	}
	if got := delegate.All("", nil, 0); !slices.Equal(got, []string{""}) {
		t.Errorf("P35.1: All of no grants: %q", got)
	}
}

// best tells how far who may let others, by looking at all ways of at most so many steps.
func best(l []delegate.Grant, who string, at int64, steps int) int {
	if who == "root" {
		return 12
	}
	most := -1
	for _, g := range l {
		if steps > 0 && g.To == who && g.Depth >= 0 && g.At <= at && at <= g.Until {
			if from := best(l, g.From, at, steps-1); from >= 1 {
				most = max(most, min(g.Depth, from-1))
			}
		}
	}
	return most
}

func TestByChance(t *testing.T) {
	r := rand.New(rand.NewSource(17))
	names := []string{"root", "a", "b", "c", "d"}
	for range 1000 {
		var l []delegate.Grant
		for range r.Intn(8) {
			l = append(l, delegate.Grant{From: names[r.Intn(5)], To: names[r.Intn(5)], Depth: r.Intn(6) - 1, At: int64(r.Intn(2)), Until: int64(1 + r.Intn(2))})
		}
		at := int64(r.Intn(3))
		var all []string
		for _, who := range names {
			want := best(l, who, at, 5)
			if want >= 0 {
				all = append(all, who)
			}
			chain, ok := delegate.Chain("root", l, who, at)
			if delegate.Depth("root", l, who, at) != want || ok != (want >= 0) || ok && (chain[0] != "root" || chain[len(chain)-1] != who) {
				t.Fatalf("P35.1: %v: %s: %d, not %d; %v", l, who, delegate.Depth("root", l, who, at), want, chain)
			}
			for i := 1; i < len(chain); i++ {
				for _, g := range l {
					if g.To == chain[i] && g.Depth >= 0 && g.At <= at && at <= g.Until && min(g.Depth, best(l, g.From, at, 5)-1) == best(l, g.To, at, 5) {
						if g.From != chain[i-1] {
							t.Fatalf("P35.1: %v: chain %v", l, chain)
						}
						break
					}
				}
			}
		}
		slices.Sort(all)
		if got := delegate.All("root", l, at); !slices.Equal(got, all) {
			t.Fatalf("P35.1: All: %v, not %v", got, all)
		}
	}
}
