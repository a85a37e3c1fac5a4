package wall_test

import (
	"math/rand"
	"slices"
	"testing"

	"beadle/wall"
)

// owners are two banks, two oils, one alone in its class; who is not there belongs to none.
func owners() []wall.Owner {
	return []wall.Owner{{"bank1", "bank"}, {"bank2", "bank"}, {"oil1", "oil"}, {"oil2", "oil"}, {"solo", ""}, {"bank1", "oil"}}
}

func TestExample(t *testing.T) {
	w := wall.New(owners()...)
	if !w.May("ann", "bank2") || !w.See("ann", "bank1") || w.May("ann", "bank2") || w.See("ann", "bank2") {
		t.Error("P33.1: who saw one bank's can't see another one's")
	}
	if !w.May("ann", "bank1") || !w.See("ann", "bank1") || !w.See("ann", "oil2") || w.See("ann", "oil1") || !w.See("ann", "solo") || !w.See("bob", "bank2") {
		t.Error("P33.1: who saw it, or none of its class")
	}
	if !w.See("ann", "none1") || !w.See("ann", "none2") || !w.See("ann", "") {
		t.Error("P33.1: all may see those that belong to none")
	}
	if got := w.Seen("ann"); !slices.Equal(got, []string{"", "bank1", "none1", "none2", "oil2", "solo"}) {
		t.Errorf("P33.1: Seen: %v", got)
	}
	if got := w.Seen("bob"); !slices.Equal(got, []string{"bank2"}) || len(w.Seen("cid")) != 0 {
		t.Errorf("P33.1: Seen: %v", got)
	}
	if w.Forget("ann") != 6 || w.Forget("ann") != 0 || len(w.Seen("ann")) != 0 || !w.May("ann", "bank2") || !w.See("ann", "oil1") {
		t.Error("P33.1: Forget")
	}
	if got := w.Seen("bob"); !slices.Equal(got, []string{"bank2"}) {
		t.Errorf("P33.1: Forget of another one: %v", got)
	}
}

func TestFirst(t *testing.T) {
	w := wall.New(wall.Owner{Name: "x", Class: "a"}, wall.Owner{Name: "x", Class: "b"}, wall.Owner{Name: "y", Class: "b"}, wall.Owner{Name: "z", Class: "a"}, wall.Owner{Name: "p"}, wall.Owner{Name: "q"})
	w.See("ann", "x")
	if !w.May("ann", "y") || w.May("ann", "z") {
		t.Error("P33.1: the first of an owner counts")
	}
	if !w.See("ann", "p") || w.May("ann", "q") {
		t.Error("P33.1: a class without a name is one, too")
	}
}

func TestLeak(t *testing.T) {
	w := wall.New(owners()...)
	w.See("ann", "bank1")
	w.See("bob", "oil1")
	w.See("bob", "none")
	w.See("cid", "bank2")
	w.See("cid", "oil1")
	for _, c := range []struct {
		a, b string
		want bool
	}{{"ann", "bob", false}, {"bob", "ann", false}, {"ann", "cid", true}, {"cid", "ann", true}, {"bob", "cid", false}, {"ann", "ann", false}, {"zed", "ann", false}, {"ann", "zed", false}} {
		if got := w.Leak(c.a, c.b); got != c.want {
			t.Errorf("P33.1: Leak(%s, %s): %v", c.a, c.b, got)
		}
	}
	if len(w.Seen("ann")) != 1 {
		t.Error("P33.1: Leak is not to see")
	}
}

func TestByChance(t *testing.T) {
	r := rand.New(rand.NewSource(15))
	class := map[string]string{"bank1": "bank", "bank2": "bank", "oil1": "oil", "oil2": "oil", "solo": "solo"}
	names := []string{"bank1", "bank2", "oil1", "oil2", "solo", "none"}
	people := []string{"ann", "bob", "cid"}
	two := func(l []string) bool {
		seen := map[string]string{}
		for _, o := range l {
			if c := class[o]; c != "" && seen[c] != "" && seen[c] != o {
				return true
			} else if c != "" {
				seen[c] = o
			}
		}
		return false
	}
	for range 300 {
		w := wall.New(owners()...)
		for range 40 {
			who, owner := people[r.Intn(3)], names[r.Intn(6)]
			may := w.May(who, owner)
			if may == two(append(w.Seen(who), owner)) {
				t.Fatalf("P33.1: May(%s) with %v: %v", owner, w.Seen(who), may)
			}
			switch r.Intn(8) {
			case 0:
				n := len(w.Seen(who))
				if w.Forget(who) != n {
					t.Fatal("P33.1: Forget")
				}
			case 1:
				c := w.Clone()
				w.See(who, owner)
				w.Forget(people[r.Intn(3)])
				w = c
			default:
				if w.See(who, owner) != may || slices.Contains(w.Seen(who), owner) != may {
					t.Fatalf("P33.1: See(%s, %s)", who, owner)
				}
			}
			for _, a := range people {
				if two(w.Seen(a)) {
					t.Fatalf("P33.2: %v", w.Seen(a))
				}
				for _, b := range people {
					if w.Leak(a, b) != two(append(w.Seen(a), w.Seen(b)...)) {
						t.Fatalf("P33.1: Leak of %v, %v", w.Seen(a), w.Seen(b))
					}
				}
			}
		}
	}
}

func TestApart(t *testing.T) {
	l := owners()
	w := wall.New(l...)
	clear(l)
	w.See("ann", "bank1")
	c := w.Clone()
	c.See("ann", "oil1")
	c.Forget("bob")
	w.See("ann", "oil2")
	if !slices.Equal(w.Seen("ann"), []string{"bank1", "oil2"}) || !slices.Equal(c.Seen("ann"), []string{"bank1", "oil1"}) || c.May("ann", "bank2") {
		t.Error("P33.1: Clone is not apart")
	}
	s := w.Seen("ann")
	clear(s)
	if w.Seen("ann")[0] != "bank1" {
		t.Error("P2: Seen shares memory")
	}
}

func TestNobodyMade(t *testing.T) {
	for _, w := range []*wall.Wall{nil, {}} {
		if w.May("a", "b") || w.See("a", "b") || len(w.Seen("a")) != 0 || w.Forget("a") != 0 || w.Leak("a", "b") || w.Clone() != nil {
			t.Error("P33.1: of one that nobody made")
		}
	}
	if w := wall.New(); !w.May("a", "b") || !w.See("a", "b") {
		t.Error("P33.1: of no owners")
	}
}
