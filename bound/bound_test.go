package bound_test

import (
	"testing"

	"beadle/api"
	"beadle/bound"
	"beadle/parse"
)

func TestCellsAndLongest(t *testing.T) {
	for s, want := range map[string][2]int64{
		"once[0,5](prev(true))":              {2, 5},
		"true":                               {0, 0},
		"s.n + 1 < now":                      {0, 0},
		"act(a)":                             {0, 0},
		"prev(true)":                         {1, 0},
		"times(a, 0) = 1":                    {1, 0},
		"times(a, 7) < times(b, 9)":          {2, 9},
		"once[3,*](true)":                    {1, 0},
		"hist[3,*](true) or hist[1,4](true)": {2, 4},
		"since[0,8](once[0,9](true), hist[0,2](true))": {3, 9},
		"not not prev(prev(prev(true)))":               {3, 0},
		"once[0,9223372036854775807](true)":            {1, 1<<63 - 1},
	} {
		e, err := parse.Expr(s)
		if err != nil {
			t.Fatal(s, err)
		}
		if got := bound.Cells(e); got != int(want[0]) {
			t.Errorf("P11.1: Cells(%s): %d, not %d", s, got, want[0])
		}
		if got := bound.Longest(e); got != want[1] {
			t.Errorf("P11.1: Longest(%s): %d, not %d", s, got, want[1])
		}
	}
}

func TestMost(t *testing.T) {
	e, _ := parse.Expr("once[0,5](prev(true))")
	for times, want := range map[int]int{0: 2, 1: 4, 9: 20, -1: 2, -1 << 63: 2, 1 << 15: 2 * (1<<15 + 1), 1<<15 + 1: 2 * (1<<15 + 1), 1<<63 - 1: 2 * (1<<15 + 1), 1<<15 - 1: 1 << 16} {
		if got := bound.Most(e, times); got != want {
			t.Errorf("P11.1: Most(%d): %d, not %d", times, got, want)
		}
	}
	if bound.Most(api.Expr{Kind: api.Now}, 99) != 0 {
		t.Error("P11.1: Most of what remembers nothing")
	}
}

// TestOthers: of what may not be, too, a set's texts do not count.
func TestOthers(t *testing.T) {
	prev := api.Expr{Kind: api.Prev}
	set := api.Expr{Kind: api.Set, Kids: []api.Expr{prev, prev}}
	odd := api.Expr{Kind: 99, Kids: []api.Expr{prev, set, {Kind: api.Once, Hi: 3}, {Kind: api.Bool, Hi: 8}}}
	if bound.Cells(set) != 0 || bound.Longest(set) != 0 || bound.Cells(odd) != 2 || bound.Longest(odd) != 3 {
		t.Error("P11.1: of what may not be")
	}
	if bound.Cells(api.Expr{}) != 0 || bound.Longest(api.Expr{}) != 0 || bound.Most(api.Expr{}, 1) != 0 {
		t.Error("P11.1: of nothing")
	}
}
