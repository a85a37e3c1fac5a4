package tally_test

import (
	"math/rand"
	"testing"

	"beadle/api"
	"beadle/tally"
)

const most = 1<<63 - 1

func TestExample(t *testing.T) {
	x := tally.New(5)
	for i, at := range []int64{0, 5, 6} {
		if got, want := x.Step(at, true), int64([]int{1, 2, 2}[i]); got != want {
			t.Errorf("P17.1: at %d: %d, not %d", at, got, want)
		}
	}
	if x.Cells() != 2 {
		t.Errorf("P17.1: Cells: %d", x.Cells())
	}
}

// TestAgainstAll holds a tally against what all moments tell.
func TestAgainstAll(t *testing.T) {
	r := rand.New(rand.NewSource(4))
	for range 1000 {
		hi := int64(r.Intn(10) - 2)
		x := tally.New(hi)
		var times []int64
		last := int64(0)
		for range r.Intn(50) {
			at, is := last+int64(r.Intn(4)-1), r.Intn(2) == 0
			last = max(last, at)
			if is {
				times = append(times, last)
			}
			want, seen := int64(0), map[int64]int{}
			for _, was := range times {
				if last-was <= max(hi, 0) {
					want++
					seen[was]++
				}
			}
			if got := x.Step(at, is); got != want || x.Cells() != len(seen) {
				t.Fatalf("P17.1: hi %d at %d of %v: %d, %d cells, not %d, %d", hi, last, times, got, x.Cells(), want, len(seen))
			}
			if r.Intn(10) == 0 {
				was := x
				x = x.Clone()
				was.Step(at+20, true)
			}
		}
	}
}

// TestMost: one time counts MaxTimes at most.
func TestMost(t *testing.T) {
	x := tally.New(5)
	for range api.MaxTimes + 10 {
		x.Step(3, true)
	}
	if got := x.Step(4, true); got != api.MaxTimes+1 || x.Cells() != 2 {
		t.Errorf("P17.1: %d, %d cells", got, x.Cells())
	}
	if got := x.Step(9, false); got != 1 || x.Cells() != 1 {
		t.Errorf("P17.1: %d, %d cells", got, x.Cells())
	}
}

func TestTimes(t *testing.T) {
	x := tally.New(2)
	for i, c := range []struct {
		at   int64
		is   bool
		want int64
	}{{-9, true, 1}, {0, true, 2}, {2, false, 2}, {1, true, 3}, {3, false, 1}, {-1 << 63, true, 2}, {4, false, 2}, {5, false, 1}, {6, false, 0}} {
		if got := x.Step(c.at, c.is); got != c.want {
			t.Errorf("P17.1: step %d: %d, not %d", i, got, c.want)
		}
	}
	g := tally.New(most)
	g.Step(0, true)
	if g.Step(most, true) != 2 {
		t.Error("P17.1: the greatest times")
	}
	z := tally.New(-1 << 63)
	if z.Step(1, true) != 1 || z.Step(1, true) != 2 || z.Step(2, false) != 0 {
		t.Error("P17.1: hi below 0 is taken as 0")
	}
}

func TestNobodyMade(t *testing.T) {
	for _, x := range []*tally.Tally{nil, {}} {
		if x.Step(1, true) != 0 || x.Cells() != 0 || x.Clone() != nil {
			t.Error("P17.1: of one that nobody made")
		}
	}
}

func TestClone(t *testing.T) {
	x := tally.New(9)
	x.Step(1, true)
	c := x.Clone()
	if c.Step(2, true) != 2 || x.Step(2, false) != 1 || c.Cells() != 2 || x.Cells() != 1 {
		t.Error("P17.1: Clone")
	}
}
