package deque_test

import (
	"math/rand"
	"slices"
	"testing"

	"beadle/api"
	"beadle/deque"
)

const (
	most  = 1<<63 - 1
	least = -1 << 63
)

// held holds all that a deque tells against what should be in it.
func held(t *testing.T, d *deque.Deque, want []deque.Cell) {
	t.Helper()
	first, last, sum := deque.Cell{}, deque.Cell{}, int64(0)
	if len(want) > 0 {
		first, last = want[0], want[len(want)-1]
	}
	for _, c := range want {
		sum += int64(c.N)
	}
	if got := d.All(); !slices.Equal(got, want) {
		t.Fatalf("P15.1: All: %v, not %v", got, want)
	}
	if c, ok := d.First(); c != first || ok != (len(want) > 0) {
		t.Fatalf("P15.1: First: %v %v of %v", c, ok, want)
	}
	if c, ok := d.Last(); c != last || ok != (len(want) > 0) {
		t.Fatalf("P15.1: Last: %v %v of %v", c, ok, want)
	}
	if d.Len() != len(want) || d.Sum() != sum {
		t.Fatalf("P15.1: Len %d, Sum %d of %v", d.Len(), d.Sum(), want)
	}
}

func TestPush(t *testing.T) {
	var d deque.Deque
	held(t, &d, nil)
	for _, at := range []int64{least, -3, 5, 5, 7, most, most} {
		if !d.Push(at) {
			t.Errorf("P15.1: Push(%d)", at)
		}
	}
	for _, at := range []int64{most - 1, 5, 0, least} {
		if d.Push(at) {
			t.Errorf("P15.1: Push(%d) behind the greatest", at)
		}
	}
	held(t, &d, []deque.Cell{{least, 1}, {-3, 1}, {5, 2}, {7, 1}, {most, 2}})
}

func TestPushOften(t *testing.T) {
	var d deque.Deque
	for range api.MaxTimes + 3 {
		if !d.Push(4) {
			t.Fatal("P15.1: Push of the last one's time")
		}
	}
	held(t, &d, []deque.Cell{{4, api.MaxTimes}})
	d.Push(5)
	held(t, &d, []deque.Cell{{4, api.MaxTimes}, {5, 1}})
	if d.Prune(5) != 1 {
		t.Error("P15.1: Prune of one time that counts often")
	}
	held(t, &d, []deque.Cell{{5, 1}})
}

func TestPrune(t *testing.T) {
	var d deque.Deque
	for _, at := range []int64{1, 3, 3, 5, 8} {
		d.Push(at)
	}
	for _, c := range []struct {
		from int64
		n    int
		left []deque.Cell
	}{
		{least, 0, []deque.Cell{{1, 1}, {3, 2}, {5, 1}, {8, 1}}},
		{1, 0, []deque.Cell{{1, 1}, {3, 2}, {5, 1}, {8, 1}}},
		{4, 2, []deque.Cell{{5, 1}, {8, 1}}},
		{4, 0, []deque.Cell{{5, 1}, {8, 1}}},
		{most, 2, nil},
		{most, 0, nil},
	} {
		if n := d.Prune(c.from); n != c.n {
			t.Errorf("P15.1: Prune(%d): %d, not %d", c.from, n, c.n)
		}
		held(t, &d, c.left)
	}
	if !d.Push(2) {
		t.Error("P15.1: Push where none is left")
	}
	held(t, &d, []deque.Cell{{2, 1}})
}

func TestClearAndClone(t *testing.T) {
	var d deque.Deque
	d.Push(1)
	d.Push(2)
	d.Push(3)
	d.Prune(2)
	c := d.Clone()
	held(t, c, []deque.Cell{{2, 1}, {3, 1}})
	c.Push(3)
	c.Push(9)
	held(t, &d, []deque.Cell{{2, 1}, {3, 1}})
	d.Push(4)
	d.Prune(4)
	held(t, c, []deque.Cell{{2, 1}, {3, 2}, {9, 1}})
	c.Clear()
	held(t, c, nil)
	held(t, &d, []deque.Cell{{4, 1}})
	if !c.Push(0) {
		t.Error("P15.1: Push behind Clear")
	}
	held(t, new(deque.Deque).Clone(), nil)
}

// TestAllApart: what All tells is new memory.
func TestAllApart(t *testing.T) {
	var d deque.Deque
	d.Push(1)
	d.Push(2)
	l := d.All()
	l[0].At = 9
	l = append(l[:1], deque.Cell{At: 7})
	held(t, &d, []deque.Cell{{1, 1}, {2, 1}})
	d.Push(3)
	if l[1].At != 7 {
		t.Error("P2: All shares memory")
	}
}

func TestNil(t *testing.T) {
	var d *deque.Deque
	d.Clear()
	if d.Push(1) || d.Prune(9) != 0 || d.Clone() != nil {
		t.Error("P15.1: of nil")
	}
	held(t, d, nil)
}

// TestAgainstList holds a deque against a plain list, with pushes and prunes by chance.
func TestAgainstList(t *testing.T) {
	r := rand.New(rand.NewSource(2))
	var d deque.Deque
	var l []deque.Cell
	for range 20000 {
		at := int64(r.Intn(50))
		if len(l) > 0 {
			at = l[len(l)-1].At + int64(r.Intn(6)) - 1
		}
		if r.Intn(3) > 0 {
			is := len(l) == 0 || at >= l[len(l)-1].At
			if d.Push(at) != is {
				t.Fatalf("P15.1: Push(%d) on %v", at, l)
			}
			if is && len(l) > 0 && l[len(l)-1].At == at {
				l[len(l)-1].N++
			} else if is {
				l = append(l, deque.Cell{At: at, N: 1})
			}
		} else {
			from, n := at-int64(r.Intn(60)), 0
			for n < len(l) && l[n].At < from {
				n++
			}
			l = l[n:]
			if got := d.Prune(from); got != n {
				t.Fatalf("P15.1: Prune(%d): %d, not %d", from, got, n)
			}
		}
		held(t, &d, l)
	}
}
