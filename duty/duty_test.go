package duty_test

import (
	"math/rand"
	"slices"
	"testing"

	"beadle/duty"
)

const most = 1<<63 - 1

func TestDue(t *testing.T) {
	for _, c := range []struct {
		at, within, want int64
		ok               bool
	}{
		{1, 2, 3, true}, {0, 0, 0, true}, {most, 0, most, true}, {0, most, most, true}, {most - 1, 1, most, true},
		{most, 1, 0, false}, {most, most, 0, false}, {-1, 2, 0, false}, {2, -1, 0, false}, {-1, -1, 0, false}, {-1 << 63, most, 0, false},
	} {
		if got, ok := duty.Due(c.at, c.within); got != c.want || ok != c.ok {
			t.Errorf("P21.1: Due(%d, %d): %d %v", c.at, c.within, got, ok)
		}
	}
}

// three is a table with three pending ones.
func three() *duty.Table {
	var t duty.Table
	t.Add(duty.Instance{Id: 1, Place: 0, Act: "pay", Due: 5, Keep: true})
	t.Add(duty.Instance{Id: 2, Place: 3, Act: "pay", Due: 7, State: 4})
	t.Add(duty.Instance{Id: 1, Place: 1, Act: "log", Due: 6})
	return &t
}

// states are the states of all, in order.
func states(t *duty.Table) []int {
	var l []int
	for _, x := range t.All() {
		l = append(l, x.State)
	}
	return l
}

func TestAdd(t *testing.T) {
	var x duty.Table
	for i := range 5 {
		if got := x.Add(duty.Instance{Id: 9, State: i}); got != i {
			t.Errorf("P21.1: Add: place %d, not %d", got, i)
		}
	}
	want := []duty.Instance{{1, 0, "pay", 5, true, 1}, {2, 3, "pay", 7, false, 1}, {1, 1, "log", 6, false, 1}}
	if got := three().All(); !slices.Equal(got, want) {
		t.Errorf("P21.1: All: %v", got)
	}
	if len(new(duty.Table).All()) != 0 || new(duty.Table).Pending(0) != 0 {
		t.Error("P21.1: the zero table")
	}
}

func TestFulfil(t *testing.T) {
	for _, c := range []struct {
		id   int
		act  string
		at   int64
		n    int
		want []int
	}{
		{1, "pay", 5, 1, []int{2, 1, 1}},
		{1, "pay", 6, 0, []int{1, 1, 1}},
		{1, "log", 6, 1, []int{1, 1, 2}},
		{2, "pay", 0, 1, []int{1, 2, 1}},
		{3, "pay", 0, 0, []int{1, 1, 1}},
		{1, "", 0, 0, []int{1, 1, 1}},
	} {
		x := three()
		if got := x.Fulfil(c.id, c.act, c.at); got != c.n || !slices.Equal(states(x), c.want) {
			t.Errorf("P21.1: Fulfil(%d, %s, %d): %d %v", c.id, c.act, c.at, got, states(x))
		}
		if got := x.Fulfil(c.id, c.act, c.at); got != 0 || !slices.Equal(states(x), c.want) {
			t.Errorf("P21.2: Fulfil(%d, %s, %d) again: %d %v", c.id, c.act, c.at, got, states(x))
		}
	}
}

func TestExpire(t *testing.T) {
	x := three()
	if got := x.Expire(5); len(got) != 0 || !slices.Equal(states(x), []int{1, 1, 1}) {
		t.Errorf("P21.1: Expire(5): %v", got)
	}
	if got := x.Expire(7); !slices.Equal(got, []duty.Instance{{1, 0, "pay", 5, true, 3}, {1, 1, "log", 6, false, 3}}) || !slices.Equal(states(x), []int{3, 1, 3}) {
		t.Errorf("P21.1: Expire(7): %v %v", got, states(x))
	}
	got := x.Expire(most)
	if len(got) != 1 || got[0].Id != 2 || len(x.Expire(most)) != 0 {
		t.Errorf("P21.2: Expire: %v", got)
	}
	got[0].Id = 9
	if x.All()[1].Id != 2 {
		t.Error("P2: Expire shares memory")
	}
}

func TestVoidAndPending(t *testing.T) {
	x := three()
	if x.Pending(1) != 2 || x.Pending(2) != 1 || x.Pending(3) != 0 {
		t.Error("P21.1: Pending")
	}
	x.Fulfil(1, "log", 0)
	if x.Pending(1) != 1 || x.Void(1) != 1 || x.Pending(1) != 0 || x.Void(1) != 0 || !slices.Equal(states(x), []int{4, 1, 2}) {
		t.Errorf("P21.1: Void: %v", states(x))
	}
	if x.Fulfil(1, "pay", 0) != 0 || len(x.Expire(6)) != 0 || !slices.Equal(states(x), []int{4, 1, 2}) {
		t.Errorf("P21.2: %v", states(x))
	}
}

func TestApart(t *testing.T) {
	x := three()
	l := x.All()
	clear(l)
	c := x.Clone()
	c.Void(1)
	c.Add(duty.Instance{Id: 7})
	if !slices.Equal(states(x), []int{1, 1, 1}) || x.Pending(1) != 2 || x.All()[0].Act != "pay" {
		t.Error("P2: All or Clone share memory")
	}
	x.Add(duty.Instance{Id: 8})
	if c.All()[3].Id != 7 || !slices.Equal(states(c), []int{4, 1, 4, 1}) || c.Pending(7) != 1 {
		t.Errorf("P21.1: Clone: %v", c.All())
	}
}

func TestNil(t *testing.T) {
	var x *duty.Table
	if x.Add(duty.Instance{}) != -1 || x.Fulfil(0, "", 0) != 0 || x.Expire(9) != nil || x.Void(0) != 0 || x.All() != nil || x.Pending(0) != 0 || x.Clone() != nil {
		t.Error("P21.1: of nil")
	}
}

// TestAgainstList holds a table against a plain list, with calls by chance.
func TestAgainstList(t *testing.T) {
	r := rand.New(rand.NewSource(7))
	var x duty.Table
	var l []duty.Instance
	turn := func(state int, fits func(duty.Instance) bool) (turned []duty.Instance) {
		for i := range l {
			if l[i].State == 1 && fits(l[i]) {
				l[i].State = state
				turned = append(turned, l[i])
			}
		}
		return turned
	}
	for at := range int64(2000) {
		id, act := r.Intn(4), []string{"a", "b"}[r.Intn(2)]
		switch r.Intn(6) {
		case 0:
			want := turn(2, func(i duty.Instance) bool { return i.Id == id && i.Act == act && i.Due >= at })
			if got := x.Fulfil(id, act, at); got != len(want) {
				t.Fatalf("P21.1: Fulfil: %d, not %d", got, len(want))
			}
		case 1:
			want := turn(3, func(i duty.Instance) bool { return i.Due < at })
			if got := x.Expire(at); !slices.Equal(got, want) {
				t.Fatalf("P21.1: Expire: %v, not %v", got, want)
			}
		case 2:
			if r.Intn(8) == 0 {
				want := turn(4, func(i duty.Instance) bool { return i.Id == id })
				if got := x.Void(id); got != len(want) {
					t.Fatalf("P21.1: Void: %d, not %d", got, len(want))
				}
			}
		default:
			n := duty.Instance{Id: id, Act: act, Due: at + int64(r.Intn(30)), State: 1}
			l = append(l, n)
			x.Add(n)
		}
		if !slices.Equal(x.All(), l) {
			t.Fatal("P21.1: All")
		}
	}
}
