package window_test

import (
	"math/rand"
	"testing"

	"beadle/window"
)

const most = 1<<63 - 1

// moment is a time as it counts, and what was true.
type moment struct {
	at   int64
	f, g bool
}

// ago tells whether a time is as long ago as a span asks.
func ago(lo, hi, was, now int64) bool {
	return now-was >= lo && (hi == -1 || now-was <= hi)
}

// once looks at all moments.
func once(lo, hi int64, l []moment) bool {
	now := l[len(l)-1].at
	for _, m := range l {
		if m.f && ago(lo, hi, m.at, now) {
			return true
		}
	}
	return false
}

// since looks at all moments.
func since(lo, hi int64, l []moment) bool {
	now := l[len(l)-1].at
	for i, m := range l {
		behind := true
		for _, k := range l[i+1:] {
			behind = behind && k.f
		}
		if m.g && behind && ago(lo, hi, m.at, now) {
			return true
		}
	}
	return false
}

// cells tells how many times are to be remembered of those that count.
func cells(hi int64, times []int64, now int64) int {
	seen := map[int64]int{}
	for _, at := range times {
		if hi == -1 {
			return 1
		}
		if now-at <= hi {
			seen[at] = 1
		}
	}
	return len(seen)
}

func TestExample(t *testing.T) {
	w := window.NewOnce(0, 5)
	if !w.Step(0, true) || !w.Step(5, false) || w.Step(6, false) {
		t.Error("P16.1: once[0,5]")
	}
	if w.Cells() != 0 {
		t.Errorf("P16.1: Cells: %d", w.Cells())
	}
}

// TestAgainstAll holds windows against what all moments tell.
func TestAgainstAll(t *testing.T) {
	r := rand.New(rand.NewSource(3))
	for range 1500 {
		lo := int64(r.Intn(6))
		hi := lo + int64(r.Intn(8))
		if r.Intn(4) == 0 {
			hi = -1
		}
		o, s := window.NewOnce(lo, hi), window.NewSince(lo, hi)
		var l []moment
		for range r.Intn(40) {
			at, last := int64(r.Intn(4)-1), int64(0)
			if len(l) > 0 {
				last = l[len(l)-1].at
				at += last
			}
			m := moment{max(at, last), r.Intn(3) > 0, r.Intn(3) == 0}
			l = append(l, m)
			if got, want := o.Step(at, m.f), once(lo, hi, l); got != want {
				t.Fatalf("P16.1: once[%d,%d] of %v: %v", lo, hi, l, got)
			}
			if got, want := s.Step(at, m.f, m.g), since(lo, hi, l); got != want {
				t.Fatalf("P16.1: since[%d,%d] of %v: %v", lo, hi, l, got)
			}
			var onces, sinces []int64
			for i, k := range l {
				if k.f {
					onces = append(onces, k.at)
				}
				if i > 0 && !k.f {
					sinces = nil
				}
				if k.g {
					sinces = append(sinces, k.at)
				}
			}
			if got, want := o.Cells(), cells(hi, onces, m.at); got != want {
				t.Fatalf("P16.1: Cells of once[%d,%d] of %v: %d, not %d", lo, hi, l, got, want)
			}
			if got, want := s.Cells(), cells(hi, sinces, m.at); got != want {
				t.Fatalf("P16.1: Cells of since[%d,%d] of %v: %d, not %d", lo, hi, l, got, want)
			}
			if r.Intn(10) == 0 { // a clone goes on alike, and apart
				was, wasToo := o, s
				o, s = o.Clone(), s.Clone()
				was.Step(at+9, true)
				wasToo.Step(at+9, false, true)
			}
		}
	}
}

// TestSpans: what may not be is taken as the nearest.
func TestSpans(t *testing.T) {
	for _, c := range []struct{ lo, hi, asLo, asHi int64 }{
		{-1, 5, 0, 5}, {-1 << 63, -1, 0, -1}, {5, 4, 5, 5}, {5, -2, 5, 5}, {-3, -2, 0, 0}, {3, -1 << 63, 3, 3}, {2, -1, 2, -1},
	} {
		a, b := window.NewOnce(c.lo, c.hi), window.NewOnce(c.asLo, c.asHi)
		x, y := window.NewSince(c.lo, c.hi), window.NewSince(c.asLo, c.asHi)
		for at := range int64(20) {
			f := at < 3 || at == 9
			if a.Step(at, f) != b.Step(at, f) || a.Cells() != b.Cells() || x.Step(at, true, f) != y.Step(at, true, f) || x.Cells() != y.Cells() {
				t.Errorf("P16.1: a span of %d, %d at %d", c.lo, c.hi, at)
			}
		}
	}
}

// TestTimes: a time that falls, or is below 0, counts as the last one, or 0.
func TestTimes(t *testing.T) {
	w := window.NewOnce(0, 2)
	if !w.Step(-5, true) || !w.Step(2, false) || !w.Step(0, false) || w.Step(3, false) {
		t.Error("P16.1: times below 0, and that fall")
	}
	if !w.Step(-1<<63, true) || !w.Step(5, false) || w.Step(6, false) {
		t.Error("P16.1: a time that falls counts as the last one")
	}
	g := window.NewOnce(most, most)
	if g.Step(0, true) || g.Step(most-1, false) || !g.Step(most, true) || g.Cells() != 2 {
		t.Error("P16.1: the greatest times")
	}
	s := window.NewSince(0, most)
	if !s.Step(0, false, true) || !s.Step(most, true, false) {
		t.Error("P16.1: the greatest times of since")
	}
}

// TestOneTime: many moments at one time are one time.
func TestOneTime(t *testing.T) {
	w := window.NewOnce(0, 9)
	for range 100000 {
		w.Step(4, true)
	}
	if w.Cells() != 1 {
		t.Errorf("P16.1: Cells: %d", w.Cells())
	}
	e := window.NewOnce(3, -1)
	for at := range int64(50) {
		if e.Step(at, true) != (at >= 3) || e.Cells() != 1 {
			t.Error("P16.1: without an end the first one alone is remembered")
		}
	}
}

func TestNobodyMade(t *testing.T) {
	for _, w := range []*window.Once{nil, {}} {
		if w.Step(1, true) || w.Cells() != 0 || w.Clone() != nil {
			t.Error("P16.1: of a Once that nobody made")
		}
	}
	for _, w := range []*window.Since{nil, {}} {
		if w.Step(1, true, true) || w.Cells() != 0 || w.Clone() != nil {
			t.Error("P16.1: of a Since that nobody made")
		}
	}
}

// TestClone: clones go apart.
func TestClone(t *testing.T) {
	w := window.NewOnce(0, 9)
	w.Step(1, true)
	c := w.Clone()
	c.Step(2, true)
	if w.Cells() != 1 || c.Cells() != 2 || !w.Step(10, false) || w.Step(11, false) || !c.Step(11, false) {
		t.Error("P16.1: Clone of a Once")
	}
	s := window.NewSince(0, 9)
	s.Step(1, true, true)
	d := s.Clone()
	d.Step(1, false, false)
	if s.Cells() != 1 || d.Cells() != 0 || !s.Step(10, true, false) || d.Step(10, true, false) {
		t.Error("P16.1: Clone of a Since")
	}
}
