package quota_test

import (
	"math/big"
	"math/rand"
	"testing"

	"beadle/quota"
)

const most = 1<<63 - 1

func TestExample(t *testing.T) {
	b := quota.New(10, 1)
	if b.At(0) != 10 || !b.Take(0, 10) || b.At(0) != 0 || b.At(3) != 3 || b.At(10) != 10 || b.At(11) != 10 {
		t.Error("P34.1: of 10, 1")
	}
	if b.Take(3, 4) || b.At(0) != 3 || !b.Take(3, 3) || b.Take(3, 1) || !b.Take(3, 0) || b.Take(3, -1) {
		t.Error("P34.1: Take")
	}
}

// TestNear: what may not be is taken as the nearest.
func TestNear(t *testing.T) {
	for _, c := range []struct{ size, rate, wantSize, wantRate int64 }{
		{-1, -1, 0, 0}, {-1 << 63, 5, 0, 5}, {1 << 31, 1 << 31, 1 << 31, 1 << 31}, {1<<31 + 1, 1<<31 + 1, 1 << 31, 1 << 31}, {most, most, 1 << 31, 1 << 31}, {5, -1 << 63, 5, 0},
	} {
		b := quota.New(c.size, c.rate)
		if b.At(0) != c.wantSize || !b.Take(0, c.wantSize) || b.At(1) != min(c.wantSize, c.wantRate) {
			t.Errorf("P34.1: New(%d, %d)", c.size, c.rate)
		}
	}
}

func TestTimes(t *testing.T) {
	b := quota.New(10, 1)
	b.Take(-5, 10)
	if b.At(-9) != 0 || b.At(2) != 2 {
		t.Error("P34.1: times below 0 count as 0")
	}
	b.Take(5, 5)
	if b.At(3) != 0 || b.At(6) != 1 {
		t.Error("P34.1: times that fall count as the last one")
	}
	// At and Wait do not move the time, Take does, even if it takes nothing.
	b.At(9)
	b.Wait(9, 1)
	if b.At(6) != 1 {
		t.Error("P34.1: At moved the time")
	}
	b.Take(7, 99)
	if b.At(6) != 2 {
		t.Error("P34.1: Take of too much did not move the time")
	}
	b.Take(8, -1)
	if b.At(6) != 3 {
		t.Error("P34.1: Take of less than nothing did not move the time")
	}
	g := quota.New(1<<31, 1<<31)
	if !g.Take(0, 1<<31) || g.At(most) != 1<<31 || !g.Take(most, 1<<31) || g.At(most) != 0 || g.At(-1<<63) != 0 {
		t.Error("P34.1: the greatest times")
	}
	z := quota.New(1<<31, 0)
	if !z.Take(0, 1<<31-1) || z.At(most) != 1 || z.Take(most, 2) {
		t.Error("P34.1: without a rate")
	}
}

func TestWait(t *testing.T) {
	b := quota.New(10, 3)
	b.Take(5, 10)
	for _, c := range []struct {
		at, n, want int64
		ok          bool
	}{
		{5, 0, 0, true}, {5, 1, 1, true}, {5, 3, 1, true}, {5, 4, 2, true}, {5, 10, 4, true}, {5, 11, 0, false}, {5, -1, 0, false}, {5, -1 << 63, 0, false}, {5, most, 0, false},
		{0, 10, 4, true}, {6, 3, 0, true}, {6, 4, 1, true}, {7, 10, 2, true}, {8, 10, 1, true}, {9, 10, 0, true}, {most, 10, 0, true},
	} {
		if got, ok := b.Wait(c.at, c.n); got != c.want || ok != c.ok {
			t.Errorf("P34.1: Wait(%d, %d): %d %v, not %d %v", c.at, c.n, got, ok, c.want, c.ok)
		}
	}
	z := quota.New(10, 0)
	z.Take(0, 4)
	for n, want := range map[int64]bool{0: true, 6: true, 7: false, 10: false, 11: false} {
		if got, ok := z.Wait(3, n); got != 0 || ok != want {
			t.Errorf("P34.1: Wait(%d) without a rate: %d %v", n, got, ok)
		}
	}
}

// TestByChance holds a bucket against exact numbers.
func TestByChance(t *testing.T) {
	r := rand.New(rand.NewSource(16))
	for range 500 {
		size, rate := int64(r.Intn(50)), int64(r.Intn(5))
		if r.Intn(3) == 0 {
			size, rate = 1<<31-int64(r.Intn(3)), 1<<31-int64(r.Intn(3))
		}
		b := quota.New(size, rate)
		have, last := big.NewInt(size), int64(0)
		there := func(at int64) int64 {
			more := new(big.Int).Mul(big.NewInt(rate), new(big.Int).Sub(big.NewInt(max(at, last)), big.NewInt(last)))
			more.Add(more, have)
			if more.Cmp(big.NewInt(size)) > 0 {
				return size
			}
			return more.Int64()
		}
		for range 30 {
			at := last + int64(r.Intn(6)) - 1
			if r.Intn(30) == 0 {
				at = most - int64(r.Intn(9))
			}
			if got := b.At(at); got != there(at) {
				t.Fatalf("P34.1: At(%d): %d, not %d", at, got, there(at))
			}
			n := int64(r.Intn(20)) - 1
			if size > 100 {
				n = r.Int63n(1 << 31)
			}
			if wait, ok := b.Wait(at, n); ok {
				from := max(at, last)
				if wait <= most-from && there(from+wait) < n || wait > 0 && there(from+wait-1) >= n {
					t.Fatalf("P34.1: Wait(%d, %d): %d", at, n, wait)
				}
			} else if n >= 0 && n <= size && (rate > 0 || there(at) >= n) {
				t.Fatalf("P34.1: Wait(%d, %d): never", at, n)
			}
			is := there(at)
			if got := b.Take(at, n); got != (n >= 0 && n <= is) {
				t.Fatalf("P34.2: Take(%d, %d) of %d: %v", at, n, is, got)
			} else if got {
				is -= n
			}
			have, last = big.NewInt(is), max(at, last)
			if r.Intn(5) == 0 {
				c := b.Clone()
				b.Take(last+9, 1)
				b = c
			}
		}
	}
}

func TestNobodyMade(t *testing.T) {
	for _, b := range []*quota.Bucket{nil, {}} {
		n, ok := b.Wait(0, 0)
		if b.At(5) != 0 || b.Take(0, 0) || n != 0 || ok || b.Clone() != nil {
			t.Error("P34.1: of one that nobody made")
		}
	}
	if b := quota.New(0, 0); !b.Take(0, 0) || b.Take(0, 1) {
		t.Error("P34.1: of nothing")
	}
}
