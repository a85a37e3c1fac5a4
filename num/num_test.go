package num_test

import (
	"math/big"
	"strconv"
	"strings"
	"sync"
	"testing"

	"beadle/num"
)

const (
	most  = 1<<63 - 1
	least = -1 << 63
)

// pair is two numbers, what a call is to tell of them, and whether it is to tell it.
type pair struct {
	a, b, want int64
	ok         bool
}

// heldPairs holds a call of two numbers against what is wanted.
func heldPairs(t *testing.T, name string, call func(int64, int64) (int64, bool), l []pair) {
	t.Helper()
	for _, p := range l {
		if n, ok := call(p.a, p.b); n != p.want || ok != p.ok {
			t.Errorf("P1.1: %s(%d, %d): %d %v, not %d %v", name, p.a, p.b, n, ok, p.want, p.ok)
		}
	}
}

func TestAdd(t *testing.T) {
	heldPairs(t, "Add", num.Add, []pair{
		{2, 3, 5, true},
		{2, -3, -1, true},
		{-2, -3, -5, true},
		{0, 0, 0, true},
		{most, 0, most, true},
		{0, least, least, true},
		{most - 1, 1, most, true},
		{least + 1, -1, least, true},
		{most, least, -1, true},
		{least, most, -1, true},
		{most, 1, 0, false},
		{1, most, 0, false},
		{least, -1, 0, false},
		{-1, least, 0, false},
		{most, most, 0, false},
		{least, least, 0, false},
	})
}

func TestSub(t *testing.T) {
	heldPairs(t, "Sub", num.Sub, []pair{
		{2, 3, -1, true},
		{2, -3, 5, true},
		{-2, 3, -5, true},
		{0, 0, 0, true},
		{most, 0, most, true},
		{least, 0, least, true},
		{0, most, -most, true},
		{-1, least, most, true},
		{-1, most, least, true},
		{most - 1, -1, most, true},
		{least + 1, 1, least, true},
		{most, most, 0, true},
		{least, least, 0, true},
		{most, -1, 0, false},
		{least, 1, 0, false},
		{0, least, 0, false},
		{-2, most, 0, false},
		{most, least, 0, false},
		{least, most, 0, false},
	})
}

func TestMul(t *testing.T) {
	heldPairs(t, "Mul", num.Mul, []pair{
		{2, 3, 6, true},
		{2, -3, -6, true},
		{-2, -3, 6, true},
		{0, 0, 0, true},
		{0, least, 0, true},
		{least, 0, 0, true},
		{1, least, least, true},
		{least, 1, least, true},
		{most, 1, most, true},
		{most, -1, -most, true},
		{-1, most, -most, true},
		{-1 << 62, 2, least, true},
		{2, -1 << 62, least, true},
		{1 << 31, -1 << 32, least, true},
		{most / 7, 7, most, true},
		{-1, least, 0, false},
		{least, -1, 0, false},
		{1 << 62, 2, 0, false},
		{1 << 32, 1 << 31, 0, false},
		{-1 << 32, -1 << 31, 0, false},
		{1 << 32, 1 << 32, 0, false},
		{most, 2, 0, false},
		{least, 2, 0, false},
		{most, most, 0, false},
		{least, least, 0, false},
		{least, most, 0, false},
	})
}

func TestNeg(t *testing.T) {
	for _, p := range []pair{
		{a: 0, want: 0, ok: true},
		{a: 5, want: -5, ok: true},
		{a: -5, want: 5, ok: true},
		{a: most, want: -most, ok: true},
		{a: least + 1, want: most, ok: true},
		{a: least, want: 0, ok: false},
	} {
		if n, ok := num.Neg(p.a); n != p.want || ok != p.ok {
			t.Errorf("P1.1: Neg(%d): %d %v, not %d %v", p.a, n, ok, p.want, p.ok)
		}
	}
}

// edges are numbers about 0, about the powers of 2 and of 10, and about the ends.
func edges() []int64 {
	l := []int64{}
	for k := range 64 {
		for d := range int64(5) {
			l = append(l, int64(1)<<k+d-2, -(int64(1)<<k)+d-2)
		}
	}
	ten := int64(1)
	for range 18 {
		ten *= 10
		l = append(l, ten-1, ten, ten+1, -ten-1, -ten, -ten+1)
	}
	return append(l, most/3, most/3+1, least/3, least/3-1, 3037000499, 3037000500, -3037000499, -3037000500)
}

// told is what a call is to tell of an exact one.
func told(n *big.Int) (int64, bool) {
	if !n.IsInt64() {
		return 0, false
	}
	return n.Int64(), true
}

func TestExact(t *testing.T) {
	l := edges()
	for _, a := range l {
		x := big.NewInt(a)
		want, is := told(new(big.Int).Neg(x))
		if n, ok := num.Neg(a); n != want || ok != is {
			t.Errorf("P1.1: Neg(%d): %d %v, not %d %v", a, n, ok, want, is)
		}
		for _, b := range l {
			y := big.NewInt(b)
			sum, sumIs := told(new(big.Int).Add(x, y))
			rest, restIs := told(new(big.Int).Sub(x, y))
			product, productIs := told(new(big.Int).Mul(x, y))
			heldPairs(t, "Add", num.Add, []pair{{a, b, sum, sumIs}})
			heldPairs(t, "Sub", num.Sub, []pair{{a, b, rest, restIs}})
			heldPairs(t, "Mul", num.Mul, []pair{{a, b, product, productIs}})
		}
	}
}

func TestDecimal(t *testing.T) {
	for n, want := range map[int64]string{
		0:     "0",
		7:     "7",
		-7:    "-7",
		10:    "10",
		-100:  "-100",
		9999:  "9999",
		most:  "9223372036854775807",
		least: "-9223372036854775808",
	} {
		if s := num.Decimal(n); s != want {
			t.Errorf("P1.1: Decimal(%d): %q", n, s)
		}
	}
	for _, n := range edges() {
		if s := num.Decimal(n); s != strconv.FormatInt(n, 10) {
			t.Errorf("P1.1: Decimal(%d): %q", n, s)
		}
	}
}

func TestParse(t *testing.T) {
	for s, want := range map[string]int64{
		"0":                   0,
		"1":                   1,
		"9":                   9,
		"10":                  10,
		"305":                 305,
		"1000000000000000000": 1000000000000000000,
		"9223372036854775800": most - 7,
		"9223372036854775806": most - 1,
		"9223372036854775807": most,
	} {
		if n, ok := num.Parse(s); !ok || n != want {
			t.Errorf("P1.1: Parse(%q): %d %v", s, n, ok)
		}
	}
}

func TestParseNone(t *testing.T) {
	for _, s := range []string{
		"", "-", "+", "-0", "-1", "+0", "+1", "--1", "-9223372036854775808",
		"00", "01", "007", "0000000000000000000", "00000000000000000000", "09223372036854775807",
		" 1", "1 ", "1\n", "\t1", "1 2", "1,000", "1_000", "1.0", "1.", ".1", "1e3", "0x10", "0b1", "0o7",
		"1a", "a1", "a", "1\x00", "\x001", "\xff", "1/", "1:", "/", ":",
		"\u0661", "1\u0662", "\uff11",
		"9223372036854775808", "9223372036854775810", "9223372036854775817", "9999999999999999999",
		"10000000000000000000", "18446744073709551615", "18446744073709551616", "18446744073709551617",
		strings.Repeat("9", 40), "1" + strings.Repeat("0", 1<<20), strings.Repeat("0", 1<<20),
	} {
		if n, ok := num.Parse(s); ok || n != 0 {
			t.Errorf("P1.1: Parse(%.50q): %d %v", s, n, ok)
		}
	}
}

// TestParseOctets puts each octet at each place of a number.
func TestParseOctets(t *testing.T) {
	for c := range 256 {
		for at := range 3 {
			b := []byte("123")
			b[at] = byte(c)
			s := string(b)
			want, err := strconv.ParseUint(s, 10, 63)
			is := err == nil && s[0] != '0'
			if !is {
				want = 0
			}
			if n, ok := num.Parse(s); n != int64(want) || ok != is {
				t.Errorf("P1.1: Parse(%q): %d %v, not %d %v", s, n, ok, want, is)
			}
		}
	}
}

func TestThereAndBack(t *testing.T) {
	for _, n := range edges() {
		want, is := n, n >= 0
		if !is {
			want = 0
		}
		if got, ok := num.Parse(num.Decimal(n)); got != want || ok != is {
			t.Errorf("P1.1: Parse(Decimal(%d)): %d %v", n, got, ok)
		}
	}
}

// TestAlike asks from many goroutines at once, each from another number on: what is told hangs on the arguments alone.
func TestAlike(t *testing.T) {
	l := edges()
	var all sync.WaitGroup
	for k := range 8 {
		all.Go(func() {
			for i := range l {
				n := l[(i*7+k*31)%len(l)]
				if s := num.Decimal(n); s != strconv.FormatInt(n, 10) {
					t.Errorf("P3: Decimal(%d): %q", n, s)
				}
				if got, ok := num.Sub(n, n); got != 0 || !ok {
					t.Errorf("P3: Sub(%d, %d): %d %v", n, n, got, ok)
				}
			}
		})
	}
	all.Wait()
}
