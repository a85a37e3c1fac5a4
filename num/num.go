// Package num is layer 1: numbers that may be too great (doc/01-num.md).
package num

const (
	most  = 1<<63 - 1
	least = -1 << 63
)

// Add tells a + b; false, if that is no int64.
func Add(a int64, b int64) (int64, bool) {
	if b > 0 && a > most-b || b < 0 && a < least-b {
		return 0, false
	}
	return a + b, true
}

// Sub tells a - b; false, if that is no int64.
func Sub(a int64, b int64) (int64, bool) {
	if b > 0 && a < least+b || b < 0 && a > most+b {
		return 0, false
	}
	return a - b, true
}

// Mul tells a times b; false, if that is no int64.
func Mul(a int64, b int64) (int64, bool) {
	if b == 0 {
		return 0, true
	}
	if b == -1 {
		// The least divided by -1 wraps round to itself, so that the division below would not find it out.
		return Neg(a)
	}
	p := a * b
	if p/b != a {
		return 0, false
	}
	return p, true
}

// Neg tells -a; false, if that is no int64.
func Neg(a int64) (int64, bool) {
	return Sub(0, a)
}

// Decimal tells n in decimals, with - ahead, if it is below 0.
func Decimal(n int64) string {
	// The least has no int64 of its size, but a uint64.
	size := uint64(n)
	sign := ""
	if n < 0 {
		size = -size
		sign = "-"
	}
	digits := make([]byte, count(size))
	for i := range len(digits) {
		digits[len(digits)-1-i] = '0' + byte(size%10)
		size /= 10
	}
	return sign + string(digits)
}

// count tells how many digits n has; 0 has one.
func count(n uint64) int {
	k := 1
	for n >= 10 {
		n /= 10
		k++
	}
	return k
}

// Parse tells the number whose decimals s is, as Decimal writes one that is not below 0; false, if there is none.
func Parse(s string) (int64, bool) {
	if s == "" || s[0] == '0' && len(s) > 1 {
		return 0, false
	}
	n, ok := int64(0), true
	for i := range len(s) {
		if s[i] < '0' || s[i] > '9' {
			return 0, false
		}
		if n, ok = shift(n, s[i]); !ok {
			return 0, false
		}
	}
	return n, true
}

// shift puts a digit behind those of n.
func shift(n int64, digit byte) (int64, bool) {
	tens, ok := Mul(n, 10)
	if !ok {
		return 0, false
	}
	return Add(tens, int64(digit-'0'))
}
