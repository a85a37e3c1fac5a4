package octet_test

import (
	"bytes"
	"encoding/hex"
	"strings"
	"testing"

	"beadle/api"
	"beadle/octet"
	"beadle/value"
)

const (
	most  = 1<<63 - 1
	least = -1 << 63
)

// done are the octets of what was put, hexadecimal.
func done(t *testing.T, put func(*octet.Out)) string {
	t.Helper()
	var w octet.Out
	put(&w)
	b, err := w.Done()
	if err != api.OK {
		t.Errorf("P4.1: error %d", err)
	}
	return hex.EncodeToString(b)
}

func TestPut(t *testing.T) {
	for _, c := range []struct {
		want string
		put  func(*octet.Out)
	}{
		{"", func(w *octet.Out) {}},
		{"00", func(w *octet.Out) { w.Byte(0) }},
		{"ff", func(w *octet.Out) { w.Byte(255) }},
		{"ffffffffffffffff", func(w *octet.Out) { w.Int(-1) }},
		{"0102030405060708", func(w *octet.Out) { w.Int(0x0102030405060708) }},
		{"8000000000000000", func(w *octet.Out) { w.Int(least) }},
		{"7fffffffffffffff", func(w *octet.Out) { w.Int(most) }},
		{"00", func(w *octet.Out) { w.Text("") }},
		{"03610062", func(w *octet.Out) { w.Text("a\x00b") }},
		{"01fffffffffffffffe", func(w *octet.Out) { w.Value(value.Int(-2)) }},
		{"0200", func(w *octet.Out) { w.Value(value.Bool(false)) }},
		{"0201", func(w *octet.Out) { w.Value(value.Bool(true)) }},
		{"03026162", func(w *octet.Out) { w.Value(value.Text("ab")) }},
		{"0400", func(w *octet.Out) { w.Value(value.Set()) }},
		{"04020161026262", func(w *octet.Out) { w.Value(value.Set("bb", "a")) }},
		{"05016100", func(w *octet.Out) { w.Byte(5); w.Text("a"); w.Byte(0) }},
	} {
		if got := done(t, c.put); got != c.want {
			t.Errorf("P4.1: %s, not %s", got, c.want)
		}
	}
	if got := done(t, func(w *octet.Out) { w.Text(strings.Repeat("x", 255)) }); got != "ff"+strings.Repeat("78", 255) {
		t.Errorf("P4.1: the longest text: %s", got)
	}
}

func TestPutErrors(t *testing.T) {
	for _, c := range []struct {
		name string
		want api.Errno
		put  func(*octet.Out)
	}{
		{"-1", api.ErrRange, func(w *octet.Out) { w.Byte(-1) }},
		{"256", api.ErrRange, func(w *octet.Out) { w.Byte(256) }},
		{"least", api.ErrRange, func(w *octet.Out) { w.Byte(least) }},
		{"long text", api.ErrLong, func(w *octet.Out) { w.Text(strings.Repeat("x", 256)) }},
		{"no value", api.ErrKind, func(w *octet.Out) { w.Value(api.Value{}) }},
		{"long value", api.ErrLong, func(w *octet.Out) { w.Value(value.Text(strings.Repeat("x", 33))) }},
		{"great set", api.ErrCount, func(w *octet.Out) { w.Value(api.Value{Kind: 4, L: make([]string, 9)}) }},
		{"truth 2", api.ErrRange, func(w *octet.Out) { w.Value(api.Value{Kind: 2, N: 2}) }},
		{"the first counts", api.ErrRange, func(w *octet.Out) { w.Byte(256); w.Text(strings.Repeat("x", 256)) }},
		{"the first value counts", api.ErrKind, func(w *octet.Out) { w.Value(api.Value{}); w.Byte(-1); w.Value(value.Int(1)) }},
	} {
		var w octet.Out
		w.Byte(7)
		c.put(&w)
		w.Byte(8)
		w.Int(8)
		w.Text("a")
		w.Value(value.Int(1))
		for range 2 {
			if b, err := w.Done(); len(b) != 0 || err != c.want {
				t.Errorf("P4.1: %s: %x %d, not %d", c.name, b, err, c.want)
			}
		}
	}
}

func TestNilOut(t *testing.T) {
	var w *octet.Out
	w.Byte(1)
	w.Int(1)
	w.Text("a")
	w.Value(value.Int(1))
	if b, err := w.Done(); b != nil || err != api.ErrState {
		t.Errorf("P4.1: of nil: %x %d", b, err)
	}
}

// TestDoneApart: what Done tells is new memory, and more can be put behind.
func TestDoneApart(t *testing.T) {
	var w octet.Out
	w.Byte(1)
	a, _ := w.Done()
	b, _ := w.Done()
	a[0] = 9
	w.Byte(2)
	c, _ := w.Done()
	if b[0] != 1 || !bytes.Equal(c, []byte{1, 2}) {
		t.Errorf("P2: %x %x", b, c)
	}
	b = append(b, 7)
	if d, _ := w.Done(); !bytes.Equal(d, []byte{1, 2}) || b[1] != 7 {
		t.Errorf("P2: %x", d)
	}
}

func TestRead(t *testing.T) {
	b, _ := hex.DecodeString("05" + "fffffffffffffffe" + "026162" + "04020161026262" + "0201" + "00")
	was := bytes.Clone(b)
	r := octet.Open(b)
	if r.Left() != len(b) || r.Err() != api.OK {
		t.Error("P4.2: at first")
	}
	clear(b)
	if n := r.Byte(); n != 5 {
		t.Errorf("P4.2: Byte: %d", n)
	}
	if n := r.Int(); n != -2 {
		t.Errorf("P4.2: Int: %d", n)
	}
	if s := r.Text(); s != "ab" {
		t.Errorf("P4.2: Text: %q", s)
	}
	if v := r.Value(); !value.Same(v, value.Set("a", "bb")) {
		t.Errorf("P4.2: Value: %v", v)
	}
	if v := r.Value(); !value.Same(v, value.Bool(true)) {
		t.Errorf("P4.2: Value: %v", v)
	}
	if r.Left() != 1 || r.Text() != "" || r.Left() != 0 || r.Err() != api.OK {
		t.Error("P4.2: the empty text at last")
	}
	if bytes.Equal(b, was) {
		t.Error("the test is to change what it handed in")
	}
}

// gone tells whether nothing is read from r any more.
func gone(r *octet.In, want api.Errno) bool {
	return r.Left() == 0 && r.Byte() == 0 && r.Int() == 0 && r.Text() == "" && value.Same(r.Value(), api.Value{}) && r.Left() == 0 && r.Err() == want
}

func TestReadErrors(t *testing.T) {
	for _, c := range []struct {
		name string
		b    string
		read func(*octet.In) bool
	}{
		{"no octet", "", func(r *octet.In) bool { return r.Byte() == 0 }},
		{"7 octets", "01020304050607", func(r *octet.In) bool { return r.Int() == 0 }},
		{"no text", "", func(r *octet.In) bool { return r.Text() == "" }},
		{"a short text", "036162", func(r *octet.In) bool { return r.Text() == "" }},
		{"no value", "", func(r *octet.In) bool { return value.Same(r.Value(), api.Value{}) }},
		{"kind 0", "00000000000000000000", func(r *octet.In) bool { return value.Same(r.Value(), api.Value{}) }},
		{"kind 5", "05000000000000000000", func(r *octet.In) bool { return value.Same(r.Value(), api.Value{}) }},
		{"a short number", "0101020304050607", func(r *octet.In) bool { return value.Same(r.Value(), api.Value{}) }},
		{"no truth", "02", func(r *octet.In) bool { return value.Same(r.Value(), api.Value{}) }},
		{"truth 2", "0202aa", func(r *octet.In) bool { return value.Same(r.Value(), api.Value{}) }},
		{"truth 255", "02ffaa", func(r *octet.In) bool { return value.Same(r.Value(), api.Value{}) }},
		{"a text too long", "0321" + strings.Repeat("61", 40), func(r *octet.In) bool { return value.Same(r.Value(), api.Value{}) }},
		{"a set too great", "0409" + strings.Repeat("00", 40), func(r *octet.In) bool { return value.Same(r.Value(), api.Value{}) }},
		{"a set that falls", "040201620161aa", func(r *octet.In) bool { return value.Same(r.Value(), api.Value{}) }},
		{"a set with one twice", "040201610161aa", func(r *octet.In) bool { return value.Same(r.Value(), api.Value{}) }},
		{"a short set", "04030161", func(r *octet.In) bool { return value.Same(r.Value(), api.Value{}) }},
		{"a text too long in a set", "040121" + strings.Repeat("61", 40), func(r *octet.In) bool { return value.Same(r.Value(), api.Value{}) }},
	} {
		b, _ := hex.DecodeString(c.b)
		r := octet.Open(b)
		if !c.read(r) || !gone(r, api.ErrSyntax) {
			t.Errorf("P4.2: %s", c.name)
		}
	}
}

func TestNoIn(t *testing.T) {
	var r *octet.In
	if !gone(r, api.ErrState) {
		t.Error("P4.2: of nil")
	}
	if !gone(&octet.In{}, api.ErrState) {
		t.Error("P4.2: of one that Open did not make")
	}
	if r := octet.Open(nil); r.Err() != api.OK || r.Left() != 0 {
		t.Error("P4.2: of no octets")
	}
}

// TestThereAndBack: what is put is read.
func TestThereAndBack(t *testing.T) {
	numbers := []int64{0, 1, -1, 255, 256, -256, most, least, 1 << 40}
	values := []api.Value{
		value.Int(0), value.Int(least), value.Bool(true), value.Bool(false), value.Text(""), value.Text(strings.Repeat("\xff", 32)),
		value.Set(), value.Set("", "a", "b"), value.Set("a", "b", "c", "d", "e", "f", "g", strings.Repeat("z", 32)),
	}
	for n := range 256 {
		var w octet.Out
		text := strings.Repeat(string([]byte{byte(n)}), n)
		w.Byte(n)
		w.Text(text)
		for _, v := range values {
			w.Value(v)
		}
		for _, m := range numbers {
			w.Int(m + int64(n))
		}
		b, err := w.Done()
		r := octet.Open(b)
		if err != api.OK || r.Byte() != n || r.Text() != text {
			t.Fatalf("P4.3: octet or text %d", n)
		}
		for _, v := range values {
			if got := r.Value(); !value.Same(got, v) {
				t.Errorf("P4.3: %v, not %v", got, v)
			}
		}
		for _, m := range numbers {
			if got := r.Int(); got != m+int64(n) {
				t.Errorf("P4.3: %d, not %d", got, m+int64(n))
			}
		}
		if r.Left() != 0 || r.Err() != api.OK {
			t.Errorf("P4.3: left %d, error %d", r.Left(), r.Err())
		}
	}
}

// TestAnyOctets: each value that is read is put as the octets that were read.
func TestAnyOctets(t *testing.T) {
	b := make([]byte, 12)
	for seed := range 20000 {
		x := uint32(seed)*2654435761 + 12345
		for i := range b {
			x = x*1664525 + 1013904223
			b[i] = byte(x>>24) % 5
		}
		r := octet.Open(b)
		v := r.Value()
		if r.Err() != api.OK {
			continue
		}
		var w octet.Out
		w.Value(v)
		got, err := w.Done()
		if err != api.OK || !bytes.Equal(got, b[:len(b)-r.Left()]) {
			t.Fatalf("P4.3: %x read as %v", b, v)
		}
	}
}
