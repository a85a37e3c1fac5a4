package value_test

import (
	"slices"
	"strings"
	"testing"

	"beadle/api"
	"beadle/value"
)

const (
	most  = 1<<63 - 1
	least = -1 << 63
)

// texts are n unlike texts, rising.
func texts(n int) []string {
	l := []string{}
	for i := range n {
		l = append(l, string(rune('a'+i)))
	}
	return l
}

func TestCheck(t *testing.T) {
	fit := strings.Repeat("x", api.MaxText)
	long := fit + "x"
	for _, c := range []struct {
		name string
		v    api.Value
		want api.Errno
	}{
		{"number", api.Value{Kind: 1, N: -5}, api.OK},
		{"least", api.Value{Kind: 1, N: least}, api.OK},
		{"number with an empty list", api.Value{Kind: 1, N: most, L: []string{}}, api.OK},
		{"false", api.Value{Kind: 2}, api.OK},
		{"true", api.Value{Kind: 2, N: 1}, api.OK},
		{"empty text", api.Value{Kind: 3}, api.OK},
		{"longest text", api.Value{Kind: 3, S: fit}, api.OK},
		{"text of any octets", api.Value{Kind: 3, S: "\x00\xff\"\n"}, api.OK},
		{"empty set", api.Value{Kind: 4}, api.OK},
		{"set", api.Value{Kind: 4, L: []string{"", "a", "a\x00", "b", "\xff"}}, api.OK},
		{"longest text in a set", api.Value{Kind: 4, L: []string{fit}}, api.OK},
		{"greatest set", api.Value{Kind: 4, L: texts(8)}, api.OK},

		{"zero", api.Value{}, api.ErrKind},
		{"kind 5", api.Value{Kind: 5}, api.ErrKind},
		{"kind -1", api.Value{Kind: -1}, api.ErrKind},
		{"kind ahead of length", api.Value{Kind: 5, S: long}, api.ErrKind},
		{"text too long", api.Value{Kind: 3, S: long}, api.ErrLong},
		{"text too long in a set", api.Value{Kind: 4, L: []string{"a", long}}, api.ErrLong},
		{"length ahead of count", api.Value{Kind: 4, L: append(texts(8), long)}, api.ErrLong},
		{"length ahead of range", api.Value{Kind: 3, S: long, N: 1}, api.ErrLong},
		{"set too great", api.Value{Kind: 4, L: texts(9)}, api.ErrCount},
		{"count ahead of range", api.Value{Kind: 4, N: 1, L: texts(9)}, api.ErrCount},
		{"number with a text", api.Value{Kind: 1, S: "a"}, api.ErrRange},
		{"number with a list", api.Value{Kind: 1, L: []string{""}}, api.ErrRange},
		{"truth 2", api.Value{Kind: 2, N: 2}, api.ErrRange},
		{"truth -1", api.Value{Kind: 2, N: -1}, api.ErrRange},
		{"truth with a text", api.Value{Kind: 2, S: "a"}, api.ErrRange},
		{"truth with a list", api.Value{Kind: 2, L: []string{"a"}}, api.ErrRange},
		{"text with a number", api.Value{Kind: 3, N: 1}, api.ErrRange},
		{"text with a list", api.Value{Kind: 3, L: []string{"a"}}, api.ErrRange},
		{"set with a number", api.Value{Kind: 4, N: 1}, api.ErrRange},
		{"set with a text", api.Value{Kind: 4, S: "a"}, api.ErrRange},
		{"set that falls", api.Value{Kind: 4, L: []string{"b", "a"}}, api.ErrRange},
		{"set with one twice", api.Value{Kind: 4, L: []string{"a", "a"}}, api.ErrRange},
		{"octets are held against each other, not letters", api.Value{Kind: 4, L: []string{"\xff", "\u00e9"}}, api.ErrRange},
	} {
		if got := value.Check(c.v); got != c.want {
			t.Errorf("P2.1: Check of %s: %d, not %d", c.name, got, c.want)
		}
	}
}

// like tells whether two values have the same fields; nil and empty lists are one.
func like(a, b api.Value) bool {
	return a.Kind == b.Kind && a.N == b.N && a.S == b.S && slices.Equal(a.L, b.L)
}

func TestMake(t *testing.T) {
	for _, c := range []struct {
		name      string
		got, want api.Value
	}{
		{"Int", value.Int(least), api.Value{Kind: 1, N: least}},
		{"Bool", value.Bool(true), api.Value{Kind: 2, N: 1}},
		{"Bool", value.Bool(false), api.Value{Kind: 2}},
		{"Text", value.Text("a\"b"), api.Value{Kind: 3, S: "a\"b"}},
		{"Text", value.Text(""), api.Value{Kind: 3}},
		{"Set", value.Set("b", "a", "b"), api.Value{Kind: 4, L: []string{"a", "b"}}},
		{"Set", value.Set(), api.Value{Kind: 4}},
		{"Set", value.Set("", "z", "", "Z"), api.Value{Kind: 4, L: []string{"", "Z", "z"}}},
		{"Zero", value.Zero(1), api.Value{Kind: 1}},
		{"Zero", value.Zero(2), api.Value{Kind: 2}},
		{"Zero", value.Zero(3), api.Value{Kind: 3}},
		{"Zero", value.Zero(4), api.Value{Kind: 4}},
		{"Zero", value.Zero(0), api.Value{}},
		{"Zero", value.Zero(5), api.Value{}},
		{"Zero", value.Zero(-1), api.Value{}},
	} {
		if !like(c.got, c.want) {
			t.Errorf("P2.1: %s: %v, not %v", c.name, c.got, c.want)
		}
	}
}

// TestSetKeepsNothing: what is handed in is neither changed nor kept.
func TestSetKeepsNothing(t *testing.T) {
	for _, l := range [][]string{{"b", "a", "b"}, {"a", "b"}, {"a"}} {
		was := slices.Clone(l)
		v := value.Set(l...)
		if !slices.Equal(l, was) {
			t.Errorf("P2: Set changed %v to %v", was, l)
		}
		want := slices.Clone(v.L)
		clear(l)
		if !slices.Equal(v.L, want) {
			t.Errorf("P2: Set of %v kept the list", was)
		}
	}
}

// TestOrder: each value stands ahead of all behind it.
func TestOrder(t *testing.T) {
	l := []api.Value{
		{Kind: -1, N: 9},
		{},
		{N: 1},
		{Kind: 1, N: least, S: "z"},
		{Kind: 1, N: -1},
		{Kind: 1, N: 0},
		{Kind: 1, N: 0, S: "a"},
		{Kind: 1, N: most},
		{Kind: 2, N: 0},
		{Kind: 2, N: 1},
		{Kind: 3, S: ""},
		{Kind: 3, S: "a"},
		{Kind: 3, S: "a", L: []string{"x"}},
		{Kind: 3, S: "a\x00"},
		{Kind: 3, S: "b"},
		{Kind: 3, S: "\xff"},
		{Kind: 4},
		{Kind: 4, L: []string{""}},
		{Kind: 4, L: []string{"a"}},
		{Kind: 4, L: []string{"a", "b"}},
		{Kind: 4, L: []string{"a", "b", "c"}},
		{Kind: 4, L: []string{"a", "c"}},
		{Kind: 4, L: []string{"aa"}},
		{Kind: 4, L: []string{"b"}},
		{Kind: 4, N: 1},
		{Kind: 9},
	}
	for i, a := range l {
		for j, b := range l {
			want := 0
			if i < j {
				want = -1
			} else if i > j {
				want = 1
			}
			if got := value.Cmp(a, b); got != want {
				t.Errorf("P2.1: Cmp(%v, %v): %d, not %d", a, b, got, want)
			}
			if got := value.Same(a, b); got != (i == j) {
				t.Errorf("P2.1: Same(%v, %v): %v", a, b, got)
			}
		}
	}
	if !value.Same(api.Value{Kind: 4}, api.Value{Kind: 4, L: []string{}}) {
		t.Error("P5: nil and empty lists are one")
	}
}

func TestHas(t *testing.T) {
	v := value.Set("a", "b", "")
	for s, want := range map[string]bool{"": true, "a": true, "b": true, "c": false, "ab": false} {
		if value.Has(v, s) != want {
			t.Errorf("P2.1: Has(%q): %v", s, !want)
		}
	}
	if !value.Has(api.Value{L: []string{"z", "a"}}, "a") {
		t.Error("P2.1: Has of a list that does not rise")
	}
	if value.Has(value.Text("a"), "a") || value.Has(api.Value{}, "") {
		t.Error("P2.1: Has of no set")
	}
}

func TestSize(t *testing.T) {
	for _, c := range []struct {
		v    api.Value
		want int64
	}{
		{value.Int(7), 0},
		{value.Bool(true), 0},
		{value.Text(""), 0},
		{value.Text("\u00e9a"), 3},
		{value.Text(strings.Repeat("x", 100)), 100},
		{value.Set(), 0},
		{value.Set("abc", "d"), 2},
		{api.Value{}, 0},
		{api.Value{Kind: 1, S: "abc"}, 0},
		{api.Value{Kind: 5, S: "abc", L: []string{"a"}}, 0},
	} {
		if got := value.Size(c.v); got != c.want {
			t.Errorf("P2.1: Size(%v): %d, not %d", c.v, got, c.want)
		}
	}
}
