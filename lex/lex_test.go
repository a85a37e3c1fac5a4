package lex_test

import (
	"slices"
	"strings"
	"testing"

	"beadle/api"
	"beadle/fault"
	"beadle/lex"
)

func TestAll(t *testing.T) {
	name16, text32 := strings.Repeat("a", 16), strings.Repeat("\xff", 32)
	for _, c := range []struct {
		s    string
		want []lex.Token
	}{
		{"", []lex.Token{{Kind: 5}}},
		{" \t\r\n", []lex.Token{{Kind: 5, At: 4}}},
		{"a<=10", []lex.Token{{1, "a", 0, 0}, {4, "<=", 0, 1}, {2, "10", 10, 3}, {Kind: 5, At: 5}}},
		{" _aZ9 Q", []lex.Token{{1, "_aZ9", 0, 1}, {1, "Q", 0, 6}, {Kind: 5, At: 7}}},
		{name16, []lex.Token{{1, name16, 0, 0}, {Kind: 5, At: 16}}},
		{"0 9223372036854775807", []lex.Token{{2, "0", 0, 0}, {2, "9223372036854775807", 1<<63 - 1, 2}, {Kind: 5, At: 21}}},
		{"\"\"\"a b\"", []lex.Token{{3, "", 0, 0}, {3, "a b", 0, 2}, {Kind: 5, At: 7}}},
		{"\"" + text32 + "\"", []lex.Token{{3, text32, 0, 0}, {Kind: 5, At: 34}}},
		{"\"\t\r\x00\\\"", []lex.Token{{3, "\t\r\x00\\", 0, 0}, {Kind: 5, At: 6}}},
		{"a.b", []lex.Token{{1, "a", 0, 0}, {4, ".", 0, 1}, {1, "b", 0, 2}, {Kind: 5, At: 3}}},
		{"1+a1-2", []lex.Token{{2, "1", 1, 0}, {4, "+", 0, 1}, {1, "a1", 0, 2}, {4, "-", 0, 4}, {2, "2", 2, 5}, {Kind: 5, At: 6}}},
		{"<==", []lex.Token{{4, "<=", 0, 0}, {4, "=", 0, 2}, {Kind: 5, At: 3}}},
		{"=<<", []lex.Token{{4, "=", 0, 0}, {4, "<", 0, 1}, {4, "<", 0, 2}, {Kind: 5, At: 3}}},
		{"=:=!=", []lex.Token{{4, "=", 0, 0}, {4, ":=", 0, 1}, {4, "!=", 0, 3}, {Kind: 5, At: 5}}},
		{"true", []lex.Token{{1, "true", 0, 0}, {Kind: 5, At: 4}}},
	} {
		got, err := lex.All(c.s)
		if err != nil || !slices.Equal(got, c.want) {
			t.Errorf("P6.1: All(%q): %v %v, not %v", c.s, got, err, c.want)
		}
	}
}

func TestSigns(t *testing.T) {
	signs := strings.Fields(":= != <= ( ) [ ] { } , ; . + - * = <")
	got, err := lex.All(strings.Join(signs, " "))
	if err != nil || len(got) != len(signs)+1 {
		t.Fatalf("P6.1: signs: %v %v", got, err)
	}
	for i, s := range signs {
		if got[i].Kind != 4 || got[i].S != s {
			t.Errorf("P6.1: sign %s: %v", s, got[i])
		}
	}
}

// TestOctets: each octet alone is a word, or none.
func TestOctets(t *testing.T) {
	for c := range 256 {
		s := string([]byte{byte(c)})
		kind, code := 0, api.OK
		switch {
		case strings.Contains(" \t\n\r", s):
			kind = 5
		case strings.Contains("abcdefghijklmnopqrstuvwxyzABCDEFGHIJKLMNOPQRSTUVWXYZ_", s):
			kind = 1
		case strings.Contains("0123456789", s):
			kind = 2
		case strings.Contains("()[]{},;.+-*=<", s):
			kind = 4
		default:
			code = api.ErrSyntax
		}
		l, err := lex.All(s)
		if fault.Code(err) != code || code == api.OK && l[0].Kind != kind || code != api.OK && (len(l) != 0 || fault.Place(err) != 0) {
			t.Errorf("P6.1: All(%q): %v %v", s, l, err)
		}
	}
}

func TestFaults(t *testing.T) {
	name17, text33 := strings.Repeat("a", 17), "\""+strings.Repeat("x", 33)+"\""
	for _, c := range []struct {
		s    string
		code api.Errno
		at   int
	}{
		{"a ?", api.ErrSyntax, 2},
		{"a :b", api.ErrSyntax, 2},
		{"!", api.ErrSyntax, 0},
		{"a ! = b", api.ErrSyntax, 2},
		{"a > b", api.ErrSyntax, 2},
		{" 01", api.ErrSyntax, 1},
		{"00", api.ErrSyntax, 0},
		{"1a", api.ErrSyntax, 0},
		{"1_", api.ErrSyntax, 0},
		{"a + 9223372036854775808", api.ErrSyntax, 4},
		{"1 " + strings.Repeat("9", 30), api.ErrSyntax, 2},
		{"a \"b", api.ErrSyntax, 2},
		{"\"", api.ErrSyntax, 0},
		{"\"a\nb\"", api.ErrSyntax, 0},
		{"a \"" + strings.Repeat("x", 40), api.ErrSyntax, 2},
		{"a \"" + strings.Repeat("x", 40) + "\n\"", api.ErrSyntax, 2},
		{"a " + name17, api.ErrLong, 2},
		{"  " + text33, api.ErrLong, 2},
		{"? " + name17, api.ErrSyntax, 0},
		{name17 + " ?", api.ErrLong, 0},
		{text33 + " ?", api.ErrLong, 0},
		{"\u00e9", api.ErrSyntax, 0},
		{strings.Repeat(" ", 4097), api.ErrLong, 0},
		{"?" + strings.Repeat(" ", 4096), api.ErrLong, 0},
	} {
		l, err := lex.All(c.s)
		if len(l) != 0 || fault.Code(err) != c.code || fault.Place(err) != c.at || fault.Depth(err) != 1 {
			t.Errorf("P6.1: All(%.40q): %v %v, not %d at %d", c.s, l, err, c.code, c.at)
		}
	}
	if l, err := lex.All(strings.Repeat("a ", 2048)); err != nil || len(l) != 2049 {
		t.Errorf("P6.1: the longest source: %d %v", len(l), err)
	}
}

func TestName(t *testing.T) {
	for s, want := range map[string]bool{
		"a": true, "Z": true, "_": true, "_1": true, "a9Z_": true, "or": true, strings.Repeat("n", 16): true,
		"": false, "1": false, "1a": false, "a b": false, " a": false, "a ": false, "a.b": false, "a-": false, "\u00e9": false, "a\x00": false,
		"a/": false, "a:": false, "a@": false, "a[": false, "a`": false, "a{": false, "@": false, "[": false, "`": false, "{": false,
		strings.Repeat("n", 17): false,
	} {
		if lex.Name(s) != want {
			t.Errorf("P6.1: Name(%q): %v", s, !want)
		}
	}
}

func TestPlain(t *testing.T) {
	for s, want := range map[string]bool{
		"": true, "a b": true, "\r\t\x00\xff'": true, strings.Repeat("x", 32): true,
		"\"": false, "a\"": false, "\n": false, "a\nb": false, strings.Repeat("x", 33): false,
	} {
		if lex.Plain(s) != want {
			t.Errorf("P6.1: Plain(%q): %v", s, !want)
		}
	}
}
