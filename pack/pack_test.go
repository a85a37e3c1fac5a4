package pack_test

import (
	"bytes"
	"encoding/hex"
	"reflect"
	"strings"
	"testing"

	"beadle/api"
	"beadle/ast"
	"beadle/pack"
	"beadle/parse"
	"beadle/table"
)

// expr is the expression of a text.
func expr(t *testing.T, s string) api.Expr {
	t.Helper()
	e, err := parse.Expr(s)
	if err != nil {
		t.Fatal(s, err)
	}
	return e
}

const zero = "0000000000000000"

func TestExpr(t *testing.T) {
	for s, want := range map[string]string{
		"now":              "01" + "07" + "00" + zero + zero + zero + "00" + "00",
		"5":                "01" + "01" + "00" + "0000000000000005" + zero + zero + "00" + "00",
		"{\"a\", \"bc\"}":  "01" + "04" + "00" + zero + zero + zero + "02" + "0161" + "026263" + "00",
		"not s.ab":         "02" + "05" + "026162" + zero + zero + zero + "0000" + "12" + "00" + zero + zero + zero + "00" + "01" + "00",
		"once[2,*](true)":  "02" + "02" + "00" + "0000000000000001" + zero + zero + "0000" + "16" + "00" + zero + "0000000000000002" + "ffffffffffffffff" + "00" + "01" + "00",
		"1 + times(a, 16)": "03" + "01" + "00" + "0000000000000001" + zero + zero + "0000" + "0d" + "0161" + zero + zero + "0000000000000010" + "0000" + "08" + "00" + zero + zero + zero + "00" + "020001",
	} {
		e := expr(t, s)
		b, err := pack.Expr(e)
		if err != api.OK || hex.EncodeToString(b) != want {
			t.Errorf("P14.1: Expr(%s): %x %d, not %s", s, b, err, want)
		}
		p, err := pack.Put(table.Of(e))
		if err != api.OK || !bytes.Equal(p, b) {
			t.Errorf("P14.1: Put of %s: %x %d", s, p, err)
		}
		l, err := pack.Read(b)
		if err != api.OK || !reflect.DeepEqual(l, table.Of(e)) {
			t.Errorf("P14.2: Read of %s: %v %d", s, l, err)
		}
		back, err := pack.Back(b)
		if err != api.OK || !ast.Same(back, e) {
			t.Errorf("P14.2: Back of %s: %v %d", s, back, err)
		}
	}
	if b, _ := pack.Expr(expr(t, "now")); len(b) != 29 {
		t.Errorf("P14.1: now: %d octets", len(b))
	}
}

func TestErrors(t *testing.T) {
	deep := api.Expr{Kind: api.Bool}
	for range 12 {
		deep = api.Expr{Kind: api.Not, Kids: []api.Expr{deep}}
	}
	wide := api.Expr{Kind: api.Bool}
	for range 6 {
		wide = api.Expr{Kind: api.And, Kids: []api.Expr{wide, wide}}
	}
	for _, c := range []struct {
		e    api.Expr
		want api.Errno
	}{{api.Expr{}, api.ErrKind}, {deep, api.ErrDepth}, {wide, api.ErrCount}} {
		if b, err := pack.Expr(c.e); len(b) != 0 || err != c.want {
			t.Errorf("P14.1: Expr: %x %d, not %d", b, err, c.want)
		}
	}
	for _, l := range [][]table.Row{nil, {{}}, {{Kind: 7}, {Kind: 7}}, {{Kind: 1, N: -1}}, make([]table.Row, 300)} {
		if b, err := pack.Put(l); len(b) != 0 || err != api.ErrSyntax {
			t.Errorf("P14.1: Put(%v): %x %d", l, b, err)
		}
	}
}

// none tells whether octets are no table's.
func none(b []byte) bool {
	l, err := pack.Read(b)
	e, errBack := pack.Back(b)
	return len(l) == 0 && err == api.ErrSyntax && errBack == api.ErrSyntax && reflect.DeepEqual(e, api.Expr{})
}

func TestNone(t *testing.T) {
	now, _ := pack.Expr(api.Expr{Kind: api.Now})
	for i := range now {
		if !none(now[:i]) {
			t.Errorf("P14.1: Read of %d octets of 29", i)
		}
	}
	for name, s := range map[string]string{
		"an octet more":     hex.EncodeToString(now) + "00",
		"no rows":           "00",
		"no rows, and more": "0000",
		"kind 0":            "01" + "00" + "00" + zero + zero + zero + "0000",
		"kind 26":           "01" + "1a" + "00" + zero + zero + zero + "0000",
		"a name too many":   "01" + "07" + "0161" + zero + zero + zero + "0000",
		"texts of no set":   "01" + "07" + "00" + zero + zero + zero + "0100" + "00",
		"a kid too many":    "01" + "07" + "00" + zero + zero + zero + "00" + "0100",
		"texts that fall":   "01" + "04" + "00" + zero + zero + zero + "02" + "0162" + "0161" + "00",
		"two roots":         "02" + strings.Repeat("07"+"00"+zero+zero+zero+"0000", 2),
		"255 rows":          "ff" + strings.Repeat("07"+"00"+zero+zero+zero+"0000", 255),
	} {
		b, _ := hex.DecodeString(s)
		if !none(b) {
			t.Errorf("P14.1: Read of %s", name)
		}
	}
}

// TestEachOctet: octets that are read are just those that are put.
func TestEachOctet(t *testing.T) {
	first, _ := pack.Expr(expr(t, "\"a\" in {\"a\", \"b\"} or times(x, 3) < 2"))
	read := 0
	for i := range first {
		for c := range 256 {
			b := bytes.Clone(first)
			b[i] = byte(c)
			was := bytes.Clone(b)
			l, err := pack.Read(b)
			if !bytes.Equal(b, was) {
				t.Fatal("P2: Read changed its octets")
			}
			if err != api.OK {
				continue
			}
			read++
			got, err := pack.Put(l)
			e, errBack := pack.Back(b)
			again, errExpr := pack.Expr(e)
			if err != api.OK || !bytes.Equal(got, b) || errBack != api.OK || errExpr != api.OK || !bytes.Equal(again, b) {
				t.Fatalf("P14.2: %x put as %x %d", b, got, err)
			}
		}
	}
	if read < len(first) {
		t.Errorf("the test reads only %d", read)
	}
}

// TestGreatest: the greatest expression comes back.
func TestGreatest(t *testing.T) {
	e := api.Expr{Kind: api.Text, Name: strings.Repeat("x", 32)}
	for range 5 {
		e = api.Expr{Kind: api.And, Kids: []api.Expr{e, e}}
	}
	e = api.Expr{Kind: api.Not, Kids: []api.Expr{e}}
	b, err := pack.Expr(e)
	back, errBack := pack.Back(b)
	if err != api.OK || errBack != api.OK || !ast.Same(back, e) || b[0] != 64 {
		t.Errorf("P14.2: the greatest: %d %d", err, errBack)
	}
}
