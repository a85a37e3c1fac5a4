package lattice_test

import (
	"fmt"
	"slices"
	"strings"
	"testing"

	"beadle/api"
	"beadle/lattice"
)

// label is a label of groups, with blanks between.
func label(level int, groups string) lattice.Label {
	return lattice.Label{Level: level, Groups: strings.Fields(groups)}
}

// like tells whether two labels are alike.
func like(a, b lattice.Label) bool {
	return a.Level == b.Level && slices.Equal(a.Groups, b.Groups)
}

func TestCheck(t *testing.T) {
	var nine []string
	for i := range 9 {
		nine = append(nine, fmt.Sprint("g", i))
	}
	for _, c := range []struct {
		a    lattice.Label
		want api.Errno
	}{
		{label(0, ""), api.OK},
		{label(15, "A _ a b"), api.OK},
		{lattice.Label{Groups: nine[:8]}, api.OK},
		{label(16, ""), api.ErrRange},
		{label(-1, ""), api.ErrRange},
		{lattice.Label{Level: 16, Groups: nine}, api.ErrRange},
		{lattice.Label{Groups: nine}, api.ErrCount},
		{lattice.Label{Groups: make([]string, 9)}, api.ErrCount},
		{label(1, "1"), api.ErrSyntax},
		{label(1, "a b.c"), api.ErrSyntax},
		{lattice.Label{Groups: []string{""}}, api.ErrSyntax},
		{label(1, "b a"), api.ErrSyntax},
		{label(1, "a a"), api.ErrSyntax},
		{label(1, strings.Repeat("n", 17)), api.ErrSyntax},
	} {
		if got := lattice.Check(c.a); got != c.want {
			t.Errorf("P32.1: Check(%v): %d, not %d", c.a, got, c.want)
		}
	}
}

// all are labels of two levels, and of all sets of three groups.
func all() []lattice.Label {
	var l []lattice.Label
	for level := range 2 {
		for set := range 8 {
			groups := ""
			for i, s := range []string{"a ", "b ", "c "} {
				if set>>i&1 == 1 {
					groups += s
				}
			}
			l = append(l, label(level*9, groups))
		}
	}
	return l
}

// under looks at each group.
func under(a, b lattice.Label) bool {
	for _, s := range a.Groups {
		if !slices.Contains(b.Groups, s) {
			return false
		}
	}
	return a.Level <= b.Level
}

func TestLattice(t *testing.T) {
	for _, a := range all() {
		for _, b := range all() {
			j, m := lattice.Join(a, b), lattice.Meet(a, b)
			if lattice.Under(a, b) != under(a, b) || lattice.Read(a, b) != under(b, a) || lattice.Write(a, b) != under(a, b) {
				t.Errorf("P32.1: Under, Read, Write of %v, %v", a, b)
			}
			if !under(a, j) || !under(b, j) || !under(m, a) || !under(m, b) || lattice.Check(j) != api.OK || lattice.Check(m) != api.OK {
				t.Errorf("P32.1: Join %v, Meet %v of %v, %v", j, m, a, b)
			}
			if !like(j, lattice.Join(b, a)) || !like(m, lattice.Meet(b, a)) || !like(lattice.Join(a, m), a) || !like(lattice.Meet(a, j), a) {
				t.Errorf("P32.2: of %v, %v", a, b)
			}
			for _, c := range all() {
				if under(a, c) && under(b, c) && !under(j, c) || under(c, a) && under(c, b) && !under(c, m) {
					t.Errorf("P32.2: of %v, %v, %v", a, b, c)
				}
				if lattice.Range(a, b, c) != (under(a, c) && under(c, b)) {
					t.Errorf("P32.1: Range(%v, %v, %v)", a, b, c)
				}
				if !like(lattice.Join(j, c), lattice.Join(a, lattice.Join(b, c))) || !like(lattice.Meet(m, c), lattice.Meet(a, lattice.Meet(b, c))) {
					t.Errorf("P32.2: of %v, %v, %v in a row", a, b, c)
				}
			}
		}
	}
	if !lattice.Under(label(1, ""), label(2, "")) || lattice.Under(label(2, ""), label(1, "")) {
		t.Error("P32.1: level 1 is under 2")
	}
}

// TestOthers: labels that may not be are held against each other all the same, and none is changed or shared.
func TestOthers(t *testing.T) {
	a, b := label(99, "c a a b"), label(-5, "d b b a")
	if j := lattice.Join(a, b); !like(j, label(99, "a b c d")) {
		t.Errorf("P32.1: Join: %v", j)
	}
	if m := lattice.Meet(a, b); !like(m, label(-5, "a b")) {
		t.Errorf("P32.1: Meet: %v", m)
	}
	if !lattice.Under(label(1, "b a b"), label(1, "a b c")) || lattice.Under(label(1, "a d"), label(1, "c a b")) {
		t.Error("P32.1: Under of labels that do not rise")
	}
	lattice.Check(a)
	for _, x := range []lattice.Label{lattice.Join(a, label(0, "")), lattice.Join(label(0, ""), a), lattice.Meet(a, a)} {
		clear(x.Groups)
	}
	if !like(a, label(99, "c a a b")) || !like(b, label(-5, "d b b a")) {
		t.Error("P2: a label was changed or shared")
	}
}
