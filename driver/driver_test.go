package driver_test

import (
	"strings"
	"testing"

	"beadle/api"
	"beadle/driver"
)

func TestMain(t *testing.T) {
	text := "attr n int; right r { pre s.n < 2; on s.n < 3 and times(x, 9) <= 2; before s.n := s.n + 1; duty d on y act z within 1 keep; }"
	for _, c := range []struct {
		policy, script, want string
	}{
		{"", "", "0 0 0 0 0 0 0 0"},
		{"right r { on prev(true) or true; }", "1 try 0 a o r\n1 try 1 a o r\n", "2 2 2 0 0 0 2 2"},
		{text, "1 try 0 a o r\n1 try 1 a o r\n1 try 2 a o r\n1 try 3 b o r\n", "4 4 3 1 0 0 3 0"},
		{text, "1 try 0 a o r\n2 use 0 x\n3 use 0 x\n3 try 0 a o r\n3 try 5 a o q\n2 tick\n", "6 3 1 0 0 0 1 2"},
		{text, "1 try 0 a o r\n2 use 0 x\n3 use 0 x\n4 use 0 x\n4 use 0 x\n", "5 4 1 0 1 0 0 0"},
		{text, "1 try 0 a o r\n1 try 1 b o r\n2 use 0 y\n3 use 0 z\n4 end 0\n4 end 0\n5 use 1 y\n9 tick\n", "8 7 2 0 1 1 0 0"},
		{text, "1 try 0 a o r\n1 try 1 b p r\n1 use 0 x\n2 use 1 x\n2 set a n 3\n", "5 5 2 0 1 0 1 1"},
	} {
		r, err := driver.Main(c.policy, c.script)
		if got := driver.Line(r); err != api.OK || got != c.want {
			t.Errorf("P38.1: Main(%q, %q): %s %d, not %s", c.policy, c.script, got, err, c.want)
		}
	}
}

func TestErrors(t *testing.T) {
	for _, c := range []struct {
		policy, script string
		want           api.Errno
	}{
		{"right", "x", api.ErrSyntax},
		{strings.Repeat(" ", 4097), "", api.ErrLong},
		{"attr n int; attr n int;", "x", api.ErrTwice},
		{"right r { pre s.x; }", "", api.ErrNone},
		{"right r { pre 1; }", strings.Repeat("x", 1<<17), api.ErrType},
		{"", "x", api.ErrSyntax},
		{"", "5 tick", api.ErrSyntax},
		{"", strings.Repeat("5 tick\n", 257), api.ErrCount},
		{"", strings.Repeat("x", 1<<17), api.ErrLong},
	} {
		if r, err := driver.Main(c.policy, c.script); err != c.want || r != (driver.Report{}) {
			t.Errorf("P38.1: Main(%.30q, %.30q): %v %d, not %d", c.policy, c.script, r, err, c.want)
		}
	}
}

func TestLine(t *testing.T) {
	if got := driver.Line(driver.Report{Events: 1, Taken: 2, Grants: 3, Denials: 4, Revokes: 5, Ends: 6, Open: 7, Cells: 8}); got != "1 2 3 4 5 6 7 8" {
		t.Errorf("P38.1: Line: %s", got)
	}
	if got := driver.Line(driver.Report{Events: -1, Cells: 10}); got != "-1 0 0 0 0 0 0 10" {
		t.Errorf("P38.1: Line: %s", got)
	}
}
