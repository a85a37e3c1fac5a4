package script_test

import (
	"reflect"
	"slices"
	"strings"
	"testing"

	"beadle/api"
	"beadle/script"
	"beadle/value"
)

const most = 1<<63 - 1

// lines are events and their lines.
func lines() map[string]api.Event {
	long := strings.Repeat("n", 16)
	return map[string]api.Event{
		"5 use 1 read":  {At: 5, Kind: 2, Id: 1, Name: "read"},
		"0 try 0 a b r": {Kind: 1, Subject: "a", Object: "b", Name: "r"},
		"9223372036854775807 try 63 try " + long + " try": {At: most, Kind: 1, Id: 63, Subject: "try", Object: long, Name: "try"},
		"7 end 63":                       {At: 7, Kind: 3, Id: 63},
		"10 tick":                        {At: 10, Kind: 5},
		"1 set a n 0":                    {At: 1, Kind: 4, Subject: "a", Name: "n", Value: value.Int(0)},
		"1 set a n -1":                   {At: 1, Kind: 4, Subject: "a", Name: "n", Value: value.Int(-1)},
		"1 set a n 9223372036854775807":  {At: 1, Kind: 4, Subject: "a", Name: "n", Value: value.Int(most)},
		"1 set a n -9223372036854775808": {At: 1, Kind: 4, Subject: "a", Name: "n", Value: value.Int(-1 << 63)},
		"1 set true n true":              {At: 1, Kind: 4, Subject: "true", Name: "n", Value: value.Bool(true)},
		"1 set a n false":                {At: 1, Kind: 4, Subject: "a", Name: "n", Value: value.Bool(false)},
		"1 set a t \"\"":                 {At: 1, Kind: 4, Subject: "a", Name: "t", Value: value.Text("")},
		"1 set a t \"true\"":             {At: 1, Kind: 4, Subject: "a", Name: "t", Value: value.Text("true")},
		"1 set a t \"  a  b \"":          {At: 1, Kind: 4, Subject: "a", Name: "t", Value: value.Text("  a  b ")},
		"1 set a t \"{,}\"":              {At: 1, Kind: 4, Subject: "a", Name: "t", Value: value.Text("{,}")},
		"1 set a t \"\x00\r\xff\"":       {At: 1, Kind: 4, Subject: "a", Name: "t", Value: value.Text("\x00\r\xff")},
		"1 set a t \"" + strings.Repeat(" ", 32) + "\"": {At: 1, Kind: 4, Subject: "a", Name: "t", Value: value.Text(strings.Repeat(" ", 32))},
		"1 set a l {}":                        {At: 1, Kind: 4, Subject: "a", Name: "l", Value: value.Set()},
		"1 set a l {\"\"}":                    {At: 1, Kind: 4, Subject: "a", Name: "l", Value: value.Set("")},
		"1 set a l {\"a\",\"b c\"}":           {At: 1, Kind: 4, Subject: "a", Name: "l", Value: value.Set("a", "b c")},
		"1 set a l {\"\",\",\",\",,\",\"}\"}": {At: 1, Kind: 4, Subject: "a", Name: "l", Value: value.Set("", ",", ",,", "}")},
		"1 set a l {\"1\",\"2\",\"3\",\"4\",\"5\",\"6\",\"7\",\"8\"}": {At: 1, Kind: 4, Subject: "a", Name: "l", Value: value.Set("1", "2", "3", "4", "5", "6", "7", "8")},
	}
}

// like tells whether two events are alike.
func like(a, b api.Event) bool {
	same := value.Same(a.Value, b.Value)
	a.Value, b.Value = api.Value{}, api.Value{}
	return same && reflect.DeepEqual(a, b)
}

func TestLines(t *testing.T) {
	for want, e := range lines() {
		if got, err := script.Line(e); err != api.OK || got != want {
			t.Errorf("P28.1: Line(%v): %q %d, not %q", e, got, err, want)
		}
		if got, err := script.Parse(want); err != api.OK || !like(got, e) {
			t.Errorf("P28.2: Parse(%q): %v %d", want, got, err)
		}
	}
}

func TestLineErrors(t *testing.T) {
	for _, c := range []struct {
		e    api.Event
		want api.Errno
	}{
		{api.Event{}, api.ErrKind},
		{api.Event{Kind: 6, At: -1}, api.ErrKind},
		{api.Event{Kind: 5, At: -1}, api.ErrRange},
		{api.Event{Kind: 3, Id: 64}, api.ErrRange},
		{api.Event{Kind: 5, Id: 64}, api.ErrRange},
		{api.Event{Kind: 5, Id: 1}, api.ErrSyntax},
		{api.Event{Kind: 4, Id: 63, Subject: "a", Name: "n", Value: value.Int(1)}, api.ErrSyntax},
		{api.Event{Kind: 2, Name: "a b"}, api.ErrSyntax},
		{api.Event{Kind: 4, Subject: "a", Name: "t", Value: value.Text("a\"b")}, api.ErrSyntax},
		{api.Event{Kind: 4, Subject: "a", Name: "t", Value: value.Text("\n")}, api.ErrSyntax},
		{api.Event{Kind: 4, Subject: "a", Name: "l", Value: value.Set("a", "b\n")}, api.ErrSyntax},
		{api.Event{Kind: 4, Subject: "a", Name: "l", Value: value.Set("\"")}, api.ErrSyntax},
	} {
		if got, err := script.Line(c.e); got != "" || err != c.want {
			t.Errorf("P28.1: Line(%v): %q %d, not %d", c.e, got, err, c.want)
		}
		if got, err := script.All([]api.Event{{Kind: 5}, c.e, {Kind: 9}}); got != "" || err != c.want {
			t.Errorf("P28.1: All with %v: %q %d, not %d", c.e, got, err, c.want)
		}
	}
}

// none are texts that are no event's line.
func none() []string {
	return []string{
		"", " ", "5", "tick", "5 ", "5  tick", " 5 tick", "5 tick ", "5 tick\n", "5\ttick", "5 tick tick", "05 tick", "-5 tick", "+5 tick", "-0 tick", "x tick", "5 Tick", "5 tock", "9223372036854775808 tick",
		"5 end", "5 end ", "5 end 64", "5 end -1", "5 end 01", "5 end x", "5 end 1 ", "5 end 1 1", "5 end 18446744073709551617",
		"5 use 1", "5 use 1 ", "5 use 1 1x", "5 use 1 a b", "5 use  1 a", "5 use a 1", "5 use 1 " + strings.Repeat("n", 17),
		"5 try 1 a b", "5 try 1 a b ", "5 try 1 a b r ", "5 try 1 a b r x", "5 try 1 a  r", "5 try a 1 b r", "5 try 1 a b \"r\"",
		"5 set", "5 set a", "5 set a n", "5 set a n ", "5 set a n  1", "5 set a n 1 ", "5 set a n 01", "5 set a n -0", "5 set a n +1", "5 set a n --1", "5 set a n 1_0", "5 set a n 0x1", "5 set a n 9223372036854775808", "5 set a n -9223372036854775809",
		"5 set a n True", "5 set a n true false", "5 set 1 n 1", "5 set a 1 1", "5 set a n n",
		"5 set a t \"", "5 set a t \"a", "5 set a t a\"", "5 set a t \"a\" ", "5 set a t  \"a\"", "5 set a t \"a\"b\"", "5 set a t \"a\nb\"", "5 set a t 'a'", "5 set a t \"" + strings.Repeat("x", 33) + "\"",
		"5 set a l {", "5 set a l }", "5 set a l { }", "5 set a l {\"}", "5 set a l {a}", "5 set a l {\"a\" }", "5 set a l {\"a\", \"b\"}", "5 set a l {\"a\",}", "5 set a l {,}", "5 set a l {\"b\",\"a\"}", "5 set a l {\"a\",\"a\"}", "5 set a l {\"a\"b\"}", "5 set a l {\"a\nb\"}",
		"5 set a l {\"1\",\"2\",\"3\",\"4\",\"5\",\"6\",\"7\",\"8\",\"9\"}", "5 set a l {\"" + strings.Repeat("x", 33) + "\"}", "5 set a l {\"\"", "5 set a l {\"\",\"\"}",
	}
}

func TestParseErrors(t *testing.T) {
	for _, s := range none() {
		if got, err := script.Parse(s); err != api.ErrSyntax || !like(got, api.Event{}) {
			t.Errorf("P28.1: Parse(%q): %v %d", s, got, err)
		}
	}
}

func TestAllAndRead(t *testing.T) {
	var l []api.Event
	want := ""
	for s, e := range lines() {
		l = append(l, e)
		want += s + "\n"
	}
	got, err := script.All(l)
	if err != api.OK || got != want {
		t.Errorf("P28.1: All: %q %d", got, err)
	}
	back, err := script.Read(got)
	if err != api.OK || !slices.EqualFunc(back, l, like) {
		t.Errorf("P28.2: Read: %v %d", back, err)
	}
	if got, err := script.All(nil); got != "" || err != api.OK {
		t.Errorf("P28.1: All of none: %q %d", got, err)
	}
	if back, err := script.Read(""); len(back) != 0 || err != api.OK {
		t.Errorf("P28.1: Read of nothing: %v %d", back, err)
	}
}

func TestReadErrors(t *testing.T) {
	long := strings.Repeat("1 set a t \""+strings.Repeat("x", 32)+"\"\n", 1500)
	for name, c := range map[string]struct {
		s    string
		want api.Errno
	}{
		"no line feed":          {"5 tick", api.ErrSyntax},
		"an empty line":         {"\n", api.ErrSyntax},
		"an empty line behind":  {"5 tick\n\n", api.ErrSyntax},
		"a wrong line":          {"5 tick\n5 tock\n", api.ErrSyntax},
		"no line feed at last":  {"5 tick\n5 tick", api.ErrSyntax},
		"returns":               {"5 tick\r\n", api.ErrSyntax},
		"too many":              {strings.Repeat("5 tick\n", 257), api.ErrCount},
		"syntax ahead of count": {strings.Repeat("5 tick\n", 300) + "x\n", api.ErrSyntax},
		"2^16 octets":           {long[:1<<16-1] + "\n", api.ErrSyntax},
		"too long":              {long[:1<<16] + "\n", api.ErrLong},
		"too long, wrong":       {strings.Repeat("x", 1<<16+1), api.ErrLong},
	} {
		if got, err := script.Read(c.s); len(got) != 0 || err != c.want {
			t.Errorf("P28.1: Read of %s: %d, not %d", name, err, c.want)
		}
	}
	if got, err := script.Read(strings.Repeat("5 tick\n", 256)); len(got) != 256 || err != api.OK {
		t.Errorf("P28.1: Read of 256 lines: %d %d", len(got), err)
	}
}

// TestKept: events are not changed.
func TestKept(t *testing.T) {
	e := api.Event{At: 1, Kind: 4, Subject: "a", Name: "l", Value: value.Set("a", "b")}
	s, _ := script.Line(e)
	script.All([]api.Event{e})
	if !slices.Equal(e.Value.L, []string{"a", "b"}) {
		t.Error("P2: Line changed its event")
	}
	one, _ := script.Parse(s)
	clear(one.Value.L)
	if two, _ := script.Parse(s); two.Value.L[0] != "a" {
		t.Error("P2: Parse shares memory")
	}
}
