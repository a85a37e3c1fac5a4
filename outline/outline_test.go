package outline_test

import (
	"slices"
	"testing"

	"beadle/api"
	"beadle/outline"
	"beadle/policy"
	"beadle/record"
	"beadle/value"
)

func TestValue(t *testing.T) {
	for _, c := range []struct {
		v    api.Value
		want string
	}{
		{value.Int(-1 << 63), "-9223372036854775808"}, {value.Int(0), "0"}, {value.Bool(true), "true"}, {value.Bool(false), "false"},
		{value.Text("a \"b\""), "a \"b\""}, {value.Text(""), ""}, {value.Set(), ""}, {value.Set("a"), "a"}, {value.Set("b", "a", "c d"), "a,b,c d"},
		{api.Value{}, ""}, {api.Value{Kind: 5, N: 7, S: "x"}, ""}, {api.Value{Kind: -1}, ""},
	} {
		if got := outline.Value(c.v); got != c.want {
			t.Errorf("P37.1: Value(%v): %q, not %q", c.v, got, c.want)
		}
	}
}

func TestVerdict(t *testing.T) {
	for want, v := range map[string]api.Verdict{
		"3 grant":     {Id: 3, Kind: 1},
		"0 deny 34":   {Kind: 2, Code: api.ErrDenied},
		"63 go":       {Id: 63, Kind: 3},
		"1 revoke 35": {Id: 1, Kind: 4, Code: api.ErrLate},
		"1 end":       {Id: 1, Kind: 5},
		"1 end 9":     {Id: 1, Kind: 5, Code: 9},
		"-1 0":        {Id: -1},
		"1 6 -2":      {Id: 1, Kind: 6, Code: -2},
		"1 -1":        {Id: 1, Kind: -1},
		"1 1000":      {Id: 1, Kind: 1000},
	} {
		if got := outline.Verdict(v); got != want {
			t.Errorf("P37.1: Verdict(%v): %q, not %q", v, got, want)
		}
	}
}

func TestRecord(t *testing.T) {
	for want, r := range map[string]record.Record{
		"0":                       {},
		"16":                      {Code: api.ErrSyntax},
		"0; 3 grant":              {Verdicts: []api.Verdict{{Id: 3, Kind: 1}}},
		"0; 3 grant; 2 revoke 34": {Verdicts: []api.Verdict{{Id: 3, Kind: 1}, {Id: 2, Kind: 4, Code: 34}}},
		"-5; 0 0":                 {Code: -5, Verdicts: []api.Verdict{{}}},
	} {
		if got := outline.Record(r); got != want {
			t.Errorf("P37.1: Record(%v): %q, not %q", r, got, want)
		}
	}
}

func TestRight(t *testing.T) {
	for s, want := range map[string][]string{
		"right r { }":                     {"r"},
		"right r { pre true; on false; }": {"r", "on false"},
		"right r { pre s.n < 3; }":        {"r", "pre (s.n < 3)"},
		"right r { pre not true; on s.n < 3 and now < 5; before s.n := 1; before s.n := 2; during s.n := 3; after o.n := 4; duty d act a within 1; duty e on x act a within 2; duty f act a within 3; }": {
			"r", "pre not true", "on ((s.n < 3) and (now < 5))", "before 2", "during 1", "after 1", "duties 3"},
	} {
		p, err := policy.Parse("attr n int; " + s)
		if err != nil {
			t.Fatal(s, err)
		}
		got := outline.Right(p.Rights[0])
		if !slices.Equal(got, want) {
			t.Errorf("P37.1: Right(%s): %q, not %q", s, got, want)
		}
		clear(got)
		if again := outline.Right(p.Rights[0]); !slices.Equal(again, want) {
			t.Error("P2: Right shares memory")
		}
	}
	if got := outline.Right(api.Right{Name: "x"}); len(got) == 0 || got[0] != "x" {
		t.Errorf("P37.1: Right of nothing: %q", got)
	}
}
