package table_test

import (
	"reflect"
	"slices"
	"testing"

	"beadle/api"
	"beadle/ast"
	"beadle/parse"
	"beadle/table"
)

// expr is the expression of a text.
func expr(t *testing.T, s string) api.Expr {
	t.Helper()
	e, err := parse.Expr(s)
	if err != nil {
		t.Fatal(s, err)
	}
	return e
}

// like tells whether two tables are alike; nil and empty lists are one.
func like(a, b []table.Row) bool {
	return slices.EqualFunc(a, b, func(x, y table.Row) bool {
		return x.Kind == y.Kind && x.Name == y.Name && x.N == y.N && x.Lo == y.Lo && x.Hi == y.Hi && slices.Equal(x.Set, y.Set) && slices.Equal(x.Kids, y.Kids)
	})
}

func TestOf(t *testing.T) {
	for s, want := range map[string][]table.Row{
		"s.a + 1":        {{Kind: api.Subject, Name: "a"}, {Kind: api.Int, N: 1}, {Kind: api.Add, Kids: []int{0, 1}}},
		"now":            {{Kind: api.Now}},
		"{}":             {{Kind: api.Set}},
		"{\"a\", \"b\"}": {{Kind: api.Set, Set: []string{"a", "b"}}},
		"(true or o.b) and once[1,*](times(x, 4) = 2)": {
			{Kind: api.Bool, N: 1}, {Kind: api.Object, Name: "b"}, {Kind: api.Or, Kids: []int{0, 1}},
			{Kind: api.Times, Name: "x", Hi: 4}, {Kind: api.Int, N: 2}, {Kind: api.Eq, Kids: []int{3, 4}},
			{Kind: api.Once, Lo: 1, Hi: -1, Kids: []int{5}}, {Kind: api.And, Kids: []int{2, 6}},
		},
	} {
		if got := table.Of(expr(t, s)); !like(got, want) {
			t.Errorf("P13.1: Of(%s): %v, not %v", s, got, want)
		}
		if got := table.Check(want); got != api.OK {
			t.Errorf("P13.1: Check of %s: %d", s, got)
		}
	}
	for _, e := range []api.Expr{{}, {Kind: api.Int, N: -1}, {Kind: api.Not}, {Kind: api.Not, Kids: []api.Expr{{}}}} {
		if len(table.Of(e)) != 0 {
			t.Errorf("P13.1: Of(%v), which may not be", e)
		}
	}
}

func TestBack(t *testing.T) {
	for _, s := range []string{"1", "{}", "{\"a\"}", "s.a + 1", "not (\"a\" in {\"a\", \"b\"})", "since[0,5](prev(true), hist[2,*](act(a))) or len(o.t) * -2 <= now"} {
		e := expr(t, s)
		l := table.Of(e)
		got, err := table.Back(l)
		if err != api.OK || !ast.Same(got, e) {
			t.Errorf("P13.2: %s: %v %d", s, got, err)
		}
		if again := table.Of(got); !like(again, l) {
			t.Errorf("P13.2: %s: the table of what came back", s)
		}
	}
}

func TestNone(t *testing.T) {
	one := table.Row{Kind: api.Int, N: 1}
	deep := []table.Row{{Kind: api.Bool}}
	for i := range 12 {
		deep = append(deep, table.Row{Kind: api.Not, Kids: []int{i}})
	}
	wide := []table.Row{}
	for range 33 {
		wide = append(wide, one)
	}
	for i := range 32 {
		wide = append(wide, table.Row{Kind: api.Add, Kids: []int{i, i + 1}})
	}
	for name, l := range map[string][]table.Row{
		"no rows":                           nil,
		"no kind":                           {{}},
		"kind 26":                           {{Kind: 26}},
		"-1":                                {{Kind: api.Int, N: -1}},
		"two roots":                         {one, one},
		"kids the other way round":          {one, one, {Kind: api.Add, Kids: []int{1, 0}}},
		"one kid twice":                     {one, {Kind: api.Add, Kids: []int{0, 0}}},
		"one kid of two":                    {one, one, {Kind: api.Add, Kids: []int{1}}},
		"three kids":                        {one, one, one, {Kind: api.Add, Kids: []int{0, 1, 2}}},
		"a kid behind":                      {{Kind: api.Neg, Kids: []int{1}}, one},
		"itself as a kid":                   {{Kind: api.Neg, Kids: []int{0}}},
		"a kid below 0":                     {one, {Kind: api.Neg, Kids: []int{-1}}},
		"a kid that is not there":           {one, {Kind: api.Neg, Kids: []int{7}}},
		"the root at first":                 {{Kind: api.Add, Kids: []int{1, 2}}, one, one},
		"a part used twice":                 {one, {Kind: api.Neg, Kids: []int{0}}, {Kind: api.Add, Kids: []int{0, 1}}},
		"a part left":                       {one, one, {Kind: api.Neg, Kids: []int{1}}},
		"a part passed over":                {one, one, {Kind: api.Neg, Kids: []int{0}}},
		"not in order":                      {one, one, {Kind: api.Neg, Kids: []int{0}}, {Kind: api.Add, Kids: []int{2, 1}}},
		"a kid of a leaf":                   {{Kind: api.Now, Kids: []int{0}}},
		"a kid of a leaf, too few rows":     {one, {Kind: api.Now, Kids: []int{0, 0}}},
		"a kid of a leaf, within":           {one, {Kind: api.Now, Kids: []int{5}}, {Kind: api.Add, Kids: []int{0, 1}}},
		"texts of no set":                   {{Kind: api.Int, N: 1, Set: []string{"a"}}},
		"texts that fall":                   {{Kind: api.Set, Set: []string{"b", "a"}}},
		"one text twice":                    {{Kind: api.Set, Set: []string{"a", "a"}}},
		"a text that is not plain":          {{Kind: api.Set, Set: []string{"\""}}},
		"too many texts":                    {{Kind: api.Set, Set: make([]string, 9)}},
		"rows of a set":                     {{Kind: api.Text}, {Kind: api.Set, Kids: []int{0}}},
		"rows of a set, and a text of them": {{Kind: api.Text}, {Kind: api.Set, Set: []string{""}, Kids: []int{0}}},
		"a field too many":                  {{Kind: api.Now, Lo: 1}},
		"too deep":                          deep,
		"too many":                          wide,
		"very many":                         make([]table.Row, 100000),
	} {
		e, err := table.Back(l)
		if err != api.ErrSyntax || !reflect.DeepEqual(e, api.Expr{}) {
			t.Errorf("P13.1: Back of %s: %v %d", name, e, err)
		}
		if got := table.Check(l); got != api.ErrSyntax {
			t.Errorf("P13.1: Check of %s: %d", name, got)
		}
	}
	if table.Check(deep[:12]) != api.OK {
		t.Error("P13.1: the deepest")
	}
	most := expr(t, "true")
	for range 5 {
		most = api.Expr{Kind: api.And, Kids: []api.Expr{most, most}}
	}
	most = api.Expr{Kind: api.Not, Kids: []api.Expr{most}}
	if l := table.Of(most); len(l) != 64 || table.Check(l) != api.OK {
		t.Errorf("P13.2: the greatest: %d rows", len(l))
	}
}

// TestApart: tables and expressions share nothing.
func TestApart(t *testing.T) {
	e := expr(t, "\"a\" in {\"a\", \"b\"} and not true")
	was := ast.Clone(e)
	l := table.Of(e)
	back, _ := table.Back(l)
	again := table.Of(e)
	for i := range l {
		clear(l[i].Set)
		clear(l[i].Kids)
	}
	if !ast.Same(e, was) || !ast.Same(back, was) || table.Check(again) != api.OK {
		t.Error("P2: a table shares memory")
	}
	back.Kids[0].Kids[1].Kids[0].Name = "z"
	if !ast.Same(e, was) || table.Check(again) != api.OK {
		t.Error("P2: an expression shares memory")
	}
}
