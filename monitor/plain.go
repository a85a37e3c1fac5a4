package monitor

import (
	"beadle/api"
	"beadle/ast"
	"beadle/num"
	"beadle/store"
	"beadle/value"
)

// Plain tells what e is at a moment alone, if its kids are l.
func Plain(e api.Expr, l []api.Value, s *store.Store, x Moment) (api.Value, api.Errno) {
	if len(l) != max(ast.Kids(e.Kind), 0) || ast.Kids(e.Kind) < -1 || ast.Past(api.Expr{Kind: e.Kind}) {
		return api.Value{}, api.ErrState
	}
	switch len(l) {
	case 0:
		return leaf(e, s, x)
	case 1:
		return single(e.Kind, l[0])
	}
	switch e.Kind {
	case api.Add, api.Sub, api.Mul:
		return sum(e.Kind, l[0], l[1])
	case api.And, api.Or:
		return joined(e.Kind, l[0], l[1])
	}
	return held(e.Kind, l[0], l[1])
}

// leaf tells what an expression without kids is.
func leaf(e api.Expr, s *store.Store, x Moment) (api.Value, api.Errno) {
	switch e.Kind {
	case api.Int:
		return value.Int(e.N), api.OK
	case api.Bool:
		return value.Bool(e.N != 0), api.OK
	case api.Text:
		return value.Text(e.Name), api.OK
	case api.Set:
		return setOf(e.Kids), api.OK
	case api.Subject:
		return attribute(s, x.Subject, e.Name)
	case api.Object:
		return attribute(s, x.Object, e.Name)
	case api.Now:
		return value.Int(max(x.At, 0)), api.OK
	}
	return value.Bool(isAct(e, x)), api.OK
}

// setOf tells the set of texts.
func setOf(kids []api.Expr) api.Value {
	var l []string
	for _, k := range kids {
		l = append(l, k.Name)
	}
	return value.Set(l...)
}

// attribute tells an entity's attribute.
func attribute(s *store.Store, entity string, name string) (api.Value, api.Errno) {
	v, ok := s.Get(entity, name)
	if !ok {
		return api.Value{}, api.ErrNone
	}
	return v, api.OK
}

// single tells what Neg, Len, Not is of a value.
func single(kind int, v api.Value) (api.Value, api.Errno) {
	switch {
	case kind == api.Neg && v.Kind == api.Int:
		return number(num.Neg(v.N))
	case kind == api.Len && (v.Kind == api.Text || v.Kind == api.Set):
		return value.Int(value.Size(v)), api.OK
	case kind == api.Not && v.Kind == api.Bool:
		return value.Bool(v.N == 0), api.OK
	}
	return api.Value{}, api.ErrType
}

// number tells the value of a number, if it is one.
func number(n int64, ok bool) (api.Value, api.Errno) {
	if !ok {
		return api.Value{}, api.ErrOver
	}
	return value.Int(n), api.OK
}

// sum tells what Add, Sub, Mul is of two values.
func sum(kind int, a api.Value, b api.Value) (api.Value, api.Errno) {
	if a.Kind != api.Int || b.Kind != api.Int {
		return api.Value{}, api.ErrType
	}
	switch kind {
	case api.Add:
		return number(num.Add(a.N, b.N))
	case api.Sub:
		return number(num.Sub(a.N, b.N))
	}
	return number(num.Mul(a.N, b.N))
}

// joined tells what And, Or is of two values.
func joined(kind int, a api.Value, b api.Value) (api.Value, api.Errno) {
	if a.Kind != api.Bool || b.Kind != api.Bool {
		return api.Value{}, api.ErrType
	}
	if kind == api.And {
		return value.Bool(a.N != 0 && b.N != 0), api.OK
	}
	return value.Bool(a.N != 0 || b.N != 0), api.OK
}

// held tells what Eq, Lt, Le, In is of two values.
func held(kind int, a api.Value, b api.Value) (api.Value, api.Errno) {
	ordered := a.Kind == b.Kind && (a.Kind == api.Int || a.Kind == api.Text)
	switch {
	case kind == api.Eq && a.Kind == b.Kind:
		return value.Bool(value.Same(a, b)), api.OK
	case kind == api.Lt && ordered:
		return value.Bool(value.Cmp(a, b) < 0), api.OK
	case kind == api.Le && ordered:
		return value.Bool(value.Cmp(a, b) <= 0), api.OK
	case kind == api.In && a.Kind == api.Text && b.Kind == api.Set:
		return value.Bool(value.Has(b, a.S)), api.OK
	}
	return api.Value{}, api.ErrType
}
