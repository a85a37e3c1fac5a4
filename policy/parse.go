package policy

import (
	"beadle/api"
	"beadle/fault"
	"beadle/lex"
	"beadle/parse"
)

// The kinds of words (of package lex).
const (
	name = iota + 1
	number
	text
	sign
	end
)

// trouble is what parsing panics with.
type trouble struct {
	err error
}

// words are what is parsed, the end at last, and which comes next.
type words struct {
	l    []lex.Token
	next int
}

// Parse tells the policy of a text.
func Parse(s string) (p api.Policy, err error) {
	l, err := lex.All(s)
	if err != nil {
		return api.Policy{}, err
	}
	defer func() {
		if t, ok := recover().(trouble); ok {
			p, err = api.Policy{}, t.err
		}
	}()
	w := &words{l: l}
	p = w.policy()
	if code := Check(p); code != api.OK {
		return api.Policy{}, fault.New(code, 0)
	}
	return p, nil
}

// fail ends it all at the next word.
func (w *words) fail(code api.Errno) {
	panic(trouble{fault.New(code, w.l[w.next].At)})
}

// took goes behind the next word, if it is of a kind and has these octets.
func (w *words) took(kind int, s string) bool {
	is := w.l[w.next].Kind == kind && w.l[w.next].S == s
	if is {
		w.next++
	}
	return is
}

// want goes behind a word that has to stand here.
func (w *words) want(kind int, s string) {
	if !w.took(kind, s) {
		w.fail(api.ErrSyntax)
	}
}

// word goes behind any word of a kind, which has to stand here.
func (w *words) word(kind int) lex.Token {
	if w.l[w.next].Kind != kind {
		w.fail(api.ErrSyntax)
	}
	w.next++
	return w.l[w.next-1]
}

// one goes behind one of names, and tells which one it is; of none -1.
func (w *words) one(names ...string) int {
	for i, s := range names {
		if w.took(name, s) {
			return i
		}
	}
	return -1
}

// policy takes all words.
func (w *words) policy() api.Policy {
	var p api.Policy
	for w.took(name, "attr") {
		d := api.Decl{Name: w.word(name).S}
		d.Kind = w.one("int", "bool", "text", "set") + api.Int
		if d.Kind < api.Int {
			w.fail(api.ErrSyntax)
		}
		w.want(sign, ";")
		p.Decls = append(p.Decls, d)
	}
	for w.took(name, "right") {
		p.Rights = append(p.Rights, w.right())
	}
	w.word(end)
	return p
}

// right takes a right, behind its first word.
func (w *words) right() api.Right {
	r := api.Right{Name: w.word(name).S}
	w.want(sign, "{")
	for !w.took(sign, "}") {
		w.clause(&r)
		w.want(sign, ";")
	}
	for _, e := range []*api.Expr{&r.Pre, &r.On} {
		if e.Kind == 0 {
			*e = api.Expr{Kind: api.Bool, N: 1}
		}
	}
	return r
}

// clause takes a clause of r, but for its semicolon.
func (w *words) clause(r *api.Right) {
	switch w.one("pre", "on", "before", "during", "after", "duty") {
	case 0:
		w.condition(&r.Pre)
	case 1:
		w.condition(&r.On)
	case 2:
		r.Before = append(r.Before, w.update())
	case 3:
		r.During = append(r.During, w.update())
	case 4:
		r.After = append(r.After, w.update())
	case 5:
		r.Duties = append(r.Duties, w.duty())
	default:
		w.fail(api.ErrSyntax)
	}
}

// condition takes what a right asks for; a second one shows at the word ahead of it.
func (w *words) condition(e *api.Expr) {
	if e.Kind != 0 {
		w.next--
		w.fail(api.ErrTwice)
	}
	*e = w.any()
}

// any takes an expression.
func (w *words) any() api.Expr {
	e, n, err := parse.Take(w.l[w.next:])
	if err != nil {
		panic(trouble{err})
	}
	w.next += n
	return e
}

// update takes what is set, and to what.
func (w *words) update() api.Update {
	u := api.Update{Side: w.one("s", "o") + api.Subject}
	if u.Side < api.Subject {
		w.fail(api.ErrSyntax)
	}
	w.want(sign, ".")
	u.Name = w.word(name).S
	w.want(sign, ":=")
	u.To = w.any()
	return u
}

// duty takes a duty, behind its first word.
func (w *words) duty() api.Duty {
	d := api.Duty{Name: w.word(name).S}
	if w.took(name, "on") {
		d.On = w.word(name).S
	}
	w.want(name, "act")
	d.Act = w.word(name).S
	w.want(name, "within")
	d.Within = w.word(number).N
	d.Keep = w.took(name, "keep")
	return d
}
