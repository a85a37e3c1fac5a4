package policy

import (
	"strings"

	"beadle/api"
	"beadle/num"
	"beadle/print"
)

// writer is what a policy's text is put to.
type writer struct {
	strings.Builder
}

// Print tells a policy's text.
func Print(p api.Policy) string {
	var w writer
	for _, d := range p.Decls {
		w.line("attr", d.Name, kind(d.Kind))
	}
	for _, r := range p.Rights {
		w.right(r)
	}
	return w.String()
}

// line puts parts with blanks between, and the end of what they are.
func (w *writer) line(parts ...string) {
	w.WriteString(strings.Join(parts, " "))
	w.WriteString(";\n")
}

// clause puts a right's clause.
func (w *writer) clause(parts ...string) {
	w.WriteString("  ")
	w.line(parts...)
}

// right puts a right.
func (w *writer) right(r api.Right) {
	w.WriteString("right " + r.Name + " {\n")
	w.clause("pre", print.Expr(r.Pre))
	w.clause("on", print.Expr(r.On))
	w.updates("before", r.Before)
	w.updates("during", r.During)
	w.updates("after", r.After)
	for _, d := range r.Duties {
		w.clause(duty(d)...)
	}
	w.WriteString("}\n")
}

// updates puts updates that are all of one kind.
func (w *writer) updates(when string, l []api.Update) {
	for _, u := range l {
		side := "o."
		if u.Side == api.Subject {
			side = "s."
		}
		w.clause(when, side+u.Name, ":=", print.Expr(u.To))
	}
}

// duty tells a duty's parts.
func duty(d api.Duty) []string {
	parts := []string{"duty", d.Name}
	if d.On != "" {
		parts = append(parts, "on", d.On)
	}
	parts = append(parts, "act", d.Act, "within", num.Decimal(d.Within))
	if d.Keep {
		parts = append(parts, "keep")
	}
	return parts
}

// kind tells the word of an attribute's kind.
func kind(k int) string {
	switch k {
	case api.Int:
		return "int"
	case api.Bool:
		return "bool"
	case api.Text:
		return "text"
	case api.Set:
		return "set"
	}
	return ""
}
