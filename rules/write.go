package rules

import (
	"strconv"
	"strings"
)

// Write writes rules in order, a line each (P5).
func Write(list []Rule) string {
	var out strings.Builder
	for _, rule := range list {
		writeRule(&out, rule)
	}
	return out.String()
}

func writeRule(out *strings.Builder, rule Rule) {
	writeAtom(out, rule.Head)
	for i, atom := range rule.Body {
		if i == 0 {
			out.WriteString(" :- ")
		} else {
			out.WriteString(", ")
		}
		writeAtom(out, atom)
	}
	out.WriteString(".\n")
}

func writeAtom(out *strings.Builder, atom Atom) {
	out.WriteString(atom.Relation)
	out.WriteByte('(')
	for i, term := range atom.Args {
		if i > 0 {
			out.WriteByte(',')
		}
		writeTerm(out, term)
	}
	out.WriteByte(')')
}

func writeTerm(out *strings.Builder, term Term) {
	if !term.IsVariable() {
		out.WriteString(term.Name)
		return
	}
	out.WriteByte('X')
	out.WriteString(strconv.Itoa(term.Number))
}
