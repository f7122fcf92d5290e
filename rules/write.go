package rules

import (
	"slices"
	"strconv"
	"strings"
)

// Write writes rules in order, a line each (P5).
func Write(list []Rule) string {
	var out strings.Builder
	for _, rule := range list {
		writeRule(&out, rule)
	}
	return out.String()
}

func writeRule(out *strings.Builder, rule Rule) {
	variables := variablesOf(rule)
	writeAtom(out, rule.Head, variables)
	for i, atom := range rule.Body {
		if i == 0 {
			out.WriteString(" :- ")
		} else {
			out.WriteString(", ")
		}
		writeAtom(out, atom, variables)
	}
	out.WriteString(".\n")
}

// variablesOf tells the variables in the order in which they first stand in a rule: a variable's index is its new number.
func variablesOf(rule Rule) []string {
	var variables []string
	for term := range rule.Args() {
		if term.Variable && !slices.Contains(variables, term.Text) {
			variables = append(variables, term.Text)
		}
	}
	return variables
}

func writeAtom(out *strings.Builder, atom Atom, variables []string) {
	out.WriteString(atom.Relation)
	out.WriteByte('(')
	for i, term := range atom.Args {
		if i > 0 {
			out.WriteByte(',')
		}
		writeTerm(out, term, variables)
	}
	out.WriteByte(')')
}

func writeTerm(out *strings.Builder, term Term, variables []string) {
	if !term.Variable {
		out.WriteString(term.Text)
		return
	}
	out.WriteByte('X')
	out.WriteString(strconv.Itoa(slices.Index(variables, term.Text)))
}
