// Package rules reads rules from a text, checks them and writes them in order.
package rules

import (
	"iter"
	"slices"
)

// Term is an argument of an atom: a name, or else a variable.
type Term struct {
	Name   string // empty for a variable
	Number int    // of a variable: how many others stand ahead of it in its rule
}

// IsVariable tells whether a name is yet to be put for the term.
func (t Term) IsVariable() bool {
	return t.Name == ""
}

// Atom is a relation with its arguments.
type Atom struct {
	Relation string
	Args     []Term
}

// IsGround tells whether the atom is without variables.
func (a Atom) IsGround() bool {
	return !slices.ContainsFunc(a.Args, Term.IsVariable)
}

// Form makes the atom that all of a relation with so many arguments come of: each argument is a variable of its own.
func Form(relation string, arity int) Atom {
	form := Atom{Relation: relation}
	for number := range arity {
		form.Args = append(form.Args, Term{Number: number})
	}
	return form
}

// Rule says that its head follows from all of its body.
type Rule struct {
	Head Atom
	Body []Atom
}

// Atoms goes through the head and then the body: the order in which they are written.
func (r Rule) Atoms() iter.Seq[Atom] {
	return func(yield func(Atom) bool) {
		if !yield(r.Head) {
			return
		}
		for _, atom := range r.Body {
			if !yield(atom) {
				return
			}
		}
	}
}

// Args goes through the arguments of all atoms, as they are written.
func (r Rule) Args() iter.Seq[Term] {
	return func(yield func(Term) bool) {
		for atom := range r.Atoms() {
			for _, term := range atom.Args {
				if !yield(term) {
					return
				}
			}
		}
	}
}

// Arity tells how many arguments a relation has in rules that were checked, or 0 if none has the relation.
func Arity(list []Rule, relation string) int {
	for _, rule := range list {
		for atom := range rule.Atoms() {
			if atom.Relation == relation {
				return len(atom.Args)
			}
		}
	}
	return 0
}

// IsDerived tells whether a relation is the head of some rule.
func IsDerived(list []Rule, relation string) bool {
	return slices.ContainsFunc(list, func(rule Rule) bool { return rule.Head.Relation == relation })
}

// AddNames appends those names of the terms that are not in the list yet, each once.
func AddNames(names []string, terms iter.Seq[Term]) []string {
	for term := range terms {
		if !term.IsVariable() && !slices.Contains(names, term.Name) {
			names = append(names, term.Name)
		}
	}
	return names
}
