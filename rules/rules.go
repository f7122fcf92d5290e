// Package rules reads rules from a text, checks them and writes them in order.
package rules

import "iter"

// Term is an argument of an atom: a variable, or else a name.
type Term struct {
	Text     string
	Variable bool
}

// Atom is a relation with its arguments.
type Atom struct {
	Relation string
	Args     []Term
}

// Rule says that its head follows from all of its body.
type Rule struct {
	Head Atom
	Body []Atom
}

// Atoms goes through the head and then the body: the order in which they are written.
func (r Rule) Atoms() iter.Seq[Atom] {
	return func(yield func(Atom) bool) {
		if !yield(r.Head) {
			return
		}
		for _, atom := range r.Body {
			if !yield(atom) {
				return
			}
		}
	}
}

// Args goes through the arguments of all atoms, as they are written.
func (r Rule) Args() iter.Seq[Term] {
	return func(yield func(Term) bool) {
		for atom := range r.Atoms() {
			for _, term := range atom.Args {
				if !yield(term) {
					return
				}
			}
		}
	}
}
