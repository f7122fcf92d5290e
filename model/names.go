package model

import (
	"ebb/api"
	"ebb/rules"
)

// names are put for the variables of a rule, by their numbers; empty where none is put yet. There is room for all variables of a body, and the head of a rule that was checked has no others.
type names [api.MaxArgs * api.MaxBody]string

func (n names) of(term rules.Term) string {
	if term.IsVariable() {
		return n[term.Number]
	}
	return term.Name
}

// ground puts the names into an atom; all of its variables must have one.
func (n names) ground(atom rules.Atom) Ground {
	ground := Ground{Relation: atom.Relation}
	for i, term := range atom.Args {
		ground.Thing[i] = n.of(term)
	}
	return ground
}

// match puts more names, so that the atom's arguments are the thing, or tells that they cannot be.
func (n names) match(atom rules.Atom, thing Thing) (names, bool) {
	for i, term := range atom.Args {
		if term.IsVariable() && n[term.Number] == "" {
			n[term.Number] = thing[i]
		}
		if n.of(term) != thing[i] {
			return names{}, false
		}
	}
	return n, true
}
