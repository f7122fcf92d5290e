// Package model makes the least model of rules and facts, and goes through what it holds.
package model

import (
	"iter"
	"slices"
	"strings"

	"ebb/api"
	"ebb/rules"
)

// Thing is the arguments of a ground atom; where there is one alone, the second is empty.
type Thing [api.MaxArgs]string

// Ground is a ground atom.
type Ground struct {
	Relation string
	Thing    Thing
}

// Of tells the ground atom that an atom without variables is.
func Of(atom rules.Atom) Ground {
	return names{}.ground(atom)
}

// Text writes the atom without blanks.
func (g Ground) Text() string {
	args := g.Thing[:]
	if args[1] == "" {
		args = args[:1]
	}
	return g.Relation + "(" + strings.Join(args, ",") + ")"
}

// Texts tells the texts of ground atoms, in order.
func Texts(grounds iter.Seq[Ground]) []string {
	var texts []string
	for ground := range grounds {
		texts = append(texts, ground.Text())
	}
	slices.Sort(texts)
	return texts
}

// Lasting is a ground atom that holds until its end.
type Lasting struct {
	Ground Ground
	End    int
}

// Model is a set of ground atoms: the things of each relation, and their ends.
type Model map[string]map[Thing]int

// Has tells whether the atom is one of the set.
func (m Model) Has(ground Ground) bool {
	_, ok := m[ground.Relation][ground.Thing]
	return ok
}

// End tells until when the atom holds; 0, if it is not one of the set.
func (m Model) End(ground Ground) int {
	return m[ground.Relation][ground.Thing]
}

func (m Model) add(lasting Lasting) {
	relation := lasting.Ground.Relation
	if m[relation] == nil {
		m[relation] = map[Thing]int{}
	}
	m[relation][lasting.Ground.Thing] = lasting.End
}

// Fits goes through all ground atoms of the model that come of an atom by putting names for its variables.
func (m Model) Fits(atom rules.Atom) iter.Seq[Ground] {
	return func(yield func(Ground) bool) {
		for put := range m.extend(atom, names{}) {
			if !yield(put.ground(atom)) {
				return
			}
		}
	}
}

// Beyond goes through all that Fits does and that another model has not.
func (m Model) Beyond(other Model, atom rules.Atom) iter.Seq[Ground] {
	return func(yield func(Ground) bool) {
		for ground := range m.Fits(atom) {
			if !other.Has(ground) && !yield(ground) {
				return
			}
		}
	}
}

// extend goes through all names for the variables of an atom with which the model has it; those that are put already stay.
func (m Model) extend(atom rules.Atom, put names) iter.Seq[names] {
	return func(yield func(names) bool) {
		for thing := range m[atom.Relation] {
			if all, ok := put.match(atom, thing); ok && !yield(all) {
				return
			}
		}
	}
}

// join goes through all names for the variables of atoms with which the model has all of them; those that are put already stay.
func (m Model) join(atoms []rules.Atom, put names) iter.Seq[names] {
	return func(yield func(names) bool) {
		if len(atoms) == 0 {
			yield(put)
			return
		}
		for more := range m.extend(atoms[0], put) {
			for all := range m.join(atoms[1:], more) {
				if !yield(all) {
					return
				}
			}
		}
	}
}
