package rules

import (
	"slices"

	"ebb/api"
)

// check tells the first error of rules that are well written, and the number of its rule (P4).
func check(list []Rule) (api.Errno, int) {
	if number := findArity(list); number >= 0 {
		return api.ErrArity, number
	}
	if number := slices.IndexFunc(list, isUnsafe); number >= 0 {
		return api.ErrSafe, number
	}
	if number := findManyNames(list); number >= 0 {
		return api.ErrSize, number
	}
	return api.OK, 0
}

// findArity tells the first rule with an atom of another number of arguments than one ahead of it, or -1.
func findArity(list []Rule) int {
	arity := map[string]int{}
	for number, rule := range list {
		for atom := range rule.Atoms() {
			known, ok := arity[atom.Relation]
			if ok && known != len(atom.Args) {
				return number
			}
			arity[atom.Relation] = len(atom.Args)
		}
	}
	return -1
}

// isUnsafe tells whether the head has a variable that the body does not bind.
func isUnsafe(rule Rule) bool {
	return slices.ContainsFunc(rule.Head.Args, func(term Term) bool {
		return term.IsVariable() && !slices.ContainsFunc(rule.Body, func(atom Atom) bool {
			return slices.Contains(atom.Args, term)
		})
	})
}

// findManyNames tells the first rule up to which there are too many names, or -1.
func findManyNames(list []Rule) int {
	var names []string
	for number, rule := range list {
		names = AddNames(names, rule.Args())
		if len(names) > api.MaxNames {
			return number
		}
	}
	return -1
}
