package model

import (
	"iter"
	"slices"

	"ebb/rules"
)

// Least makes the least model of rules and of facts (P8).
func Least(list []rules.Rule, facts []Ground) Model {
	m := Model{}
	waiting := slices.AppendSeq(slices.Clone(facts), given(list))
	for len(waiting) > 0 {
		last := len(waiting) - 1
		ground := waiting[last]
		waiting = waiting[:last]
		if m.Has(ground) {
			continue
		}
		m.add(ground)
		waiting = slices.AppendSeq(waiting, m.follow(list, ground))
	}
	return m
}

// given goes through the heads of rules without a body: they hold whatever the facts are.
func given(list []rules.Rule) iter.Seq[Ground] {
	return func(yield func(Ground) bool) {
		for _, rule := range list {
			if len(rule.Body) == 0 && !yield(Of(rule.Head)) {
				return
			}
		}
	}
}

// follow goes through what is not in the model, but follows from an atom of it together with the others.
func (m Model) follow(list []rules.Rule, ground Ground) iter.Seq[Ground] {
	return func(yield func(Ground) bool) {
		for _, rule := range list {
			for put := range m.uses(rule, ground) {
				head := put.ground(rule.Head)
				if !m.Has(head) && !yield(head) {
					return
				}
			}
		}
	}
}

// uses goes through the names with which the model has a rule's body and one of the body's atoms is the given one.
func (m Model) uses(rule rules.Rule, ground Ground) iter.Seq[names] {
	return func(yield func(names) bool) {
		for i, atom := range rule.Body {
			if atom.Relation != ground.Relation {
				continue
			}
			put, ok := names{}.match(atom, ground.Thing)
			if !ok {
				continue
			}
			others := slices.Concat(rule.Body[:i], rule.Body[i+1:])
			for all := range m.join(others, put) {
				if !yield(all) {
					return
				}
			}
		}
	}
}
