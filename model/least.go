package model

import (
	"cmp"
	"iter"
	"slices"

	"ebb/api"
	"ebb/rules"
)

// Least makes the least model of rules and of facts (P8). Each of its atoms has the greatest end up to which it follows from facts that have not ended (P10).
func Least(list []rules.Rule, facts []Lasting) Model {
	m := Model{}
	// The last that waits always lasts longest, so what is first reached by it has its end, and no later way to it can have a greater one.
	waiting := slices.SortedFunc(slices.Values(facts), func(a, b Lasting) int { return cmp.Compare(a.End, b.End) })
	waiting = slices.AppendSeq(waiting, given(list))
	for len(waiting) > 0 {
		last := len(waiting) - 1
		next := waiting[last]
		waiting = waiting[:last]
		if m.Has(next.Ground) {
			continue
		}
		m.add(next)
		for head := range m.follow(list, next.Ground) {
			waiting = append(waiting, Lasting{Ground: head, End: next.End})
		}
	}
	return m
}

// given goes through the heads of rules without a body: they hold whatever the facts are, and never end.
func given(list []rules.Rule) iter.Seq[Lasting] {
	return func(yield func(Lasting) bool) {
		for _, rule := range list {
			if len(rule.Body) == 0 && !yield(Lasting{Ground: Of(rule.Head), End: api.Never}) {
				return
			}
		}
	}
}

// follow goes through what is not in the model, but follows from an atom of it together with the others.
func (m Model) follow(list []rules.Rule, ground Ground) iter.Seq[Ground] {
	return func(yield func(Ground) bool) {
		for _, rule := range list {
			for put := range m.uses(rule, ground) {
				head := put.ground(rule.Head)
				if !m.Has(head) && !yield(head) {
					return
				}
			}
		}
	}
}

// uses goes through the names with which the model has a rule's body and one of the body's atoms is the given one.
func (m Model) uses(rule rules.Rule, ground Ground) iter.Seq[names] {
	return func(yield func(names) bool) {
		for i, atom := range rule.Body {
			if atom.Relation != ground.Relation {
				continue
			}
			put, ok := names{}.match(atom, ground.Thing)
			if !ok {
				continue
			}
			others := slices.Concat(rule.Body[:i], rule.Body[i+1:])
			for all := range m.join(others, put) {
				if !yield(all) {
					return
				}
			}
		}
	}
}
