package ebb

import (
	"slices"

	"ebb/api"
	"ebb/feeds"
	"ebb/model"
	"ebb/rules"
)

// Engine is rules, and the facts that they are over. Its clock is not kept: the watermark is never below the greatest clock less lateness, so a lesser clock cannot move it.
type Engine struct {
	rules     []rules.Rule
	window    int
	lateness  int
	queue     int // how many records may wait in a feed's queue
	watermark int
	names     []string // that stand in the rules and in all facts that were ever accepted
	kept      []dated
	state     model.Model
	feeds     []*feeds.Feed
}

// dated is a fact with its time.
type dated struct {
	fact model.Ground
	time int
}

// New makes an engine (P6).
func New(text string, window int, lateness int, queue int) (*Engine, api.Errno) {
	list, err, _ := rules.Read(text)
	if err != api.OK {
		return nil, err
	}
	if !isWithin(window, 1, api.MaxSpan) || !isWithin(lateness, 0, api.MaxSpan) || !isWithin(queue, 1, api.MaxQueue) {
		return nil, api.ErrArg
	}
	x := &Engine{rules: list, window: window, lateness: lateness, queue: queue, state: model.Least(list, nil)}
	for _, rule := range list {
		x.names = rules.AddNames(x.names, rule.Args())
	}
	return x, api.OK
}

func isWithin(number, least, most int) bool {
	return least <= number && number <= most
}

// Insert brings a fact with its time (P7).
func (x *Engine) Insert(fact string, time int) api.Errno {
	atom, ok := readGround(fact)
	if !ok {
		return api.ErrText
	}
	if rules.IsDerived(x.rules, atom.Relation) {
		return api.ErrName
	}
	if err := x.checkRelation(atom); err != api.OK {
		return err
	}
	if !isWithin(time, 0, api.MaxTime) {
		return api.ErrArg
	}
	return x.accept(atom, time)
}

// readGround reads a text that is one atom without variables.
func readGround(text string) (rules.Atom, bool) {
	atom, ok := rules.ReadAtom(text)
	return atom, ok && atom.IsGround()
}

// checkRelation tells whether the rules have the atom's relation, with as many arguments.
func (x *Engine) checkRelation(atom rules.Atom) api.Errno {
	switch rules.Arity(x.rules, atom.Relation) {
	case 0:
		return api.ErrName
	case len(atom.Args):
		return api.OK
	}
	return api.ErrArity
}

// accept keeps a fact of a basic relation, if it is not over, not kept already, and has room.
func (x *Engine) accept(atom rules.Atom, time int) api.Errno {
	if x.isOver(time) {
		return api.ErrLate
	}
	brought := dated{fact: model.Of(atom), time: time}
	if slices.Contains(x.kept, brought) {
		return api.ErrTwice
	}
	names := rules.AddNames(slices.Clone(x.names), slices.Values(atom.Args))
	if len(x.kept) == api.MaxFacts || len(names) > api.MaxNames {
		return api.ErrFull
	}
	x.names = names
	x.kept = append(x.kept, brought)
	return api.OK
}

// end tells the end of a fact of this time.
func (x *Engine) end(time int) int {
	return time + x.window
}

// isOver tells whether the watermark has come to the end of a fact of this time.
func (x *Engine) isOver(time int) bool {
	return x.end(time) <= x.watermark
}

// Tick moves the clock, and tells the watermark (P8).
func (x *Engine) Tick(clock int) (int, api.Errno) {
	if !isWithin(clock, 0, api.MaxTime) {
		return 0, api.ErrArg
	}
	if mark := clock - x.lateness; mark > x.watermark {
		x.move(mark)
	}
	return x.watermark, api.OK
}

// move brings the watermark forward, and with it the facts that are kept, the state and the feeds.
func (x *Engine) move(mark int) {
	x.watermark = mark
	x.kept = slices.DeleteFunc(x.kept, func(d dated) bool { return x.isOver(d.time) })
	var facts []model.Lasting
	for _, d := range x.kept {
		if d.time <= mark {
			facts = append(facts, model.Lasting{Ground: d.fact, End: x.end(d.time)})
		}
	}
	before := x.state
	x.state = model.Least(x.rules, facts)
	for _, f := range x.feeds {
		f.Move(before, x.state, mark, x.queue)
	}
}

// Ask tells all that holds of a form (P9).
func (x *Engine) Ask(atom string) ([]string, api.Errno) {
	pattern, ok := rules.ReadAtom(atom)
	if !ok {
		return nil, api.ErrText
	}
	if err := x.checkRelation(pattern); err != api.OK {
		return nil, err
	}
	return model.Texts(x.state.Fits(pattern)), api.OK
}

// Until tells until when something holds, if nothing more comes (P10).
func (x *Engine) Until(fact string) (int, api.Errno) {
	atom, ok := readGround(fact)
	if !ok {
		return 0, api.ErrText
	}
	if err := x.checkRelation(atom); err != api.OK {
		return 0, err
	}
	return x.state.End(model.Of(atom)), api.OK
}

// Subscribe begins a feed (P11).
func (x *Engine) Subscribe(relation string) (int, api.Errno) {
	name, ok := rules.ReadName(relation)
	if !ok {
		return 0, api.ErrText
	}
	arity := rules.Arity(x.rules, name)
	if arity == 0 {
		return 0, api.ErrName
	}
	number := len(x.feeds)
	if number == api.MaxSubs {
		return 0, api.ErrFull
	}
	x.feeds = append(x.feeds, feeds.New(rules.Form(name, arity)))
	return number, api.OK
}

// Poll tells a feed's next record (P11).
func (x *Engine) Poll(feed int) (api.Record, api.Errno) {
	if !isWithin(feed, 0, len(x.feeds)-1) {
		return api.Record{}, api.ErrArg
	}
	return x.feeds[feed].Poll(x.state, x.watermark), api.OK
}
