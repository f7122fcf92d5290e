// Package feeds tells the records of what comes to a relation and what goes from it.
package feeds

import (
	"iter"
	"slices"

	"ebb/api"
	"ebb/model"
	"ebb/rules"
)

// Feed is the records of all that fits a form, as far as they are yet to be told. A record has its number only when it is told, for those that are dropped use none.
type Feed struct {
	form     rules.Atom
	behind   bool
	snapshot []api.Record // told ahead of the queue
	queue    []api.Record
	told     int
}

// New makes a feed that is behind, so that it begins with a snapshot.
func New(form rules.Atom) *Feed {
	return &Feed{form: form, behind: true}
}

// Move queues the records of what has changed from one state to the next; if more than most would wait then, the feed is behind instead.
func (f *Feed) Move(before, after model.Model, mark, most int) {
	if f.behind {
		return
	}
	gone := records(api.Remove, before.Beyond(after, f.form))
	come := records(api.Add, after.Beyond(before, f.form))
	waiting := slices.Concat(f.queue, gone, come, []api.Record{marker(mark)})
	if len(waiting) > most {
		f.fallBehind()
		return
	}
	f.queue = waiting
}

func (f *Feed) fallBehind() {
	f.behind = true
	f.snapshot, f.queue = nil, nil
}

// Poll tells the next record; a snapshot that begins by it is of the given state.
func (f *Feed) Poll(state model.Model, mark int) api.Record {
	record := f.next(state, mark)
	if record.Kind != api.None {
		record.Seq = f.told
		f.told++
	}
	return record
}

func (f *Feed) next(state model.Model, mark int) api.Record {
	switch {
	case len(f.snapshot) > 0:
		return takeFirst(&f.snapshot)
	case f.behind:
		f.behind = false
		f.snapshot = append(records(api.Add, state.Fits(f.form)), marker(mark))
		return api.Record{Kind: api.Reset}
	case len(f.queue) > 0:
		return takeFirst(&f.queue)
	}
	return api.Record{Kind: api.None}
}

// takeFirst moves the others up, so that what was told is kept nowhere.
func takeFirst(list *[]api.Record) api.Record {
	first := (*list)[0]
	*list = slices.Delete(*list, 0, 1)
	return first
}

// records makes a record of each ground atom, in the order of their texts.
func records(kind int, grounds iter.Seq[model.Ground]) []api.Record {
	var list []api.Record
	for _, text := range model.Texts(grounds) {
		list = append(list, api.Record{Kind: kind, Text: text})
	}
	return list
}

func marker(mark int) api.Record {
	return api.Record{Kind: api.Marker, Time: mark}
}
