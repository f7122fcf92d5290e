package feeds

import (
	"slices"
	"strings"
	"testing"

	"ebb/api"
	"ebb/model"
	"ebb/rules"
)

// stateOf makes a state of facts that stand in a text with blanks between.
func stateOf(t *testing.T, texts string) model.Model {
	t.Helper()
	var facts []model.Lasting
	for _, text := range strings.Fields(texts) {
		atom, ok := rules.ReadAtom(text)
		if !ok {
			t.Fatalf("%q is no atom", text)
		}
		facts = append(facts, model.Lasting{Ground: model.Of(atom), End: 1})
	}
	return model.Least(nil, facts)
}

// follower is a feed of p with the state it is told of.
type follower struct {
	t     *testing.T
	feed  *Feed
	state model.Model
	mark  int
	most  int
}

func follow(t *testing.T, most int, texts string) *follower {
	t.Helper()
	return &follower{t: t, feed: New(rules.Form("p", 1)), state: stateOf(t, texts), most: most}
}

func (f *follower) move(texts string) {
	f.t.Helper()
	before := f.state
	f.state = stateOf(f.t, texts)
	f.mark++
	f.feed.Move(before, f.state, f.mark, f.most)
}

func (f *follower) poll(want ...api.Record) {
	f.t.Helper()
	for i, record := range want {
		if got := f.feed.Poll(f.state, f.mark); got != record {
			f.t.Fatalf("record %d is %+v, want %+v", i, got, record)
		}
	}
}

func reset(seq int) api.Record { return api.Record{Kind: api.Reset, Seq: seq} }

func add(seq int, text string) api.Record { return api.Record{Kind: api.Add, Seq: seq, Text: text} }

func remove(seq int, text string) api.Record {
	return api.Record{Kind: api.Remove, Seq: seq, Text: text}
}

func markerOf(seq, time int) api.Record {
	return api.Record{Kind: api.Marker, Seq: seq, Time: time}
}

func TestFeedBeginsWithASnapshot(t *testing.T) {
	f := follow(t, 5, "p(b) p(a) q(c)")
	f.move("p(c) p(b) q(a)")
	f.poll(reset(0), add(1, "p(b)"), add(2, "p(c)"), markerOf(3, 1), api.Record{}, api.Record{})
}

func TestChangesAreQueued(t *testing.T) {
	f := follow(t, 5, "p(b) p(a) p(c)")
	f.poll(reset(0), add(1, "p(a)"), add(2, "p(b)"), add(3, "p(c)"), markerOf(4, 0))
	f.move("p(e) p(b) p(d)")
	f.poll(remove(5, "p(a)"), remove(6, "p(c)"), add(7, "p(d)"), add(8, "p(e)"), markerOf(9, 1), api.Record{})
	f.move("p(e) p(b) p(d) q(a)")
	f.move("p(b)")
	f.poll(markerOf(10, 2), remove(11, "p(d)"), remove(12, "p(e)"), markerOf(13, 3), api.Record{})
}

func TestMoreThanMostIsBehind(t *testing.T) {
	f := follow(t, 3, "")
	f.poll(reset(0), markerOf(1, 0))
	f.move("p(a) p(b)")
	f.move("p(a) p(b)")
	f.poll(reset(2), add(3, "p(a)"))
	f.move("p(a)")
	f.move("p(a)")
	f.poll(add(4, "p(b)"))
	f.move("")
	f.poll(reset(5), markerOf(6, 5), api.Record{})
}

// What was told, or dropped, stays nowhere.
func TestNothingIsKeptOfWhatIsOver(t *testing.T) {
	f := follow(t, 3, "p(a) p(b)")
	f.poll(reset(0), add(1, "p(a)"))
	if got := f.feed.snapshot[:3][2]; got != (api.Record{}) {
		t.Errorf("of the snapshot is kept: %+v", got)
	}
	f.poll(add(2, "p(b)"), markerOf(3, 0))
	f.move("p(a)")
	f.poll(remove(4, "p(b)"))
	if got := f.feed.queue[:2][1]; got != (api.Record{}) {
		t.Errorf("of the queue is kept: %+v", got)
	}
	f.move("p(b) p(c)")
	if rest := slices.Concat(f.feed.snapshot, f.feed.queue); len(rest) > 0 || !f.feed.behind {
		t.Errorf("of a feed that is behind is kept: %v", rest)
	}
}
