package ebb_test

import (
	"maps"
	"math/rand"
	"regexp"
	"slices"
	"strings"
	"testing"

	"ebb/api"
	"ebb/ebb"
)

var onlyNamePattern = regexp.MustCompile(`^[a-zα-ω][a-zα-ωA-ZΑ-ΡΣ-Ω0-9]{0,7}$`)

// slowFeed is all that a feed went through, from when it was subscribed on.
type slowFeed struct {
	relation string
	held     []string // when it was subscribed
	events   []slowEvent
}

// slowEvent is a move of the watermark or a poll, and what the relation held then.
type slowEvent struct {
	isPoll bool
	mark   int
	held   []string
}

// log tells all feeds that the watermark has moved.
func (s *slowEngine) log() {
	for _, feed := range s.feeds {
		feed.events = append(feed.events, slowEvent{mark: s.watermark(), held: s.holds(feed.relation)})
	}
}

func (s *slowEngine) holds(relation string) []string {
	return slices.DeleteFunc(slices.Sorted(maps.Keys(s.state)), func(text string) bool { return !strings.HasPrefix(text, relation+"(") })
}

func (s *slowEngine) Subscribe(text string) (int, api.Errno) {
	if !onlyNamePattern.MatchString(text) {
		return 0, api.ErrText
	}
	known := slices.ContainsFunc(slices.Concat(s.rules...), func(atom []string) bool { return atom[0] == text })
	if !known {
		return 0, api.ErrName
	}
	if len(s.feeds) >= api.MaxSubs {
		return 0, api.ErrFull
	}
	s.feeds = append(s.feeds, &slowFeed{relation: text, held: s.holds(text)})
	return len(s.feeds) - 1, api.OK
}

func (s *slowEngine) Poll(number int) (api.Record, api.Errno) {
	if number < 0 || number >= len(s.feeds) {
		return api.Record{}, api.ErrArg
	}
	feed := s.feeds[number]
	feed.events = append(feed.events, slowEvent{isPoll: true, mark: s.watermark(), held: s.holds(feed.relation)})
	return feed.replay(s.queue), api.OK
}

// replay goes through all events from the first on, and tells what the last, a poll, has for its answer. All that waits is one list; those that no queue holds are counted.
func (f *slowFeed) replay(queue int) api.Record {
	var answer api.Record
	var waiting []api.Record
	behind, unqueued, seq, held := true, 0, 0, f.held
	for _, event := range f.events {
		marker := api.Record{Kind: api.Marker, Time: event.mark}
		switch {
		case !event.isPoll && !behind:
			waiting = append(waiting, slowRecords(api.Remove, held, event.held)...)
			waiting = append(waiting, slowRecords(api.Add, event.held, held)...)
			waiting = append(waiting, marker)
			if len(waiting)-unqueued > queue {
				behind, unqueued, waiting = true, 0, nil
			}
		case event.isPoll && behind:
			answer = api.Record{Kind: api.Reset}
			waiting = append(slowRecords(api.Add, event.held, nil), marker)
			behind, unqueued = false, len(waiting)
		case event.isPoll && len(waiting) > 0:
			answer, waiting, unqueued = waiting[0], waiting[1:], max(0, unqueued-1)
		case event.isPoll:
			answer = api.Record{}
		}
		if event.isPoll && answer.Kind != api.None {
			answer.Seq = seq
			seq++
		}
		held = event.held
	}
	return answer
}

// slowRecords makes records of those texts that the others are not.
func slowRecords(kind int, texts, others []string) []api.Record {
	var list []api.Record
	for _, text := range texts {
		if !slices.Contains(others, text) {
			list = append(list, api.Record{Kind: kind, Text: text})
		}
	}
	return list
}

func checkSubscribe(t *testing.T, x *ebb.Engine, s *slowEngine, relation string) api.Errno {
	t.Helper()
	number, err := x.Subscribe(relation)
	if want, wantErr := s.Subscribe(relation); number != want || err != wantErr {
		t.Errorf("Subscribe(%q) = %d, %d, want %d, %d", relation, number, err, want, wantErr)
	}
	return err
}

func checkPoll(t *testing.T, x *ebb.Engine, s *slowEngine, feed int) int {
	t.Helper()
	record, err := x.Poll(feed)
	if want, wantErr := s.Poll(feed); record != want || err != wantErr {
		t.Errorf("Poll(%d) = %+v, %d, want %+v, %d", feed, record, err, want, wantErr)
	}
	return record.Kind
}

func TestP11AgainstTheSlowEngine(t *testing.T) {
	random := rand.New(rand.NewSource(6))
	errors, kinds := map[api.Errno]int{}, map[int]int{}
	for range 200 {
		text, window, lateness := madeEngine(random)
		queue := 1 + random.Intn(1+random.Intn(50))
		x, _ := ebb.New(text, window, lateness, queue)
		s := newSlow(text, window, lateness)
		s.queue = queue
		for clock := range 50 {
			if random.Intn(4) == 0 {
				relation := pick(random, "p", "q", "r", "s", "e", "f", "e", "f", "z", "a", "P", "e ", "f(a)", "", "\xff", "ωωωωωωωωω")
				errors[checkSubscribe(t, x, s, relation)]++
			}
			for range random.Intn(4) {
				checkInsert(t, x, s, slowFactText(random), clock-lateness-random.Intn(window+2)+1)
			}
			checkTick(t, x, s, clock-random.Intn(3))
			for feed := -1; feed <= api.MaxSubs; feed++ {
				for range random.Intn(4) {
					kinds[checkPoll(t, x, s, feed)]++
				}
			}
			if t.Failed() {
				t.Fatalf("with New(%q, %d, %d, %d) and %v behind Ticks %v", text, window, lateness, queue, s.accepted, s.ticks)
			}
		}
	}
	for _, err := range []api.Errno{api.OK, api.ErrText, api.ErrName, api.ErrFull} {
		if errors[err] < 300 {
			t.Errorf("too few of the relations are answered by %d: %v", err, errors)
		}
	}
	for _, kind := range []int{api.None, api.Reset, api.Add, api.Remove, api.Marker} {
		if kinds[kind] < 1000 {
			t.Errorf("too few records are of the kind %d: %v", kind, kinds)
		}
	}
	t.Log(errors, kinds)
}
