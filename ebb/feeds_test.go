package ebb_test

import (
	"maps"
	"math"
	"math/rand"
	"slices"
	"strconv"
	"strings"
	"testing"

	"ebb/api"
)

func (r run) subscribe(want int, relation string) {
	r.t.Helper()
	if number, err := r.x.Subscribe(relation); number != want || err != api.OK {
		r.t.Errorf("Subscribe(%q) = %d, %d, want %d", relation, number, err, want)
	}
}

func (r run) subscribeWrong(want api.Errno, relations ...string) {
	r.t.Helper()
	for _, relation := range relations {
		if number, err := r.x.Subscribe(relation); number != 0 || err != want {
			r.t.Errorf("Subscribe(%.80q) = %d, %d, want %d", relation, number, err, want)
		}
	}
}

// poll takes the records that are wanted as one text, with blanks between, the first of them with this number: "reset", "+" or "-" and an atom, "@" and a watermark, "none".
func (r run) poll(feed, seq int, want string) {
	r.t.Helper()
	for _, word := range strings.Fields(want) {
		record := wantedRecord(word)
		if record.Kind != api.None {
			record.Seq = seq
			seq++
		}
		if got, err := r.x.Poll(feed); got != record || err != api.OK {
			r.t.Fatalf("Poll(%d) = %+v, %d, want %+v of %s", feed, got, err, record, want)
		}
	}
}

func wantedRecord(word string) api.Record {
	switch word[0] {
	case 'r':
		return api.Record{Kind: api.Reset}
	case '+':
		return api.Record{Kind: api.Add, Text: word[1:]}
	case '-':
		return api.Record{Kind: api.Remove, Text: word[1:]}
	case '@':
		time, _ := strconv.Atoi(word[1:])
		return api.Record{Kind: api.Marker, Time: time}
	}
	return api.Record{}
}

func (r run) pollWrong(feeds ...int) {
	r.t.Helper()
	for _, feed := range feeds {
		if got, err := r.x.Poll(feed); got != (api.Record{}) || err != api.ErrArg {
			r.t.Errorf("Poll(%d) = %+v, %d, want %d", feed, got, err, api.ErrArg)
		}
	}
}

func TestP11WrongTexts(t *testing.T) {
	r := begin(t, "path(X):-e(X,Y),abcdefgh(Y). ξξξξξξξξ(a):-e1(b). pΩ(X):-path(X).", 10, 0)
	wrong := []string{"", " ", "\n", "Path", "Ω", "E", "1e", "1", "path ", " path", "\tpath", "path\n", "pa th", "path path", "path(", "path(a)", "path(X)", "path.", "path,", "path:-", ":-", ".", "_path", "path_", "path\x00", "path\r", "pa-th", "é", "pathé", "\xff", "path\xff", "\xce", "ξ\xce", "\u03a2", "\u03b0", "\u03ca",
		"abcdefghi", "ξξξξξξξξξ", "ξξξξξξξξ ", strings.Repeat("e", 301), strings.Repeat("e", 1000000), strings.Repeat(" ", 1000000)}
	unknown := []string{"p", "a", "b", "pat", "paths", "e2", "abcdefg", "ξξξξξξξ", "pω", "x", "pathe"}
	for range 2 {
		r.subscribeWrong(api.ErrText, wrong...)
		r.subscribeWrong(api.ErrName, unknown...)
	}
	r.pollWrong(0)
	r.subscribe(0, "abcdefgh")
	r.subscribe(1, "ξξξξξξξξ")
	r.subscribe(2, "pΩ")
	r.subscribeWrong(api.ErrText, wrong...)
	r.subscribeWrong(api.ErrName, unknown...)
	r.subscribeWrong(api.ErrFull, "path", "e", "e1", "abcdefgh", "ξξξξξξξξ", "pΩ")
	r.poll(2, 0, "reset @0 none")
	begin(t, "", 1, 0).subscribeWrong(api.ErrName, "p", "path")
}

func TestP11NoSuchFeed(t *testing.T) {
	r := begin(t, "p(a).", 10, 0)
	never := []int{-1, 3, 4, math.MaxInt, math.MinInt, -3, 1 << 32}
	r.pollWrong(never...)
	r.pollWrong(0, 1, 2)
	r.subscribe(0, "p")
	r.pollWrong(never...)
	r.pollWrong(1, 2)
	r.poll(0, 0, "reset +p(a)")
	r.subscribe(1, "p")
	r.subscribe(2, "p")
	r.subscribeWrong(api.ErrFull, "p")
	r.pollWrong(never...)
	r.poll(0, 2, "@0 none")
	r.poll(1, 0, "reset +p(a) @0 none")
	r.poll(2, 0, "reset +p(a) @0 none")
}

func TestTheDocumentsFeed(t *testing.T) {
	r := begin(t, paths, 10, 2)
	r.insert(5, "edge(a,b)")
	r.insert(8, "edge(b,c)")
	r.tick(9, 7)
	r.subscribe(0, "path")
	r.poll(0, 0, "reset +path(a,b) @7 none")
	r.tick(10, 8)
	r.poll(0, 3, "+path(a,c) +path(b,c) @8 none")
}

// What goes is told ahead of what comes, each in the order of the texts.
func TestP11OrderOfRecords(t *testing.T) {
	r := begin(t, "p(X,Y):-e(X,Y).", 5, 0)
	r.insert(1, "e(b,a)", "e(a,b)", "e(a1,a)", "e(aB,a)", "e(a,a)")
	r.tick(1, 1)
	r.subscribe(0, "p")
	r.subscribe(1, "e")
	r.poll(0, 0, "reset +p(a,a) +p(a,b) +p(a1,a) +p(aB,a) +p(b,a) @1")
	r.insert(6, "e(ω,a)", "e(b,b)", "e(a,b)", "e(aB,aB)", "e(a1,a1)")
	r.poll(1, 0, "reset +e(a,a) +e(a,b)")
	r.tick(6, 6)
	r.poll(0, 7, "-p(a,a) -p(a1,a) -p(aB,a) -p(b,a) +p(a1,a1) +p(aB,aB) +p(b,b) +p(ω,a) @6 none")
	r.poll(1, 3, "+e(a1,a) +e(aB,a) +e(b,a) @1 -e(a,a) -e(a1,a) -e(aB,a) -e(b,a) +e(a1,a1) +e(aB,aB) +e(b,b) +e(ω,a) @6 none")
}

// Only a Tick that moves the watermark makes records; it makes a Marker even where nothing has changed.
func TestP11OnlyTheWatermarkMakesRecords(t *testing.T) {
	r := begin(t, "p(X):-f(X). q(X):-g(X).", 10, 2)
	r.subscribe(0, "p")
	r.poll(0, 0, "reset @0 none")
	r.tick(0, 0)
	r.tick(2, 0)
	r.insert(0, "f(a)")
	r.poll(0, 2, "none")
	r.tick(3, 1)
	r.poll(0, 2, "+p(a) @1 none none")
	r.tick(3, 1)
	r.tick(1, 1)
	for _, clock := range []int{-1, 1000001, math.MaxInt, math.MinInt} {
		r.x.Tick(clock)
	}
	r.insert(1, "f(b)", "g(b)")
	r.x.Insert("f(X)", 1)
	r.x.Ask("p(X)")
	r.x.Until("p(a)")
	r.x.Subscribe("none")
	r.poll(0, 4, "none")
	r.tick(4, 2)
	r.tick(5, 3)
	r.tick(1000000, 999998)
	r.poll(0, 4, "+p(b) @2 @3 -p(a) -p(b) @999998 none")
}

// What holds by one fact before and by another afterwards was there and is still; what comes and goes between two Ticks was never there.
func TestP11OnlyStatesAreHeldAgainstEachOther(t *testing.T) {
	r := begin(t, "p(X):-f(X). p(X):-g(X).", 3, 0)
	r.subscribe(0, "p")
	r.insert(1, "f(a)", "f(b)")
	r.insert(4, "f(a)", "g(b)")
	r.insert(5, "f(c)")
	r.tick(1, 1)
	r.poll(0, 0, "reset +p(a) +p(b) @1")
	r.tick(4, 4)
	r.poll(0, 4, "@4 none")
	r.tick(5, 5)
	r.tick(7, 7)
	r.insert(8, "f(c)")
	r.tick(8, 8)
	r.insert(10, "f(d)")
	r.tick(13, 13)
	r.poll(0, 5, "+p(c) @5 -p(a) -p(b) @7 @8 -p(c) @13 none")
}

// A feed that is behind takes no records, and its snapshot is of the state when it is polled.
func TestP11TheSnapshotIsOfThePoll(t *testing.T) {
	r := begin(t, "p(X):-f(X).", 3, 0)
	r.insert(1, "f(a)")
	r.insert(3, "f(b)")
	r.subscribe(0, "p")
	r.tick(1, 1)
	r.tick(3, 3)
	r.tick(4, 4)
	r.insert(4, "f(c)")
	r.poll(0, 0, "reset")
	r.tick(5, 5)
	r.poll(0, 1, "+p(b)")
	r.tick(6, 6)
	r.poll(0, 2, "@4 +p(c) @5 -p(b) @6 none")
}

// The queue has room for just so many records: those of one Tick, and those of several.
func TestP11JustAsMany(t *testing.T) {
	for queue := 1; queue <= 6; queue++ {
		r := beginQueue(t, "p(X):-f(X).", 10, 0, queue)
		r.subscribe(0, "p")
		r.poll(0, 0, "reset @0")
		r.insert(1, "f(a)", "f(b)", "f(c)")
		r.tick(1, 1)
		if queue < 4 {
			r.poll(0, 2, "reset +p(a) +p(b) +p(c) @1 none")
		} else {
			r.poll(0, 2, "+p(a) +p(b) +p(c) @1 none")
		}
	}
	for _, queue := range []int{1, 2, 5, 49, 50} {
		r := beginQueue(t, "p(a).", 10, 0, queue)
		r.subscribe(0, "p")
		r.poll(0, 0, "reset +p(a) @0")
		for clock := 1; clock <= queue; clock++ {
			r.tick(clock, clock)
		}
		r.poll(0, 3, "@1")
		r.tick(queue+1, queue+1)
		r.poll(0, 4, "@2")
		r.tick(queue+2, queue+2)
		r.tick(queue+3, queue+3)
		r.poll(0, 5, "reset +p(a) @"+strconv.Itoa(queue+3)+" none")
	}
}

// With room for one record alone, any change puts the feed behind.
func TestP11AQueueOfOne(t *testing.T) {
	r := beginQueue(t, "p(X):-f(X).", 2, 0, 1)
	r.subscribe(0, "p")
	r.poll(0, 0, "reset @0 none")
	r.tick(1, 1)
	r.poll(0, 2, "@1 none")
	r.insert(2, "f(a)")
	r.tick(2, 2)
	r.poll(0, 3, "reset +p(a) @2 none")
	r.tick(3, 3)
	r.poll(0, 6, "@3 none")
	r.tick(4, 4)
	r.poll(0, 7, "reset @4 none")
}

// A snapshot may be greater than any queue, and takes no room of it.
func TestP11TheSnapshotDoesNotCount(t *testing.T) {
	r := beginQueue(t, "p(X,Y):-f(X),f(Y).", 100, 0, 2)
	names := []string{"a", "b", "c", "d", "e", "f", "g", "h"}
	all := ""
	for _, first := range names {
		r.insert(1, "f("+first+")")
		for _, second := range names {
			all += " +p(" + first + "," + second + ")"
		}
	}
	r.subscribe(0, "p")
	r.tick(1, 1)
	r.poll(0, 0, "reset")
	r.tick(2, 2)
	r.tick(3, 3)
	r.poll(0, 1, all+" @1 @2 @3 none")
	r.tick(101, 101)
	r.poll(0, 68, "reset @101 none")
}

// A feed that falls behind drops its queue and its snapshot; the numbers go on without a gap.
func TestP11BehindWhileASnapshotIsTold(t *testing.T) {
	r := beginQueue(t, "p(X):-f(X).", 10, 0, 3)
	r.insert(1, "f(a)", "f(b)", "f(c)")
	r.tick(1, 1)
	r.subscribe(0, "p")
	r.poll(0, 0, "reset +p(a)")
	r.insert(2, "f(d)")
	r.tick(2, 2)
	r.tick(3, 3)
	r.poll(0, 2, "+p(b)")
	r.tick(4, 4)
	r.tick(5, 5)
	r.poll(0, 3, "reset")
	r.tick(6, 6)
	r.tick(7, 7)
	r.tick(8, 8)
	r.tick(9, 9)
	r.poll(0, 4, "reset +p(a) +p(b) +p(c) +p(d)")
	r.tick(10, 10)
	r.poll(0, 9, "@9 @10 none")
	r.tick(11, 11)
	r.poll(0, 11, "reset +p(d) @11 none")
}

func TestP11FeedsDoNotHangOnOneAnother(t *testing.T) {
	r := beginQueue(t, "p(X):-f(X). q(X,X):-f(X),g(X).", 10, 0, 3)
	r.subscribe(0, "p")
	r.subscribe(1, "p")
	r.subscribe(2, "q")
	r.poll(0, 0, "reset @0 none")
	r.insert(1, "f(a)", "f(b)", "g(b)")
	r.tick(1, 1)
	r.poll(2, 0, "reset +q(b,b)")
	r.poll(0, 2, "+p(a)")
	r.insert(2, "g(a)")
	r.tick(2, 2)
	r.poll(1, 0, "reset +p(a) +p(b) @2 none")
	r.poll(2, 2, "@1 +q(a,a) @2 none")
	r.poll(0, 3, "+p(b) @1 @2 none")
	r.tick(12, 12)
	r.poll(2, 5, "-q(a,a) -q(b,b) @12 none")
	r.poll(1, 4, "-p(a) -p(b) @12 none")
	r.tick(13, 13)
	r.poll(0, 6, "reset @13 none")
}

// What needs no facts is in the first snapshot, and is told no more.
func TestP11WhatHoldsAtFirst(t *testing.T) {
	r := begin(t, "p(b). p(a). p(X):-f(X). q(X):-p(X).", 5, 0)
	r.subscribe(0, "p")
	r.subscribe(1, "q")
	r.subscribe(2, "f")
	r.poll(0, 0, "reset +p(a) +p(b) @0 none")
	r.poll(1, 0, "reset +q(a) +q(b) @0 none")
	r.poll(2, 0, "reset @0 none")
	r.insert(1, "f(a)", "f(c)")
	r.tick(1, 1)
	r.poll(0, 4, "+p(c) @1 none")
	r.poll(1, 4, "+q(c) @1 none")
	r.poll(2, 2, "+f(a) +f(c) @1 none")
	r.tick(6, 6)
	r.poll(0, 6, "-p(c) @6 none")
	r.poll(1, 6, "-q(c) @6 none")
	r.poll(2, 5, "-f(a) -f(c) @6 none")
}

// To subscribe and to poll, or to be refused, changes nothing of what the other calls answer.
func TestP11LeavesTheStateAsItWas(t *testing.T) {
	with, without := beginQueue(t, paths, 10, 1, 2), beginQueue(t, paths, 10, 1, 2)
	for clock := range 30 {
		if clock%7 == 3 {
			with.x.Subscribe("path")
		}
		for feed := range 4 {
			with.x.Poll(feed)
		}
		with.x.Subscribe("x" + strconv.Itoa(clock))
		fact := "edge(" + string(rune('a'+clock%5)) + "," + string(rune('a'+clock%3)) + ")"
		if first, second := with.x.Insert(fact, clock), without.x.Insert(fact, clock); first != second {
			t.Errorf("Insert(%q, %d) = %d, and %d without feeds", fact, clock, first, second)
		}
		mark, _ := without.x.Tick(clock)
		with.tick(clock, mark)
		texts, _ := without.x.Ask("path(X,Y)")
		with.ask("path(X,Y)", strings.Join(texts, " "))
		for _, text := range texts {
			end, _ := without.x.Until(text)
			with.until(end, text)
		}
	}
}

func TestP2FeedsDoNotHangOnOtherEngines(t *testing.T) {
	first, second := beginQueue(t, paths, 10, 0, 20), beginQueue(t, paths, 20, 1, 1)
	first.subscribe(0, "path")
	first.subscribe(1, "edge")
	second.pollWrong(0, 1)
	second.subscribe(0, "edge")
	first.insert(1, "edge(a,b)")
	second.insert(1, "edge(c,d)")
	first.poll(0, 0, "reset @0")
	second.poll(0, 0, "reset @0")
	first.tick(1, 1)
	second.poll(0, 2, "none")
	second.tick(3, 2)
	first.poll(0, 2, "+path(a,b) @1 none")
	first.poll(1, 0, "reset +edge(a,b) @1 none")
	second.poll(0, 2, "reset +edge(c,d) @2 none")
	second.pollWrong(1)
}

// listener does what P12 says: it adds and removes what a feed's records tell.
type listener struct {
	feed     int
	relation string
	seq      int
	has      map[string]int
}

// take polls one record, and holds what the listener has at a Marker against what the relation held then.
func (l *listener) take(r run, held map[int][]string) int {
	r.t.Helper()
	record, err := r.x.Poll(l.feed)
	if err != api.OK {
		r.t.Errorf("Poll(%d): %d", l.feed, err)
	}
	if record.Kind == api.None {
		return record.Kind
	}
	if record.Seq != l.seq || (l.has == nil) != (l.seq == 0) || l.has == nil && record.Kind != api.Reset {
		r.t.Errorf("feed %d, record %d: %+v", l.feed, l.seq, record)
	}
	l.seq++
	_, known := l.has[record.Text]
	switch record.Kind {
	case api.Reset:
		l.has = map[string]int{}
	case api.Add:
		l.has[record.Text]++
	case api.Remove:
		delete(l.has, record.Text)
	case api.Marker:
		if want, ok := held[record.Time]; !ok || !slices.Equal(slices.Sorted(maps.Keys(l.has)), want) {
			r.t.Errorf("feed %d of %s has %v at %d, want %q", l.feed, l.relation, l.has, record.Time, want)
		}
	}
	if known && record.Kind != api.Remove || !known && record.Kind == api.Remove {
		r.t.Errorf("feed %d tells %+v of what it has: %t", l.feed, record, known)
	}
	return record.Kind
}

// holds tells what a relation of made engines holds, as Ask tells it.
func (r run) holds(relation string) []string {
	r.t.Helper()
	args := "(X,Y)"
	if strings.Contains("qsf", relation) {
		args = "(X)"
	}
	texts, err := r.x.Ask(relation + args)
	if err != api.OK {
		r.t.Errorf("Ask(%s%s): %d", relation, args, err)
	}
	return texts
}

// made is an engine of made rules, with what its relations held at each watermark.
type made struct {
	run
	held      map[string]map[int][]string
	listeners []*listener
}

func beginMade(r run, text string) *made {
	m := &made{run: r, held: map[string]map[int][]string{}}
	for _, relation := range []string{"p", "q", "r", "s", "e", "f"} {
		if strings.Contains(text, relation+"(") {
			m.held[relation] = map[int][]string{}
		}
	}
	m.remember(0)
	return m
}

func (m *made) remember(mark int) {
	for relation, at := range m.held {
		at[mark] = m.holds(relation)
	}
}

func (m *made) listen(random *rand.Rand) {
	l := &listener{feed: len(m.listeners), relation: pick(random, slices.Sorted(maps.Keys(m.held))...)}
	m.subscribe(l.feed, l.relation)
	m.listeners = append(m.listeners, l)
}

// drain takes the records that are left: with the last of them the listeners have what holds now.
func (m *made) drain() {
	for _, l := range m.listeners {
		for l.take(m.run, m.held[l.relation]) != api.None && !m.t.Failed() {
		}
		if has, want := slices.Sorted(maps.Keys(l.has)), m.holds(l.relation); !slices.Equal(has, want) {
			m.t.Errorf("feed %d of %s has %q at last, want %q", l.feed, l.relation, has, want)
		}
	}
}

func TestP12WhoeverTakesTheRecordsHasTheState(t *testing.T) {
	random := rand.New(rand.NewSource(4))
	kinds := map[int]int{}
	for range 400 {
		text, window, lateness := madeEngine(random)
		queue := 1 + random.Intn(1+random.Intn(50))
		m := beginMade(beginQueue(t, text, window, lateness, queue), text)
		for clock := range 40 {
			if clock%13 == 5 {
				m.listen(random)
			}
			for range random.Intn(4) {
				m.x.Insert(slowFactText(random), max(0, clock-random.Intn(window+3)))
			}
			if random.Intn(3) > 0 {
				mark, _ := m.x.Tick(clock)
				m.remember(mark)
			}
			for _, l := range m.listeners {
				for range random.Intn(6) {
					kinds[l.take(m.run, m.held[l.relation])]++
				}
			}
		}
		m.drain()
		if t.Failed() {
			t.Fatalf("with New(%q, %d, %d, %d)", text, window, lateness, queue)
		}
	}
	for _, kind := range []int{api.None, api.Reset, api.Add, api.Remove, api.Marker} {
		if kinds[kind] < 1000 {
			t.Errorf("too few records are of the kind %d: %v", kind, kinds)
		}
	}
	t.Log(kinds)
}

// brought is a fact as Insert takes it.
type brought struct {
	fact string
	time int
}

// bring inserts made facts, and tells those that were accepted: they are so in any order.
func (r run) bring(random *rand.Rand, latest int) []brought {
	var accepted []brought
	for range random.Intn(5) {
		next := brought{slowFactText(random), max(0, latest-random.Intn(6))}
		if r.x.Insert(next.fact, next.time) == api.OK {
			accepted = append(accepted, next)
		}
	}
	return accepted
}

// pollAlike polls both engines, and tells how many records came.
func pollAlike(first, second run, feed, times int) int {
	first.t.Helper()
	told := 0
	for range times {
		record, err := first.x.Poll(feed)
		if got, gotErr := second.x.Poll(feed); got != record || gotErr != err {
			first.t.Errorf("Poll(%d) = %+v, %d, and %+v, %d in another order", feed, record, err, got, gotErr)
		}
		if record.Kind != api.None {
			told++
		}
	}
	return told
}

// In what order facts are accepted between two Ticks changes neither the state, nor the ends, nor the feeds.
func TestP12TheOrderOfFactsDoesNotMatter(t *testing.T) {
	random := rand.New(rand.NewSource(5))
	held, told := 0, 0
	for range 200 {
		text, window, lateness := madeEngine(random)
		first, second := begin(t, text, window, lateness), begin(t, text, window, lateness)
		for _, relation := range []string{"p", "q", "e"} {
			first.x.Subscribe(relation)
			second.x.Subscribe(relation)
		}
		for clock := range 20 {
			facts := first.bring(random, clock)
			random.Shuffle(len(facts), func(i, j int) { facts[i], facts[j] = facts[j], facts[i] })
			for _, fact := range facts {
				second.insert(fact.time, fact.fact)
			}
			mark, _ := first.x.Tick(clock)
			second.tick(clock, mark)
			ends := first.ends()
			if got := second.ends(); !maps.Equal(got, ends) {
				t.Errorf("%v holds, and %v in another order", ends, got)
			}
			held += len(ends)
			for feed := range api.MaxSubs {
				told += pollAlike(first, second, feed, random.Intn(8))
			}
		}
		if t.Failed() {
			t.Fatalf("with New(%q, %d, %d, 20)", text, window, lateness)
		}
	}
	if held < 1000 || told < 1000 {
		t.Errorf("too few atoms hold, or too few records are told: %d, %d", held, told)
	}
}
