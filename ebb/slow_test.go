package ebb_test

import (
	"maps"
	"math/rand"
	"regexp"
	"slices"
	"strconv"
	"strings"
	"testing"
	"unicode/utf8"

	"ebb/api"
	"ebb/ebb"
)

var oneAtomPattern = regexp.MustCompile(`^n\([nv](,[nv])?\)$`)

// slowEngine is what P6 to P11 say, once more and in another way: it keeps all clocks, all facts and all that feeds went through for good, and tries every name for every variable.
type slowEngine struct {
	rules            [][][]string // each a head and a body, of words
	window, lateness int
	accepted         []slowFact
	ticks            []int
	made             []slowFact // what the state is made of
	state            map[string]bool
	queue            int // set where there are feeds
	feeds            []*slowFeed
}

type slowFact struct {
	words []string
	time  int
}

func newSlow(text string, window, lateness int) *slowEngine {
	s := &slowEngine{window: window, lateness: lateness}
	for _, line := range strings.SplitAfter(strings.Join(tokenPattern.FindAllString(text, -1), ""), ".") {
		if line != "" {
			s.rules = append(s.rules, oracleAtoms(line))
		}
	}
	s.state = s.leastModel(nil)
	return s
}

func slowText(words []string) string {
	return words[0] + "(" + strings.Join(words[1:], ",") + ")"
}

func (s *slowEngine) watermark() int {
	return max(0, slices.Max(append(s.ticks, 0))-s.lateness)
}

func (s *slowEngine) names() []string {
	var names []string
	add := func(words []string) {
		for _, word := range words[1:] {
			if smallPattern.MatchString(word) && !slices.Contains(names, word) {
				names = append(names, word)
			}
		}
	}
	for _, rule := range s.rules {
		for _, atom := range rule {
			add(atom)
		}
	}
	for _, fact := range s.accepted {
		add(fact.words)
	}
	return names
}

// putAll tells the atoms with every name put for every variable.
func putAll(atoms [][]string, names []string) [][][]string {
	for _, atom := range atoms {
		for _, word := range atom[1:] {
			if !largePattern.MatchString(word) {
				continue
			}
			var all [][][]string
			for _, name := range names {
				var put [][]string
				for _, other := range atoms {
					changed := slices.Clone(other)
					for i := range changed {
						if i > 0 && changed[i] == word {
							changed[i] = name
						}
					}
					put = append(put, changed)
				}
				all = append(all, putAll(put, names)...)
			}
			return all
		}
	}
	return [][][]string{atoms}
}

func (s *slowEngine) leastModel(facts []slowFact) map[string]bool {
	var ground [][][]string
	for _, rule := range s.rules {
		ground = append(ground, putAll(rule, s.names())...)
	}
	model := map[string]bool{}
	for _, fact := range facts {
		model[slowText(fact.words)] = true
	}
	for size := -1; size < len(model); {
		size = len(model)
		for _, rule := range ground {
			if !slices.ContainsFunc(rule[1:], func(atom []string) bool { return !model[slowText(atom)] }) {
				model[slowText(rule[0])] = true
			}
		}
	}
	return model
}

// read tells the words of one atom, or nil.
func (s *slowEngine) read(text string) []string {
	pieces := tokenPattern.FindAllString(string([]rune(text)), -1)
	if utf8.RuneCountInString(text) > api.MaxText || !oneAtomPattern.MatchString(kindsOf(pieces)) {
		return nil
	}
	if slices.ContainsFunc(pieces, func(piece string) bool { return utf8.RuneCountInString(piece) > api.MaxWord }) {
		return nil
	}
	return oracleAtoms(strings.Join(pieces, ""))[0]
}

// relation tells ErrName or ErrArity; a basic one is asked for alone where heads do not count.
func (s *slowEngine) relation(words []string, heads bool) api.Errno {
	answer := api.ErrName
	for _, rule := range s.rules {
		for i, atom := range rule {
			if atom[0] != words[0] {
				continue
			}
			if i == 0 && !heads {
				return api.ErrName
			}
			answer = api.OK
			if len(atom) != len(words) {
				answer = api.ErrArity
			}
		}
	}
	return answer
}

func (s *slowEngine) kept() []slowFact {
	var kept []slowFact
	for _, fact := range s.accepted {
		if fact.time+s.window > s.watermark() {
			kept = append(kept, fact)
		}
	}
	return kept
}

func (s *slowEngine) Insert(text string, time int) api.Errno {
	words := s.read(text)
	if words == nil || slices.ContainsFunc(words, largePattern.MatchString) {
		return api.ErrText
	}
	if err := s.relation(words, false); err != api.OK {
		return err
	}
	if time < 0 || time > api.MaxTime {
		return api.ErrArg
	}
	if time+s.window <= s.watermark() {
		return api.ErrLate
	}
	kept := s.kept()
	if slices.ContainsFunc(kept, func(fact slowFact) bool { return slices.Equal(fact.words, words) && fact.time == time }) {
		return api.ErrTwice
	}
	before := s.accepted
	s.accepted = append(s.accepted, slowFact{words, time})
	if len(kept) >= api.MaxFacts || len(s.names()) > api.MaxNames {
		s.accepted = before
		return api.ErrFull
	}
	return api.OK
}

func (s *slowEngine) Tick(clock int) (int, api.Errno) {
	if clock < 0 || clock > api.MaxTime {
		return 0, api.ErrArg
	}
	before := s.watermark()
	s.ticks = append(s.ticks, clock)
	if s.watermark() > before {
		s.made = slices.DeleteFunc(s.kept(), func(fact slowFact) bool { return fact.time > s.watermark() })
		s.state = s.leastModel(s.made)
		s.log()
	}
	return s.watermark(), api.OK
}

func (s *slowEngine) Ask(text string) ([]string, api.Errno) {
	words := s.read(text)
	if words == nil {
		return nil, api.ErrText
	}
	if err := s.relation(words, true); err != api.OK {
		return nil, err
	}
	var texts []string
	for _, put := range putAll([][]string{words}, s.names()) {
		if s.state[slowText(put[0])] {
			texts = append(texts, slowText(put[0]))
		}
	}
	slices.Sort(texts)
	return texts, api.OK
}

// Until tries one number after the other; none of the facts ends behind the watermark by more than the window.
func (s *slowEngine) Until(text string) (int, api.Errno) {
	words := s.read(text)
	if words == nil || slices.ContainsFunc(words, largePattern.MatchString) {
		return 0, api.ErrText
	}
	if err := s.relation(words, true); err != api.OK {
		return 0, err
	}
	if !s.state[slowText(words)] {
		return 0, api.OK
	}
	for end := s.watermark() + 1; end <= s.watermark()+s.window; end++ {
		left := slices.DeleteFunc(slices.Clone(s.made), func(fact slowFact) bool { return fact.time+s.window <= end })
		if !s.leastModel(left)[slowText(words)] {
			return end, api.OK
		}
	}
	return api.Never, api.OK
}

// madeEngine makes rules that New takes, mostly of relations that call each other.
func madeEngine(random *rand.Rand) (string, int, int) {
	for {
		text := ""
		for range 1 + random.Intn(5) {
			text += slowAtom(random, "p", "q", "r", "s")
			sign := ":-"
			for range random.Intn(8) / 2 {
				text += sign + slowAtom(random, "p", "q", "r", "s", "e", "e", "e", "e", "f", "f", "f")
				sign = ","
			}
			text += "."
		}
		if _, err, _ := ebb.Rules(text); err == api.OK && strings.Contains(text, "e(") {
			return text, 1 + random.Intn(9), random.Intn(4)
		}
	}
}

// slowAtom: of one argument are q, s and f.
func slowAtom(random *rand.Rand, relations ...string) string {
	relation := pick(random, relations...)
	word := func() string { return pick(random, "X", "Y", "Z", "X", "Y", "Z", "a", "ω") }
	if strings.Contains("qsf", relation) {
		return relation + "(" + word() + ")"
	}
	return relation + "(" + word() + "," + word() + ")"
}

func slowFactText(random *rand.Rand) string {
	relation := pick(random, "e", "e", "e", "f", "f", "p", "z")
	name := func() string {
		return pick(random, "a", "b", "c", "ω", "a", "b", "c", "ω", "d1", "k"+strconv.Itoa(random.Intn(6)))
	}
	text := relation + "(" + name() + "," + name() + ")"
	if (relation == "f") != (random.Intn(30) == 0) {
		text = relation + "(" + name() + ")"
	}
	if random.Intn(20) == 0 {
		at := random.Intn(len(text) + 1)
		text = text[:at] + pick(random, " ", "X", ",", "(", ".", "\xff", "1", "ω") + text[at:]
	}
	return text
}

func TestP6ToP10AgainstTheSlowEngine(t *testing.T) {
	random := rand.New(rand.NewSource(2))
	errors := map[api.Errno]int{}
	told := 0
	ends := map[int]int{}
	for range 400 {
		text, window, lateness := madeEngine(random)
		x, err := ebb.New(text, window, lateness, 1+random.Intn(50))
		if x == nil || err != api.OK {
			t.Fatalf("New(%q, %d, %d): %d", text, window, lateness, err)
		}
		s := newSlow(text, window, lateness)
		clock := random.Intn(5)
		for range 60 {
			switch random.Intn(8) {
			case 0, 1:
				clock = max(-1, clock+random.Intn(5)-1)
				checkTick(t, x, s, clock)
				for range 4 {
					told += checkAsk(t, x, s, slowAtom(random, "p", "q", "r", "s", "e", "f"))
				}
				checkUntil(t, x, s, slowAtom(random, "p", "q"))
			case 2:
				told += checkAsk(t, x, s, slowFactText(random))
				if holding := slices.Sorted(maps.Keys(s.state)); len(holding) > 0 {
					ends[left(checkUntil(t, x, s, pick(random, holding...)), s.watermark())]++
				}
				checkUntil(t, x, s, slowFactText(random))
			default:
				errors[checkInsert(t, x, s, slowFactText(random), clock-lateness-window+random.Intn(2*window+3))]++
			}
			if t.Failed() {
				t.Fatalf("with New(%q, %d, %d) and %v behind Ticks %v", text, window, lateness, s.accepted, s.ticks)
			}
		}
	}
	for _, err := range []api.Errno{api.OK, api.ErrText, api.ErrName, api.ErrArity, api.ErrArg, api.ErrLate, api.ErrTwice, api.ErrFull} {
		if errors[err] < 50 {
			t.Errorf("too few of the facts are answered by %d: %v", err, errors)
		}
	}
	if told < 1000 {
		t.Errorf("too few atoms are told: %d", told)
	}
	for _, left := range []int{1, 2, 5, 9, api.Never} {
		if ends[left] < 20 {
			t.Errorf("too few of the ends are %d away: %v", left, ends)
		}
	}
	t.Log(errors, told, ends)
}

// left tells how far away an end is.
func left(end, watermark int) int {
	if end == api.Never {
		return end
	}
	return end - watermark
}

func checkTick(t *testing.T, x *ebb.Engine, s *slowEngine, clock int) {
	t.Helper()
	mark, err := x.Tick(clock)
	if wantMark, wantErr := s.Tick(clock); mark != wantMark || err != wantErr {
		t.Errorf("Tick(%d) = %d, %d, want %d, %d", clock, mark, err, wantMark, wantErr)
	}
}

func checkAsk(t *testing.T, x *ebb.Engine, s *slowEngine, atom string) int {
	t.Helper()
	texts, err := x.Ask(atom)
	if want, wantErr := s.Ask(atom); !slices.Equal(texts, want) || err != wantErr {
		t.Errorf("Ask(%q) = %q, %d, want %q, %d", atom, texts, err, want, wantErr)
	}
	return len(texts)
}

func checkUntil(t *testing.T, x *ebb.Engine, s *slowEngine, fact string) int {
	t.Helper()
	end, err := x.Until(fact)
	if want, wantErr := s.Until(fact); end != want || err != wantErr {
		t.Errorf("Until(%q) = %d, %d, want %d, %d", fact, end, err, want, wantErr)
	}
	return end
}

func checkInsert(t *testing.T, x *ebb.Engine, s *slowEngine, fact string, time int) api.Errno {
	t.Helper()
	err := x.Insert(fact, time)
	if want := s.Insert(fact, time); err != want {
		t.Errorf("Insert(%q, %d) = %d, want %d", fact, time, err, want)
	}
	return err
}

func FuzzAtoms(f *testing.F) {
	for _, text := range []string{"", "e(a,b)", " f(X) ", "p(a).", "e(a,X)", "e(\xce,a)", "f(a)f(a)", "p(a). f(a)", "e(a,b,c)", "z(a)", strings.Repeat(" ", 297) + "f(a)", "e", "f2", "f ", "F", "ωωωωωωωωω"} {
		f.Add(text, 5, 7)
	}
	f.Fuzz(func(t *testing.T, text string, time, clock int) {
		rules := "p(X):-e(X,Y),f(Y). p(a). f2(X):-p(X)."
		x, err := ebb.New(rules, 10, 2, 2)
		if err != api.OK {
			t.Fatal(err)
		}
		s := newSlow(rules, 10, 2)
		s.queue = 2
		checkSubscribe(t, x, s, text)
		checkSubscribe(t, x, s, "f")
		for feed := range 3 {
			checkPoll(t, x, s, feed)
			checkPoll(t, x, s, time+feed)
		}
		for range 2 {
			checkInsert(t, x, s, "f(b)", 3)
			checkInsert(t, x, s, text, time)
			checkTick(t, x, s, clock)
			for _, atom := range []string{text, "p(X)", "e(X,Y)", "f(X)"} {
				checkAsk(t, x, s, atom)
				checkUntil(t, x, s, atom)
			}
			checkUntil(t, x, s, "f(b)")
			for poll := range 8 {
				checkPoll(t, x, s, poll/4)
			}
		}
	})
}
