package model

import (
	"slices"
	"testing"

	"ebb/api"
	"ebb/rules"
)

func readRules(t *testing.T, text string) []rules.Rule {
	t.Helper()
	list, err, at := rules.Read(text)
	if err != api.OK {
		t.Fatalf("Read(%q): %d, %d", text, err, at)
	}
	return list
}

func readAtom(t *testing.T, text string) rules.Atom {
	t.Helper()
	atom, ok := rules.ReadAtom(text)
	if !ok {
		t.Fatalf("%q is no atom", text)
	}
	return atom
}

func readGround(t *testing.T, text string) Ground {
	t.Helper()
	return Of(readAtom(t, text))
}

// readFacts gives the first fact the end 9, the second 8, and so on.
func readFacts(t *testing.T, texts ...string) []Lasting {
	t.Helper()
	var facts []Lasting
	for i, text := range texts {
		facts = append(facts, Lasting{Ground: readGround(t, text), End: 9 - i})
	}
	return facts
}

func textsOf(m Model, atom rules.Atom) []string {
	return Texts(m.Fits(atom))
}

func TestTextOfGround(t *testing.T) {
	for _, text := range []string{"p(a)", "p(a,b)", "ωω(ω,a1)"} {
		if got := readGround(t, text).Text(); got != text {
			t.Errorf("Text = %q, want %q", got, text)
		}
	}
}

func TestTexts(t *testing.T) {
	var grounds []Ground
	for _, text := range []string{"p(ω)", "p(b,a)", "p(aB)", "p(a,b)", "e(z)", "p(a1)", "p(a)"} {
		grounds = append(grounds, readGround(t, text))
	}
	want := []string{"e(z)", "p(a)", "p(a,b)", "p(a1)", "p(aB)", "p(b,a)", "p(ω)"}
	for range 2 {
		if got := Texts(slices.Values(grounds)); !slices.Equal(got, want) {
			t.Errorf("Texts = %q, want %q", got, want)
		}
		slices.Reverse(grounds)
	}
}

func TestFits(t *testing.T) {
	m := Least(nil, readFacts(t, "e(a,b)", "e(b,a)", "e(a,a)", "f(a)", "f(b)", "e(a,b)"))
	for _, c := range []struct {
		atom string
		want []string
	}{
		{"e(X,Y)", []string{"e(a,a)", "e(a,b)", "e(b,a)"}}, {"e(X,X)", []string{"e(a,a)"}}, {"e(a,X)", []string{"e(a,a)", "e(a,b)"}}, {"e(X,b)", []string{"e(a,b)"}},
		{"e(b,a)", []string{"e(b,a)"}}, {"e(b,b)", nil}, {"e(c,X)", nil}, {"f(X)", []string{"f(a)", "f(b)"}}, {"g(X)", nil},
	} {
		if got := textsOf(m, readAtom(t, c.atom)); !slices.Equal(got, c.want) {
			t.Errorf("Fits(%s) = %q, want %q", c.atom, got, c.want)
		}
	}
}

// An iterator that is left early can be gone through once more, from its beginning.
func TestFitsMayBeLeftEarly(t *testing.T) {
	m := Least(nil, readFacts(t, "e(a,b)", "e(b,a)", "e(a,a)", "e(c,c)"))
	all := m.Fits(readAtom(t, "e(X,Y)"))
	for stop := 1; stop <= 4; stop++ {
		seen := map[Ground]int{}
		for ground := range all {
			if seen[ground]++; len(seen) == stop {
				break
			}
		}
		if len(seen) != stop {
			t.Errorf("left at %d, told %v", stop, seen)
		}
	}
	if got := len(slices.Collect(all)); got != 4 {
		t.Errorf("gone through once more: %d, want 4", got)
	}
}

func TestBeyond(t *testing.T) {
	first := Least(nil, readFacts(t, "e(a,b)", "e(b,a)", "e(a,a)", "f(a)"))
	second := Least(nil, readFacts(t, "e(a,a)", "e(a,c)", "e(b,b)", "f(a)", "g(a)"))
	for _, c := range []struct {
		m, other Model
		atom     string
		want     []string
	}{
		{first, second, "e(X,Y)", []string{"e(a,b)", "e(b,a)"}}, {second, first, "e(X,Y)", []string{"e(a,c)", "e(b,b)"}}, {second, first, "e(X,X)", []string{"e(b,b)"}}, {first, second, "f(X)", nil}, {first, second, "g(X)", nil}, {second, first, "g(X)", []string{"g(a)"}},
		{first, first, "e(X,Y)", nil}, {first, nil, "f(X)", []string{"f(a)"}}, {nil, first, "f(X)", nil}, {nil, nil, "f(X)", nil},
	} {
		if got := Texts(c.m.Beyond(c.other, readAtom(t, c.atom))); !slices.Equal(got, c.want) {
			t.Errorf("Beyond(%s) = %q, want %q", c.atom, got, c.want)
		}
	}
	for stop := 1; stop <= 2; stop++ {
		told := 0
		for range first.Beyond(second, readAtom(t, "e(X,Y)")) {
			if told++; told == stop {
				break
			}
		}
		if told != stop {
			t.Errorf("left at %d, told %d", stop, told)
		}
	}
}

func TestJoinMayBeLeftEarly(t *testing.T) {
	m := Least(nil, readFacts(t, "e(a,b)", "e(b,c)", "e(c,a)", "f(a)", "f(b)"))
	body := readRules(t, "p(X):-e(X,Y),f(Z),e(Y,W).")[0].Body
	all := m.join(body, names{})
	if got := len(slices.Collect(all)); got != 6 {
		t.Fatalf("join tells %d, want 6", got)
	}
	for stop := 1; stop <= 6; stop++ {
		seen := map[names]int{}
		for put := range all {
			if seen[put]++; len(seen) == stop {
				break
			}
		}
		if len(seen) != stop {
			t.Errorf("left at %d, told %d", stop, len(seen))
		}
	}
}

func TestFollowAndGivenMayBeLeftEarly(t *testing.T) {
	list := readRules(t, "p(a). p(b). s(X):-e(X). q(X,Y):-e(X),e(Y). r(X):-e(X).")
	for range given(list) {
		break
	}
	facts := readFacts(t, "e(a)", "e(b)", "s(a)")
	m := Least(nil, facts)
	for stop := 1; stop <= 4; stop++ {
		told := 0
		for head := range m.follow(list, facts[0].Ground) {
			if m.Has(head) {
				t.Errorf("%s holds already", head.Text())
			}
			if told++; told == stop {
				break
			}
		}
		if told != stop {
			t.Errorf("left at %d, told %d", stop, told)
		}
	}
}

func TestLeast(t *testing.T) {
	list := readRules(t, "p(X,Y):-e(X,Y). p(X,Z):-p(X,Y),p(Y,Z). s(a). q(X):-p(X,X),s(X).")
	facts := readFacts(t, "e(a,b)", "e(b,c)", "e(c,a)")
	m := Least(list, facts)
	if got := len(textsOf(m, readAtom(t, "p(X,Y)"))); got != 9 {
		t.Errorf("p has %d, want 9", got)
	}
	if got := textsOf(m, readAtom(t, "q(X)")); !slices.Equal(got, []string{"q(a)"}) {
		t.Errorf("q has %q", got)
	}
	for _, fact := range facts {
		if !m.Has(fact.Ground) {
			t.Errorf("the model lacks %s", fact.Ground.Text())
		}
	}
	if m.Has(readGround(t, "q(b)")) || m.Has(readGround(t, "z(a)")) {
		t.Error("the model has too much")
	}
}

func TestLeastKeepsItsFacts(t *testing.T) {
	facts := readFacts(t, "e(b)", "e(a)", "e(c)")
	before := slices.Clone(facts)
	spare := append(facts[:2:3], Lasting{})[:2] // a spare place that Least must not write to
	Least(readRules(t, "p(X):-e(X). q(z)."), spare)
	if !slices.Equal(facts[:2], before[:2]) || facts[2] != (Lasting{}) {
		t.Errorf("the facts were changed: %v", facts)
	}
}

// The end is that of the way that lasts longest, and a way lasts until the first of its facts ends.
func TestEnds(t *testing.T) {
	list := readRules(t, "p(X,Y):-e(X,Y). p(X,Z):-p(X,Y),p(Y,Z). s(a). q(X):-p(X,X),s(X). s(X):-f(X).")
	facts := readFacts(t, "e(a,b)", "e(b,c)", "e(c,a)", "e(a,c)", "f(a)", "f(b)", "e(a,b)")
	for range 2 {
		m := Least(list, facts)
		for text, want := range map[string]int{
			"e(a,b)": 9, "e(b,c)": 8, "p(a,b)": 9, "p(a,c)": 8, "p(a,a)": 7, "p(c,b)": 7, "q(a)": 7, "s(a)": api.Never, "f(a)": 5, "s(b)": 4, "q(b)": 4, "q(c)": 0, "z(a)": 0, "f(c)": 0,
		} {
			if got := m.End(readGround(t, text)); got != want {
				t.Errorf("End(%s) = %d, want %d", text, got, want)
			}
		}
		slices.Reverse(facts)
	}
}

// All names are put for six variables at once: as many as a rule can have.
func TestSixVariables(t *testing.T) {
	list := readRules(t, "p(A,F):-e(A,B),f(C,D),g(E,F).")
	m := Least(list, readFacts(t, "e(a,b)", "f(c,d)", "g(e,f)", "g(e,g)"))
	if got := textsOf(m, readAtom(t, "p(X,Y)")); !slices.Equal(got, []string{"p(a,f)", "p(a,g)"}) {
		t.Errorf("p has %q", got)
	}
}
