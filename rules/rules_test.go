package rules

import (
	"reflect"
	"slices"
	"strings"
	"testing"

	"ebb/api"
)

func TestReadBuildsRules(t *testing.T) {
	got, err, at := Read("p(X, a) :- q(X), r(Y,X).\ns(Y,Y) :- q(Y).\nq(b).")
	want := []Rule{
		{
			Head: Atom{"p", []Term{{Number: 0}, {Name: "a"}}},
			Body: []Atom{{"q", []Term{{Number: 0}}}, {"r", []Term{{Number: 1}, {Number: 0}}}},
		},
		{
			Head: Atom{"s", []Term{{Number: 0}, {Number: 0}}},
			Body: []Atom{{"q", []Term{{Number: 0}}}},
		},
		{Head: Atom{"q", []Term{{Name: "b"}}}, Body: []Atom{}},
	}
	if err != api.OK || at != 0 || !reflect.DeepEqual(got, want) {
		t.Errorf("Read = %v, %d, %d, want %v", got, err, at, want)
	}
}

func TestReadTellsNothingBesideAnError(t *testing.T) {
	for _, text := range []string{"p(a). p(", "p(a). p(a,b).", "p(a). p(X)."} {
		if got, err, _ := Read(text); got != nil || err == api.OK {
			t.Errorf("Read(%q) = %v, %d", text, got, err)
		}
	}
}

func TestAtomsAndArgsMayBeLeftEarly(t *testing.T) {
	list, _, _ := Read("p(a,b):-q(c),r(d,e).")
	for stop := 1; stop <= 3; stop++ {
		atoms := 0
		for range list[0].Atoms() {
			if atoms++; atoms == stop {
				break
			}
		}
		if atoms != stop {
			t.Errorf("Atoms told %d, want %d", atoms, stop)
		}
	}
	for stop, want := range []string{"a", "b", "c", "d", "e"} {
		seen := 0
		for term := range list[0].Args() {
			if seen++; seen > stop {
				if term.Name != want {
					t.Errorf("argument %d is %q, want %q", stop, term.Name, want)
				}
				break
			}
		}
	}
}

func TestWriteKeepsWhatItIsGiven(t *testing.T) {
	list, _, _ := Read("p(Y,Z):-q(Z,Y),r(W,a).")
	first := Write(list)
	if want := "p(X0,X1) :- q(X1,X0), r(X2,a).\n"; first != want {
		t.Errorf("Write = %q, want %q", first, want)
	}
	if second := Write(list); second != first {
		t.Errorf("Write once more = %q, want %q", second, first)
	}
}

func TestReadAtom(t *testing.T) {
	for text, want := range map[string]Atom{
		"p(a)":                {"p", []Term{{Name: "a"}}},
		" ω ( X ,\tb )\n":     {"ω", []Term{{Number: 0}, {Name: "b"}}},
		"p(X,Y)":              {"p", []Term{{Number: 0}, {Number: 1}}},
		"abcdefgh(Ω234,Ω234)": {"abcdefgh", []Term{{Number: 0}, {Number: 0}}},
	} {
		if got, ok := ReadAtom(text); !ok || !reflect.DeepEqual(got, want) {
			t.Errorf("ReadAtom(%q) = %v, %t, want %v", text, got, ok, want)
		}
	}
	for _, text := range []string{"", "p", "p(", "p(a", "p(a).", "p(a):-", "p(a):-q(a)", "p(a). q(a)", "p(a)q(a)", "p(a),q(a)", "X(a)", "p(a,b,c)", "p(abcdefghi)", "p(1)", "p(a)\xff", strings.Repeat(" ", 297) + "p(a)"} {
		if got, ok := ReadAtom(text); ok || !reflect.DeepEqual(got, Atom{}) {
			t.Errorf("ReadAtom(%q) = %v, %t", text, got, ok)
		}
	}
}

func TestReadName(t *testing.T) {
	for _, text := range []string{"p", "path", "ω", "a1", "aB", "pΩ9", "abcdefgh", "ξξξξξξξξ"} {
		if got, ok := ReadName(text); !ok || got != text {
			t.Errorf("ReadName(%q) = %q, %t", text, got, ok)
		}
	}
	for _, text := range []string{"", " ", "P", "Ω", "1", "1p", " p", "p ", "\tp", "p\n", "p p", "p(", "p.", "p,p", ":-", "p:-", "p-", "é", "pé", "\xce", "p\xff", "p\x00", "abcdefghi", "ξξξξξξξξξ", "p       q", "\u03a2", "\u03b0", "\u03ca"} {
		if got, ok := ReadName(text); ok || got != "" {
			t.Errorf("ReadName(%q) = %q, %t", text, got, ok)
		}
	}
}

func TestForm(t *testing.T) {
	for text, arity := range map[string]int{"p(X)": 1, "ω(X,Y)": 2} {
		want, _ := ReadAtom(text)
		if got := Form(want.Relation, arity); !reflect.DeepEqual(got, want) {
			t.Errorf("Form(%q, %d) = %v, want %v", want.Relation, arity, got, want)
		}
	}
}

func TestIsGround(t *testing.T) {
	for text, want := range map[string]bool{"p(a)": true, "p(X)": false, "p(a,b)": true, "p(a,X)": false, "p(X,a)": false, "p(X,X)": false} {
		if atom, _ := ReadAtom(text); atom.IsGround() != want {
			t.Errorf("IsGround of %s is %t", text, !want)
		}
	}
}

func TestArityAndIsDerived(t *testing.T) {
	list, _, _ := Read("p(X):-e(X,Y),q(Y,a). q(b,c). r(X):-r(X).")
	for relation, want := range map[string]struct {
		arity   int
		derived bool
	}{"p": {1, true}, "e": {2, false}, "q": {2, true}, "r": {1, true}, "a": {0, false}, "": {0, false}} {
		if arity, derived := Arity(list, relation), IsDerived(list, relation); arity != want.arity || derived != want.derived {
			t.Errorf("%q: %d, %t, want %v", relation, arity, derived, want)
		}
	}
}

func TestAddNames(t *testing.T) {
	list, _, _ := Read("p(X,a):-e(X,b),f(a). q(c,b).")
	var names []string
	for _, rule := range list {
		names = AddNames(names, rule.Args())
	}
	if want := []string{"a", "b", "c"}; !slices.Equal(names, want) {
		t.Errorf("AddNames = %q, want %q", names, want)
	}
}
