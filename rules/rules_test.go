package rules

import (
	"reflect"
	"testing"

	"ebb/api"
)

func TestReadBuildsRules(t *testing.T) {
	got, err, at := Read("p(X, a) :- q(X), r(a,X).\nq(b).")
	want := []Rule{
		{
			Head: Atom{"p", []Term{{"X", true}, {"a", false}}},
			Body: []Atom{{"q", []Term{{"X", true}}}, {"r", []Term{{"a", false}, {"X", true}}}},
		},
		{Head: Atom{"q", []Term{{"b", false}}}, Body: []Atom{}},
	}
	if err != api.OK || at != 0 || !reflect.DeepEqual(got, want) {
		t.Errorf("Read = %v, %d, %d, want %v", got, err, at, want)
	}
}

func TestReadTellsNothingBesideAnError(t *testing.T) {
	for _, text := range []string{"p(a). p(", "p(a). p(a,b).", "p(a). p(X)."} {
		if got, err, _ := Read(text); got != nil || err == api.OK {
			t.Errorf("Read(%q) = %v, %d", text, got, err)
		}
	}
}

func TestAtomsAndArgsMayBeLeftEarly(t *testing.T) {
	list, _, _ := Read("p(a,b):-q(c),r(d,e).")
	for stop := 1; stop <= 3; stop++ {
		atoms := 0
		for range list[0].Atoms() {
			if atoms++; atoms == stop {
				break
			}
		}
		if atoms != stop {
			t.Errorf("Atoms told %d, want %d", atoms, stop)
		}
	}
	for stop, want := range []string{"a", "b", "c", "d", "e"} {
		seen := 0
		for term := range list[0].Args() {
			if seen++; seen > stop {
				if term.Text != want {
					t.Errorf("argument %d is %q, want %q", stop, term.Text, want)
				}
				break
			}
		}
	}
}

func TestWriteKeepsWhatItIsGiven(t *testing.T) {
	list, _, _ := Read("p(Y,Z):-q(Z,Y),r(W,a).")
	first := Write(list)
	if want := "p(X0,X1) :- q(X1,X0), r(X2,a).\n"; first != want {
		t.Errorf("Write = %q, want %q", first, want)
	}
	if second := Write(list); second != first {
		t.Errorf("Write once more = %q, want %q", second, first)
	}
}
