package ebb_test

import (
	"strings"
	"testing"

	"ebb/api"
	"ebb/ebb"
)

// refused is a text that Rules must refuse, with its error and the number beside it.
type refused struct {
	text string
	err  api.Errno
	at   int
}

func checkRefused(t *testing.T, cases []refused) {
	t.Helper()
	for _, c := range cases {
		if text, err, at := ebb.Rules(c.text); text != "" || err != c.err || at != c.at {
			t.Errorf("Rules(%.80q) = %q, %d, %d, want %d, %d", c.text, text, err, at, c.err, c.at)
		}
	}
}

func TestP1TheErrorNamedFirst(t *testing.T) {
	checkRefused(t, []refused{
		{strings.Repeat("1", 301), api.ErrLong, 0},
		{"abcdefghi.", api.ErrSize, 0},
		{"Abcdefghi(a).", api.ErrText, 0},
		{"p(a abcdefghi).", api.ErrText, 4},
		{"p(a) abcdefghi", api.ErrText, 5},
		{"p(a,b,abcdefghi).", api.ErrSize, 6},
		{"p(X).p(a,b).", api.ErrArity, 1},
		{"p(X).q(a,b).r(c,d).s(e,f).t(g,h).u(i).", api.ErrSafe, 0},
		{"q(a,b).r(c,d).s(e,f).t(g,h).u(i).p(X).", api.ErrSafe, 5},
		{"q(a,b).r(c,d).s(e,f).t(g,h).u(i).q(a).", api.ErrArity, 5},
		{"p(X).p(a,b). 1", api.ErrText, 13},
		{"p(X).p(a,b).q", api.ErrText, 13},
	})
}

func TestP2TheTextAlone(t *testing.T) {
	text := "p(X):-q(X,c),r(X)."
	want, _, _ := ebb.Rules(text)
	for _, between := range []string{"p(a,b).", "q(a).", "p(X).", "r(a,b,c).", "", "\xff"} {
		ebb.Rules(between)
		if got, err, at := ebb.Rules(text); got != want || err != api.OK || at != 0 {
			t.Errorf("behind Rules(%q): %q, %d, %d, want %q", between, got, err, at, want)
		}
	}
}

func TestP3TooLong(t *testing.T) {
	for _, piece := range []string{" ", "ω", "😀", "\xff", "p", "("} {
		checkRefused(t, []refused{{strings.Repeat(piece, 301), api.ErrLong, 0}})
		if _, err, _ := ebb.Rules(strings.Repeat(piece, 300)); err == api.ErrLong {
			t.Errorf("300 times %q is not too long", piece)
		}
	}
	longest := "ω(ω)." + strings.Repeat(" ", 295)
	if got, err, at := ebb.Rules(longest); got != "ω(ω).\n" || err != api.OK || at != 0 {
		t.Errorf("a text of 300 runes: %q, %d, %d", got, err, at)
	}
	checkRefused(t, []refused{{longest + " ", api.ErrLong, 0}, {strings.Repeat("p(a).", 1000000), api.ErrLong, 0}})
}

func TestP3WrongTokens(t *testing.T) {
	checkRefused(t, []refused{
		{"X(a).", api.ErrText, 0}, {"(a).", api.ErrText, 0}, {":-p(a).", api.ErrText, 0}, {".", api.ErrText, 0}, {",", api.ErrText, 0},
		{"p.", api.ErrText, 1}, {"p q(a).", api.ErrText, 2}, {"p).", api.ErrText, 1},
		{"p().", api.ErrText, 2}, {"p((a)).", api.ErrText, 2}, {"p(,a).", api.ErrText, 2}, {"p(a,).", api.ErrText, 4}, {"p(a,,b).", api.ErrText, 4},
		{"p(a b).", api.ErrText, 4}, {"p(a(b)).", api.ErrText, 3}, {"p(a.", api.ErrText, 3}, {"p(a:-b).", api.ErrText, 3},
		{"p(a)q(a).", api.ErrText, 4}, {"p(a),q(a).", api.ErrText, 4}, {"p(a)).", api.ErrText, 4}, {"p(a)..", api.ErrText, 5},
		{"p(a):-.", api.ErrText, 6}, {"p(a):-X(a).", api.ErrText, 6}, {"p(a):-:-q(a).", api.ErrText, 6}, {"p(a):-,q(a).", api.ErrText, 6},
		{"p(a):-q(a):-r(a).", api.ErrText, 10}, {"p(a):-q(a)r(a).", api.ErrText, 10}, {"p(a):-q(a),.", api.ErrText, 11}, {"p(a):-q(a),R(a).", api.ErrText, 11},
	})
}

func TestP3WrongRunes(t *testing.T) {
	checkRefused(t, []refused{
		{"1", api.ErrText, 0}, {"p(1a).", api.ErrText, 2}, {"p(a 1).", api.ErrText, 4}, {"p(a)1.", api.ErrText, 4}, {"α(1).", api.ErrText, 2},
		{"p(a):q(a).", api.ErrText, 4}, {"p(a): -q(a).", api.ErrText, 4}, {"p(a):", api.ErrText, 4}, {"p(a)-q(a).", api.ErrText, 4},
		{"p(a_b).", api.ErrText, 3}, {"p(a).\r", api.ErrText, 5}, {"p(a)\u00a0.", api.ErrText, 4}, {"p(é).", api.ErrText, 2}, {"p(aé).", api.ErrText, 3}, {"p(a).\x00", api.ErrText, 5},
		{"p(\u0390).", api.ErrText, 2}, {"p(\u03a2).", api.ErrText, 2}, {"p(\u03aa).", api.ErrText, 2}, {"p(\u03b0).", api.ErrText, 2}, {"p(\u03ca).", api.ErrText, 2},
		{"\xff", api.ErrText, 0}, {"ωω(ω)\xff", api.ErrText, 5}, {"ω\xce(a).", api.ErrText, 1}, {"ω(ω,\xf0\x9f\x98).", api.ErrText, 4}, {"ω(\ufffd).", api.ErrText, 2},
		{"ω(ω)\xed\xa0\x80.", api.ErrText, 4}, {"ω(ω)\xc0\xae", api.ErrText, 4}, {"😀", api.ErrText, 0}, {"ωωω(ω)😀", api.ErrText, 6},
	})
}

func TestP3TheEndIsMissing(t *testing.T) {
	whole := []rune("ω ( Ω , b ) :- q ( Ω ) , r ( a ) .")
	for end := 1; end < len(whole); end++ {
		place := end
		if whole[end-1] == ':' { // cut from its hyphen it is wrong itself
			place--
		}
		checkRefused(t, []refused{{string(whole[:end]), api.ErrText, place}})
	}
	checkRefused(t, []refused{{"p(a).q", api.ErrText, 6}, {"p(a).q(a) \n", api.ErrText, 11}, {"p(a,b,", api.ErrText, 6}})
}

func TestP3TooMuch(t *testing.T) {
	eight := strings.Repeat("p(a).", 8)
	checkRefused(t, []refused{
		{"abcdefghi(a).", api.ErrSize, 0}, {"p(abcdefghi).", api.ErrSize, 2}, {"p(a,Abcdefghi).", api.ErrSize, 4}, {"ξξξξξξξξξ(a).", api.ErrSize, 0}, {"p(a12345678).", api.ErrSize, 2}, {"p(a):-abcdefghi(a).", api.ErrSize, 6}, {strings.Repeat("ω", 300), api.ErrSize, 0},
		{"p(a,b,c).", api.ErrSize, 6}, {"p(a,b,C).", api.ErrSize, 6}, {"p(a):-q(a , b , c).", api.ErrSize, 16},
		{"p(a,b,).", api.ErrText, 6}, {"p(a,b,1).", api.ErrText, 6},
		{"p(a):-q(a),r(a),s(a),t(a).", api.ErrSize, 21}, {"p(a):-q(a),r(a),s(a),T(a).", api.ErrText, 21}, {"p(a):-q(a),r(a),s(a),", api.ErrText, 21}, {"p(a):-q(a),r(a),s(a),t", api.ErrSize, 21},
		{eight + "p(a).", api.ErrSize, 40}, {eight + " p", api.ErrSize, 41}, {eight + "P(a).", api.ErrText, 40}, {eight + ".", api.ErrText, 40},
		{"p(a,b,c) 1", api.ErrSize, 6}, {"p(a) 1 p(a,b,c)", api.ErrText, 5},
	})
}

func TestP4Arity(t *testing.T) {
	checkRefused(t, []refused{
		{"p(a). p(a,b).", api.ErrArity, 1}, {"p(a,b). p(a).", api.ErrArity, 1}, {"p(a):-p(a,b).", api.ErrArity, 0}, {"p(a):-q(a),q(a,b).", api.ErrArity, 0}, {"p(a):-q(a),r(a),q(X,Y).", api.ErrArity, 0},
		{"p(a).q(a):-r(a).s(a).r(a,b).", api.ErrArity, 3}, {"p(a).q(a).q(a,b).p(a,b).", api.ErrArity, 2}, {"p(a):-q(a,b). q(a,b). r(a):-q(a).", api.ErrArity, 2},
		{"πρ(a). πρ(a,b).", api.ErrArity, 1},
	})
	checkWritten(t, []written{{"p(q):-q(p,q).", "p(q) :- q(p,q).\n"}, {"p(a).q(a,b).p(X):-q(X,Y).", "p(a).\nq(a,b).\np(X0) :- q(X0,X1).\n"}})
}

func TestP4Safe(t *testing.T) {
	checkRefused(t, []refused{
		{"p(X).", api.ErrSafe, 0}, {"p(a,X).", api.ErrSafe, 0}, {"p(X):-q(Y).", api.ErrSafe, 0}, {"p(X,Y):-q(X),r(X).", api.ErrSafe, 0}, {"p(Y,X):-q(X),r(X).", api.ErrSafe, 0}, {"αβ(Ω).", api.ErrSafe, 0},
		{"p(a).p(X):-q(X).r(X):-q(x).", api.ErrSafe, 2}, {"p(X):-q(X).p(X).p(Y).", api.ErrSafe, 1}, {"p(X):-q(X1).", api.ErrSafe, 0},
	})
	checkWritten(t, []written{{"p(X):-q(a),r(b),s(c,X).", "p(X0) :- q(a), r(b), s(c,X0).\n"}, {"p(a):-q(X).", "p(a) :- q(X0).\n"}})
}

func TestP4Names(t *testing.T) {
	checkRefused(t, []refused{
		{"p(a,b).q(c,d).r(e,f).s(g,h).t(i).", api.ErrSize, 4}, {"p(a,b):-q(c,d),r(e,f),s(g,h).t(i).", api.ErrSize, 1}, {"p(a,b):-q(c,d),r(e,f),s(g,h).t(a).u(h).v(p).w(q).", api.ErrSize, 3}, {"p(a,b):-q(c,d),r(e,f),s(g,h).t(X):-u(X),v(i,α).t(ω).", api.ErrSize, 1},
	})
	checkWritten(t, []written{
		{"p(a,b):-q(c,d),r(e,f),s(g,h).t(a).", "p(a,b) :- q(c,d), r(e,f), s(g,h).\nt(a).\n"},
		{"p(a,b):-q(c,d),r(e,f),s(g,h).p(X,Y):-i(X,Y),j(Z,A).", "p(a,b) :- q(c,d), r(e,f), s(g,h).\np(X0,X1) :- i(X0,X1), j(X2,X3).\n"},
	})
}

// written is a text that Rules must take, and how it writes it.
type written struct{ text, want string }

func checkWritten(t *testing.T, cases []written) {
	t.Helper()
	for _, c := range cases {
		if got, err, at := ebb.Rules(c.text); got != c.want || err != api.OK || at != 0 {
			t.Errorf("Rules(%.80q) = %q, %d, %d, want %q", c.text, got, err, at, c.want)
		}
	}
}

func TestP5Written(t *testing.T) {
	checkWritten(t, []written{
		{"", ""}, {" \t\n", ""}, {strings.Repeat("\n", 300), ""},
		{"path(X,Y):-edge(X,Y). path(X,Z):-path(X,Y),edge(Y,Z).", "path(X0,X1) :- edge(X0,X1).\npath(X0,X1) :- path(X0,X2), edge(X2,X1).\n"},
		{"αβ(ω).", "αβ(ω).\n"}, {"ς(ςα):-αω(ΑΩ,ΡΣ).", "ς(ςα) :- αω(X0,X1).\n"}, {" p\t(\na , b ) \n.", "p(a,b).\n"}, {"p(a)  :-\n\tq(a)  ,r(b)\t.", "p(a) :- q(a), r(b).\n"},
		{"p(X1,X0):-q(X0,X1).", "p(X0,X1) :- q(X1,X0).\n"}, {"p(X):-q(Y),r(Y,X).p(Y):-q(Y).", "p(X0) :- q(X1), r(X1,X0).\np(X0) :- q(X0).\n"}, {"p(A,B):-q(C,D),r(E,F),s(B,A).", "p(X0,X1) :- q(X2,X3), r(X4,X5), s(X1,X0).\n"}, {"p(a,B):-q(C,D),r(E,F),s(G,B).", "p(a,X0) :- q(X1,X2), r(X3,X4), s(X5,X0).\n"},
		{"p(X,X):-q(X,X).", "p(X0,X0) :- q(X0,X0).\n"}, {"p(a,Ωω):-q(Ωω,ωΩ).", "p(a,X0) :- q(X0,ωΩ).\n"}, {"p(a):-q(X),r(x).", "p(a) :- q(X0), r(x).\n"},
		{"abcdefgh(a1234567):-q(Ω1234567).", "abcdefgh(a1234567) :- q(X0).\n"}, {"ξξξξξξξξ(a).", "ξξξξξξξξ(a).\n"}, {strings.Repeat("p(a).", 8), strings.Repeat("p(a).\n", 8)},
		{"p(b).p(a).p(b).", "p(b).\np(a).\np(b).\n"}, {"x(aB0).", "x(aB0).\n"},
	})
}
