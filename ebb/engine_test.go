package ebb_test

import (
	"math"
	"slices"
	"strings"
	"testing"

	"ebb/api"
	"ebb/ebb"
)

const paths = "path(X,Y):-edge(X,Y). path(X,Z):-path(X,Y),edge(Y,Z)."

// run is an engine under test.
type run struct {
	t *testing.T
	x *ebb.Engine
}

func begin(t *testing.T, text string, window, lateness int) run {
	t.Helper()
	return beginQueue(t, text, window, lateness, 20)
}

func beginQueue(t *testing.T, text string, window, lateness, queue int) run {
	t.Helper()
	x, err := ebb.New(text, window, lateness, queue)
	if x == nil || err != api.OK {
		t.Fatalf("New(%q, %d, %d, %d): %d", text, window, lateness, queue, err)
	}
	return run{t, x}
}

func (r run) insert(time int, facts ...string) {
	r.t.Helper()
	for _, fact := range facts {
		r.refuse(api.OK, time, fact)
	}
}

func (r run) refuse(want api.Errno, time int, facts ...string) {
	r.t.Helper()
	for _, fact := range facts {
		if err := r.x.Insert(fact, time); err != want {
			r.t.Errorf("Insert(%.80q, %d) = %d, want %d", fact, time, err, want)
		}
	}
}

func (r run) tick(clock, want int) {
	r.t.Helper()
	if mark, err := r.x.Tick(clock); mark != want || err != api.OK {
		r.t.Errorf("Tick(%d) = %d, %d, want %d", clock, mark, err, want)
	}
}

// ask takes the texts that are wanted as one, with blanks between.
func (r run) ask(atom, want string) {
	r.t.Helper()
	if texts, err := r.x.Ask(atom); err != api.OK || !slices.Equal(texts, strings.Fields(want)) {
		r.t.Errorf("Ask(%q) = %q, %d, want %s", atom, texts, err, want)
	}
}

func (r run) askWrong(want api.Errno, atoms ...string) {
	r.t.Helper()
	for _, atom := range atoms {
		if texts, err := r.x.Ask(atom); len(texts) > 0 || err != want {
			r.t.Errorf("Ask(%.80q) = %q, %d, want %d", atom, texts, err, want)
		}
	}
}

func TestP6WrongArguments(t *testing.T) {
	for _, c := range []struct {
		text                    string
		window, lateness, queue int
		want                    api.Errno
	}{
		{strings.Repeat(" ", 301), 0, -1, 0, api.ErrLong}, {"p(", 0, -1, 0, api.ErrText}, {"p(a,b,c).", 0, -1, 0, api.ErrSize}, {"p(a).p(a,b).", 0, -1, 0, api.ErrArity}, {"p(X).", 0, -1, 0, api.ErrSafe},
		{"p(a,b).q(c,d).r(e,f).s(g,h).t(i).", 1, 0, 1, api.ErrSize},
		{"", 0, 0, 1, api.ErrArg}, {"", 1001, 0, 1, api.ErrArg}, {"", -1, 0, 1, api.ErrArg}, {"", math.MaxInt, 0, 1, api.ErrArg}, {"", math.MinInt, 0, 1, api.ErrArg},
		{"", 1, -1, 1, api.ErrArg}, {"", 1, 1001, 1, api.ErrArg}, {"", 1, math.MaxInt, 1, api.ErrArg}, {"", 1, math.MinInt, 1, api.ErrArg},
		{"", 1, 0, 0, api.ErrArg}, {"", 1, 0, 51, api.ErrArg}, {"", 1, 0, -1, api.ErrArg}, {"", 1, 0, math.MaxInt, api.ErrArg}, {"", 1, 0, math.MinInt, api.ErrArg},
	} {
		if x, err := ebb.New(c.text, c.window, c.lateness, c.queue); x != nil || err != c.want {
			t.Errorf("New(%.40q, %d, %d, %d) = %v, %d, want %d", c.text, c.window, c.lateness, c.queue, x, err, c.want)
		}
	}
	for _, c := range [][3]int{{1, 0, 1}, {1000, 1000, 50}} {
		if x, err := ebb.New("", c[0], c[1], c[2]); x == nil || err != api.OK {
			t.Errorf("New(%v) = %v, %d", c, x, err)
		}
	}
}

func TestP6WhatHoldsAtFirst(t *testing.T) {
	r := begin(t, "s(X):-r(X,X). r(X,c):-q(X). q(X):-p(X),p(b). p(c). p(a). p(b). t(X):-e(X).", 1, 0)
	r.ask("p(X)", "p(a) p(b) p(c)")
	r.ask("q(X)", "q(a) q(b) q(c)")
	r.ask("r(X,Y)", "r(a,c) r(b,c) r(c,c)")
	r.ask("s(X)", "s(c)")
	r.ask("t(X)", "")
	r.ask("e(X)", "")
	r.tick(0, 0)
	r.tick(7, 7)
	r.ask("s(X)", "s(c)")
}

func TestP7WrongTexts(t *testing.T) {
	r := begin(t, "p(X):-e(X,Y),f(Y). p(a).", 10, 0)
	for _, text := range []string{
		"", " ", "e", "e(", "e(a", "e(a,", "e(a,b", "e()", "(a,b)", "e(a,b).", "e(a,b):-f(a)", "e(a,b):-", "e(a,b),f(a)", "e(a,b)f(a)", "e(a,b)e", "e(a,b))", "f(a).e(a,b)", "p(a). f(a)",
		"e(a,X)", "e(X,b)", "f(X)", "X(a)", "X(a,b)", "e(a,1)", "e(a;b)", "e(a b)", "e(a,,b)", "e(a,b,c)", "e(a,b,c,d)", "e(a,b,", "e e(a,b)",
		"e(abcdefghi,b)", "abcdefghi(a)", "e(a,ξξξξξξξξξ)", "e(a,\xce)", "e(a,b)\xff", "e(a,b)\r", "e(a,é)", "e(a,\u03a2)", "1", ".",
		strings.Repeat(" ", 295) + "e(a,b)", strings.Repeat("\xff", 301), strings.Repeat("e(a,b)", 1000000),
	} {
		r.refuse(api.ErrText, 1, text)
		r.refuse(api.ErrText, -1, text)
	}
	r.insert(1, "e(a,b)")
	r.insert(2, " \te\n( a ,b)\n")
	r.insert(3, strings.Repeat(" ", 294)+"e(a,b)", "f(abcdefgh)", "e(αβγ,ωωωωωωωω)")
	r.insert(4, strings.Repeat("\n", 292)+"e(αβγ,b)")
	r.refuse(api.ErrTwice, 2, "e(a,b)")
	r.tick(5, 5)
	r.ask("e(X,Y)", "e(a,b) e(αβγ,b) e(αβγ,ωωωωωωωω)")
}

func TestP7TheErrorNamedFirst(t *testing.T) {
	r := begin(t, "p(X):-e(X,Y),f(Y). p(a). q(X):-p(X).", 10, 0)
	r.refuse(api.ErrText, -1, "p(X)", "z(X)", "e(X)")
	r.refuse(api.ErrName, -1, "p(a)", "q(a)", "z(a)", "p(a,b)", "q(a,b)", "z(a,b)", "a(p)")
	r.refuse(api.ErrArity, -1, "e(a)", "f(a,b)")
	r.refuse(api.ErrArity, 1, "e(a)", "f(a,b)")
	for _, time := range []int{-1, 1000001, math.MaxInt, math.MinInt, math.MaxInt - 9} {
		r.refuse(api.ErrArg, time, "e(a,b)", "f(a)")
	}
	for time := range api.MaxFacts {
		r.insert(20+time, "f(a)")
	}
	r.tick(29, 29)
	r.refuse(api.ErrArg, -1, "f(a)")
	r.refuse(api.ErrLate, 19, "f(a)", "f(b)")
	r.refuse(api.ErrTwice, 20, "f(a)")
	r.refuse(api.ErrFull, 20, "f(b)", "e(a,a)")
}

func TestP7Late(t *testing.T) {
	for _, window := range []int{1, 2, 10, 1000} {
		r := begin(t, "p(X):-f(X).", window, 0)
		r.insert(0, "f(a)")
		r.tick(window-1, window-1)
		r.refuse(api.ErrTwice, 0, "f(a)")
		r.insert(0, "f(b)")
		r.tick(window, window)
		r.refuse(api.ErrLate, 0, "f(a)", "f(c)")
		r.insert(1, "f(a)")
		r.tick(1000000, 1000000)
		r.refuse(api.ErrLate, 1000000-window, "f(a)")
		r.insert(1000001-window, "f(a)")
		if window > 1 {
			r.insert(1000000, "f(a)")
		}
	}
}

// The watermark is what makes a fact late, not the clock.
func TestP7LateByTheWatermark(t *testing.T) {
	r := begin(t, "p(X):-f(X).", 5, 10)
	r.tick(14, 4)
	r.insert(0, "f(a)")
	r.tick(15, 5)
	r.refuse(api.ErrLate, 0, "f(b)")
	r.insert(1, "f(b)")
}

func TestP7Twice(t *testing.T) {
	r := begin(t, "p(X):-e(X,Y),f(Y),g(X,Y).", 10, 0)
	r.insert(3, "e(a,b)", "e(b,a)", "e(a,a)", "f(a)", "g(a,b)")
	r.insert(4, "e(a,b)")
	r.refuse(api.ErrTwice, 3, "e(a,b)", "e(b,a)", " e(a, a) ", "f(a)", "g(a,b)")
	r.refuse(api.ErrTwice, 4, "e(a,b)")
	r.tick(12, 12)
	r.refuse(api.ErrTwice, 3, "e(a,b)")
	r.tick(13, 13)
	r.refuse(api.ErrLate, 3, "e(a,b)")
	r.refuse(api.ErrTwice, 4, "e(a,b)")
}

func TestP7FullOfFacts(t *testing.T) {
	r := begin(t, "p(X):-e(X,Y),f(Y).", 10, 0)
	for time := range api.MaxFacts / 2 {
		r.insert(time, "f(a)", "e(a,a)")
	}
	r.refuse(api.ErrFull, 3, "f(b)")
	r.refuse(api.ErrFull, 100, "f(a)")
	r.tick(9, 9)
	r.refuse(api.ErrFull, 100, "f(a)")
	r.tick(10, 10)
	r.insert(100, "f(a)", "e(a,a)")
	r.refuse(api.ErrFull, 101, "f(a)")
	r.tick(12, 12)
	r.insert(12, "f(a)", "f(b)", "f(c)", "f(d)")
	r.refuse(api.ErrFull, 12, "f(e)")
	r.refuse(api.ErrTwice, 100, "f(a)")
}

func TestP7FullOfNames(t *testing.T) {
	r := begin(t, "p(X,a):-e(X,b),f(X). q(c,c):-f(p).", 10, 0)
	r.insert(1, "f(e)", "e(d,g)") // known: a, b, c, p, e, d, g
	r.refuse(api.ErrFull, 1, "e(h,i)")
	r.insert(1, "f(a)", "e(h,h)")
	r.refuse(api.ErrFull, 1, "f(i)", "e(i,a)", "e(a,i)", "f(q)", "f(x)")
	r.insert(1, "e(a,b)", "f(p)")
	r.tick(100, 100)
	r.ask("e(X,Y)", "")
	r.refuse(api.ErrFull, 100, "f(i)")
	r.insert(100, "e(h,g)", "f(d)")
}

// A name that a refused fact would have brought is not known by it.
func TestP7RefusedFactsLeaveNothing(t *testing.T) {
	r := begin(t, "p(X):-e(X,Y),f(Y).", 10, 0)
	r.tick(50, 50)
	r.refuse(api.ErrLate, 40, "e(a1,a2)", "f(a3)")
	r.refuse(api.ErrArg, -1, "e(b1,b2)", "f(b3)")
	r.refuse(api.ErrArity, 50, "e(c1)", "f(c2,c3)")
	r.refuse(api.ErrName, 50, "p(d1)", "z(d2,d3)")
	r.refuse(api.ErrText, 50, "e(e1,X)", "f(e2).")
	r.insert(60, "e(g1,g2)", "e(g3,g4)", "e(g5,g6)", "f(g7)")
	r.refuse(api.ErrFull, 60, "e(h1,h2)", "e(h3,h4)")
	r.insert(60, "f(g8)")
	r.refuse(api.ErrFull, 60, "f(h1)")
	r.tick(60, 60)
	r.ask("e(X,Y)", "e(g1,g2) e(g3,g4) e(g5,g6)")
	r.ask("f(X)", "f(g7) f(g8)")
}

func TestP8Watermark(t *testing.T) {
	r := begin(t, "", 1, 10)
	for _, c := range [][2]int{{0, 0}, {5, 0}, {10, 0}, {11, 1}, {11, 1}, {3, 1}, {0, 1}, {15, 5}, {14, 5}, {16, 6}, {1000000, 999990}, {0, 999990}, {1000000, 999990}} {
		r.tick(c[0], c[1])
	}
	begin(t, "", 1, 0).tick(1000000, 1000000)
	begin(t, "", 1, 1000).tick(1000, 0)
	begin(t, "", 1, 1000).tick(1001, 1)
}

func TestP8WrongClock(t *testing.T) {
	r := begin(t, "p(X):-f(X).", 10, 0)
	r.tick(5, 5)
	r.insert(5, "f(a)")
	for _, clock := range []int{-1, 1000001, math.MaxInt, math.MinInt} {
		if mark, err := r.x.Tick(clock); mark != 0 || err != api.ErrArg {
			t.Errorf("Tick(%d) = %d, %d", clock, mark, err)
		}
	}
	r.ask("f(X)", "")
	r.tick(5, 5)
	r.ask("f(X)", "")
	r.tick(6, 6)
	r.ask("p(X)", "p(a)")
}

// Facts take effect when the watermark moves to their time or beyond, and no sooner.
func TestP8FactsBegin(t *testing.T) {
	r := begin(t, "p(X):-f(X).", 10, 2)
	r.insert(0, "f(a)")
	r.insert(3, "f(b)")
	r.insert(4, "f(c)")
	r.tick(0, 0)
	r.tick(2, 0)
	r.ask("f(X)", "")
	r.tick(3, 1)
	r.ask("f(X)", "f(a)")
	r.tick(5, 3)
	r.ask("p(X)", "p(a) p(b)")
	r.insert(3, "f(d)")
	r.insert(0, "f(e)")
	r.ask("p(X)", "p(a) p(b)")
	r.tick(5, 3)
	r.tick(1, 3)
	r.ask("f(X)", "f(a) f(b)")
	r.tick(6, 4)
	r.ask("f(X)", "f(a) f(b) f(c) f(d) f(e)")
}

func TestP8FactsEnd(t *testing.T) {
	r := begin(t, "p(X):-f(X).", 10, 0)
	r.insert(1, "f(a)", "f(b)")
	r.insert(3, "f(a)")
	r.insert(20, "f(c)")
	r.tick(10, 10)
	r.ask("p(X)", "p(a) p(b)")
	r.tick(11, 11)
	r.ask("p(X)", "p(a)")
	r.tick(12, 12)
	r.ask("p(X)", "p(a)")
	r.tick(13, 13)
	r.ask("p(X)", "")
	r.tick(29, 29)
	r.ask("p(X)", "p(c)")
	r.tick(30, 30)
	r.ask("f(X)", "")
}

// A fact that begins and ends between two ticks is never in the state.
func TestP8FactsPassedOver(t *testing.T) {
	r := begin(t, "p(X):-f(X).", 1, 0)
	r.insert(5, "f(a)")
	r.insert(6, "f(b)")
	r.tick(6, 6)
	r.ask("f(X)", "f(b)")
	r.tick(7, 7)
	r.ask("p(X)", "")
}

func TestP8LeastModel(t *testing.T) {
	for _, c := range []struct{ text, facts, atom, want string }{
		{paths, "edge(a,b) edge(b,c) edge(c,a)", "path(X,Y)", "path(a,a) path(a,b) path(a,c) path(b,a) path(b,b) path(b,c) path(c,a) path(c,b) path(c,c)"},
		{paths, "edge(a,b) edge(c,d)", "path(X,Y)", "path(a,b) path(c,d)"},
		{"p(X):-p(X). q(X):-p(X),e(X). q(X):-r(X). r(X):-q(X).", "e(a)", "q(X)", ""},
		{"p(X):-q(X),e(X,X). q(X):-e(Y,X).", "e(a,b) e(b,c) e(c,c)", "p(X)", "p(c)"},
		{"p(X,X):-e(X). q(Y,X):-p(X,Y),f(Y).", "e(a) e(b) f(b) f(c)", "q(X,Y)", "q(b,b)"},
		{"p(X,Y):-e(X,A),e(A,B),e(B,Y).", "e(a,b) e(b,a)", "p(X,Y)", "p(a,b) p(b,a)"},
		{"p(X,Y):-e(X),f(Y).", "e(a) e(b) f(c) f(d)", "p(X,Y)", "p(a,c) p(a,d) p(b,c) p(b,d)"},
		{"p(A,F):-e(A,B),e(C,D),e(E,F).", "e(a,b) e(c,d)", "p(X,Y)", "p(a,b) p(a,d) p(c,b) p(c,d)"},
		{"p(a):-e(X,Y),f(Y).", "e(c,d) f(c)", "p(X)", ""},
		{"p(a):-e(X,Y),f(Y).", "e(c,d) f(d)", "p(X)", "p(a)"},
		{"p(X):-e(X,a). p(X):-e(b,X). p(c):-e(d,d).", "e(e,a) e(b,f) e(d,e)", "p(X)", "p(e) p(f)"},
		{"p(X):-e(X),e(X),e(X). e2(X):-p(X),f(X,X).", "e(a) e(b) f(a,b) f(b,b)", "e2(X)", "e2(b)"},
		{"p(X):-q(X). q(X):-r(X). r(X):-s(X). s(X):-t(X). t(X):-u(X). u(X):-v(X). v(X):-w(X).", "w(a)", "p(X)", "p(a)"},
		{"v(X):-w(X). u(X):-v(X). t(X):-u(X). s(X):-t(X). r(X):-s(X). q(X):-r(X). p(X):-q(X).", "w(a)", "p(X)", "p(a)"},
		{"a(a):-b(a). b(b):-a(a),c(b).", "c(b)", "b(X)", ""},
		{"α(Ω):-β(Ω,Ψ),β(Ψ,Ω).", "β(ω,ψ) β(ψ,ω) β(ω,a)", "α(X)", "α(ψ) α(ω)"},
	} {
		r := begin(t, c.text, 10, 0)
		r.insert(1, strings.Fields(c.facts)...)
		r.tick(1, 1)
		r.ask(c.atom, c.want)
		r.tick(11, 11)
		r.ask(c.atom, "")
	}
}

func TestP9WrongTexts(t *testing.T) {
	r := begin(t, "p(X):-e(X,Y),f(Y). p(a).", 10, 0)
	r.askWrong(api.ErrText, "", " ", "p", "p(", "p()", "p(a", "p(X).", "p(X):-f(X)", "p(X),f(X)", "p(X)p", "p(a). p(X)", "X", "X(a)", "p(1)", "e(X,Y,Z)", "e(X,Y,", "p(abcdefghi)", "p(Abcdefghi)", "abcdefghi(X)", "p(\xff)", "p(X)\xff", "p(X)\r",
		strings.Repeat(" ", 297)+"p(X)", strings.Repeat("p(X)", 1000000), "z(X", "e(X")
	r.askWrong(api.ErrName, "z(X)", "z(a,b)", "a(X)", "q(X,Y)")
	r.askWrong(api.ErrArity, "p(X,Y)", "p(a,b)", "e(X)", "f(X,X)")
	r.ask(strings.Repeat(" ", 296)+"p(X)", "p(a)")
	r.ask("\np\t( Ωω345678 ) ", "p(a)")
}

func TestP9WhatFits(t *testing.T) {
	r := begin(t, "p(X,Y):-e(X,Y). q(X):-f(X).", 10, 0)
	r.insert(1, "e(b,a)", "e(a,b)", "e(a,a)", "e(a1,a)", "e(c,c)", "e(ω,aB)", "f(ω)", "f(c)", "f(a1)", "f(aB)", "f(a)")
	r.ask("e(X,Y)", "")
	r.tick(1, 1)
	for _, relation := range []string{"p", "e"} {
		for _, c := range [][2]string{
			{"(X,Y)", "(a,a) (a,b) (a1,a) (b,a) (c,c) (ω,aB)"}, {"(Y,X)", "(a,a) (a,b) (a1,a) (b,a) (c,c) (ω,aB)"}, {"(X,X)", "(a,a) (c,c)"}, {"(Ω,Ω)", "(a,a) (c,c)"},
			{"(a,X)", "(a,a) (a,b)"}, {"(X,a)", "(a,a) (a1,a) (b,a)"}, {"(ω,X)", "(ω,aB)"}, {"(a,b)", "(a,b)"}, {" ( a , b ) ", "(a,b)"}, {"(b,b)", ""}, {"(x,X)", ""}, {"(X,x)", ""}, {"(x,y)", ""}, {"(X,Xx)", "(a,a) (a,b) (a1,a) (b,a) (c,c) (ω,aB)"},
		} {
			r.ask(relation+c[0], strings.ReplaceAll(c[1], "(", relation+"("))
		}
	}
	r.ask("q(X)", "q(a) q(a1) q(aB) q(c) q(ω)")
	r.ask("q(a)", "q(a)")
	r.ask("f(b)", "")
}

// To ask, or to be refused, makes no name known and moves nothing.
func TestP9LeavesTheEngineAsItWas(t *testing.T) {
	r := begin(t, "p(X):-f(X).", 10, 0)
	r.insert(1, "f(a)", "f(b)", "f(c)", "f(d)", "f(e)", "f(f)", "f(g)")
	r.tick(1, 1)
	for _, atom := range []string{"p(x1)", "p(x2)", "f(X)", "p(x3,x4)", "z(x5)"} {
		r.x.Ask(atom)
	}
	r.insert(1, "f(h)")
	r.ask("p(X)", "p(a) p(b) p(c) p(d) p(e) p(f) p(g)")
	r.tick(2, 2)
	r.ask("p(X)", "p(a) p(b) p(c) p(d) p(e) p(f) p(g) p(h)")
}

func TestP2ListsAreTheCallers(t *testing.T) {
	r := begin(t, "p(c). p(b). p(a). q(X):-p(X).", 10, 0)
	var lists [][]string
	for range 4 {
		list, _ := r.x.Ask("p(X)")
		for _, spare := range list[:cap(list)][len(list):] {
			if spare != "" {
				t.Errorf("the spare room holds %q", spare)
			}
		}
		lists = append(lists, list)
	}
	for i, list := range lists {
		list = list[:cap(list)]
		for j := range list {
			list[j] = strings.Repeat("z", i+1)
		}
	}
	for i, list := range lists {
		for _, text := range list[:cap(list)] {
			if len(text) != i+1 {
				t.Errorf("list %d has a place in common with another: %q", i, list)
			}
		}
	}
	r.ask("p(X)", "p(a) p(b) p(c)")
	r.ask("q(X)", "q(a) q(b) q(c)")
}

func TestP2EnginesDoNotHangOnOneAnother(t *testing.T) {
	first, second := begin(t, paths, 10, 0), begin(t, paths, 20, 1)
	first.insert(1, "edge(a,b)", "edge(c,d)", "edge(e,f)", "edge(g,h)")
	second.insert(2, "edge(i,k)", "edge(a,b)")
	first.tick(5, 5)
	second.ask("edge(X,Y)", "")
	second.tick(5, 4)
	first.tick(11, 11)
	first.ask("path(X,Y)", "")
	second.ask("path(X,Y)", "path(a,b) path(i,k)")
	first.refuse(api.ErrFull, 11, "edge(i,i)")
	second.insert(4, "edge(l,m)")
}

func TestTheDocumentsPaths(t *testing.T) {
	r := begin(t, paths, 10, 2)
	r.insert(5, "edge(a,b)")
	r.insert(8, "edge(b,c)")
	r.refuse(api.ErrTwice, 5, "edge(a,b)")
	r.refuse(api.ErrArity, 5, "edge(a)")
	r.refuse(api.ErrName, 5, "path(a,b)", "p(a,b)")
	r.refuse(api.ErrText, 5, "edge(a,X)")
	r.tick(9, 7)
	r.ask("path(X,Y)", "path(a,b)")
	r.until(15, "path(a,b)")
	r.tick(10, 8)
	r.ask("path(a,X)", "path(a,b) path(a,c)")
	r.until(15, "path(a,c)")
	r.until(18, "path(b,c)")
	r.until(0, "path(c,a)")
	r.insert(7, "edge(a,c)")
	r.tick(11, 9)
	r.until(17, "path(a,c)")
	r.tick(17, 15)
	r.ask("path(X,Y)", "path(a,c) path(b,c)")
	r.tick(3, 15)
	r.refuse(api.ErrLate, 5, "edge(z,z)")
	r.insert(6, "edge(z,z)")
	r = begin(t, "p(a). q(X):-p(X),r(X).", 10, 2)
	r.until(api.Never, "p(a)")
	r.refuse(api.ErrName, 5, "p(b)")
}
