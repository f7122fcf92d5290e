package ebb_test

import (
	"math/rand"
	"strings"
	"testing"

	"ebb/api"
)

// until takes the facts that have this answer as one text, with blanks between.
func (r run) until(want int, facts string) {
	r.t.Helper()
	for _, fact := range strings.Fields(facts) {
		r.untilOf(want, api.OK, fact)
	}
}

func (r run) untilOf(want int, wantErr api.Errno, fact string) {
	r.t.Helper()
	if end, err := r.x.Until(fact); end != want || err != wantErr {
		r.t.Errorf("Until(%.80q) = %d, %d, want %d, %d", fact, end, err, want, wantErr)
	}
}

func (r run) untilWrong(want api.Errno, facts ...string) {
	r.t.Helper()
	for _, fact := range facts {
		r.untilOf(0, want, fact)
	}
}

func TestP10WrongTexts(t *testing.T) {
	r := begin(t, "p(X):-e(X,Y),f(Y). p(a).", 10, 0)
	r.insert(1, "e(a,b)", "f(b)")
	r.tick(1, 1)
	r.untilWrong(api.ErrText, "", " ", "p", "p(", "p()", "p(a", "p(a).", "p(a):-f(b)", "p(a),f(b)", "p(a)p", "p(a). p(a)", "(a)", "X", "X(a)", "p(1)", "e(a,b,c)", "e(a,b,", "e(a b)", "p(abcdefghi)", "abcdefghi(a)", "e(a,ξξξξξξξξξ)",
		"p(\xff)", "p(a)\xff", "p(a)\r", "p(\u03a2)", strings.Repeat(" ", 297)+"p(a)", strings.Repeat("p(a)", 1000000), "z(a", "e(a")
	r.untilWrong(api.ErrText, "p(X)", "f(X)", "e(a,X)", "e(X,b)", "e(X,X)", "z(X)", "p(X,Y)", "p(a,X)", "e(X)")
	r.untilWrong(api.ErrName, "z(a)", "z(a,b)", "a(a)", "b(p)", "x(e,f)")
	r.untilWrong(api.ErrArity, "p(a,b)", "e(a)", "f(b,b)")
	r.untilOf(api.Never, api.OK, strings.Repeat(" ", 296)+"p(a)")
	r.untilOf(11, api.OK, "\ne\t( a ,b) ")
	r.untilOf(0, api.OK, "e(αβγ,ωωωωωωωω)")
}

// Until is of derived and of basic relations, and of both 0 where nothing holds.
func TestP10OneFact(t *testing.T) {
	for _, window := range []int{1, 2, 10, 1000} {
		r := begin(t, "p(X):-f(X).", window, 0)
		r.insert(3, "f(a)")
		r.until(0, "f(a) p(a)")
		r.tick(2, 2)
		r.until(0, "f(a) p(a)")
		r.tick(3, 3)
		r.until(3+window, "f(a) p(a)")
		r.until(0, "f(b) p(b)")
		r.tick(2+window, 2+window)
		r.until(3+window, "f(a) p(a)")
		r.tick(3+window, 3+window)
		r.until(0, "f(a) p(a)")
	}
}

// At the last time there is, ends are beyond it.
func TestP10TheGreatestTime(t *testing.T) {
	r := begin(t, "p(X):-f(X).", 1000, 0)
	r.insert(1000000, "f(a)")
	r.insert(999001, "f(b)")
	r.tick(1000000, 1000000)
	r.until(1001000, "f(a) p(a)")
	r.until(1000001, "f(b) p(b)")
}

func TestP10WaysThatEnd(t *testing.T) {
	for _, c := range []struct {
		text  string
		facts []string // those of the times 1, 2, 3, and so on; the window is 10
		until []string // those that hold until 11, 12, 13, and so on
	}{
		{"p(X):-e(X),f(X).", []string{"e(a)", "f(a) e(b)", "f(b)"}, []string{"p(a) e(a)", "p(b) f(a) e(b)", "f(b)"}},
		{"p(X):-e(X). p(X):-f(X).", []string{"e(a) f(b)", "f(a)", "e(b)"}, []string{"e(a) f(b)", "p(a) f(a)", "p(b) e(b)"}},
		{"p(X):-e(X,Y),f(Y).", []string{"e(a,b)", "e(a,c) f(c)", "f(b)"}, []string{"e(a,b)", "p(a) f(c)", "f(b)"}},
		{"p(X):-e(X),f(Y),g(X,Y).", []string{"g(a,a)", "e(a)", "f(a) f(b)", "g(a,b)"}, []string{"g(a,a)", "p(a) e(a)", "f(a)", "g(a,b)"}},
		{"p(X):-e(X). q(X):-p(X),f(X). r(X):-q(X). r(X):-g(X).", []string{"g(a) f(b)", "f(a)", "e(a) e(b)"}, []string{"g(a) r(b) q(b)", "q(a) r(a)", "p(a) p(b)"}},
		{"r(X):-q(X). r(X):-g(X). q(X):-p(X),f(X). p(X):-e(X).", []string{"e(a) e(b)", "f(a)", "g(a) f(b)"}, []string{"q(a) q(b) r(b) p(a)", "f(a)", "r(a)"}},
		{"path(X,Y):-e(X,Y). path(X,Z):-path(X,Y),path(Y,Z).", []string{"e(a,d) e(d,a)", "e(c,d)", "e(b,c)", "e(a,b)"}, []string{"path(d,a) path(a,a) path(b,a) path(d,d)", "path(a,d) path(c,d) path(b,d)", "path(b,c) path(a,c)", "path(a,b)"}},
		{"p(a):-e(X,Y),f(Y).", []string{"e(b,b) e(c,c)", "f(b) e(d,d)", "f(d)"}, []string{"", "p(a)", "f(d)"}},
		{"p(X):-p(X). p(X):-q(X). q(X):-p(X),e(X). q(X):-f(X).", []string{"f(a)", "f(b)", "e(a)", "e(b)"}, []string{"p(a) q(a) f(a)", "p(b) q(b)", "e(a)", "e(b)"}},
		{"p(X,Y):-e(X),e(Y).", []string{"e(a)", "e(b)", "e(c)"}, []string{"p(a,a) p(a,b) p(c,a)", "p(b,b) p(b,c) p(c,b)", "p(c,c)"}},
		{"α(Ω):-β(Ω,Ψ),β(Ψ,Ω).", []string{"β(ω,ψ)", "β(ψ,ω)", "β(ω,ω)"}, []string{"α(ψ)", "β(ψ,ω)", "α(ω)"}},
	} {
		r := begin(t, c.text, 10, 0)
		for i, facts := range c.facts {
			r.insert(i+1, strings.Fields(facts)...)
		}
		r.tick(9, 9)
		for i, facts := range c.until {
			r.until(11+i, facts)
		}
	}
}

func TestP10TheSameFactTwice(t *testing.T) {
	r := begin(t, "p(X):-f(X).", 10, 0)
	r.insert(3, "f(a)")
	r.insert(1, "f(a)", "f(b)")
	r.insert(5, "f(b)")
	r.insert(8, "f(a)")
	r.tick(3, 3)
	r.until(13, "f(a) p(a)")
	r.until(11, "f(b) p(b)")
	r.tick(5, 5)
	r.until(13, "f(a) p(a)")
	r.until(15, "f(b) p(b)")
	r.tick(12, 12)
	r.until(18, "f(a) p(a)")
}

// What is inserted, but is not in the state yet, counts for nothing: neither where its time has come, nor where it is still to come.
func TestP10FactsThatTakeNoEffectYet(t *testing.T) {
	r := begin(t, "p(X,Y):-e(X,Y). p(X,Z):-p(X,Y),p(Y,Z).", 10, 2)
	r.insert(1, "e(a,b)")
	r.insert(9, "e(a,b)")
	r.tick(7, 5)
	r.until(11, "e(a,b) p(a,b)")
	r.insert(4, "e(a,b)")
	r.insert(2, "e(b,c)")
	r.until(11, "e(a,b) p(a,b)")
	r.until(0, "e(b,c) p(a,c)")
	r.tick(7, 5)
	r.tick(0, 5)
	r.until(11, "e(a,b) p(a,b)")
	r.until(0, "e(b,c) p(a,c)")
	r.tick(8, 6)
	r.until(14, "e(a,b) p(a,b)")
	r.until(12, "e(b,c) p(a,c)")
	r.tick(11, 9)
	r.until(19, "e(a,b) p(a,b)")
	r.until(12, "e(b,c) p(a,c)")
}

// An end is counted from a fact's time, not from when it comes or takes effect; a fact may end without ever having held.
func TestP10LateFacts(t *testing.T) {
	r := begin(t, "p(X):-f(X).", 5, 3)
	r.tick(10, 7)
	r.insert(3, "f(a)")
	r.insert(4, "f(b)")
	r.insert(7, "f(c)")
	r.tick(11, 8)
	r.until(0, "f(a) p(a)")
	r.until(9, "f(b) p(b)")
	r.until(12, "f(c) p(c)")
	r.insert(8, "f(b)")
	r.until(9, "f(b) p(b)")
	r.tick(12, 9)
	r.until(13, "f(b) p(b)")
}

func TestP10Never(t *testing.T) {
	r := begin(t, "p(a). q(X):-p(X). q(X):-r(X). s(X,Y):-q(X),r(Y). p(X):-s(X,X),t(X). r2(X):-p(X),q(X).", 10, 0)
	r.until(api.Never, "p(a) q(a) r2(a)")
	r.until(0, "p(b) q(b) r(a) s(a,a) r2(b)")
	r.insert(1, "r(a)", "t(b)")
	r.insert(3, "r(b)", "t(a)")
	r.tick(4, 4)
	r.until(api.Never, "p(a) q(a) r2(a)")
	r.until(13, "q(b) r(b) s(a,b) s(b,b)")
	r.until(11, "r(a) s(a,a) s(b,a) p(b) r2(b)")
	r.tick(1000000, 1000000)
	r.until(api.Never, "p(a) q(a) r2(a)")
	r.until(0, "p(b) q(b) r(a) s(a,a)")
}

// To ask until when makes no name known, keeps no fact and moves nothing.
func TestP10LeavesTheEngineAsItWas(t *testing.T) {
	r := begin(t, "p(X):-f(X).", 10, 0)
	r.insert(1, "f(a)", "f(b)", "f(c)", "f(d)", "f(e)", "f(f)", "f(g)")
	r.tick(1, 1)
	for _, fact := range []string{"p(x1)", "f(x2)", "f(x3)", "p(X)", "p(x4,x5)", "z(x6)", "f(a)", "p(a)"} {
		r.x.Until(fact)
	}
	r.ask("p(X)", "p(a) p(b) p(c) p(d) p(e) p(f) p(g)")
	r.insert(1, "f(h)")
	r.refuse(api.ErrFull, 1, "f(i)")
	r.tick(1, 1)
	r.until(0, "f(h)")
	r.tick(2, 2)
	r.until(11, "f(h) p(h)")
}

func TestP2UntilDoesNotHangOnOtherEngines(t *testing.T) {
	first, second := begin(t, paths, 10, 0), begin(t, paths, 20, 1)
	for _, r := range []run{first, second} {
		r.insert(1, "edge(a,b)", "edge(b,c)")
	}
	first.tick(5, 5)
	second.until(0, "edge(a,b) path(a,c)")
	second.tick(5, 4)
	first.until(11, "edge(a,b) path(a,c)")
	second.until(21, "edge(a,b) path(a,c)")
	first.tick(11, 11)
	first.until(0, "edge(a,b) path(a,c)")
	second.until(21, "edge(a,b) path(a,c)")
}

// What Until tells comes true, if nothing more comes: it holds up to its end, and no longer.
func TestP10ComesTrue(t *testing.T) {
	random := rand.New(rand.NewSource(3))
	ended := 0
	for range 300 {
		text, window, _ := madeEngine(random)
		r := begin(t, text, window, 0)
		r.tick(20, 20)
		for range 12 {
			r.x.Insert(slowFactText(random), 21-random.Intn(window))
		}
		r.tick(21, 21)
		ends := r.ends()
		for mark := 21; mark <= 21+window; mark++ {
			r.tick(mark, mark)
			for fact, end := range ends {
				want := end
				if mark >= end {
					want = 0
					ended++
				}
				r.until(want, fact)
			}
			r.onlyThese(ends, mark)
		}
		if t.Failed() {
			t.Fatalf("with New(%q, %d, 0) and %v", text, window, ends)
		}
	}
	if ended < 1000 {
		t.Errorf("too few have ended: %d", ended)
	}
}

// all tells the texts of all that holds, of the relations of made engines.
func (r run) all() []string {
	var all []string
	for _, atom := range []string{"p(X,Y)", "q(X)", "r(X,Y)", "s(X)", "e(X,Y)", "f(X)"} {
		texts, _ := r.x.Ask(atom)
		all = append(all, texts...)
	}
	return all
}

func (r run) ends() map[string]int {
	ends := map[string]int{}
	for _, fact := range r.all() {
		end, err := r.x.Until(fact)
		if end == 0 || err != api.OK {
			r.t.Errorf("Until(%s), which holds: %d, %d", fact, end, err)
		}
		ends[fact] = end
	}
	return ends
}

func (r run) onlyThese(ends map[string]int, mark int) {
	r.t.Helper()
	for _, fact := range r.all() {
		if ends[fact] <= mark {
			r.t.Errorf("%s holds at %d, its end was %d", fact, mark, ends[fact])
		}
	}
}
