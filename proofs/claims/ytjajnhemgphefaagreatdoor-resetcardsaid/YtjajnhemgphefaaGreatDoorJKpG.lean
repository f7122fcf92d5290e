/-
  The statement Reset.
  Proved: for every two numbers handed to it, the statement's function Reset answers true, and what was handed in reads as before.
  Conditions: package unicode/utf8's two tables hold what the program's text lays (the card ties them).
-/
import Derived.Test.YtjajnhemgphefaaGreatDoorJKpE
import Derived.Test.YtjajnhemgphefaaGreatDoorCards
import Derived.Test.YtjajnhemgphefaaGreatDoorTie
import Derived.ProofKit
import Derived.OpenShut
import Derived.Carry
import Derived.Deep.DeepHandedRow
import Derived.Lib.LaidU8T
import Derived.SevenTiedAt
namespace Go.Proofs.YtjajnhemgphefaaGreatDoor
open Go.RowKit Go.Shelf Go.Maps
set_option linter.unusedVariables false
set_option linter.unusedSimpArgs false

theorem kpoll1 {w W : World} {be : Nat} {bs : List Nat} {e : Eg} {f : Fs} (h : KSt w be bs e W) (hf : e.fds = [f]) (ht : f.told ≤ 1000000000000) :
    Calls Tryz.prog 29 #[.pointer (some ⟨be, 0, none⟩), .int .i64 0] W fun en W' => ∃ r f', PollR e.M e.mark f r f' ∧ en = .returned (.tuple #[.agg #[.int .i64 r.kind, .int .i64 r.seq, .string r.text, .int .i64 r.time], .int .i64 0]) ∧ KSt w be bs { e with fds := [f'] } W' ∧ Kept bs W W' := by
  have hl : 0 < e.fds.length := by rw [hf]; exact Nat.zero_lt_one
  refine (kpoll h 0 hl (fun g hg => by rw [hf] at hg; simp at hg; subst hg; exact ht)).mono ?_
  rintro en W' ⟨r, f', h1, h2, h3, h4⟩
  have e0 : e.fds[0] = f := by simp only [hf]; rfl
  have e1 : e.fds.set 0 f' = [f'] := by rw [hf]; rfl
  rw [e0] at h1
  rw [e1] at h3
  exact ⟨r, f', h1, h2, h3, h4⟩

/-- The engine of Reset ahead of its facts, with its feed. -/
structure RsB (n : Int) (f : Fs) (e : Eg) : Prop where
  rs : e.rs = copyR bP bQ
  win : e.win = 20
  lat : e.lat = 3
  que : e.que = n
  mark : e.mark = 0
  names : e.names = []
  kept : e.kept = []
  M : ∀ g, e.M g = none
  fds : e.fds = [f]
theorem p_name : nameB bP = true := by kernel_rfl
theorem rs_sub {n : Int} {M : Gd → Option Int} (hM : LeastM (copyR bP bQ) (givenL (copyR bP bQ)) M) :
    (subR (newE (copyR bP bQ) 20 3 n M) bP).1 = 0 ∧ (subR (newE (copyR bP bQ) 20 3 n M) bP).2.1 = 0 ∧ RsB n ⟨formA bP 2, true, [], [], 0⟩ (subR (newE (copyR bP bQ) 20 3 n M) bP).2.2 := by
  have h : subR (newE (copyR bP bQ) 20 3 n M) bP = (0, 0, { newE (copyR bP bQ) 20 3 n M with fds := [⟨formA bP 2, true, [], [], 0⟩] }) := by
    unfold subR
    rw [p_name, if_neg (by decide)]
    show (if arR (copyR bP bQ) bP = 0 then _ else if (0 : Nat) = 3 then _ else _) = _
    rw [q_arP, if_neg (by decide), if_neg (by decide)]
    rfl
  rw [h]
  rw [q_given] at hM
  exact ⟨rfl, rfl, rfl, rfl, rfl, rfl, rfl, q_names, rfl, none_model hM, rfl⟩
theorem RsB.set {n : Int} {f f' : Fs} {e : Eg} (h : RsB n f e) : RsB n f' { e with fds := [f'] } := ⟨h.rs, h.win, h.lat, h.que, h.mark, h.names, h.kept, h.M, rfl⟩
theorem fit_none {M : Gd → Option Int} (hM : ∀ g, M g = none) {a : Am} {gs : List Gd} (h : fitP M a gs) : gs = [] := by
  obtain ⟨ks, k1, k2, rfl⟩ := h
  have : ks = [] := List.eq_nil_iff_forall_not_mem.2 (fun ⟨x, y⟩ hx => by
    have := ((k2 x y).1 hx).2.2
    rw [hM] at this; cases this)
  subst this; rfl
theorem rs_poll1 {n : Int} {f : Fs} {e : Eg} (h : RsB n f e) (hf : f = ⟨formA bP 2, true, [], [], 0⟩) {r : Rc} {f' : Fs} (hp : PollR e.M e.mark f r f') : r = ⟨1, 0, ⟨#[]⟩, 0⟩ ∧ Pen f' [⟨4, 0, ⟨#[]⟩, 0⟩] ∧ f'.told = 1 ∧ f'.form = formA bP 2 := by
  subst hf
  obtain ⟨h1, gs, h2, h3, h4, h5⟩ := pen_behind rfl rfl rfl hp
  have := fit_none h.M h2
  subst this
  rw [h.mark, show textsR 2 [] = [] from List.eq_nil_of_length_eq_zero (textsR_len 2 [])] at h3
  exact ⟨h1, h3, h4, h5⟩
theorem rs_done {n : Int} {f : Fs} {e : Eg} (h : RsB n f e) (hp : Pen f []) (ht : f.told = 2) (hf : f.form = formA bP 2) : RsE n 0 e := by
  have hs : f = ⟨formA bP 2, false, [], [], 2⟩ := by
    obtain ⟨a, b, c, d, t⟩ := f
    obtain ⟨h1, h2⟩ := hp
    obtain ⟨h3, h4⟩ := List.append_eq_nil_iff.1 h2
    simp only at *
    subst h1 h3 h4 ht hf
    rfl
  exact ⟨h.rs, h.win, h.lat, h.que, h.mark, by rw [h.names]; exact pts_nil, h.kept, h.M, by rw [h.fds, hs]⟩

/-- Behind the Tick, the feed being behind. -/
def LA (w : World) (be kk : Nat) (W : World) : Prop := ∃ e f, e.fds = [f] ∧ e.mark = 6 ∧ f.told = 2 ∧ KSt w be [] e W ∧ f.behind = true ∧ f.snap = [] ∧ f.que = [] ∧ ∀ gs, fitP e.M f.form gs → gs.length = kk
/-- So many were told. -/
def LB (w : World) (be kk d ad : Nat) (W : World) : Prop := ∃ e f L, e.fds = [f] ∧ e.mark = 6 ∧ f.told = 2 + ad + d ∧ KSt w be [] e W ∧ L.length = kk ∧ (∀ r ∈ L, r.kind = 2 ∧ r.time = 0) ∧ ad ≤ kk ∧ Pen f ((L ++ [(⟨4, 0, ⟨#[]⟩, 6⟩ : Rc)]).drop ad)
theorem la_poll {w W : World} {be kk : Nat} (h : LA w be kk W) : Calls Tryz.prog 29 #[.pointer (some ⟨be, 0, none⟩), .int .i64 0] W fun en W' => en = .returned (.tuple #[.agg #[.int .i64 1, .int .i64 2, .string ⟨#[]⟩, .int .i64 0], .int .i64 0]) ∧ Hid (LB w be kk 1 0 W') := by
  obtain ⟨e, f, h1, h2, h3, h4, h5, h6, h7, h8⟩ := h
  refine (kpoll1 h4 h1 (by omega)).mono ?_
  rintro en W' ⟨r, f', k1, k2, k3, _⟩
  obtain ⟨rfl, gs, g1, g2, g3, g4⟩ := pen_behind h5 h6 h7 k1
  rw [h3] at k2
  rw [h2] at g2
  exact ⟨k2, { e with fds := [f'] }, f', textsR 2 gs, rfl, h2, by omega, k3, by rw [textsR_len]; exact h8 gs g1, fun r hr => ⟨(texts_rec hr).1, (texts_rec hr).2.2⟩, Nat.zero_le _, g2⟩
theorem lb_poll {w W : World} {be kk d ad : Nat} (h : LB w be kk d ad W) (hlt : ad < kk) (hd : d ≤ 1) (hk : kk ≤ 100) : Calls Tryz.prog 29 #[.pointer (some ⟨be, 0, none⟩), .int .i64 0] W fun en W' => ∃ x, en = .returned (.tuple #[.agg #[.int .i64 2, .int .i64 ((2 + ad + d : Nat) : Int), .string x, .int .i64 0], .int .i64 0]) ∧ Hid (LB w be kk d (ad + 1) W') := by
  obtain ⟨e, f, L, h1, h2, h3, h4, h5, h6, h7, h8⟩ := h
  refine (kpoll1 h4 h1 (by omega)).mono ?_
  rintro en W' ⟨r, f', k1, k2, k3, _⟩
  have hl : ad < (L ++ [(⟨4, 0, ⟨#[]⟩, 6⟩ : Rc)]).length := by rw [List.length_append]; omega
  rw [List.drop_eq_getElem_cons hl, List.getElem_append_left (by omega)] at h8
  have hx := h6 (L[ad]'(by omega)) (List.getElem_mem _)
  obtain ⟨rfl, g2, g3, g4⟩ := pen_cons h8 (by rw [hx.1]; decide) k1
  refine ⟨(L[ad]'(by omega)).text, ?_, { e with fds := [f'] }, f', L, rfl, h2, by omega, k3, h5, h6, by omega, g2⟩
  rw [k2, h3, ← hx.1, ← hx.2]
theorem lb_last {w W : World} {be kk d : Nat} (h : LB w be kk d kk W) (hd : d ≤ 1) (hk : kk ≤ 100) : Calls Tryz.prog 29 #[.pointer (some ⟨be, 0, none⟩), .int .i64 0] W fun en W' => en = .returned (.tuple #[.agg #[.int .i64 4, .int .i64 ((2 + kk + d : Nat) : Int), .string ⟨#[]⟩, .int .i64 6], .int .i64 0]) ∧ Hid (Below w.heap.size w W') := by
  obtain ⟨e, f, L, h1, h2, h3, h4, h5, h6, h7, h8⟩ := h
  refine (kpoll1 h4 h1 (by omega)).mono ?_
  rintro en W' ⟨r, f', k1, k2, k3, _⟩
  rw [← h5, List.drop_left] at h8
  obtain ⟨rfl, g2, g3, g4⟩ := pen_cons h8 (by decide) k1
  rw [h3] at k2
  exact ⟨k2, k3.below⟩
theorem LB.al {w W : World} {be kk d ad : Nat} (h : LB w be kk d ad W) (O : Obj) : LB w be kk d ad (W.alloc O) := by
  obtain ⟨e, f, L, h1, h2, h3, h4, h5⟩ := h
  exact ⟨e, f, L, h1, h2, h3, (h4.same ((Below.refl _ W).alloc (Nat.le_refl _) O)).1, h5⟩
theorem rs_tick {w W : World} {be kk : Nat} {n : Int} (h : ∃ e, RsE n kk e ∧ KSt w be [] e W) (hk : kk ≤ 24) : Calls Tryz.prog 22 #[.pointer (some ⟨be, 0, none⟩), .int .i64 9] W fun en W' => en = .returned (.tuple #[.int .i64 6, .int .i64 0]) ∧ Hid ((n = kk → LA w be kk W') ∧ (n = (kk : Int) + 1 → LB w be kk 0 0 W')) := by
  obtain ⟨e, h1, h2⟩ := h
  refine (ktick h2 9).mono ?_
  rintro en W' ⟨e', r, k1, k2, k3, _⟩
  obtain ⟨rfl, f, g1, g2⟩ := reset_tick h1 hk h2.ok k1
  refine ⟨k2, fun hn => ?_, fun hn => ?_⟩
  · rcases g2 with ⟨_, g3, g4⟩ | ⟨g3, _⟩
    · exact ⟨e', f, g1.fds, g1.mark, g1.told, k3, g3, g1.snap, g4, by rw [g1.form]; exact g1.fit⟩
    · omega
  · rcases g2 with ⟨g3, _⟩ | ⟨_, g3, gs, g4, g5⟩
    · omega
    · exact ⟨e', f, textsR 2 gs, g1.fds, g1.mark, g1.told, k3, by rw [textsR_len]; exact g4, fun r hr => ⟨(texts_rec hr).1, (texts_rec hr).2.2⟩, Nat.zero_le _, g3, by rw [g1.snap, g5]; rfl⟩

set_option maxRecDepth 100000 in
set_option maxHeartbeats 8000000 in
theorem reset_any (q mo : Int) (w : World) (hq : -9223372036854775808 ≤ q ∧ q ≤ 9223372036854775807) (hT : Lib.Utf8Tabs 0 1 w) :
    Calls Tryz.prog 13 #[.int .i64 q, .int .i64 mo] w fun e w' => e = .returned (.bool true) ∧ Below w.heap.size w w' := by
  have hpk : Hid (Calls Tryz.prog 19 #[.int .i64 q, .int .i64 20] w fun e w' => e = .returned (.int .i64 (pickZ q 20)) ∧ w = w') := (kpick_any q 20 w hq.1 hq.2 (by decide) (by decide)).mono (by rintro e w' ⟨h1, h2⟩; exact ⟨h1, h2.symm⟩)
  obtain ⟨n, hn⟩ : ∃ n, 2 + pickZ q 20 = n := ⟨_, rfl⟩
  have hpb := pickZ_bounds q 20 (by decide)
  have hnb : 2 ≤ n ∧ n ≤ 21 := by omega
  have hwr : IntKind.i64.wrap (2 + pickZ q 20) = n := by rw [hn]; exact wrap_small _ (by omega) (by omega)
  have hbg : Hid (Calls Tryz.prog 17 #[.string txtQ, .int .i64 n] w fun e w' => ∃ be M, e = .returned (.pointer (some ⟨be, 0, none⟩)) ∧ LeastM (copyR bP bQ) (givenL (copyR bP bQ)) M ∧ KSt w be [] (newE (copyR bP bQ) 20 3 n M) w') := begun_any txtQ _ n w q_new (by decide) hT ⟨by omega, by omega⟩
  have HT : Hid _ := hT
  clear hn hpb hT hq
  go_enter Tryz.func13, Tryz.ntmps13
  go_wp2_with fail
  refine Calls.mono hpk.out ?_
  rintro e w' ⟨rfl, hw'⟩
  subst hw'
  go_wp2_with fail
  refine Calls.mono hbg.out ?_
  rintro e W0 ⟨be, M, rfl, hM, hk0⟩
  have hsu : Hid (Calls Tryz.prog 26 #[.pointer (some ⟨be, 0, none⟩), .string bP] W0 fun en W' => en = .returned (.tuple #[.int .i64 0, .int .i64 0]) ∧ ∃ e, RsB n ⟨formA bP 2, true, [], [], 0⟩ e ∧ KSt w be [] e W') := by
    obtain ⟨r1, r2, r3⟩ := rs_sub (n := n) hM
    refine (ksub hk0 HT.out bP (by decide)).mono ?_
    rintro en W' ⟨h1, h2, _⟩
    rw [r1, r2] at h1
    exact ⟨h1, _, r3, h2⟩
  clear hM hk0 hbg hpk
  go_wp2_with fail
  refine Calls.mono hsu.out ?_
  rintro e W1 ⟨rfl, e1, hb1, hk1⟩
  -- the first Poll
  have hp1 : Hid (Calls Tryz.prog 29 #[.pointer (some ⟨be, 0, none⟩), .int .i64 0] W1 fun en W' => en = .returned (.tuple #[.agg #[.int .i64 1, .int .i64 0, .string ⟨#[]⟩, .int .i64 0], .int .i64 0]) ∧ ∃ f e, Hid (RsB n f e ∧ Pen f [⟨4, 0, ⟨#[]⟩, 0⟩] ∧ f.told = 1 ∧ f.form = formA bP 2 ∧ KSt w be [] e W')) := by
    refine (kpoll1 hk1 hb1.fds (by decide)).mono ?_
    rintro en W' ⟨r, f', h1, h2, h3, _⟩
    obtain ⟨rfl, k2, k3, k4⟩ := rs_poll1 hb1 rfl h1
    exact ⟨h2, f', _, hb1.set, k2, k3, k4, h3⟩
  clear hb1 hk1 hsu
  go_wp2_with fail
  refine Calls.mono hp1.out ?_
  rintro e W2 ⟨rfl, f2, e2, hs2⟩
  have hs2' : Hid (RsB n f2 e2 ∧ Pen f2 [⟨4, 0, ⟨#[]⟩, 0⟩] ∧ f2.told = 1 ∧ f2.form = formA bP 2 ∧ KSt w be [W2.heap.size] e2 (W2.alloc (.cells #[.int .i64 1, .int .i64 0, .string ⟨#[]⟩, .int .i64 0] 71)) ∧ (W2.alloc (.cells #[.int .i64 1, .int .i64 0, .string ⟨#[]⟩, .int .i64 0] 71)).heap[W2.heap.size]? = some (Obj.cells #[.int .i64 1, .int .i64 0, .string ⟨#[]⟩, .int .i64 0] 71 (0, 0))) := by
    obtain ⟨a1, a2, a3, a4, a5⟩ := hs2.out
    exact ⟨a1, a2, a3, a4, (a5.alloc _).1, World.alloc_heap_new W2 _⟩
  -- the second
  have hp2 : Hid (Calls Tryz.prog 29 #[.pointer (some ⟨be, 0, none⟩), .int .i64 0] (W2.alloc (.cells #[.int .i64 1, .int .i64 0, .string ⟨#[]⟩, .int .i64 0] 71)) fun en W' => en = .returned (.tuple #[.agg #[.int .i64 4, .int .i64 1, .string ⟨#[]⟩, .int .i64 0], .int .i64 0]) ∧ ∃ f e, Hid (RsB n f e ∧ Pen f [] ∧ f.told = 2 ∧ f.form = formA bP 2 ∧ KSt w be [W2.heap.size] e W' ∧ W'.heap[W2.heap.size]? = some (Obj.cells #[.int .i64 1, .int .i64 0, .string ⟨#[]⟩, .int .i64 0] 71 (0, 0)))) := by
    obtain ⟨a1, a2, a3, a4, a5, a6⟩ := hs2'.out
    refine (kpoll1 a5 a1.fds (by omega)).mono ?_
    rintro en W' ⟨r, f', h1, h2, h3, h4⟩
    obtain ⟨rfl, k2, k3, k4⟩ := pen_cons a2 (by decide) h1
    rw [a3] at h2 k3
    exact ⟨h2, f', _, a1.set, k2, k3, k4.trans a4, h3, (h4 W2.heap.size (by simp)).trans a6⟩
  clear hs2 hs2' hp1
  go_wp2_with fail
  refine Calls.mono hp2.out ?_
  rintro e W3 ⟨rfl, f3, e3, hs3⟩
  have hs3' : Hid (RsB n f3 e3 ∧ Pen f3 [] ∧ f3.told = 2 ∧ f3.form = formA bP 2 ∧ KSt w be [W3.heap.size, W2.heap.size] e3 (W3.alloc (.cells #[.int .i64 4, .int .i64 1, .string ⟨#[]⟩, .int .i64 0] 71)) ∧ (W3.alloc (.cells #[.int .i64 4, .int .i64 1, .string ⟨#[]⟩, .int .i64 0] 71)).heap[W2.heap.size]? = some (Obj.cells #[.int .i64 1, .int .i64 0, .string ⟨#[]⟩, .int .i64 0] 71 (0, 0)) ∧ (W3.alloc (.cells #[.int .i64 4, .int .i64 1, .string ⟨#[]⟩, .int .i64 0] 71)).heap[W3.heap.size]? = some (Obj.cells #[.int .i64 4, .int .i64 1, .string ⟨#[]⟩, .int .i64 0] 71 (0, 0))) := by
    obtain ⟨a1, a2, a3, a4, a5, a6⟩ := hs3.out
    exact ⟨a1, a2, a3, a4, (a5.alloc _).1, ((a5.alloc _).2 W2.heap.size (by simp)).trans a6, World.alloc_heap_new W3 _⟩
  -- the third
  have hp3 : Hid (Calls Tryz.prog 29 #[.pointer (some ⟨be, 0, none⟩), .int .i64 0] (W3.alloc (.cells #[.int .i64 4, .int .i64 1, .string ⟨#[]⟩, .int .i64 0] 71)) fun en W' => en = .returned (.tuple #[.agg #[.int .i64 0, .int .i64 0, .string ⟨#[]⟩, .int .i64 0], .int .i64 0]) ∧ ∃ e, Hid (RsE n 0 e ∧ KSt w be [W3.heap.size, W2.heap.size] e W') ∧ W'.heap[W2.heap.size]? = some (Obj.cells #[.int .i64 1, .int .i64 0, .string ⟨#[]⟩, .int .i64 0] 71 (0, 0)) ∧ W'.heap[W3.heap.size]? = some (Obj.cells #[.int .i64 4, .int .i64 1, .string ⟨#[]⟩, .int .i64 0] 71 (0, 0))) := by
    obtain ⟨a1, a2, a3, a4, a5, a6, a7⟩ := hs3'.out
    refine (kpoll1 a5 a1.fds (by omega)).mono ?_
    rintro en W' ⟨r, f', h1, h2, h3, h4⟩
    obtain ⟨rfl, rfl⟩ := pen_nil a2 h1
    refine ⟨h2, _, ⟨rs_done a1.set a2 a3 a4, h3⟩, (h4 W2.heap.size (by simp)).trans a6, (h4 W3.heap.size (by simp)).trans a7⟩
  clear hs3 hs3' hp2
  go_wp2_with fail
  refine Calls.mono hp3.out ?_
  rintro e W4 ⟨rfl, e4, hs4, b1, b2⟩
  have hb4 : Below W4.heap.size W4 (W4.alloc (.cells #[.int .i64 0, .int .i64 0, .string ⟨#[]⟩, .int .i64 0] 71)) := by exact (Below.refl _ W4).alloc (Nat.le_refl _) _
  have v1 := (hb4.block W2.heap.size (Array.getElem?_eq_some_iff.1 b1).1).trans b1
  have v2 := (hb4.block W3.heap.size (Array.getElem?_eq_some_iff.1 b2).1).trans b2
  have v3 : (W4.alloc (.cells #[.int .i64 0, .int .i64 0, .string ⟨#[]⟩, .int .i64 0] 71)).heap[W4.heap.size]? = some (Obj.cells #[.int .i64 0, .int .i64 0, .string ⟨#[]⟩, .int .i64 0] 71 (0, 0)) := by exact World.alloc_heap_new W4 _
  have c10 : (W4.alloc (.cells #[.int .i64 0, .int .i64 0, .string ⟨#[]⟩, .int .i64 0] 71)).cell? ⟨W2.heap.size, 0, none⟩ = some (.int .i64 1) := by simp [World.cell?, v1]
  have c20 : (W4.alloc (.cells #[.int .i64 0, .int .i64 0, .string ⟨#[]⟩, .int .i64 0] 71)).cell? ⟨W3.heap.size, 0, none⟩ = some (.int .i64 4) := by simp [World.cell?, v2]
  have c21 : (W4.alloc (.cells #[.int .i64 0, .int .i64 0, .string ⟨#[]⟩, .int .i64 0] 71)).cell? ⟨W3.heap.size, 1, none⟩ = some (.int .i64 1) := by simp [World.cell?, v2]
  have c22 : (W4.alloc (.cells #[.int .i64 0, .int .i64 0, .string ⟨#[]⟩, .int .i64 0] 71)).cell? ⟨W3.heap.size, 2, none⟩ = some (.string ⟨#[]⟩) := by simp [World.cell?, v2]
  have c23 : (W4.alloc (.cells #[.int .i64 0, .int .i64 0, .string ⟨#[]⟩, .int .i64 0] 71)).cell? ⟨W3.heap.size, 3, none⟩ = some (.int .i64 0) := by simp [World.cell?, v2]
  have hs4' : Hid (RsE n 0 e4 ∧ KSt w be [] e4 (W4.alloc (.cells #[.int .i64 0, .int .i64 0, .string ⟨#[]⟩, .int .i64 0] 71))) := ⟨hs4.out.1, ((hs4.out.2.same hb4).1).fewer (by simp)⟩
  have q1 := eqRec 4 1 4 1 ⟨#[]⟩ ⟨#[]⟩ 0 0
  have q2 := eqRec 0 0 0 0 ⟨#[]⟩ ⟨#[]⟩ 0 0
  clear b1 b2 v1 v2 v3 hb4 hs4 hp3
  have hkins : Hid (∀ (i : Nat) W, i < 24 → (∃ e, RsE n i e ∧ KSt w be [] e W) → Calls Tryz.prog 20 #[.pointer (some ⟨be, 0, none⟩), .string (ofB bQ (i % 6) (i / 6)), .int .i64 5] W fun en W' => en = .returned (.int .i64 0) ∧ Hid (∃ e, RsE n (i + 1) e ∧ KSt w be [] e W')) := by
    rintro i W hi ⟨e, h1, h2⟩
    refine (kinsert h2 HT.out (ofB bQ (i % 6) (i / 6)) 5 (by show (1 + 5 : Nat) ≤ _; decide) (fun a ha => ?_)).mono ?_
    · rw [atom_q (Nat.mod_lt _ (by decide)) (by omega)] at ha
      cases ha
      refine ⟨am_ok bQ (by decide) _ _, fun t ht => ?_⟩
      simp only [amB, List.mem_cons, List.not_mem_nil, or_false] at ht
      rcases ht with rfl | rfl <;> exact Nat.zero_lt_succ 5
    · rintro en W' ⟨k1, k2, _⟩
      obtain ⟨r1, r2⟩ := reset_ins h1 hi
      rw [r1] at k1
      exact ⟨k1, _, r2, k2⟩
  have hkof : Hid (∀ (i : Nat) W, i < 24 → Calls Tryz.prog 21 #[.string bQ, .int .i64 ((i : Int) % 6), .int .i64 ((i : Int) / 6)] W fun e w' => e = .returned (.string (ofB bQ (i % 6) (i / 6))) ∧ W = w') := fun i W hi => by
    have e1 : (i : Int) % 6 = ((i % 6 : Nat) : Int) := by omega
    have e2 : (i : Int) / 6 = ((i / 6 : Nat) : Int) := by omega
    rw [e1, e2]
    exact (kof_any bQ (i % 6) (i / 6) (by decide) (Nat.mod_lt _ (by decide)) (by omega) W).mono (by rintro e w' ⟨h1, h2⟩; exact ⟨h1, h2.symm⟩)
  by_cases hmo : (bits BinOp.and IntKind.i64 mo 1 == 1) = true
  · obtain ⟨kk, hkk⟩ : ∃ kk : Nat, n = kk := ⟨n.toNat, by omega⟩
    subst hkk
    have hk24 : kk ≤ 21 := by omega
    go_wp2_with fail
    go_loopw [16] (fun vi wr => ∃ i : Nat, vi = .int .i64 i ∧ i ≤ kk ∧ Hid (∃ e, RsE kk i e ∧ KSt w be [] e wr)) (fun vi _ => kk - (intOf vi).toNat)
    case atStart => exact ⟨0, rfl, Nat.zero_le _, e4, hs4'.out.1, hs4'.out.2⟩
    case round =>
      obtain ⟨i, rfl, hi, hst⟩ := hrel
      by_cases hlt : i < kk
      · have i1 : (i : Int) < (kk : Int) := by omega
        have hi24 : i < 24 := by omega
        go_wp2_with fail
        refine (hkof.out i wr hi24).mono ?_
        rintro e w' ⟨rfl, hw'⟩
        subst hw'
        go_wp2_with (go_at_call 20; refine (hkins.out i wr hi24 hst.out).mono ?_; rintro e W6 ⟨rfl, hst6⟩)
        refine ⟨⟨i + 1, by go_num, by omega, hst6⟩, by simp [intOf]; omega⟩
      · have hii : i = kk := by omega
        subst hii
        have htk : Hid (Calls Tryz.prog 22 #[.pointer (some ⟨be, 0, none⟩), .int .i64 9] wr fun en W' => en = .returned (.tuple #[.int .i64 6, .int .i64 0]) ∧ Hid (LA w be i W')) := by
          refine (rs_tick hst.out (by omega)).mono ?_
          rintro en W' ⟨h1, h2⟩
          exact ⟨h1, h2.out.1 rfl⟩
        clear hst hkins hkof
        go_wp2_with fail
        refine Calls.mono htk.out ?_
        rintro e W6 ⟨rfl, hLA⟩
        clear htk
        go_wp2_with fail
        go_loopw [19, 20] (fun va vi wr => (va = .int .i64 0 ∧ vi = .int .i64 0 ∧ Hid (LA w be i wr)) ∨ ∃ ad : Nat, ad ≤ i ∧ va = .int .i64 ad ∧ vi = .int .i64 (ad + 1) ∧ Hid (LB w be i 1 ad wr)) (fun _ vi _ => 100 - (intOf vi).toNat)
        case atStart => exact .inl ⟨rfl, rfl, hLA⟩
        case round =>
          rcases hrel with ⟨rfl, rfl, hla⟩ | ⟨ad, had, rfl, rfl, hlb⟩
          · have hp : Hid _ := la_poll hla.out
            go_wp2_with (go_at_call 29; refine Calls.mono hp.out ?_; rintro e W7 ⟨rfl, hlb7⟩)
            exact ⟨.inr ⟨0, Nat.zero_le _, rfl, rfl, hlb7.out.al _⟩, by simp [intOf]⟩
          · by_cases hl : ad < i
            · have hp : Hid _ := lb_poll hlb.out hl (by decide) (by omega)
              go_wp2_with (go_at_call 29; refine Calls.mono hp.out ?_; rintro e W7 ⟨x, rfl, hlb7⟩)
              refine ⟨.inr ⟨ad + 1, by omega, rfl, rfl, hlb7.out.al _⟩, ?_⟩
              simp [intOf]; omega
            · have hai : ad = i := by omega
              subst hai
              have hp : Hid _ := lb_last hlb.out (by decide) (by omega)
              go_wp2_with (go_at_call 29; refine Calls.mono hp.out ?_; rintro e W7 ⟨rfl, hb7⟩)
              go_ret
              exact ⟨rfl, hb7.out.alloc hb7.out.size _⟩
  · have hmo' : (bits BinOp.and IntKind.i64 mo 1 == 1) = false := by simpa using hmo
    obtain ⟨kk, hkk⟩ : ∃ kk : Nat, n - 1 = kk := ⟨(n - 1).toNat, by omega⟩
    have hk24 : kk ≤ 21 := by omega
    have hnk : n = (kk : Int) + 1 := by omega
    have HNK : Hid _ := hnk
    have hkn : ((kk : Int) == n) = false := by simp; omega
    have hkn' : ¬ (kk : Int) = n := by omega
    clear hmo hnk
    go_wp2_with fail
    go_loopw [16] (fun vi wr => ∃ i : Nat, vi = .int .i64 i ∧ i ≤ kk ∧ Hid (∃ e, RsE n i e ∧ KSt w be [] e wr)) (fun vi _ => kk - (intOf vi).toNat)
    case atStart => exact ⟨0, rfl, Nat.zero_le _, e4, hs4'.out.1, hs4'.out.2⟩
    case round =>
      obtain ⟨i, rfl, hi, hst⟩ := hrel
      by_cases hlt : i < kk
      · have i1 : (i : Int) < (kk : Int) := by omega
        have hi24 : i < 24 := by omega
        go_wp2_with fail
        refine (hkof.out i wr hi24).mono ?_
        rintro e w' ⟨rfl, hw'⟩
        subst hw'
        go_wp2_with (go_at_call 20; refine (hkins.out i wr hi24 hst.out).mono ?_; rintro e W6 ⟨rfl, hst6⟩)
        refine ⟨⟨i + 1, by go_num, by omega, hst6⟩, by simp [intOf]; omega⟩
      · have hii : i = kk := by omega
        subst hii
        have htk : Hid (Calls Tryz.prog 22 #[.pointer (some ⟨be, 0, none⟩), .int .i64 9] wr fun en W' => en = .returned (.tuple #[.int .i64 6, .int .i64 0]) ∧ Hid (LB w be i 0 0 W')) := by
          refine (rs_tick hst.out (by omega)).mono ?_
          rintro en W' ⟨h1, h2⟩
          exact ⟨h1, h2.out.2 HNK.out⟩
        clear hst hkins hkof
        go_wp2_with fail
        refine Calls.mono htk.out ?_
        rintro e W6 ⟨rfl, hLB⟩
        clear htk
        go_wp2_with fail
        go_loopw [19, 20] (fun va vi wr => ∃ ad : Nat, ad ≤ i ∧ va = .int .i64 ad ∧ vi = .int .i64 ad ∧ Hid (LB w be i 0 ad wr)) (fun _ vi _ => 100 - (intOf vi).toNat)
        case atStart => exact ⟨0, Nat.zero_le _, rfl, rfl, hLB⟩
        case round =>
          obtain ⟨ad, had, rfl, rfl, hlb⟩ := hrel
          by_cases hl : ad < i
          · have hp : Hid _ := lb_poll hlb.out hl (by decide) (by omega)
            go_wp2_with (go_at_call 29; refine Calls.mono hp.out ?_; rintro e W7 ⟨x, rfl, hlb7⟩)
            all_goals (
              refine ⟨⟨ad + 1, by omega, by go_num, by go_num, hlb7.out.al _⟩, ?_⟩
              simp [intOf]; omega)
          · have hai : ad = i := by omega
            subst hai
            have hp : Hid _ := lb_last hlb.out (by decide) (by omega)
            go_wp2_with (go_at_call 29; refine Calls.mono hp.out ?_; rintro e W7 ⟨rfl, hb7⟩)
            all_goals (
              go_ret
              exact ⟨rfl, hb7.out.alloc hb7.out.size _⟩)

end Go.Proofs.YtjajnhemgphefaaGreatDoor

namespace Go.Proofs.YtjajnhemgphefaaGreatDoor
open Go.ChangeShapes Go.WideShapes Go.ChangeAt Go.RowKit Go.Shelf
set_option linter.unusedVariables false
set_option linter.unusedSimpArgs false

theorem own : ownKnob Tryz.prog.godebug = none := by kernel_rfl
theorem laidOutP : laidOutB Tryz.prog = true := by kernel_rfl
theorem cellsInt : Tryz.prog.cellsOf 3 = 1 := by kernel_rfl

def uren : Ren :=
  { f := fun n => n
    t := fun
      | 5 => 5
      | 119 => 355
      | 138 => 357
      | 139 => 358
      | n => n
    g := fun
      | 3 => 0
      | 4 => 1
      | n => n }

theorem u8types : U8Types Tryz.prog uren := {
  t5 := by kernel_rfl
  t119 := by kernel_rfl
  t138 := by kernel_rfl
  t139 := by kernel_rfl }
theorem u8extra : U8Extra Tryz.prog uren := {
  n3 := by kernel_rfl
  n4 := by kernel_rfl
  y3 := by kernel_rfl
  y4 := by kernel_rfl
  c5 := by kernel_rfl
  c119 := by kernel_rfl
  c138 := by kernel_rfl }

theorem first_same : Rows.laid_unicode_utf8_first = Lib.firstData := by kernel_rfl
theorem accept_same : (Rows.laid_unicode_utf8_acceptRanges : DataW Unit) = Lib.acceptData := by kernel_rfl

theorem tabs {W : World} (h : laidMetH Tryz.prog Rows.resetRow.laid W) : Lib.Utf8Tabs 0 1 W := by
  have h2 : laidMet Tryz.prog Rows.resetRow.laid W := h
  refine utf8Tabs_of_readsT u8types u8extra (Lib.laidMet.reads h2 ?_) (Lib.laidMet.reads h2 ?_)
  · rw [← first_same]; simp [Rows.resetRow]
  · rw [← accept_same]; simp [Rows.resetRow]

set_option maxRecDepth 100000 in
theorem contract (H : Type) (enc : TypeId × Value → H) (W : World) (base : Nat) (args : Array Value) (ds gs : List (DataW H)) (before : List MemPlace)
    (hval : ∀ (j : Nat) t v, Tryz.f13.params[j]? = some t → args[j]? = some v → Value.okWide Tryz.prog W .any base t v)
    (hW : DataW.Whole enc Tryz.prog Tryz.f13.params.toList Rows.resetSpec.vars false W args.toList ds gs before) (hL : laidMetH Tryz.prog Rows.resetRow.laid W) :
    Calls Tryz.prog 13 args W fun e W' => ∃ v, e = .returned v ∧ Rows.resetSpec.post enc Tryz.prog Tryz.f13 false true false false W args v W' := by
  have hT := tabs hL
  have hW' := hW
  obtain ⟨p, q, hA0, hV, rfl, hfz, hnd⟩ := hW
  have hA : DataW.TrodAll enc Tryz.prog W 0 (fun _ => true) true Tryz.f13.params.toList args.toList ds p := hA0
  rw [Tryz.params13] at hA hval
  obtain ⟨v0, v1, d0, d1, p0, p1, rfl, rfl, rfl, h0, h1⟩ := trodAll_two hA
  obtain ⟨rfl, rfl⟩ := trodVars_none hV
  obtain ⟨nm, rfl, rfl, rfl, wn⟩ := open_int Tryz.underlying3 (hval 0 3 v0 rfl rfl) h0
  obtain ⟨bd, rfl, rfl, rfl, wb⟩ := open_int Tryz.underlying3 (hval 1 3 v1 rfl rfl) h1
  clear hA0
  simp only [List.append_nil] at hW'
  have walk : Calls Tryz.prog 13 #[.int .i64 nm, .int .i64 bd] W fun e w' => e = .returned (.bool true) ∧ Below W.heap.size W w' := by
    have bn := bounds_i64 wn
    exact reset_any nm bd W ⟨bn.1, bn.2⟩ hT
  refine walk.mono fun e W2 ⟨he, hB⟩ => ?_
  subst he
  refine ⟨_, rfl, _, _, _, [], ([] ++ []), [], hW', ?_, ?_, rfl, hB.frame _, fun h => by cases h⟩
  · exact trodAll_mk1 (shut_bool Tryz.underlying4 _)
  · exact trodAll_mk2 (shut_int Tryz.underlying3 wn) (shut_int Tryz.underlying3 wb)

end Go.Proofs.YtjajnhemgphefaaGreatDoor
