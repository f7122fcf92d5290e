/-
  The document's own answer: looking a text over: starts, next.
  The document's own answer: looking a text over: next.
  The document's own answer: the first token that is refused, and its place.
  Plain data that both sides share: rules, names; texts' numbers; a memory of which only strings were changed.
  The document's own answer: the number of a variable among those of a rule.
  The document's own answer: an atom, read off tokens.
  The document's own answer: an atom, read off tokens: the memory of its reading.
-/
import Derived.Test.YtjajnhemgphefaaGreatDoorJRefD
import Derived.Test.YtjajnhemgphefaaGreatDoorJRefC
import Derived.Lib.ItoaNum
namespace Go.Proofs.YtjajnhemgphefaaGreatDoor
open Go.RowKit Go.Shelf
set_option linter.unusedVariables false
set_option linter.unusedSimpArgs false

structure Lk where
  want : Int
  body : Bool
  alone : Bool
  rules : Nat
  atoms : Nat
  args : Nat
  e : Int

def lkC (l : Lk) : Array Value := #[.int .i64 l.want, .bool l.body, .bool l.alone, .int .i64 l.rules, .int .i64 l.atoms, .int .i64 l.args, .int .i64 l.e]
def rtV (t : RT) : Value := .agg #[.int .i64 t.kind, .string t.text, .int .i64 t.place, .int .i64 t.runes]

/-- The counters, as a token that begins something finds them. -/
def startsL (l : Lk) : Lk :=
  if l.want = 0 then { l with rules := l.rules + 1, body := false } else if l.want = 1 then { l with atoms := l.atoms + 1 } else { l with args := l.args + 1 }
def overMost (l : Lk) : Bool := if l.want = 0 then decide (8 < l.rules + 1) else if l.want = 1 then decide (3 < l.atoms + 1) else decide (2 < l.args + 1)
def startsR (l : Lk) (t : RT) : Lk :=
  if t.kind ≠ 1 ∧ (t.kind ≠ 2 ∨ l.want ≠ 3) then { startsL l with e := 2 }
  else if overMost l = true ∨ 8 < t.runes then { startsL l with e := 3 }
  else if l.want = 3 then { startsL l with want := 4 } else { startsL l with want := 2 }
def nextR (l : Lk) (t : RT) : Lk :=
  if l.want = 2 ∧ t.kind = 40 then { l with args := 0, want := 3 }
  else if l.want = 4 ∧ t.kind = 44 then { l with want := 3 }
  else if l.want = 4 ∧ t.kind = 41 then { l with want := if l.alone = true then 6 else 5 }
  else if l.want = 5 ∧ t.kind = 46 then { l with want := 0 }
  else if l.want = 5 ∧ t.kind = 44 ∧ l.body = true then { l with want := 1 }
  else if l.want = 5 ∧ t.kind = 3 ∧ l.body = false then { l with body := true, atoms := 0, want := 1 }
  else { l with e := 2 }

theorem only_alloc {a b : World} {k : Nat} (h : a.grownBy b (some k)) (o : Obj) : a.grownBy (b.alloc o) (some k) :=
  ⟨h.os, h.tape, h.output, by have := h.size; simp; omega, fun i hi hn => (Below.heap_alloc b o i (Nat.lt_of_lt_of_le hi h.size)).trans (h.block i hi hn)⟩
theorem only_set {a b : World} {k : Nat} (h : a.grownBy b (some k)) (o : Nat) (v : Value) : a.grownBy (b.setCell ⟨k, o, none⟩ v) (some k) :=
  ⟨h.os, h.tape, h.output, by have := h.size; simpa using this, fun i hi hn => (Below.heap_setCell b _ v i (fun e => hn (by simp at e; rw [e]))).trans (h.block i hi hn)⟩
theorem heap_set1 {w : World} {b : Nat} {c : Array Value} {t : TypeId} (h : w.heap[b]? = some (Obj.cells c t (0, 0))) (o : Nat) (v : Value) : (w.setCell ⟨b, o, none⟩ v).heap[b]? = some (Obj.cells (c.setIfInBounds o v) t (0, 0)) := by
  simp [World.setCell, Array.getElem?_modify, h]

set_option maxRecDepth 100000 in
set_option maxHeartbeats 4000000 in
theorem starts_any (bp : Nat) (l : Lk) (t : RT) (w : World) (hw : l.want = 0 ∨ l.want = 1 ∨ l.want = 3) (h1 : l.rules ≤ 1000000) (h2 : l.atoms ≤ 1000000) (h3 : l.args ≤ 1000000) (hh : w.heap[bp]? = some (Obj.cells (lkC l) 298 (0, 0))) :
    Calls Tryz.prog 175 #[.pointer (some ⟨bp, 0, none⟩), rtV t] w fun e w' => e = .returned (.tuple #[]) ∧ w'.heap[bp]? = some (Obj.cells (lkC (startsR l t)) 298 (0, 0)) ∧ w.grownBy w' (some bp) := by
  have hbp : bp < w.heap.size := (Array.getElem?_eq_some_iff.1 hh).1
  have hne : bp ≠ w.heap.size := by omega
  obtain ⟨want, body, alone, rules, atoms, args, e⟩ := l
  obtain ⟨kind, text, place, runes⟩ := t
  unfold lkC at hh
  unfold rtV
  simp only at hw h1 h2 h3 hh ⊢
  have c0 : w.cell? ⟨bp, 0, none⟩ = some (.int .i64 want) := by simp [World.cell?, hh]
  have c1 : w.cell? ⟨bp, 1, none⟩ = some (.bool body) := by simp [World.cell?, hh]
  have c3 : w.cell? ⟨bp, 3, none⟩ = some (.int .i64 rules) := by simp [World.cell?, hh]
  have c4 : w.cell? ⟨bp, 4, none⟩ = some (.int .i64 atoms) := by simp [World.cell?, hh]
  have c5 : w.cell? ⟨bp, 5, none⟩ = some (.int .i64 args) := by simp [World.cell?, hh]
  have c6 : w.cell? ⟨bp, 6, none⟩ = some (.int .i64 e) := by simp [World.cell?, hh]
  have f0 : ∀ o, w.frozen? ⟨bp, o, none⟩ = false := fun o => by simp [World.frozen?, hh]
  rcases hw with rfl | rfl | rfl
  all_goals
    go_enter Tryz.func175, Tryz.ntmps175
    go_wp2
    all_goals
      first | go_end0 | refine bodyPost_ret (results_none rfl _ _ _) rfl ?_
      refine ⟨rfl, ?_, by repeat (first | exact World.grownBy.refl _ _ | apply only_alloc | apply only_set)⟩
      rw [Below.heap_alloc _ _ _ (by simpa using hbp)]
      generalize hS : startsR _ _ = S
      unfold startsR startsL overMost at hS
      simp at hS
      (repeat' split at hS) <;> first | (exfalso; omega) | (exfalso; simp_all; done) | (subst hS; simp [World.setCell, Array.getElem?_modify, hh, lkC]; done) | (exfalso; simp_all; omega)

end Go.Proofs.YtjajnhemgphefaaGreatDoor

namespace Go.Proofs.YtjajnhemgphefaaGreatDoor
open Go.RowKit Go.Shelf
set_option linter.unusedVariables false
set_option linter.unusedSimpArgs false

set_option maxRecDepth 100000 in
set_option maxHeartbeats 4000000 in
theorem nextD_any (bp : Nat) (l : Lk) (t : RT) (w : World) (hw : l.want = 2 ∨ l.want = 4 ∨ l.want = 5 ∨ l.want = 6) (hh : w.heap[bp]? = some (Obj.cells (lkC l) 298 (0, 0))) :
    Calls Tryz.prog 176 #[.pointer (some ⟨bp, 0, none⟩), rtV t] w fun e w' => e = .returned (.tuple #[]) ∧ w'.heap[bp]? = some (Obj.cells (lkC (nextR l t)) 298 (0, 0)) ∧ w.grownBy w' (some bp) := by
  have hbp : bp < w.heap.size := (Array.getElem?_eq_some_iff.1 hh).1
  have hne : bp ≠ w.heap.size := by omega
  obtain ⟨want, body, alone, rules, atoms, args, e⟩ := l
  obtain ⟨kind, text, place, runes⟩ := t
  unfold lkC at hh
  unfold rtV
  simp only at hw hh ⊢
  have c0 : w.cell? ⟨bp, 0, none⟩ = some (.int .i64 want) := by simp [World.cell?, hh]
  have c1 : w.cell? ⟨bp, 1, none⟩ = some (.bool body) := by simp [World.cell?, hh]
  have c2 : w.cell? ⟨bp, 2, none⟩ = some (.bool alone) := by simp [World.cell?, hh]
  have c4 : w.cell? ⟨bp, 4, none⟩ = some (.int .i64 atoms) := by simp [World.cell?, hh]
  have c5 : w.cell? ⟨bp, 5, none⟩ = some (.int .i64 args) := by simp [World.cell?, hh]
  have c6 : w.cell? ⟨bp, 6, none⟩ = some (.int .i64 e) := by simp [World.cell?, hh]
  have f0 : ∀ o, w.frozen? ⟨bp, o, none⟩ = false := fun o => by simp [World.frozen?, hh]
  rcases hw with rfl | rfl | rfl | rfl
  all_goals
    cases body <;> cases alone
    all_goals
      go_enter Tryz.func176, Tryz.ntmps176
      go_wp2
      all_goals
        first | go_end0 | refine bodyPost_ret (results_none rfl _ _ _) rfl ?_
        refine ⟨rfl, ?_, by repeat (first | exact World.grownBy.refl _ _ | apply only_alloc | apply only_set)⟩
        rw [Below.heap_alloc _ _ _ (by simpa using hbp)]
        generalize hS : nextR _ _ = S
        unfold nextR at hS
        simp at hS
        (repeat' split at hS) <;> first | (exfalso; omega) | (exfalso; simp_all; done) | (subst hS; simp [World.setCell, Array.getElem?_modify, hh, lkC]; done)

end Go.Proofs.YtjajnhemgphefaaGreatDoor

namespace Go.Proofs.YtjajnhemgphefaaGreatDoor
open Go.RowKit Go.Shelf
set_option linter.unusedVariables false
set_option linter.unusedSimpArgs false

def acceptsB (l : Lk) (t : RT) : Bool := decide (t.kind = 4 ∧ (l.want = 6 ∨ (l.want = 0 ∧ l.alone = false)))
def stepD (l : Lk) (t : RT) : Lk := if l.want = 0 ∨ l.want = 1 ∨ l.want = 3 then startsR l t else nextR l t
def overR : Lk → List RT → Int × Nat
  | _, [] => (0, 0)
  | l, t :: ts => if acceptsB l t = true then (0, 0) else if (stepD l t).e ≠ 0 then ((stepD l t).e, t.place) else overR (stepD l t) ts

structure LkOk (l : Lk) (i : Nat) : Prop where
  lo : 0 ≤ l.want
  hi : l.want ≤ 6
  r : l.rules ≤ i
  a : l.atoms ≤ i
  g : l.args ≤ i

theorem stepR_ok {l : Lk} {i : Nat} (h : LkOk l i) (t : RT) : LkOk (stepD l t) (i + 1) ∧ (stepD l t).alone = l.alone := by
  obtain ⟨h1, h2, h3, h4, h5⟩ := h
  unfold stepD startsR nextR startsL
  repeat' split
  all_goals
    refine ⟨⟨?_, ?_, ?_, ?_, ?_⟩, ?_⟩ <;> simp only <;> first | rfl | omega | (split <;> omega)

/-- A row of tokens at a block. -/
def TokRow (W : World) (g : Nat) (ts : List RT) : Prop := g < W.heap.size ∧ ∀ (j : Nat) (hj : j < ts.length),
  W.cell? ⟨g, j * 4, none⟩ = some (.int .i64 ts[j].kind) ∧ W.cell? ⟨g, j * 4 + 1, none⟩ = some (.string ts[j].text) ∧ W.cell? ⟨g, j * 4 + 2, none⟩ = some (.int .i64 ts[j].place) ∧ W.cell? ⟨g, j * 4 + 3, none⟩ = some (.int .i64 ts[j].runes)

theorem TokRow.below {W W' : World} {g B : Nat} {ts : List RT} (h : TokRow W g ts) (hb : Below B W W') (hg : g < B) : TokRow W' g ts :=
  ⟨Nat.lt_of_lt_of_le h.1 hb.size, fun j hj => by
    obtain ⟨a, b, c, d⟩ := h.2 j hj
    exact ⟨(Below.cell hb hg).trans a, (Below.cell hb hg).trans b, (Below.cell hb hg).trans c, (Below.cell hb hg).trans d⟩⟩

theorem only_tok {w wr w' : World} {N T : Nat} {a b c d : Value} (hg : (wr.alloc (.cells #[a, b, c, d] T)).grownBy w' (some N)) (hN : N < wr.heap.size) (hb : Below N w wr) : w'.cell? ⟨wr.heap.size, 2, none⟩ = some c ∧ Below N w w' := by
  refine ⟨?_, (hb.alloc (by omega) _).grown hg (by simp; omega) (fun k hk => by cases hk; exact Nat.le_refl _)⟩
  have h1 : w'.heap[wr.heap.size]? = some (Obj.cells #[a, b, c, d] T (0, 0)) := by
    rw [hg.block wr.heap.size (by simp) (fun e => by cases e; omega), World.alloc_heap_new]
  simp [World.cell?, h1]

set_option maxRecDepth 100000 in
set_option maxHeartbeats 8000000 in
theorem over_any (g cap : Nat) (ts : List RT) (alone : Bool) (w : World) (hts : TokRow w g ts) (hl : ts.length ≤ 1000) :
    Calls Tryz.prog 108 #[.slice (some ⟨g, 0, none⟩) ts.length cap, .bool alone] w fun e w' => e = .returned (.tuple #[.int .i64 (overR ⟨0, false, alone, 0, 0, 0, 0⟩ ts).1, .int .i64 (overR ⟨0, false, alone, 0, 0, 0, 0⟩ ts).2]) ∧ Below w.heap.size w w' := by
  obtain ⟨N, hN⟩ : ∃ N, N = w.heap.size := ⟨_, rfl⟩
  have hNr := hN.symm
  have hgN : g < N := by rw [hN]; exact hts.1
  rw [← hN]
  clear hN
  have HTS : Hid (TokRow w g ts) := hts
  clear hts
  go_enter Tryz.func108, Tryz.ntmps108
  go_wp2
  go_loopw [7] (fun a wr => ∃ (i : Nat) (l : Lk), a = .int .i64 i ∧ i ≤ ts.length ∧ l.e = 0 ∧ l.alone = alone ∧ LkOk l i ∧ Hid (overR l (ts.drop i) = overR ⟨0, false, alone, 0, 0, 0, 0⟩ ts) ∧ wr.heap[N]? = some (Obj.cells (lkC l) 298 (0, 0)) ∧ Below N w wr) (fun a _ => ts.length - (intOf a).toNat)
  case atStart =>
    refine ⟨0, ⟨0, false, alone, 0, 0, 0, 0⟩, rfl, Nat.zero_le _, rfl, rfl, ⟨by simp, by simp, Nat.le_refl _, Nat.le_refl _, Nat.le_refl _⟩, rfl, ?_, (Below.refl _ _).alloc (by omega) _⟩
    rw [← hNr]; exact World.alloc_heap_new w _
  case round =>
    obtain ⟨i, l, rfl, hle, he, hal, hok, hsp, hh, hbel⟩ := hrel
    by_cases hlt : i < ts.length
    · obtain ⟨t0, t1, t2, t3⟩ := (HTS.out.below hbel hgN).2 i hlt
      have hdr := List.drop_eq_getElem_cons hlt
      rw [hdr] at hsp
      generalize ts[i] = t at *
      have hso := stepR_ok hok t
      have hNs : N < wr.heap.size := (Array.getElem?_eq_some_iff.1 hh).1
      have hNn : N ≠ wr.heap.size := by omega
      have hst : l.want = 0 ∨ l.want = 1 ∨ l.want = 3 → Calls Tryz.prog 175 #[.pointer (some ⟨N, 0, none⟩), rtV t] (wr.alloc (.cells #[.int .i64 t.kind, .string t.text, .int .i64 t.place, .int .i64 t.runes] 244)) fun e w' => e = .returned (.tuple #[]) ∧ w'.heap[N]? = some (Obj.cells (lkC (stepD l t)) 298 (0, 0)) ∧ w'.cell? ⟨wr.heap.size, 2, none⟩ = some (.int .i64 t.place) ∧ Below N w w' := by
        intro hw
        refine (starts_any N l t _ hw (by have := hok.r; omega) (by have := hok.a; omega) (by have := hok.g; omega) ((Below.heap_alloc _ _ _ hNs).trans hh)).mono ?_
        rintro e w' ⟨rfl, h1, h2⟩
        have hs : stepD l t = startsR l t := by unfold stepD; rw [if_pos hw]
        rw [hs]
        exact ⟨rfl, h1, only_tok h2 hNs hbel⟩
      have hnx : ¬ (l.want = 0 ∨ l.want = 1 ∨ l.want = 3) → Calls Tryz.prog 176 #[.pointer (some ⟨N, 0, none⟩), rtV t] (wr.alloc (.cells #[.int .i64 t.kind, .string t.text, .int .i64 t.place, .int .i64 t.runes] 244)) fun e w' => e = .returned (.tuple #[]) ∧ w'.heap[N]? = some (Obj.cells (lkC (stepD l t)) 298 (0, 0)) ∧ w'.cell? ⟨wr.heap.size, 2, none⟩ = some (.int .i64 t.place) ∧ Below N w w' := by
        intro hw
        have h6 := hok.hi
        have h7 := hok.lo
        refine (nextD_any N l t _ (by omega) ((Below.heap_alloc _ _ _ hNs).trans hh)).mono ?_
        rintro e w' ⟨rfl, h1, h2⟩
        have hs : stepD l t = nextR l t := by unfold stepD; rw [if_neg hw]
        rw [hs]
        exact ⟨rfl, h1, only_tok h2 hNs hbel⟩
      have c0 : wr.cell? ⟨N, 0, none⟩ = some (.int .i64 l.want) := by simp [World.cell?, hh, lkC]
      have HBE : Hid (Below N w wr) := hbel
      have HSP : Hid (overR l (t :: ts.drop (i + 1)) = overR ⟨0, false, alone, 0, 0, 0, 0⟩ ts) := hsp
      have HOK : Hid (LkOk (stepD l t) (i + 1) ∧ (stepD l t).alone = l.alone) := hso
      have hw0 := hok.lo
      have hw6 := hok.hi
      obtain ⟨kind, text, place, runes⟩ := t
      obtain ⟨want, body, alone', rules, atoms, args, e⟩ := l
      simp only at *
      subst hal he
      by_cases hacc : acceptsB ⟨want, body, alone', rules, atoms, args, 0⟩ ⟨kind, text, place, runes⟩ = true
      · have hans : Hid (overR ⟨0, false, alone', 0, 0, 0, 0⟩ ts = (0, 0)) := by
          show _ = _; rw [← HSP.out]; unfold overR; rw [if_pos hacc]
        unfold acceptsB at hacc
        simp only [decide_eq_true_eq] at hacc
        clear hst hnx HOK HSP hsp hso hok hdr hh hbel
        obtain ⟨rfl, rfl | ⟨rfl, rfl⟩⟩ := hacc
        all_goals
          go_wp2
          go_ret2
          rw [hans.out]
          exact ⟨rfl, HBE.out.alloc (by omega) _⟩
      · have hne : Hid (overR ⟨0, false, alone', 0, 0, 0, 0⟩ ts = if (stepD ⟨want, body, alone', rules, atoms, args, 0⟩ ⟨kind, text, place, runes⟩).e ≠ 0 then ((stepD ⟨want, body, alone', rules, atoms, args, 0⟩ ⟨kind, text, place, runes⟩).e, place) else overR (stepD ⟨want, body, alone', rules, atoms, args, 0⟩ ⟨kind, text, place, runes⟩) (ts.drop (i + 1))) := by
          show _ = _; rw [← HSP.out]; conv => lhs; unfold overR
          rw [if_neg hacc]
        unfold acceptsB at hacc
        simp only [decide_eq_true_eq] at hacc
        generalize stepD ⟨want, body, alone', rules, atoms, args, 0⟩ ⟨kind, text, place, runes⟩ = l' at *
        have hc6 : Hid (∀ w' : World, w'.heap[N]? = some (Obj.cells (lkC l') 298 (0, 0)) → w'.cell? ⟨N, 6, none⟩ = some (.int .i64 l'.e)) := by
          intro w' h; simp [World.cell?, h, lkC]
        have HST : Hid _ := hst
        have HNX : Hid _ := hnx
        clear hst hnx HSP hsp hso hok hdr hh hbel
        unfold rtV at HST HNX
        have hwv : want = 0 ∨ want = 1 ∨ want = 2 ∨ want = 3 ∨ want = 4 ∨ want = 5 ∨ want = 6 := by omega
        by_cases hz : l'.e = 0
        · have hgo : Hid (overR l' (ts.drop (i + 1)) = overR ⟨0, false, alone', 0, 0, 0, 0⟩ ts) := by
            show _ = _; rw [hne.out, if_neg (by simp [hz])]
          rw [hz] at hc6
          have HLE : Hid (l'.e = 0) := hz
          clear hz hne
          by_cases k4 : kind = 4
          · subst k4
            rcases hwv with rfl | rfl | rfl | rfl | rfl | rfl | rfl
            · cases alone'
              · simp at hacc
              · clear hacc
                go_wp2_with (first | (go_at_call 175; refine (HST.out (by simp)).mono ?_; rintro e w' ⟨rfl, hh', hpl, hb'⟩; have c6 := hc6.out w' hh') | (go_at_call 176; refine (HNX.out (by simp)).mono ?_; rintro e w' ⟨rfl, hh', hpl, hb'⟩; have c6 := hc6.out w' hh'))
                go_roundw
                case rel => exact ⟨i + 1, l', by go_num, by omega, HLE.out, HOK.out.2, HOK.out.1, hgo, hh', hb'⟩
                case measure => simp [intOf]; omega
            all_goals first | (exfalso; simp at hacc; done) | skip
            all_goals
              clear hacc
              go_wp2_with (first | (go_at_call 175; refine (HST.out (by simp)).mono ?_; rintro e w' ⟨rfl, hh', hpl, hb'⟩; have c6 := hc6.out w' hh') | (go_at_call 176; refine (HNX.out (by simp)).mono ?_; rintro e w' ⟨rfl, hh', hpl, hb'⟩; have c6 := hc6.out w' hh'))
              go_roundw
              case rel => exact ⟨i + 1, l', by go_num, by omega, HLE.out, HOK.out.2, HOK.out.1, hgo, hh', hb'⟩
              case measure => simp [intOf]; omega
          · have m4 : (kind == 4) = false := by simpa using k4
            clear hacc k4
            rcases hwv with rfl | rfl | rfl | rfl | rfl | rfl | rfl
            all_goals
              go_wp2_with (first | (go_at_call 175; refine (HST.out (by simp)).mono ?_; rintro e w' ⟨rfl, hh', hpl, hb'⟩; have c6 := hc6.out w' hh') | (go_at_call 176; refine (HNX.out (by simp)).mono ?_; rintro e w' ⟨rfl, hh', hpl, hb'⟩; have c6 := hc6.out w' hh'))
              go_roundw
              case rel => exact ⟨i + 1, l', by go_num, by omega, HLE.out, HOK.out.2, HOK.out.1, hgo, hh', hb'⟩
              case measure => simp [intOf]; omega
        · have hgo : Hid (overR ⟨0, false, alone', 0, 0, 0, 0⟩ ts = (l'.e, place)) := by
            show _ = _; rw [hne.out, if_pos hz]
          generalize l'.e = le at *
          have mz : (le == 0) = false := by simpa using hz
          have mz' : (le != 0) = true := by simpa using hz
          clear hne
          by_cases k4 : kind = 4
          · subst k4
            rcases hwv with rfl | rfl | rfl | rfl | rfl | rfl | rfl
            · cases alone'
              · simp at hacc
              · clear hacc
                go_wp2_with (first | (go_at_call 175; refine (HST.out (by simp)).mono ?_; rintro e w' ⟨rfl, hh', hpl, hb'⟩; have c6 := hc6.out w' hh') | (go_at_call 176; refine (HNX.out (by simp)).mono ?_; rintro e w' ⟨rfl, hh', hpl, hb'⟩; have c6 := hc6.out w' hh'))
                go_quiet (fail)
                go_wp2
                go_ret2
                rw [hgo.out]
                exact ⟨rfl, below_drewN hb'⟩
            all_goals first | (exfalso; simp at hacc; done) | skip
            all_goals
              clear hacc
              go_wp2_with (first | (go_at_call 175; refine (HST.out (by simp)).mono ?_; rintro e w' ⟨rfl, hh', hpl, hb'⟩; have c6 := hc6.out w' hh') | (go_at_call 176; refine (HNX.out (by simp)).mono ?_; rintro e w' ⟨rfl, hh', hpl, hb'⟩; have c6 := hc6.out w' hh'))
              go_quiet (fail)
              go_wp2
              go_ret2
              rw [hgo.out]
              exact ⟨rfl, below_drewN hb'⟩
          · have m4 : (kind == 4) = false := by simpa using k4
            clear hacc k4
            rcases hwv with rfl | rfl | rfl | rfl | rfl | rfl | rfl
            all_goals
              go_wp2_with (first | (go_at_call 175; refine (HST.out (by simp)).mono ?_; rintro e w' ⟨rfl, hh', hpl, hb'⟩; have c6 := hc6.out w' hh') | (go_at_call 176; refine (HNX.out (by simp)).mono ?_; rintro e w' ⟨rfl, hh', hpl, hb'⟩; have c6 := hc6.out w' hh'))
              go_quiet (fail)
              go_wp2
              go_ret2
              rw [hgo.out]
              exact ⟨rfl, below_drewN hb'⟩
    · rw [List.drop_eq_nil_of_le (by omega)] at hsp
      go_wp2
      go_ret2
      rw [← hsp.out]
      exact ⟨rfl, hbel⟩

end Go.Proofs.YtjajnhemgphefaaGreatDoor

namespace Go.Proofs.YtjajnhemgphefaaGreatDoor
open Go.RowKit Go.Shelf
set_option linter.unusedVariables false
set_option linter.unusedSimpArgs false

def sameB (x y : ByteArray) : Bool := y.toList == x.toList
def seenN (vs : List ByteArray) (x : ByteArray) : Nat := vs.findIdx (sameB x)
def seenL (vs : List ByteArray) (x : ByteArray) : List ByteArray := if seenN vs x < vs.length then vs else vs ++ [x]

/-- An argument: a name, or (its name empty) a variable by its number. -/
structure Tm where
  name : ByteArray
  num : Nat
structure Am where
  rel : ByteArray
  args : List Tm
structure Rl where
  head : Am
  body : List Am

def tmC (t : Tm) : List Value := [.string t.name, .int .i64 t.num]
theorem tmC_len (t : Tm) : (tmC t).length = 2 := rfl

def ruleAms (r : Rl) : List Am := r.head :: r.body
def nmStep (vs : List ByteArray) (t : Tm) : List ByteArray := if t.name.toList.isEmpty = true then vs else seenL vs t.name
def nmL (vs : List ByteArray) (l : List Tm) : List ByteArray := l.foldl nmStep vs
def tmsOf (l : List Am) : List Tm := l.flatMap (·.args)

/-- Blocks below B, and those that hold no strings, are as they were. -/
structure StrOnly (B : Nat) (w w' : World) : Prop where
  os : w'.os = w.os
  tape : w'.tape = w.tape
  output : w'.output = w.output
  size : w.heap.size ≤ w'.heap.size
  block : ∀ k, k < w.heap.size → (k < B ∨ ∀ c fz, w.heap[k]? ≠ some (Obj.cells c 9 fz)) → w'.heap[k]? = w.heap[k]?

theorem StrOnly.refl (B : Nat) (w : World) : StrOnly B w w := ⟨rfl, rfl, rfl, Nat.le_refl _, fun _ _ _ => rfl⟩
theorem StrOnly.trans {B : Nat} {a b c : World} (h : StrOnly B a b) (k : StrOnly B b c) : StrOnly B a c :=
  ⟨k.os.trans h.os, k.tape.trans h.tape, k.output.trans h.output, Nat.le_trans h.size k.size, fun i hi hx => by
    have h1 := h.block i hi hx
    rw [k.block i (Nat.lt_of_lt_of_le hi h.size) (by rw [h1]; exact hx), h1]⟩
theorem StrOnly.alloc {B : Nat} {a b : World} (h : StrOnly B a b) (o : Obj) : StrOnly B a (b.alloc o) :=
  ⟨h.os, h.tape, h.output, by have := h.size; simp; omega, fun i hi hx => (Below.heap_alloc b o i (Nat.lt_of_lt_of_le hi h.size)).trans (h.block i hi hx)⟩
theorem StrOnly.setCell {B : Nat} {a b : World} (h : StrOnly B a b) {p : Addr} (hp : a.heap.size ≤ p.block) (v : Value) : StrOnly B a (b.setCell p v) :=
  ⟨h.os, h.tape, h.output, by have := h.size; simpa using this, fun i hi hx => (Below.heap_setCell b p v i (by omega)).trans (h.block i hi hx)⟩
theorem StrOnly.drew {B : Nat} {a b : World} (h : StrOnly B a b) : StrOnly B a b.drew := ⟨h.os, h.tape, h.output, h.size, h.block⟩
theorem StrOnly.grown {B : Nat} {a b c : World} {row : Option Nat} (h : StrOnly B a b) (hg : b.grownBy c row) (hr : ∀ k, row = some k → a.heap.size ≤ k ∨ (B ≤ k ∧ ∃ d fz, b.heap[k]? = some (Obj.cells d 9 fz))) : StrOnly B a c :=
  ⟨hg.os.trans h.os, hg.tape.trans h.tape, hg.output.trans h.output, Nat.le_trans h.size hg.size, fun i hi hx => by
    have h1 := h.block i hi hx
    rw [hg.block i (Nat.lt_of_lt_of_le hi h.size) (fun e => ?_), h1]
    rcases hr i e.symm with h2 | ⟨h2, d, fz, h3⟩
    · omega
    · rcases hx with hx | hx
      · omega
      · rw [h1] at h3; exact hx d fz h3⟩
theorem own_str {W : World} {B k n : Nat} {T : TypeId} {v : Value} {xs : List Value} (h : W.ownsRow B T k v n xs) : ∀ g, v.ownBlock = some g → B ≤ g ∧ g < W.heap.size ∧ ∃ d fz, W.heap[g]? = some (Obj.cells d T fz) := by
  intro g hg
  obtain ⟨_, ⟨hv, hn⟩ | ⟨g', cap, cur, hv, hb, hh, h1, h2, h3, h4⟩⟩ := h
  · rw [hv] at hg; cases hg
  · rw [hv] at hg; cases hg; exact ⟨hb, (Array.getElem?_eq_some_iff.1 hh).1, cur, _, hh⟩
/-- A row of things other than strings abides. -/
theorem StrOnly.own {B B' k n : Nat} {T : TypeId} {a b : World} {v : Value} {xs : List Value} (h : StrOnly B a b) (hT : T ≠ 9) (ho : a.ownsRow B' T k v n xs) : b.ownsRow B' T k v n xs := by
  refine own_keep ho (fun g hg hlt => h.block g hlt (.inr fun c fz e => ?_))
  obtain ⟨_, _, d, fz', h3⟩ := own_str ho g hg
  rw [e] at h3; cases h3; exact hT rfl

def decS (n : Nat) : ByteArray := ⟨(Lib.decDigits n).toArray⟩

end Go.Proofs.YtjajnhemgphefaaGreatDoor

namespace Go.Proofs.YtjajnhemgphefaaGreatDoor
open Go.RowKit Go.Shelf
set_option linter.unusedVariables false
set_option linter.unusedSimpArgs false

theorem seenN_hit (vs : List ByteArray) (x : ByteArray) (i : Nat) (hi : i < vs.length) (h : sameB x vs[i] = true) (hn : ∀ (j : Nat) (hj : j < vs.length), j < i → sameB x vs[j] = false) : seenN vs x = i := by
  unfold seenN
  rw [List.findIdx_eq hi]
  exact ⟨h, fun j hj => hn j (by omega) hj⟩
theorem seenN_miss (vs : List ByteArray) (x : ByteArray) (hn : ∀ (j : Nat) (hj : j < vs.length), sameB x vs[j] = false) : seenN vs x = vs.length := by
  unfold seenN
  rw [List.findIdx_eq_length]
  intro y hy
  obtain ⟨j, hj, rfl⟩ := List.getElem_of_mem hy
  exact hn j hj

theorem strC_len (x : ByteArray) : [Value.string x].length = 1 := rfl
theorem strs_flat (vs : List ByteArray) : vs.map Value.string = vs.flatMap (fun x => [Value.string x]) := by
  induction vs with
  | nil => rfl
  | cons x l ih => simp [ih]
theorem Tryz.infoStr : (Tryz.prog.info? 9).map (fun i => (i.zero, i.size, i.bytes)) = some (some (.string ⟨#[]⟩), 1, 16) := by kernel_rfl

theorem one_new (w : World) (x : Value) (t : TypeId) : ∀ j u, [x][j]? = some u → (w.alloc (.cells #[x] t)).cell? ((⟨w.heap.size, 0, none⟩ : Addr).add j) = some u := by
  intro j u hj
  match j, hj with
  | 0, hj => simp at hj; subst hj; simp [Addr.add]
  | j + 1, hj => simp at hj

set_option maxRecDepth 100000 in
set_option maxHeartbeats 4000000 in
theorem seen_any (B : Nat) (v : Value) (vs : List ByteArray) (x : ByteArray) (w : World) (hB : B ≤ w.heap.size) (hl : vs.length ≤ 1000) (hown : w.ownsRow B 9 1 v vs.length (vs.map Value.string)) :
    Calls Tryz.prog 221 #[v, .string x] w fun e w' => ∃ v', e = .returned (.tuple #[v', .int .i64 (seenN vs x)]) ∧ w'.ownsRow B 9 1 v' (seenL vs x).length ((seenL vs x).map Value.string) ∧ w.grownBy w' v.ownBlock := by
  obtain ⟨i0, hi, hz0, hz1, hz2⟩ := info_parts Tryz.infoStr
  obtain ⟨a, c, hv⟩ := own_form hown
  have hcells : ∀ (j : Nat) (hj : j < vs.length), ∃ g, a = some ⟨g, 0, none⟩ ∧ w.cell? ⟨g, j, none⟩ = some (.string vs[j]) := by
    intro j hj
    have h2 := hown
    rw [strs_flat] at h2
    obtain ⟨g, cap, e1, e2, e3, e4, e5⟩ := own_get h2 strC_len (by omega)
    rw [hv] at e1
    cases e1
    have := e5 j 0 hj (.string vs[j]) (by decide) rfl
    rw [Nat.mul_one, Nat.add_zero] at this
    exact ⟨g, rfl, this⟩
  subst hv
  have HO : Hid (w.ownsRow B 9 1 (.slice a vs.length c) vs.length (vs.map Value.string)) := hown
  have HC : Hid _ := hcells
  clear hown hcells
  go_enter Tryz.func221, Tryz.ntmps221
  go_wp2
  go_loopw [6] (fun p wr => ∃ i : Nat, p = .int .i64 i ∧ i ≤ vs.length ∧ wr = w ∧ Hid (∀ (j : Nat) (hj : j < vs.length), j < i → sameB x vs[j] = false)) (fun p _ => vs.length - (intOf p).toNat)
  case atStart => exact ⟨0, rfl, Nat.zero_le _, rfl, fun j hj h => by omega⟩
  case round =>
    obtain ⟨i, rfl, hle, rfl, hno⟩ := hrel
    by_cases hlt : i < vs.length
    · obtain ⟨g, rfl, hcell⟩ := HC.out i hlt
      obtain ⟨y, hy⟩ : ∃ y, vs[i] = y := ⟨_, rfl⟩
      rw [hy] at hcell
      have HY : Hid (vs[i] = y) := hy
      clear hy
      by_cases hs : sameB x y = true
      · have hN := seenN_hit vs x i hlt (by rw [HY.out]; exact hs) hno.out
        have HN : Hid _ := hN
        clear hN
        unfold sameB at hs
        go_wp2
        go_ret2
        have hL : seenL vs x = vs := by unfold seenL; rw [if_pos (by rw [HN.out]; exact hlt)]
        rw [hL, HN.out]
        exact ⟨_, rfl, HO.out, World.grownBy.refl _ _⟩
      · have hs' : sameB x y = false := by simpa using hs
        have hno' : Hid (∀ (j : Nat) (hj : j < vs.length), j < i + 1 → sameB x vs[j] = false) := by
          intro j hj hji
          by_cases e : j = i
          · subst e; rw [HY.out]; exact hs'
          · exact hno.out j hj (by omega)
        unfold sameB at hs'
        clear hs
        go_wp2
        go_roundw
        case rel => exact ⟨i + 1, by go_num, by omega, by trivial, hno'⟩
        case measure => simp [intOf]; omega
    · have hN := seenN_miss vs x (fun j hj => hno.out j hj (by omega))
      have hL : seenL vs x = vs ++ [x] := by unfold seenL; rw [if_neg (by omega)]
      have HL : Hid (seenL vs x = vs ++ [x]) := hL
      have HN : Hid (seenN vs x = vs.length) := hN
      have hc3 : vs.length + 1 ≤ maxLen := by unfold maxLen; omega
      have hc4 : (vs.length + 1) * 16 ≤ 140737488355328 := by omega
      have hc5 : Hid (∀ O, B ≤ (wr.alloc O).heap.size) := fun O => by simp; omega
      have h1c : ∀ u ∈ [Value.string x], u.oneCell' = true := by simp [Value.oneCell']
      clear hN hL
      go_wp2_with (at_builtin; refine wpList_append_own _ rfl (.tmp 21) (.tmp 23) 22 rfl B 9 i0 (.string ⟨#[]⟩) 1 16 Tryz.underlying22 hi hz0 hz1 hz2 rfl (by decide) _ _ _ rfl (HO.out.alloc _) ⟨wr.heap.size, 0, none⟩ 1 1 [.string x] rfl rfl (one_new _ _ _) h1c hc3 hc4 (hc5.out _) ?_; intro v' w1 hown1 hgrow1 _; obtain ⟨g', c', hv'⟩ := ownsRow_succ hown1; subst hv')
      go_ret2
      rw [HL.out, HN.out]
      refine ⟨_, rfl, ?_, ?_⟩
      · simpa using hown1
      · exact ⟨hgrow1.os, hgrow1.tape, hgrow1.output, by have := hgrow1.size; simp at this; omega, fun k hk hn => (hgrow1.block k (by simp; omega) hn).trans (Below.heap_alloc _ _ _ hk)⟩

end Go.Proofs.YtjajnhemgphefaaGreatDoor

namespace Go.Proofs.YtjajnhemgphefaaGreatDoor
open Go.RowKit Go.Shelf
set_option linter.unusedVariables false
set_option linter.unusedSimpArgs false

def argT (vs : List ByteArray) (t : RT) : Tm := if t.kind = 2 then ⟨⟨#[]⟩, seenN vs t.text⟩ else ⟨t.text, 0⟩
def argVs (vs : List ByteArray) (t : RT) : List ByteArray := if t.kind = 2 then seenL vs t.text else vs
/-- The arguments from a token on; the variables behind them; how many tokens. -/
def argsR : List ByteArray → List RT → Option (List Tm × List ByteArray × Nat)
  | vs, a :: b :: us =>
    if b.kind = 41 then some ([argT vs a], argVs vs a, 2)
    else match argsR (argVs vs a) us with
      | some (l, v', n) => some (argT vs a :: l, v', n + 2)
      | none => none
  | _, _ => none

/-- A row of tokens, whose block is known for one. -/
def TokAt (W : World) (g : Nat) (ts : List RT) : Prop := TokRow W g ts ∧ ∃ c, W.heap[g]? = some (Obj.cells c 244 (0, 0))
theorem TokAt.kept {B : Nat} {a b : World} {g : Nat} {ts : List RT} (h : TokAt a g ts) (hs : StrOnly B a b) : TokAt b g ts := by
  obtain ⟨⟨h1, h2⟩, c, h3⟩ := h
  have hb : b.heap[g]? = a.heap[g]? := hs.block g h1 (.inr fun c' fz e => by rw [h3] at e; cases e)
  have hc : ∀ o, b.cell? ⟨g, o, none⟩ = a.cell? ⟨g, o, none⟩ := fun o => World.cell?_of_block (w := a) hb
  refine ⟨⟨Nat.lt_of_lt_of_le h1 hs.size, fun j hj => ?_⟩, c, hb.trans h3⟩
  rw [hc, hc, hc, hc]; exact h2 j hj

theorem Tryz.infoArg : (Tryz.prog.info? 215).map (fun i => (i.zero, i.size, i.bytes)) = some (some (.agg #[.string ⟨#[]⟩, .int .i64 0]), 2, 24) := by kernel_rfl

theorem argsR_two {vs : List ByteArray} {us : List RT} {r : List Tm × List ByteArray × Nat} (h : argsR vs us = some r) : ∃ a b us', us = a :: b :: us' := by
  match us, h with
  | [], h => simp [argsR] at h
  | [a], h => simp [argsR] at h
  | a :: b :: us', _ => exact ⟨a, b, us', rfl⟩

/-- How far the arguments are read. -/
structure ArSt (B N : Nat) (w wr : World) (ts : List RT) (at' : Nat) (rel : ByteArray) (k : Nat) (vs : List ByteArray) (v va : Value) (acc : List Tm) (L : List Tm) (vsF : List ByteArray) (M : Nat) : Prop where
  str : StrOnly B w wr
  res : wr.heap[N]? = some (Obj.cells #[.string ⟨#[]⟩, .slice none 0 0] 145 (0, 0))
  atm : wr.heap[N + 1]? = some (Obj.cells #[.string rel, va] 145 (0, 0))
  own : wr.ownsRow (N + 2) 215 2 va acc.length (acc.flatMap tmC)
  vars : wr.ownsRow B 9 1 v vs.length (vs.map Value.string)
  spec : ∃ l n, argsR vs (ts.drop (at' + 2 + k)) = some (l, vsF, n) ∧ acc ++ l = L ∧ k + n = M
  few : acc.length ≤ k ∧ vs.length ≤ 500 + k

end Go.Proofs.YtjajnhemgphefaaGreatDoor

namespace Go.Proofs.YtjajnhemgphefaaGreatDoor
open Go.RowKit Go.Shelf
set_option linter.unusedVariables false
set_option linter.unusedSimpArgs false

structure ArW (B N : Nat) (w X : World) (rel : ByteArray) (vs : List ByteArray) (v va : Value) (acc : List Tm) : Prop where
  str : StrOnly B w X
  res : X.heap[N]? = some (Obj.cells #[.string ⟨#[]⟩, .slice none 0 0] 145 (0, 0))
  atm : X.heap[N + 1]? = some (Obj.cells #[.string rel, va] 145 (0, 0))
  own : X.ownsRow (N + 2) 215 2 va acc.length (acc.flatMap tmC)
  vars : X.ownsRow B 9 1 v vs.length (vs.map Value.string)

variable {B N : Nat} {w X Y : World} {rel : ByteArray} {vs vs' : List ByteArray} {v v' va va' : Value} {acc : List Tm}

theorem ArW.alloc (h : ArW B N w X rel vs v va acc) (o : Obj) : ArW B N w (X.alloc o) rel vs v va acc :=
  ⟨h.str.alloc o, (Below.heap_alloc _ _ _ (Array.getElem?_eq_some_iff.1 h.res).1).trans h.res, (Below.heap_alloc _ _ _ (Array.getElem?_eq_some_iff.1 h.atm).1).trans h.atm, h.own.alloc o, h.vars.alloc o⟩

theorem ArW.grow (h : ArW B N w X rel vs v va acc) (hg : X.grownBy Y v.ownBlock) (hv : Y.ownsRow B 9 1 v' vs'.length (vs'.map Value.string)) : ArW B N w Y rel vs' v' va acc := by
  have hk : ∀ (k : Nat) (c : Array Value) (T : TypeId), T ≠ 9 → X.heap[k]? = some (Obj.cells c T (0, 0)) → Y.heap[k]? = X.heap[k]? := by
    intro k c T hT hc
    refine hg.block k (Array.getElem?_eq_some_iff.1 hc).1 (fun e => ?_)
    obtain ⟨_, _, d, fz, h3⟩ := own_str h.vars k e.symm
    rw [hc] at h3; cases h3; exact hT rfl
  refine ⟨h.str.grown hg (fun k e => .inr ?_), (hk _ _ _ (by decide) h.res).trans h.res, (hk _ _ _ (by decide) h.atm).trans h.atm, ?_, hv⟩
  · obtain ⟨h1, _, d, fz, h3⟩ := own_str h.vars k e; exact ⟨h1, d, fz, h3⟩
  · refine own_keep h.own (fun g hg' _ => ?_)
    obtain ⟨_, _, d, fz, h3⟩ := own_str h.own g hg'
    refine hg.block g (Array.getElem?_eq_some_iff.1 h3).1 (fun e => ?_)
    obtain ⟨_, _, d', fz', h4⟩ := own_str h.vars g e.symm
    rw [h3] at h4; cases h4

theorem ArW.setP (h : ArW B N w X rel vs v va acc) {P : Nat} {c : Array Value} (hN : w.heap.size = N) (hP : N + 2 ≤ P) (hPt : X.heap[P]? = some (Obj.cells c 215 (0, 0))) (hne : va.ownBlock ≠ some P) (o : Nat) (u : Value) : ArW B N w (X.setCell ⟨P, o, none⟩ u) rel vs v va acc := by
  refine ⟨h.str.setCell (by simp; omega) u, (Below.heap_setCell _ _ _ _ (by simp; omega)).trans h.res, (Below.heap_setCell _ _ _ _ (by simp; omega)).trans h.atm, ?_, ?_⟩
  · exact own_keep h.own (fun g hg _ => Below.heap_setCell _ _ _ _ (fun e => hne (by simp at e; rw [← e]; exact hg)))
  · refine own_keep h.vars (fun g hg _ => Below.heap_setCell _ _ _ _ (fun e => ?_))
    simp at e; subst e
    obtain ⟨_, _, d, fz, h3⟩ := own_str h.vars g hg
    rw [hPt] at h3; cases h3

theorem ArW.app (h : ArW B N w X rel vs v va acc) (hN : w.heap.size = N) (hg : X.grownBy Y va.ownBlock) (t : Tm) (ho : Y.ownsRow (N + 2) 215 2 va' (acc.length + 1) (acc.flatMap tmC ++ tmC t)) : ArW B N w (Y.setCell ⟨N + 1, 1, none⟩ va') rel vs v va' (acc ++ [t]) := by
  have hlo : ∀ k, va.ownBlock = some k → N + 2 ≤ k := fun k e => (own_str h.own k e).1
  have hres : Y.heap[N]? = X.heap[N]? := hg.block N (Array.getElem?_eq_some_iff.1 h.res).1 (fun e => by have := hlo N e.symm; omega)
  have hatm : Y.heap[N + 1]? = X.heap[N + 1]? := hg.block (N + 1) (Array.getElem?_eq_some_iff.1 h.atm).1 (fun e => by have := hlo (N + 1) e.symm; omega)
  have hvar : Y.ownsRow B 9 1 v vs.length (vs.map Value.string) := by
    refine own_keep h.vars (fun g hg' hlt => hg.block g hlt (fun e => ?_))
    obtain ⟨_, _, d, fz, h3⟩ := own_str h.vars g hg'
    obtain ⟨_, _, d', fz', h4⟩ := own_str h.own g e.symm
    rw [h3] at h4; cases h4
  refine ⟨(h.str.grown hg (fun k e => .inl (by have := hlo k e; omega))).setCell (by simp; omega) _, ?_, ?_, ?_, ?_⟩
  · exact (Below.heap_setCell _ _ _ _ (by simp)).trans (hres.trans h.res)
  · exact heap_set1 (hatm.trans h.atm) 1 va'
  · have h2 : Y.ownsRow (N + 2) 215 2 va' (acc ++ [t]).length ((acc ++ [t]).flatMap tmC) := by simpa using ho
    exact own_keep h2 (fun g hg' _ => Below.heap_setCell _ _ _ _ (fun e => by have := (own_str ho g hg').1; simp at e; omega))
  · refine own_keep hvar (fun g hg' _ => Below.heap_setCell _ _ _ _ (fun e => ?_))
    simp at e; subst e
    obtain ⟨_, _, d, fz, h3⟩ := own_str hvar _ hg'
    rw [hatm.trans h.atm] at h3; cases h3

theorem ArW.fin (h : ArW B N w X rel vs v va acc) (hN : w.heap.size = N) (a b : Value) : ((X.setCell ⟨N, 0, none⟩ a).setCell ⟨N, 1, none⟩ b).ownsRow N 215 2 va acc.length (acc.flatMap tmC) ∧
    ((X.setCell ⟨N, 0, none⟩ a).setCell ⟨N, 1, none⟩ b).ownsRow B 9 1 v vs.length (vs.map Value.string) ∧ StrOnly B w ((X.setCell ⟨N, 0, none⟩ a).setCell ⟨N, 1, none⟩ b) := by
  have hk : ∀ g, g ≠ N → ((X.setCell ⟨N, 0, none⟩ a).setCell ⟨N, 1, none⟩ b).heap[g]? = X.heap[g]? := fun g hg => (Below.heap_setCell _ _ _ _ hg).trans (Below.heap_setCell _ _ _ _ hg)
  refine ⟨own_down (own_keep h.own (fun g hg _ => hk g (by have := (own_str h.own g hg).1; omega))) (by omega), own_keep h.vars (fun g hg _ => hk g (fun e => ?_)), (h.str.setCell (by simp; omega) _).setCell (by simp; omega) _⟩
  subst e
  obtain ⟨_, _, d, fz, h3⟩ := own_str h.vars _ hg
  rw [h.res] at h3; cases h3

end Go.Proofs.YtjajnhemgphefaaGreatDoor
