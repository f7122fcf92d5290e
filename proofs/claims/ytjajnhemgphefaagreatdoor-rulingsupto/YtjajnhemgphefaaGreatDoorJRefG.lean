/-
  The document's own answer: looking a text over: starts, next.
  The document's own answer: looking a text over: next.
  The document's own answer: the first token that is refused, and its place.
-/
import Derived.Test.YtjajnhemgphefaaGreatDoorJRefD
namespace Go.Proofs.YtjajnhemgphefaaGreatDoor
open Go.RowKit Go.Shelf
set_option linter.unusedVariables false
set_option linter.unusedSimpArgs false

structure Lk where
  want : Int
  body : Bool
  alone : Bool
  rules : Nat
  atoms : Nat
  args : Nat
  e : Int

def lkC (l : Lk) : Array Value := #[.int .i64 l.want, .bool l.body, .bool l.alone, .int .i64 l.rules, .int .i64 l.atoms, .int .i64 l.args, .int .i64 l.e]
def rtV (t : RT) : Value := .agg #[.int .i64 t.kind, .string t.text, .int .i64 t.place, .int .i64 t.runes]

/-- The counters, as a token that begins something finds them. -/
def startsL (l : Lk) : Lk :=
  if l.want = 0 then { l with rules := l.rules + 1, body := false } else if l.want = 1 then { l with atoms := l.atoms + 1 } else { l with args := l.args + 1 }
def overMost (l : Lk) : Bool := if l.want = 0 then decide (8 < l.rules + 1) else if l.want = 1 then decide (3 < l.atoms + 1) else decide (2 < l.args + 1)
def startsR (l : Lk) (t : RT) : Lk :=
  if t.kind ≠ 1 ∧ (t.kind ≠ 2 ∨ l.want ≠ 3) then { startsL l with e := 2 }
  else if overMost l = true ∨ 8 < t.runes then { startsL l with e := 3 }
  else if l.want = 3 then { startsL l with want := 4 } else { startsL l with want := 2 }
def nextR (l : Lk) (t : RT) : Lk :=
  if l.want = 2 ∧ t.kind = 40 then { l with args := 0, want := 3 }
  else if l.want = 4 ∧ t.kind = 44 then { l with want := 3 }
  else if l.want = 4 ∧ t.kind = 41 then { l with want := if l.alone = true then 6 else 5 }
  else if l.want = 5 ∧ t.kind = 46 then { l with want := 0 }
  else if l.want = 5 ∧ t.kind = 44 ∧ l.body = true then { l with want := 1 }
  else if l.want = 5 ∧ t.kind = 3 ∧ l.body = false then { l with body := true, atoms := 0, want := 1 }
  else { l with e := 2 }

theorem only_alloc {a b : World} {k : Nat} (h : a.grownBy b (some k)) (o : Obj) : a.grownBy (b.alloc o) (some k) :=
  ⟨h.os, h.tape, h.output, by have := h.size; simp; omega, fun i hi hn => (Below.heap_alloc b o i (Nat.lt_of_lt_of_le hi h.size)).trans (h.block i hi hn)⟩
theorem only_set {a b : World} {k : Nat} (h : a.grownBy b (some k)) (o : Nat) (v : Value) : a.grownBy (b.setCell ⟨k, o, none⟩ v) (some k) :=
  ⟨h.os, h.tape, h.output, by have := h.size; simpa using this, fun i hi hn => (Below.heap_setCell b _ v i (fun e => hn (by simp at e; rw [e]))).trans (h.block i hi hn)⟩
theorem only_drew {a b : World} {k : Nat} (h : a.grownBy b (some k)) : a.grownBy b.drew (some k) := ⟨h.os, h.tape, h.output, h.size, h.block⟩
theorem heap_set1 {w : World} {b : Nat} {c : Array Value} {t : TypeId} (h : w.heap[b]? = some (Obj.cells c t (0, 0))) (o : Nat) (v : Value) : (w.setCell ⟨b, o, none⟩ v).heap[b]? = some (Obj.cells (c.setIfInBounds o v) t (0, 0)) := by
  simp [World.setCell, Array.getElem?_modify, h]

set_option maxRecDepth 100000 in
set_option maxHeartbeats 4000000 in
theorem starts_any (bp : Nat) (l : Lk) (t : RT) (w : World) (hw : l.want = 0 ∨ l.want = 1 ∨ l.want = 3) (h1 : l.rules ≤ 1000000) (h2 : l.atoms ≤ 1000000) (h3 : l.args ≤ 1000000) (hh : w.heap[bp]? = some (Obj.cells (lkC l) 298 (0, 0))) :
    Calls Tryz.prog 175 #[.pointer (some ⟨bp, 0, none⟩), rtV t] w fun e w' => e = .returned (.tuple #[]) ∧ w'.heap[bp]? = some (Obj.cells (lkC (startsR l t)) 298 (0, 0)) ∧ w.grownBy w' (some bp) := by
  have hbp : bp < w.heap.size := (Array.getElem?_eq_some_iff.1 hh).1
  have hne : bp ≠ w.heap.size := by omega
  obtain ⟨want, body, alone, rules, atoms, args, e⟩ := l
  obtain ⟨kind, text, place, runes⟩ := t
  unfold lkC at hh
  unfold rtV
  simp only at hw h1 h2 h3 hh ⊢
  have c0 : w.cell? ⟨bp, 0, none⟩ = some (.int .i64 want) := by simp [World.cell?, hh]
  have c1 : w.cell? ⟨bp, 1, none⟩ = some (.bool body) := by simp [World.cell?, hh]
  have c3 : w.cell? ⟨bp, 3, none⟩ = some (.int .i64 rules) := by simp [World.cell?, hh]
  have c4 : w.cell? ⟨bp, 4, none⟩ = some (.int .i64 atoms) := by simp [World.cell?, hh]
  have c5 : w.cell? ⟨bp, 5, none⟩ = some (.int .i64 args) := by simp [World.cell?, hh]
  have c6 : w.cell? ⟨bp, 6, none⟩ = some (.int .i64 e) := by simp [World.cell?, hh]
  have f0 : ∀ o, w.frozen? ⟨bp, o, none⟩ = false := fun o => by simp [World.frozen?, hh]
  rcases hw with rfl | rfl | rfl
  all_goals
    go_enter Tryz.func175, Tryz.ntmps175
    go_wp2
    all_goals
      first | go_end0 | refine bodyPost_ret (results_none rfl _ _ _) rfl ?_
      refine ⟨rfl, ?_, by repeat (first | exact World.grownBy.refl _ _ | apply only_alloc | apply only_set)⟩
      rw [Below.heap_alloc _ _ _ (by simpa using hbp)]
      generalize hS : startsR _ _ = S
      unfold startsR startsL overMost at hS
      simp at hS
      (repeat' split at hS) <;> first | (exfalso; omega) | (exfalso; simp_all; done) | (subst hS; simp [World.setCell, Array.getElem?_modify, hh, lkC]; done) | (exfalso; simp_all; omega)

end Go.Proofs.YtjajnhemgphefaaGreatDoor

namespace Go.Proofs.YtjajnhemgphefaaGreatDoor
open Go.RowKit Go.Shelf
set_option linter.unusedVariables false
set_option linter.unusedSimpArgs false

set_option maxRecDepth 100000 in
set_option maxHeartbeats 4000000 in
theorem next_any (bp : Nat) (l : Lk) (t : RT) (w : World) (hw : l.want = 2 ∨ l.want = 4 ∨ l.want = 5 ∨ l.want = 6) (hh : w.heap[bp]? = some (Obj.cells (lkC l) 298 (0, 0))) :
    Calls Tryz.prog 176 #[.pointer (some ⟨bp, 0, none⟩), rtV t] w fun e w' => e = .returned (.tuple #[]) ∧ w'.heap[bp]? = some (Obj.cells (lkC (nextR l t)) 298 (0, 0)) ∧ w.grownBy w' (some bp) := by
  have hbp : bp < w.heap.size := (Array.getElem?_eq_some_iff.1 hh).1
  have hne : bp ≠ w.heap.size := by omega
  obtain ⟨want, body, alone, rules, atoms, args, e⟩ := l
  obtain ⟨kind, text, place, runes⟩ := t
  unfold lkC at hh
  unfold rtV
  simp only at hw hh ⊢
  have c0 : w.cell? ⟨bp, 0, none⟩ = some (.int .i64 want) := by simp [World.cell?, hh]
  have c1 : w.cell? ⟨bp, 1, none⟩ = some (.bool body) := by simp [World.cell?, hh]
  have c2 : w.cell? ⟨bp, 2, none⟩ = some (.bool alone) := by simp [World.cell?, hh]
  have c4 : w.cell? ⟨bp, 4, none⟩ = some (.int .i64 atoms) := by simp [World.cell?, hh]
  have c5 : w.cell? ⟨bp, 5, none⟩ = some (.int .i64 args) := by simp [World.cell?, hh]
  have c6 : w.cell? ⟨bp, 6, none⟩ = some (.int .i64 e) := by simp [World.cell?, hh]
  have f0 : ∀ o, w.frozen? ⟨bp, o, none⟩ = false := fun o => by simp [World.frozen?, hh]
  rcases hw with rfl | rfl | rfl | rfl
  all_goals
    cases body <;> cases alone
    all_goals
      go_enter Tryz.func176, Tryz.ntmps176
      go_wp2
      all_goals
        first | go_end0 | refine bodyPost_ret (results_none rfl _ _ _) rfl ?_
        refine ⟨rfl, ?_, by repeat (first | exact World.grownBy.refl _ _ | apply only_alloc | apply only_set)⟩
        rw [Below.heap_alloc _ _ _ (by simpa using hbp)]
        generalize hS : nextR _ _ = S
        unfold nextR at hS
        simp at hS
        (repeat' split at hS) <;> first | (exfalso; omega) | (exfalso; simp_all; done) | (subst hS; simp [World.setCell, Array.getElem?_modify, hh, lkC]; done)

end Go.Proofs.YtjajnhemgphefaaGreatDoor

namespace Go.Proofs.YtjajnhemgphefaaGreatDoor
open Go.RowKit Go.Shelf
set_option linter.unusedVariables false
set_option linter.unusedSimpArgs false

def acceptsB (l : Lk) (t : RT) : Bool := decide (t.kind = 4 ∧ (l.want = 6 ∨ (l.want = 0 ∧ l.alone = false)))
def stepR (l : Lk) (t : RT) : Lk := if l.want = 0 ∨ l.want = 1 ∨ l.want = 3 then startsR l t else nextR l t
def overR : Lk → List RT → Int × Nat
  | _, [] => (0, 0)
  | l, t :: ts => if acceptsB l t = true then (0, 0) else if (stepR l t).e ≠ 0 then ((stepR l t).e, t.place) else overR (stepR l t) ts

structure LkOk (l : Lk) (i : Nat) : Prop where
  lo : 0 ≤ l.want
  hi : l.want ≤ 6
  r : l.rules ≤ i
  a : l.atoms ≤ i
  g : l.args ≤ i

theorem stepR_ok {l : Lk} {i : Nat} (h : LkOk l i) (t : RT) : LkOk (stepR l t) (i + 1) ∧ (stepR l t).alone = l.alone := by
  obtain ⟨h1, h2, h3, h4, h5⟩ := h
  unfold stepR startsR nextR startsL
  repeat' split
  all_goals
    refine ⟨⟨?_, ?_, ?_, ?_, ?_⟩, ?_⟩ <;> simp only <;> first | rfl | omega | (split <;> omega)

/-- A row of tokens at a block. -/
def TokRow (W : World) (g : Nat) (ts : List RT) : Prop := g < W.heap.size ∧ ∀ (j : Nat) (hj : j < ts.length),
  W.cell? ⟨g, j * 4, none⟩ = some (.int .i64 ts[j].kind) ∧ W.cell? ⟨g, j * 4 + 1, none⟩ = some (.string ts[j].text) ∧ W.cell? ⟨g, j * 4 + 2, none⟩ = some (.int .i64 ts[j].place) ∧ W.cell? ⟨g, j * 4 + 3, none⟩ = some (.int .i64 ts[j].runes)

theorem TokRow.below {W W' : World} {g B : Nat} {ts : List RT} (h : TokRow W g ts) (hb : Below B W W') (hg : g < B) : TokRow W' g ts :=
  ⟨Nat.lt_of_lt_of_le h.1 hb.size, fun j hj => by
    obtain ⟨a, b, c, d⟩ := h.2 j hj
    exact ⟨(Below.cell hb hg).trans a, (Below.cell hb hg).trans b, (Below.cell hb hg).trans c, (Below.cell hb hg).trans d⟩⟩

theorem only_tok {w wr w' : World} {N T : Nat} {a b c d : Value} (hg : (wr.alloc (.cells #[a, b, c, d] T)).grownBy w' (some N)) (hN : N < wr.heap.size) (hb : Below N w wr) : w'.cell? ⟨wr.heap.size, 2, none⟩ = some c ∧ Below N w w' := by
  refine ⟨?_, (hb.alloc (by omega) _).grown hg (by simp; omega) (fun k hk => by cases hk; exact Nat.le_refl _)⟩
  have h1 : w'.heap[wr.heap.size]? = some (Obj.cells #[a, b, c, d] T (0, 0)) := by
    rw [hg.block wr.heap.size (by simp) (fun e => by cases e; omega), World.alloc_heap_new]
  simp [World.cell?, h1]

set_option maxRecDepth 100000 in
set_option maxHeartbeats 8000000 in
theorem over_any (g cap : Nat) (ts : List RT) (alone : Bool) (w : World) (hts : TokRow w g ts) (hl : ts.length ≤ 1000) :
    Calls Tryz.prog 108 #[.slice (some ⟨g, 0, none⟩) ts.length cap, .bool alone] w fun e w' => e = .returned (.tuple #[.int .i64 (overR ⟨0, false, alone, 0, 0, 0, 0⟩ ts).1, .int .i64 (overR ⟨0, false, alone, 0, 0, 0, 0⟩ ts).2]) ∧ Below w.heap.size w w' := by
  obtain ⟨N, hN⟩ : ∃ N, N = w.heap.size := ⟨_, rfl⟩
  have hNr := hN.symm
  have hgN : g < N := by rw [hN]; exact hts.1
  rw [← hN]
  clear hN
  have HTS : Hid (TokRow w g ts) := hts
  clear hts
  go_enter Tryz.func108, Tryz.ntmps108
  go_wp2
  go_loopw [7] (fun a wr => ∃ (i : Nat) (l : Lk), a = .int .i64 i ∧ i ≤ ts.length ∧ l.e = 0 ∧ l.alone = alone ∧ LkOk l i ∧ Hid (overR l (ts.drop i) = overR ⟨0, false, alone, 0, 0, 0, 0⟩ ts) ∧ wr.heap[N]? = some (Obj.cells (lkC l) 298 (0, 0)) ∧ Below N w wr) (fun a _ => ts.length - (intOf a).toNat)
  case atStart =>
    refine ⟨0, ⟨0, false, alone, 0, 0, 0, 0⟩, rfl, Nat.zero_le _, rfl, rfl, ⟨by simp, by simp, Nat.le_refl _, Nat.le_refl _, Nat.le_refl _⟩, rfl, ?_, (Below.refl _ _).alloc (by omega) _⟩
    rw [← hNr]; exact World.alloc_heap_new w _
  case round =>
    obtain ⟨i, l, rfl, hle, he, hal, hok, hsp, hh, hbel⟩ := hrel
    by_cases hlt : i < ts.length
    · obtain ⟨t0, t1, t2, t3⟩ := (HTS.out.below hbel hgN).2 i hlt
      have hdr := List.drop_eq_getElem_cons hlt
      rw [hdr] at hsp
      generalize ts[i] = t at *
      have hso := stepR_ok hok t
      have hNs : N < wr.heap.size := (Array.getElem?_eq_some_iff.1 hh).1
      have hNn : N ≠ wr.heap.size := by omega
      have hst : l.want = 0 ∨ l.want = 1 ∨ l.want = 3 → Calls Tryz.prog 175 #[.pointer (some ⟨N, 0, none⟩), rtV t] (wr.alloc (.cells #[.int .i64 t.kind, .string t.text, .int .i64 t.place, .int .i64 t.runes] 244)) fun e w' => e = .returned (.tuple #[]) ∧ w'.heap[N]? = some (Obj.cells (lkC (stepR l t)) 298 (0, 0)) ∧ w'.cell? ⟨wr.heap.size, 2, none⟩ = some (.int .i64 t.place) ∧ Below N w w' := by
        intro hw
        refine (starts_any N l t _ hw (by have := hok.r; omega) (by have := hok.a; omega) (by have := hok.g; omega) ((Below.heap_alloc _ _ _ hNs).trans hh)).mono ?_
        rintro e w' ⟨rfl, h1, h2⟩
        have hs : stepR l t = startsR l t := by unfold stepR; rw [if_pos hw]
        rw [hs]
        exact ⟨rfl, h1, only_tok h2 hNs hbel⟩
      have hnx : ¬ (l.want = 0 ∨ l.want = 1 ∨ l.want = 3) → Calls Tryz.prog 176 #[.pointer (some ⟨N, 0, none⟩), rtV t] (wr.alloc (.cells #[.int .i64 t.kind, .string t.text, .int .i64 t.place, .int .i64 t.runes] 244)) fun e w' => e = .returned (.tuple #[]) ∧ w'.heap[N]? = some (Obj.cells (lkC (stepR l t)) 298 (0, 0)) ∧ w'.cell? ⟨wr.heap.size, 2, none⟩ = some (.int .i64 t.place) ∧ Below N w w' := by
        intro hw
        have h6 := hok.hi
        have h7 := hok.lo
        refine (next_any N l t _ (by omega) ((Below.heap_alloc _ _ _ hNs).trans hh)).mono ?_
        rintro e w' ⟨rfl, h1, h2⟩
        have hs : stepR l t = nextR l t := by unfold stepR; rw [if_neg hw]
        rw [hs]
        exact ⟨rfl, h1, only_tok h2 hNs hbel⟩
      have c0 : wr.cell? ⟨N, 0, none⟩ = some (.int .i64 l.want) := by simp [World.cell?, hh, lkC]
      have HBE : Hid (Below N w wr) := hbel
      have HSP : Hid (overR l (t :: ts.drop (i + 1)) = overR ⟨0, false, alone, 0, 0, 0, 0⟩ ts) := hsp
      have HOK : Hid (LkOk (stepR l t) (i + 1) ∧ (stepR l t).alone = l.alone) := hso
      have hw0 := hok.lo
      have hw6 := hok.hi
      obtain ⟨kind, text, place, runes⟩ := t
      obtain ⟨want, body, alone', rules, atoms, args, e⟩ := l
      simp only at *
      subst hal he
      by_cases hacc : acceptsB ⟨want, body, alone', rules, atoms, args, 0⟩ ⟨kind, text, place, runes⟩ = true
      · have hans : Hid (overR ⟨0, false, alone', 0, 0, 0, 0⟩ ts = (0, 0)) := by
          show _ = _; rw [← HSP.out]; unfold overR; rw [if_pos hacc]
        unfold acceptsB at hacc
        simp only [decide_eq_true_eq] at hacc
        clear hst hnx HOK HSP hsp hso hok hdr hh hbel
        obtain ⟨rfl, rfl | ⟨rfl, rfl⟩⟩ := hacc
        all_goals
          go_wp2
          go_ret2
          rw [hans.out]
          exact ⟨rfl, HBE.out.alloc (by omega) _⟩
      · have hne : Hid (overR ⟨0, false, alone', 0, 0, 0, 0⟩ ts = if (stepR ⟨want, body, alone', rules, atoms, args, 0⟩ ⟨kind, text, place, runes⟩).e ≠ 0 then ((stepR ⟨want, body, alone', rules, atoms, args, 0⟩ ⟨kind, text, place, runes⟩).e, place) else overR (stepR ⟨want, body, alone', rules, atoms, args, 0⟩ ⟨kind, text, place, runes⟩) (ts.drop (i + 1))) := by
          show _ = _; rw [← HSP.out]; conv => lhs; unfold overR
          rw [if_neg hacc]
        unfold acceptsB at hacc
        simp only [decide_eq_true_eq] at hacc
        generalize stepR ⟨want, body, alone', rules, atoms, args, 0⟩ ⟨kind, text, place, runes⟩ = l' at *
        have hc6 : Hid (∀ w' : World, w'.heap[N]? = some (Obj.cells (lkC l') 298 (0, 0)) → w'.cell? ⟨N, 6, none⟩ = some (.int .i64 l'.e)) := by
          intro w' h; simp [World.cell?, h, lkC]
        have HST : Hid _ := hst
        have HNX : Hid _ := hnx
        clear hst hnx HSP hsp hso hok hdr hh hbel
        unfold rtV at HST HNX
        have hwv : want = 0 ∨ want = 1 ∨ want = 2 ∨ want = 3 ∨ want = 4 ∨ want = 5 ∨ want = 6 := by omega
        by_cases hz : l'.e = 0
        · have hgo : Hid (overR l' (ts.drop (i + 1)) = overR ⟨0, false, alone', 0, 0, 0, 0⟩ ts) := by
            show _ = _; rw [hne.out, if_neg (by simp [hz])]
          rw [hz] at hc6
          have HLE : Hid (l'.e = 0) := hz
          clear hz hne
          by_cases k4 : kind = 4
          · subst k4
            rcases hwv with rfl | rfl | rfl | rfl | rfl | rfl | rfl
            · cases alone'
              · simp at hacc
              · clear hacc
                go_wp2_with (first | (go_at_call 175; refine (HST.out (by simp)).mono ?_; rintro e w' ⟨rfl, hh', hpl, hb'⟩; have c6 := hc6.out w' hh') | (go_at_call 176; refine (HNX.out (by simp)).mono ?_; rintro e w' ⟨rfl, hh', hpl, hb'⟩; have c6 := hc6.out w' hh'))
                go_roundw
                case rel => exact ⟨i + 1, l', by go_num, by omega, HLE.out, HOK.out.2, HOK.out.1, hgo, hh', hb'⟩
                case measure => simp [intOf]; omega
            all_goals first | (exfalso; simp at hacc; done) | skip
            all_goals
              clear hacc
              go_wp2_with (first | (go_at_call 175; refine (HST.out (by simp)).mono ?_; rintro e w' ⟨rfl, hh', hpl, hb'⟩; have c6 := hc6.out w' hh') | (go_at_call 176; refine (HNX.out (by simp)).mono ?_; rintro e w' ⟨rfl, hh', hpl, hb'⟩; have c6 := hc6.out w' hh'))
              go_roundw
              case rel => exact ⟨i + 1, l', by go_num, by omega, HLE.out, HOK.out.2, HOK.out.1, hgo, hh', hb'⟩
              case measure => simp [intOf]; omega
          · have m4 : (kind == 4) = false := by simpa using k4
            clear hacc k4
            rcases hwv with rfl | rfl | rfl | rfl | rfl | rfl | rfl
            all_goals
              go_wp2_with (first | (go_at_call 175; refine (HST.out (by simp)).mono ?_; rintro e w' ⟨rfl, hh', hpl, hb'⟩; have c6 := hc6.out w' hh') | (go_at_call 176; refine (HNX.out (by simp)).mono ?_; rintro e w' ⟨rfl, hh', hpl, hb'⟩; have c6 := hc6.out w' hh'))
              go_roundw
              case rel => exact ⟨i + 1, l', by go_num, by omega, HLE.out, HOK.out.2, HOK.out.1, hgo, hh', hb'⟩
              case measure => simp [intOf]; omega
        · have hgo : Hid (overR ⟨0, false, alone', 0, 0, 0, 0⟩ ts = (l'.e, place)) := by
            show _ = _; rw [hne.out, if_pos hz]
          generalize l'.e = le at *
          have mz : (le == 0) = false := by simpa using hz
          have mz' : (le != 0) = true := by simpa using hz
          clear hne
          by_cases k4 : kind = 4
          · subst k4
            rcases hwv with rfl | rfl | rfl | rfl | rfl | rfl | rfl
            · cases alone'
              · simp at hacc
              · clear hacc
                go_wp2_with (first | (go_at_call 175; refine (HST.out (by simp)).mono ?_; rintro e w' ⟨rfl, hh', hpl, hb'⟩; have c6 := hc6.out w' hh') | (go_at_call 176; refine (HNX.out (by simp)).mono ?_; rintro e w' ⟨rfl, hh', hpl, hb'⟩; have c6 := hc6.out w' hh'))
                go_quiet (fail)
                go_wp2
                go_ret2
                rw [hgo.out]
                exact ⟨rfl, below_drewN hb'⟩
            all_goals first | (exfalso; simp at hacc; done) | skip
            all_goals
              clear hacc
              go_wp2_with (first | (go_at_call 175; refine (HST.out (by simp)).mono ?_; rintro e w' ⟨rfl, hh', hpl, hb'⟩; have c6 := hc6.out w' hh') | (go_at_call 176; refine (HNX.out (by simp)).mono ?_; rintro e w' ⟨rfl, hh', hpl, hb'⟩; have c6 := hc6.out w' hh'))
              go_quiet (fail)
              go_wp2
              go_ret2
              rw [hgo.out]
              exact ⟨rfl, below_drewN hb'⟩
          · have m4 : (kind == 4) = false := by simpa using k4
            clear hacc k4
            rcases hwv with rfl | rfl | rfl | rfl | rfl | rfl | rfl
            all_goals
              go_wp2_with (first | (go_at_call 175; refine (HST.out (by simp)).mono ?_; rintro e w' ⟨rfl, hh', hpl, hb'⟩; have c6 := hc6.out w' hh') | (go_at_call 176; refine (HNX.out (by simp)).mono ?_; rintro e w' ⟨rfl, hh', hpl, hb'⟩; have c6 := hc6.out w' hh'))
              go_quiet (fail)
              go_wp2
              go_ret2
              rw [hgo.out]
              exact ⟨rfl, below_drewN hb'⟩
    · rw [List.drop_eq_nil_of_le (by omega)] at hsp
      go_wp2
      go_ret2
      rw [← hsp.out]
      exact ⟨rfl, hbel⟩

end Go.Proofs.YtjajnhemgphefaaGreatDoor
