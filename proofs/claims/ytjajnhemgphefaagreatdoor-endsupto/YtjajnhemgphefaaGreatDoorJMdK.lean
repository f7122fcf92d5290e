/-
  The document's own answer: a text of one atom.
  The document's own answer: a text of one atom: the call One.
  The document's own answer: an atom without variables as it is written; room for the variables of a rule.
  The document's own answer: has one of some atoms the variable?
  The document's own answer: texts in order.
  The document's own answer: what of a relation holds, in order.
  The document's own answer: an atom against one that holds: in plain functions.
-/
import Derived.Test.YtjajnhemgphefaaGreatDoorJMdD
import Derived.Laws.CopyOwn
namespace Go.Proofs.YtjajnhemgphefaaGreatDoor
open Go.RowKit Go.Shelf
set_option linter.unusedVariables false
set_option linter.unusedSimpArgs false

theorem step4a {l : Lk} {t : RT} (hw : l.want = 4) (ha : l.alone = true) (h : (stepD l t).e = 0) : (t.kind = 44 ∧ stepD l t = { l with want := 3 }) ∨ (t.kind = 41 ∧ stepD l t = { l with want := 6 }) := by
  have hs : stepD l t = nextR l t := by unfold stepD; simp [hw]
  rw [hs] at h ⊢
  unfold nextR at h ⊢
  simp only [hw, ha] at h ⊢
  simp at h ⊢
  by_cases h1 : t.kind = 44
  · left; simp [h1]
  · by_cases h2 : t.kind = 41
    · right; simp [h2]
    · simp [h1, h2] at h

theorem args_alone : ∀ (n : Nat) (ts : List RT) (l : Lk) (vs : List ByteArray), ts.length ≤ n → l.want = 3 → l.e = 0 → l.alone = true → hasEnd ts → okO l ts →
    ∃ L vsF k, argsR vs ts = some (L, vsF, k) ∧ l.args + L.length ≤ 2 ∧ 1 ≤ L.length ∧ okO { l with want := 6, args := l.args + L.length } (ts.drop k) ∧ hasEnd (ts.drop k) ∧ (∀ t ∈ L, t.num ≤ vs.length + L.length) ∧ vsF.length ≤ vs.length + L.length
  | 0, ts, l, vs, hn, _, _, _, hE, _ => by
    have : ts = [] := List.eq_nil_of_length_eq_zero (by omega)
    rw [this] at hE; exact absurd hE hasEnd_nil
  | n + 1, [], l, vs, hn, _, _, _, hE, _ => absurd hE hasEnd_nil
  | n + 1, t :: us, l, vs, hn, hw, he, hal, hE, hok => by
    obtain ⟨h1, h2⟩ := okO_cons hok (noAcc (by rw [hw]; decide) (by rw [hw]; decide))
    obtain ⟨hk, hg, hr, hst⟩ := step3 hw h1
    have hE2 := hasEnd_cons hE (by omega)
    rw [hst] at h2
    have hnum : (argT vs t).num ≤ vs.length := by
      unfold argT; split
      · exact List.findIdx_le_length
      · simp
    have hvl := argVs_len vs t
    cases us with
    | nil => exact absurd hE2 hasEnd_nil
    | cons b us =>
      obtain ⟨h3, h4⟩ := okO_cons h2 (noAcc (by simp) (by simp))
      rcases step4a (l := { l with args := l.args + 1, want := 4 }) rfl (by simpa using hal) h3 with ⟨hb, hst2⟩ | ⟨hb, hst2⟩
      · rw [hst2] at h4
        have hE3 := hasEnd_cons hE2 (by omega)
        obtain ⟨L, vsF, k, r1, r2, r0, r3, r4, r5, r6⟩ := args_alone n us { l with args := l.args + 1, want := 3 } (argVs vs t) (by simp at hn; omega) rfl he hal hE3 h4
        refine ⟨argT vs t :: L, vsF, k + 2, ?_, ?_, by simp, ?_, ?_, ?_, ?_⟩
        · unfold argsR; rw [if_neg (by omega), r1]
        · simp at r2 ⊢; omega
        · simp only [List.length_cons, List.drop_succ_cons] at r3 ⊢
          have e : l.args + (L.length + 1) = l.args + 1 + L.length := by omega
          rw [e]; exact r3
        · simpa using r4
        · intro t' ht'
          simp only [List.length_cons]
          rcases List.mem_cons.1 ht' with rfl | ht'
          · omega
          · have := r5 t' ht'; omega
        · simp only [List.length_cons]; omega
      · rw [hst2] at h4
        have hE3 := hasEnd_cons hE2 (by omega)
        refine ⟨[argT vs t], argVs vs t, 2, ?_, by simpa using hg, by simp, by simpa using h4, by simpa using hE3, ?_, by simpa using hvl⟩
        · unfold argsR; rw [if_pos hb]
        · intro t' ht'
          simp at ht'; subst ht'; simp; omega

def oneOf : List RT → Option Am
  | t :: _ :: us => match argsR [] us with
    | some (l, _, _) => some ⟨t.text, l⟩
    | none => none
  | _ => none
/-- The atom that a text is; none, if it is none. -/
def oneD (s : ByteArray) : Option Am :=
  if 300 < (R s 0).length then none
  else if (overR (lk0 true) (refToks s)).1 ≠ 0 then none
  else oneOf (refToks s)

theorem one_read (ts : List RT) (hE : hasEnd ts) (hok : okO (lk0 true) ts) : ∃ t p us L vsF k, ts = t :: p :: us ∧ argsR [] us = some (L, vsF, k) ∧ L.length ≤ 2 ∧ 1 ≤ L.length ∧ (∀ t ∈ L, t.num ≤ 2) := by
  cases ts with
  | nil => exact absurd hE hasEnd_nil
  | cons t ts =>
    have ha : acceptsB (lk0 true) t = false := by unfold acceptsB lk0; simp
    obtain ⟨h1, h2⟩ := okO_cons hok ha
    obtain ⟨kt, kr, ktr, kst⟩ := step0 (l := lk0 true) rfl h1
    have E1 := hasEnd_cons hE (by omega)
    rw [kst] at h2
    cases ts with
    | nil => exact absurd E1 hasEnd_nil
    | cons p us =>
      obtain ⟨g3, g4⟩ := okO_cons h2 (noAcc (by simp) (by simp))
      obtain ⟨kp, kst2⟩ := step2 (l := { lk0 true with rules := (lk0 true).rules + 1, body := false, want := 2 }) rfl g3
      have E2 := hasEnd_cons E1 (by omega)
      rw [kst2] at g4
      obtain ⟨L, vsF, k, q1, q2, q0, q3, q4, q5, q6⟩ := args_alone us.length us { lk0 true with rules := (lk0 true).rules + 1, body := false, args := 0, want := 3 } [] (Nat.le_refl _) rfl rfl rfl E2 g4
      simp only [Nat.zero_add, List.length_nil] at q2 q5
      exact ⟨t, p, us, L, vsF, k, rfl, q1, q2, q0, fun t' ht' => by have := q5 t' ht'; omega⟩

def OneAns (s : ByteArray) (N : Nat) (e : Ending) (w' : World) : Prop :=
  match oneD s with
  | none => e = .returned (.tuple #[.agg #[.string ⟨#[]⟩, .slice none 0 0], .bool false])
  | some a => ∃ va, e = .returned (.tuple #[.agg #[.string a.rel, va], .bool true]) ∧ w'.ownsRow N 215 2 va a.args.length (a.args.flatMap tmC) ∧ a.args.length ≤ 2 ∧ 1 ≤ a.args.length ∧ (∀ t ∈ a.args, t.num ≤ 2) ∧ AmSz 1200 a

end Go.Proofs.YtjajnhemgphefaaGreatDoor

namespace Go.Proofs.YtjajnhemgphefaaGreatDoor
open Go.RowKit Go.Shelf
set_option linter.unusedVariables false
set_option linter.unusedSimpArgs false

theorem cellsN {X : World} {N T : Nat} {x y a b : Value} (h : X.heap[N]? = some (Obj.cells #[x, y] T (0, 0))) : (X.setCell ⟨N, 0, none⟩ a).cell? ⟨N, 0, none⟩ = some a ∧ ((X.setCell ⟨N, 0, none⟩ a).setCell ⟨N, 1, none⟩ b).cell? ⟨N, 1, none⟩ = some b := by
  refine ⟨by simp [World.cell?, heap_set1 h 0 a], by simp [World.cell?, heap_set1 (heap_set1 h 0 a) 1 b]⟩

set_option maxRecDepth 100000 in
set_option maxHeartbeats 8000000 in
theorem one_ref (s : ByteArray) (w : World) (hs : s.size ≤ 1048576) :
    Calls Tryz.prog 114 #[.string s] w fun e w' => OneAns s w.heap.size e w' ∧ Below w.heap.size w w' := by
  obtain ⟨N, hN⟩ : ∃ N, N = w.heap.size := ⟨_, rfl⟩
  have hNr := hN.symm
  rw [← hN]
  obtain ⟨W0, hW0⟩ : ∃ W0, W0 = w.alloc (.cells #[.string ⟨#[]⟩, .slice none 0 0] 145) := ⟨_, rfl⟩
  have hs0 : W0.heap.size = N + 1 := by rw [hW0]; simp [hNr]
  have hb0 : Below N w W0 := by rw [hW0]; exact (Below.refl _ w).alloc (by omega) _
  have hbox : W0.heap[N]? = some (Obj.cells #[.string ⟨#[]⟩, .slice none 0 0] 145 (0, 0)) := by rw [hW0, ← hNr]; exact World.alloc_heap_new w _
  have hru := runes_any s W0 hs
  have HKX : Hid (∀ X, Below W0.heap.size W0 X → X.heap[N]? = some (Obj.cells #[.string ⟨#[]⟩, .slice none 0 0] 145 (0, 0)) ∧ X.cell? ⟨N, 0, none⟩ = some (.string ⟨#[]⟩) ∧ X.cell? ⟨N, 1, none⟩ = some (.slice none 0 0) ∧ (∀ o, X.frozen? ⟨N, o, none⟩ = false) ∧ Below N w X) := by
    intro X hX
    have h1 : X.heap[N]? = some (Obj.cells #[.string ⟨#[]⟩, .slice none 0 0] 145 (0, 0)) := (hX.block N (by omega)).trans hbox
    exact ⟨h1, by simp [World.cell?, h1], by simp [World.cell?, h1], fun o => by simp [World.frozen?, h1], hb0.trans (hX.mono (by omega))⟩
  have HS0 : Hid (W0.heap.size = N + 1) := hs0
  have HW0 : Hid _ := hW0
  clear hN hs0 hb0 hbox
  rw [hW0] at hru
  by_cases hlong : 300 < (R s 0).length
  · have HD : Hid (∀ (e : Ending) (w' : World), e = .returned (.tuple #[.agg #[.string ⟨#[]⟩, .slice none 0 0], .bool false]) → OneAns s N e w') := by
      intro e w' he
      unfold OneAns oneD; rw [if_pos hlong]; exact he
    generalize R s 0 = L at *
    go_enter Tryz.func114, Tryz.ntmps114
    go_wp2_with fail
    refine hru.mono ?_
    rintro e W1 ⟨v1, rfl, ho1, hb1⟩
    rw [← hW0] at hb1
    obtain ⟨k1, k2, k3, k4, k5⟩ := HKX.out W1 hb1
    have hcc := cellsN (a := .string ⟨#[]⟩) (b := .slice none 0 0) k1
    have HCC : Hid _ := hcc
    have HB : Hid (Below N w ((W1.setCell ⟨N, 0, none⟩ (.string ⟨#[]⟩)).setCell ⟨N, 1, none⟩ (.slice none 0 0))) := (k5.setCell (Nat.le_refl _) _).setCell (Nat.le_refl _) _
    obtain ⟨a1, c1, rfl⟩ := own_form ho1
    clear ho1 hru k1 k5 hcc hb1
    go_wp2
    obtain ⟨q1, q2⟩ := HCC.out
    refine bodyPost_ret (v := .tuple #[.agg #[.string ⟨#[]⟩, .slice none 0 0], .bool false]) (by simp [results, Tryz.results114, go_sem, q1, q2]) rfl ?_
    exact ⟨HD.out _ _ rfl, HB.out⟩
  · have hL : (R s 0).length ≤ 300 := by omega
    have htk := fun W1 => tokens_any s W1 hs hL
    have hln := refToks_len s
    have hend := refToks_end s
    have htz := refToks_size s hL
    have hD : oneD s = if (overR (lk0 true) (refToks s)).1 ≠ 0 then none else oneOf (refToks s) := by unfold oneD; rw [if_neg hlong]
    generalize refToks s = ts at *
    have hne : 0 < ts.length := by
      obtain ⟨pre, E, h1, _⟩ := hend; rw [h1]; simp
    have hov := fun (g cap : Nat) (W : World) (h : TokRow W g ts) => over_any g cap ts true W h (by omega)
    by_cases hoe : (overR (lk0 true) ts).1 = 0
    · obtain ⟨t, p, us, LL, vsF, k, rfl, hr1, hr2, hr0, hr3⟩ := one_read ts hend hoe
      rw [if_neg (by simpa using hoe)] at hD
      unfold oneOf at hD
      simp only [hr1] at hD
      have hsz := argsR_sz 1200 us _ _ _ _ (fun u hu => htz u (List.mem_cons_of_mem _ (List.mem_cons_of_mem _ hu))) hr1
      have htx := htz t List.mem_cons_self
      have HD : Hid (∀ (e : Ending) (w' : World), (∃ va, e = .returned (.tuple #[.agg #[.string t.text, va], .bool true]) ∧ w'.ownsRow N 215 2 va LL.length (LL.flatMap tmC)) → OneAns s N e w') := by
        rintro e w' ⟨va, h1, h2⟩
        unfold OneAns; rw [hD]; exact ⟨va, h1, h2, hr2, hr0, hr3, htx, hsz⟩
      have hatm : Hid (∀ (g cap : Nat) (W : World), TokAt W g (t :: p :: us) → Calls Tryz.prog 177 #[.slice (some ⟨g, 0, none⟩) (t :: p :: us).length cap, .int .i64 0, .slice none 0 0] W fun e w' => ∃ va v' M, e = .returned (.tuple #[.agg #[.string t.text, va], .int .i64 M, v']) ∧ w'.ownsRow W.heap.size 215 2 va LL.length (LL.flatMap tmC) ∧ Below W.heap.size W w') := by
        intro g cap W h
        refine (atom_any g cap (t :: p :: us) 0 W.heap.size (.slice none 0 0) [] LL vsF k W h (by omega) (by simp) (Nat.le_refl _) (by simp) (World.ownsRow_nil _ _ _ _) hr1).mono ?_
        rintro e w' ⟨va, v', rfl, h1, h2, h3⟩
        exact ⟨va, v', _, rfl, h1, below_str h3 (Nat.le_refl _)⟩
      have hoe2 : Hid (∀ (g cap : Nat) (W : World), TokRow W g (t :: p :: us) → Calls Tryz.prog 108 #[.slice (some ⟨g, 0, none⟩) (t :: p :: us).length cap, .bool true] W fun e w' => (∃ p : Nat, e = .returned (.tuple #[.int .i64 0, .int .i64 p])) ∧ Below W.heap.size W w') := by
        intro g cap W h
        refine (hov g cap W h).mono ?_
        rintro e w' ⟨rfl, hb⟩
        refine ⟨⟨(overR (lk0 true) (t :: p :: us)).2, ?_⟩, hb⟩
        have e0 : (overR ⟨0, false, true, 0, 0, 0, 0⟩ (t :: p :: us)).1 = 0 := hoe
        rw [e0]; rfl
      clear hov hD hr1 hr2 hr3 hoe hend hlong htz hsz htx
      generalize t.text = tx at *
      generalize (t :: p :: us) = ts at *
      generalize R s 0 = L at *
      go_enter Tryz.func114, Tryz.ntmps114
      go_wp2_with fail
      refine hru.mono ?_
      rintro e W1 ⟨v1, rfl, ho1, hb1⟩
      rw [← hW0] at hb1
      obtain ⟨a1, c1, rfl⟩ := own_form ho1
      clear ho1 hru
      go_wp2_with fail
      refine (htk W1).mono ?_
      rintro e W2 ⟨v2, rfl, ho2, hb2⟩
      obtain ⟨g, cap, rfl, hTA⟩ := tokAt_of ho2 hne
      have hb2' : Below W0.heap.size W0 W2 := hb1.trans (hb2.mono hb1.size)
      clear ho2 htk hb1 hb2
      go_wp2_with fail
      refine (hoe2.out g cap W2 hTA.1).mono ?_
      rintro e W3 ⟨⟨p3, rfl⟩, hb3⟩
      have hTA3 := hTA.below hb3 hTA.1.1
      have hb3' : Below W0.heap.size W0 W3 := hb2'.trans (hb3.mono hb2'.size)
      clear hb3 hTA hoe2 hb2'
      go_wp2_with fail
      refine (hatm.out g cap W3 hTA3).mono ?_
      rintro e W4 ⟨va, v4, M, rfl, hva, hb4⟩
      have hb4' : Below W0.heap.size W0 W4 := hb3'.trans (hb4.mono hb3'.size)
      obtain ⟨k1, k2, k3, k4, k5⟩ := HKX.out W4 hb4'
      have hN3 : N + 1 ≤ W3.heap.size := by have := hb3'.size; rw [HS0.out] at this; exact this
      have hN4 : N < W4.heap.size := (Array.getElem?_eq_some_iff.1 k1).1
      obtain ⟨a4, c4, rfl⟩ := own_form hva
      have kA : Hid (∀ O, (W4.alloc O).heap[N]? = some (Obj.cells #[.string ⟨#[]⟩, .slice none 0 0] 145 (0, 0))) := fun O => (Below.heap_alloc _ _ _ hN4).trans k1
      have hcc : Hid (∀ O, ((W4.alloc O).setCell ⟨N, 0, none⟩ (.string tx)).cell? ⟨N, 0, none⟩ = some (.string tx) ∧ (((W4.alloc O).setCell ⟨N, 0, none⟩ (.string tx)).setCell ⟨N, 1, none⟩ (.slice a4 LL.length c4)).cell? ⟨N, 1, none⟩ = some (.slice a4 LL.length c4)) := fun O => cellsN (kA.out O)
      have hfin : Hid (∀ O, (((W4.alloc O).setCell ⟨N, 0, none⟩ (.string tx)).setCell ⟨N, 1, none⟩ (.slice a4 LL.length c4)).ownsRow N 215 2 (.slice a4 LL.length c4) LL.length (LL.flatMap tmC) ∧ Below N w (((W4.alloc O).setCell ⟨N, 0, none⟩ (.string tx)).setCell ⟨N, 1, none⟩ (.slice a4 LL.length c4))) := by
        intro O
        refine ⟨own_down (B := W3.heap.size) (own_keep (hva.alloc O) (fun g' hg' _ => ?_)) (by omega), ((k5.alloc (by omega) O).setCell (Nat.le_refl _) _).setCell (Nat.le_refl _) _⟩
        have h1 := (own_str hva g' hg').1
        rw [Below.heap_setCell _ _ _ _ (by simp; omega), Below.heap_setCell _ _ _ _ (by simp; omega)]
      have kB0 : ∀ O, (W4.alloc O).cell? ⟨N, 0, none⟩ = some (.string ⟨#[]⟩) := fun O => by simp [World.cell?, kA.out O]
      have kB1 : ∀ O, (W4.alloc O).cell? ⟨N, 1, none⟩ = some (.slice none 0 0) := fun O => by simp [World.cell?, kA.out O]
      have kBf : ∀ O o, (W4.alloc O).frozen? ⟨N, o, none⟩ = false := fun O o => by simp [World.frozen?, kA.out O]
      clear hatm hva hb4 hb4' hb3' hTA3 k1 k5
      have hNe : N ≠ W4.heap.size := by omega
      go_wp2
      have hhp := heap_set1 (heap_set1 (kA.out (.cells #[.string tx, .slice a4 LL.length c4] 145)) 0 (.string tx)) 1 (.slice a4 LL.length c4)
      rw [World.setCell_alloc_past _ _ _ _ hN4, World.setCell_alloc_past _ _ _ _ (by simpa using hN4)] at hhp
      have hff := hfin.out (.cells #[.string tx, .slice a4 LL.length c4] 145)
      rw [World.setCell_alloc_past _ _ _ _ hN4, World.setCell_alloc_past _ _ _ _ (by simpa using hN4)] at hff
      have q1 : (((W4.setCell ⟨N, 0, none⟩ (.string tx)).setCell ⟨N, 1, none⟩ (.slice a4 LL.length c4)).alloc (.cells #[.string tx, .slice a4 LL.length c4] 145)).cell? ⟨N, 0, none⟩ = some (.string tx) := by simp only [World.cell?, hhp]; rfl
      have q2 : (((W4.setCell ⟨N, 0, none⟩ (.string tx)).setCell ⟨N, 1, none⟩ (.slice a4 LL.length c4)).alloc (.cells #[.string tx, .slice a4 LL.length c4] 145)).cell? ⟨N, 1, none⟩ = some (.slice a4 LL.length c4) := by simp only [World.cell?, hhp]; rfl
      refine bodyPost_ret (v := .tuple #[.agg #[.string tx, .slice a4 LL.length c4], .bool true]) (by simp [results, Tryz.results114, go_sem, q1, q2]) rfl ?_
      exact ⟨HD.out _ _ ⟨_, rfl, hff.1⟩, hff.2⟩
    · rw [if_pos hoe] at hD
      have HD : Hid (∀ (e : Ending) (w' : World), e = .returned (.tuple #[.agg #[.string ⟨#[]⟩, .slice none 0 0], .bool false]) → OneAns s N e w') := by
        intro e w' he
        unfold OneAns; rw [hD]; exact he
      have hov2 : Hid (∀ (g cap : Nat) (W : World), TokRow W g ts → Calls Tryz.prog 108 #[.slice (some ⟨g, 0, none⟩) ts.length cap, .bool true] W fun e w' => e = .returned (.tuple #[.int .i64 (overR (lk0 true) ts).1, .int .i64 (overR (lk0 true) ts).2]) ∧ Below W.heap.size W w') := hov
      clear hov hD hend hlong htz
      generalize (overR (lk0 true) ts).1 = oe at *
      generalize (overR (lk0 true) ts).2 = op at *
      generalize R s 0 = L at *
      have m0 : (oe == 0) = false := by simpa using hoe
      have m1 : (oe != 0) = true := by simpa using hoe
      go_enter Tryz.func114, Tryz.ntmps114
      go_wp2_with fail
      refine hru.mono ?_
      rintro e W1 ⟨v1, rfl, ho1, hb1⟩
      rw [← hW0] at hb1
      obtain ⟨a1, c1, rfl⟩ := own_form ho1
      clear ho1 hru
      go_wp2_with fail
      refine (htk W1).mono ?_
      rintro e W2 ⟨v2, rfl, ho2, hb2⟩
      obtain ⟨g, cap, rfl, hTA⟩ := tokAt_of ho2 hne
      have hb2' : Below W0.heap.size W0 W2 := hb1.trans (hb2.mono hb1.size)
      clear ho2 htk hb1 hb2
      go_wp2_with fail
      refine (hov2.out g cap W2 hTA.1).mono ?_
      rintro e W3 ⟨rfl, hb3⟩
      have hb3' : Below W0.heap.size W0 W3 := hb2'.trans (hb3.mono hb2'.size)
      obtain ⟨k1, k2, k3, k4, k5⟩ := HKX.out W3 hb3'
      have hcc := cellsN (a := .string ⟨#[]⟩) (b := .slice none 0 0) k1
      have HCC : Hid _ := hcc
      have HB : Hid (Below N w ((W3.setCell ⟨N, 0, none⟩ (.string ⟨#[]⟩)).setCell ⟨N, 1, none⟩ (.slice none 0 0))) := (k5.setCell (Nat.le_refl _) _).setCell (Nat.le_refl _) _
      clear hb3 hTA hov2 hb2' k1 k5 hcc hb3'
      go_wp2
      obtain ⟨q1, q2⟩ := HCC.out
      refine bodyPost_ret (v := .tuple #[.agg #[.string ⟨#[]⟩, .slice none 0 0], .bool false]) (by simp [results, Tryz.results114, go_sem, q1, q2]) rfl ?_
      exact ⟨HD.out _ _ rfl, HB.out⟩

end Go.Proofs.YtjajnhemgphefaaGreatDoor

namespace Go.Proofs.YtjajnhemgphefaaGreatDoor
open Go.RowKit Go.Shelf
set_option linter.unusedVariables false
set_option linter.unusedSimpArgs false

def joinC : Nat → List ByteArray → ByteArray
  | _, [] => ⟨#[]⟩
  | i, x :: l => (if 0 < i then ⟨#[44]⟩ else ⟨#[]⟩) ++ x ++ joinC (i + 1) l
def toldW (g : Gr) : ByteArray := (g.rel ++ ⟨#[40]⟩) ++ joinC 0 g.args ++ ⟨#[41]⟩

def blank8 : List ByteArray := List.replicate 8 ⟨#[]⟩
theorem made_one (z : Value) (n : Nat) : (madeCells #[z] (n * 1)).toList = List.replicate n z := by
  unfold madeCells
  rw [Nat.mul_one]
  apply List.ext_getElem
  · simp
  · intro i h1 h2
    simp [Nat.mod_one]
theorem made_str (n : Nat) : (madeCells (Value.string ⟨#[]⟩).cells (n * 1)).toList = (List.replicate n (⟨#[]⟩ : ByteArray)).map Value.string := by
  have : (Value.string ⟨#[]⟩).cells = #[.string ⟨#[]⟩] := rfl
  rw [this, made_one]
  simp
theorem made8 : (madeCells (Value.string ⟨#[]⟩).cells (8 * 1)).toList = blank8.map Value.string := made_str 8

set_option maxHeartbeats 1000000 in
theorem places_any (w : World) : Calls Tryz.prog 124 #[] w fun e w' => ∃ v, e = .returned v ∧ w'.ownsRow w.heap.size 9 1 v 8 (blank8.map Value.string) ∧ Below w.heap.size w w' := by
  obtain ⟨i0, hi, hz0, hz1, hz2⟩ := info_parts Tryz.infoStr
  have hc : i0.bytes * 8 ≤ 281474976710656 := by rw [hz2]; decide
  have hm : 8 ≤ maxLen := by unfold maxLen; decide
  go_enter Tryz.func124, Tryz.ntmps124
  go_wp2_with (at_make; refine wpList_make_full _ rfl _ _ 22 rfl w.heap.size 9 i0 (.string ⟨#[]⟩) 1 Tryz.underlying22 hi hz0 hz1 .i64 .i64 _ _ 8 rfl rfl rfl rfl hc hm (Nat.le_refl _) ?_; intro w1 hown1 hgrow1)
  go_ret
  rw [made8] at hown1
  exact ⟨_, rfl, hown1, (Below.refl _ w).grown hgrow1 (Nat.le_refl _) (fun k hk => by cases hk)⟩

end Go.Proofs.YtjajnhemgphefaaGreatDoor

namespace Go.Proofs.YtjajnhemgphefaaGreatDoor
open Go.RowKit Go.Shelf
set_option linter.unusedVariables false
set_option linter.unusedSimpArgs false

/-- Some atoms in a row, from a place of it on: what can be read of them. -/
structure AtomsAt (W : World) (a : Option Addr) (ps : List (Am × Value)) : Prop where
  cells : ∀ (k : Nat) (hk : k < ps.length), ∃ g off, a = some ⟨g, off, none⟩ ∧ g < W.heap.size ∧ W.cell? ⟨g, off + k * 2, none⟩ = some (.string ps[k].1.rel) ∧ W.cell? ⟨g, off + k * 2 + 1, none⟩ = some ps[k].2
  each : ∀ p ∈ ps, AtomV W p

theorem AtomsAt.below {W W' : World} {a : Option Addr} {ps : List (Am × Value)} (h : AtomsAt W a ps) (hb : Below W.heap.size W W') : AtomsAt W' a ps :=
  ⟨fun k hk => by
    obtain ⟨g, off, e, hg, c0, c1⟩ := h.cells k hk
    exact ⟨g, off, e, Nat.lt_of_lt_of_le hg hb.size, (Below.cell hb hg).trans c0, (Below.cell hb hg).trans c1⟩, fun p hp => (h.each p hp).kept (Kp.ofBelow (S := 0) hb)⟩

theorem AtomsIn.at {W : World} {a : Option Addr} {c : Nat} {ps : List (Am × Value)} (h : AtomsIn W (.slice a ps.length c) ps) : AtomsAt W a ps :=
  ⟨fun k hk => by
    obtain ⟨g, cap, e, hg, c0, c1, _⟩ := h.cell k hk
    cases e
    exact ⟨g, 0, rfl, hg, by rw [Nat.zero_add]; exact c0, by rw [Nat.zero_add]; exact c1⟩, h.each⟩

/-- The atoms behind the first i. -/
theorem AtomsAt.drop {W : World} {g off : Nat} {ps : List (Am × Value)} (h : AtomsAt W (some ⟨g, off, none⟩) ps) (i : Nat) : AtomsAt W (some ⟨g, off + i * 2, none⟩) (ps.drop i) :=
  ⟨fun k hk => by
    rw [List.length_drop] at hk
    obtain ⟨g', off', e, hg, c0, c1⟩ := h.cells (i + k) (by omega)
    cases e
    refine ⟨g, off + i * 2, rfl, hg, ?_, ?_⟩
    · rw [List.getElem_drop]
      have e : off + i * 2 + k * 2 = off + (i + k) * 2 := by omega
      rw [e]; exact c0
    · rw [List.getElem_drop]
      have e : off + i * 2 + k * 2 + 1 = off + (i + k) * 2 + 1 := by omega
      rw [e]; exact c1, fun p hp => h.each p (List.mem_of_mem_drop hp)⟩

set_option maxRecDepth 100000 in
set_option maxHeartbeats 8000000 in
theorem hasV_any (a : Option Addr) (c : Nat) (ps : List (Am × Value)) (n : Nat) (w : World) (hp : AtomsAt w a ps) (hl : ps.length ≤ 1000) (hn : n ≤ 1000000) (hm : ∀ p ∈ ps, p.1.args.length ≤ 1000000 ∧ ∀ t ∈ p.1.args, t.num ≤ 1000000) :
    Calls Tryz.prog 246 #[.slice a ps.length c, .int .i64 n] w fun e w' => e = .returned (.bool (boundR (ps.map (·.1)) n)) ∧ w' = w := by
  have HP : Hid (AtomsAt w a ps) := hp
  clear hp
  go_enter Tryz.func246, Tryz.ntmps246
  go_wp2
  go_loopw [5] (fun p wr => ∃ i : Nat, p = .int .i64 i ∧ i ≤ ps.length ∧ wr = w ∧ Hid (boundR ((ps.drop i).map (·.1)) n = boundR (ps.map (·.1)) n)) (fun p _ => ps.length - (intOf p).toNat)
  case atStart => exact ⟨0, rfl, Nat.zero_le _, rfl, rfl⟩
  case round =>
    obtain ⟨i, rfl, hle, hww, hsp⟩ := hrel
    obtain rfl : w = wr := hww.symm
    by_cases hlt : i < ps.length
    · obtain ⟨g, off, rfl, hg, c0, c1⟩ := HP.out.cells i hlt
      have hAV := HP.out.each ps[i] (List.getElem_mem hlt)
      obtain ⟨x1, x2, hx⟩ := own_form hAV
      rw [List.drop_eq_getElem_cons hlt] at hsp
      have hmi := hm ps[i] (List.getElem_mem hlt)
      rw [hx] at c1
      generalize ps[i] = p at *
      simp only [List.map_cons, boundR, List.any_cons] at hsp
      have hcl : Hid (∀ (j : Nat) (hj : j < p.1.args.length), ∃ g2, x1 = some ⟨g2, 0, none⟩ ∧ w.cell? ⟨g2, j * 2, none⟩ = some (.string p.1.args[j].name) ∧ w.cell? ⟨g2, j * 2 + 1, none⟩ = some (.int .i64 p.1.args[j].num)) := by
        intro j hj
        obtain ⟨g2, cap2, e2, _, d0, d1⟩ := hAV.cell j hj
        rw [hx] at e2; cases e2
        exact ⟨g2, rfl, d0, d1⟩
      have HSP : Hid ((p.1.args.any (tmIs n) || boundR ((ps.drop (i + 1)).map (·.1)) n) = boundR (ps.map (·.1)) n) := hsp
      obtain ⟨hm1, hm2⟩ := hmi
      clear hsp hAV hx c0
      generalize p.1.args = args at *
      go_wp2
      go_loopw [6] (fun p wr => ∃ k : Nat, p = .int .i64 k ∧ k ≤ args.length ∧ wr = w ∧ Hid (((args.drop k).any (tmIs n) || boundR ((ps.drop (i + 1)).map (·.1)) n) = boundR (ps.map (·.1)) n)) (fun p _ => args.length - (intOf p).toNat)
      case atStart => exact ⟨0, rfl, Nat.zero_le _, rfl, HSP⟩
      case round =>
        obtain ⟨k, rfl, hkle, hww, hsk⟩ := hrel
        obtain rfl : w = wr := hww.symm
        by_cases hkl : k < args.length
        · obtain ⟨g2, rfl, d0, d1⟩ := hcl.out k hkl
          have hm3 := hm2 args[k] (List.getElem_mem hkl)
          rw [List.drop_eq_getElem_cons hkl] at hsk
          generalize args[k] = tm at *
          obtain ⟨nm, nu⟩ := tm
          simp only [List.any_cons] at hsk d0 d1 hm3
          by_cases h1 : nm.toList.isEmpty = true
          · by_cases h2 : nu = n
            · subst h2
              have hT : tmIs nu ⟨nm, nu⟩ = true := by unfold tmIs; simp [h1]
              rw [hT] at hsk
              go_wp2
              go_ret
              rw [← hsk.out]
              exact ⟨by simp, rfl⟩
            · have hT : tmIs n ⟨nm, nu⟩ = false := by unfold tmIs; simp [h2]
              rw [hT] at hsk
              have m2 : ((nu : Int) == (n : Int)) = false := by simp; omega
              go_wp2
              go_roundw
              case rel => exact ⟨k + 1, by go_num, by omega, by trivial, by simpa using hsk⟩
              case measure => simp [intOf]; omega
          · have h1' : nm.toList.isEmpty = false := by simpa using h1
            have hT : tmIs n ⟨nm, nu⟩ = false := by unfold tmIs; simp [h1']
            rw [hT] at hsk
            clear h1
            go_wp2
            go_roundw
            case rel => exact ⟨k + 1, by go_num, by omega, by trivial, by simpa using hsk⟩
            case measure => simp [intOf]; omega
        · rw [List.drop_eq_nil_of_le (by omega)] at hsk
          simp only [List.any_nil, Bool.false_or] at hsk
          go_wp2
          go_roundw
          case rel => exact ⟨i + 1, by go_num, by omega, by trivial, hsk⟩
          case measure => simp [intOf]; omega
    · rw [List.drop_eq_nil_of_le (by omega)] at hsp
      go_wp2
      go_ret
      rw [← hsp.out]
      exact ⟨rfl, rfl⟩

end Go.Proofs.YtjajnhemgphefaaGreatDoor

namespace Go.Proofs.YtjajnhemgphefaaGreatDoor
open Go.RowKit Go.Shelf
set_option linter.unusedVariables false
set_option linter.unusedSimpArgs false

def lessS (x y : ByteArray) : Bool := Op.bytesLess x.toList y.toList
def insS (x : ByteArray) : List ByteArray → List ByteArray
  | [] => [x]
  | y :: l => if lessS x y = true then x :: y :: l else y :: insS x l
def sortS (out l : List ByteArray) : List ByteArray := l.foldl (fun o x => insS x o) out

structure StSt (N S : Nat) (w X : World) (vo : Value) (out : List ByteArray) (vm : Value) (m : List ByteArray) : Prop where
  ns : N ≤ S
  size : S ≤ X.heap.size
  below : Below N w X
  oown : X.ownsRow N 9 1 vo out.length (out.map Value.string)
  oS : ∀ g, vo.ownBlock = some g → g < S
  mown : X.ownsRow S 9 1 vm m.length (m.map Value.string)

theorem StSt.app {N S : Nat} {w X Y : World} {vo vm vm' : Value} {out m : List ByteArray} {x : ByteArray} {o : Obj} (h : StSt N S w X vo out vm m) (hg : (X.alloc o).grownBy Y vm.ownBlock) (ho : Y.ownsRow S 9 1 vm' (m.length + 1) (m.map Value.string ++ [.string x])) : StSt N S w Y vo out vm' (m ++ [x]) := by
  have h1 := h.ns
  have h2 := h.size
  have hsz := hg.size
  simp at hsz
  have hlo : ∀ k, vm.ownBlock = some k → S ≤ k := fun k e => (own_str h.mown k e).1
  refine ⟨h.ns, by omega, (h.below.alloc (by omega) o).grown hg (by simp; omega) (fun k e => by have := hlo k e; omega), ?_, h.oS, by simpa using ho⟩
  refine own_keep h.oown (fun g hg' hlt => ?_)
  exact (hg.block g (by simp; omega) (fun e => by have := hlo g e.symm; have := h.oS g hg'; omega)).trans (Below.heap_alloc _ _ _ hlt)
theorem StSt.drewN {N S : Nat} {w X : World} {vo vm : Value} {out m : List ByteArray} (h : StSt N S w X vo out vm m) (q : Nat) : StSt N S w (X.drewN q) vo out vm m := ⟨h.ns, h.size, below_drewN h.below, h.oown, h.oS, h.mown⟩
end Go.Proofs.YtjajnhemgphefaaGreatDoor

namespace Go.Proofs.YtjajnhemgphefaaGreatDoor
open Go.RowKit Go.Shelf
set_option linter.unusedVariables false
set_option linter.unusedSimpArgs false

end Go.Proofs.YtjajnhemgphefaaGreatDoor

namespace Go.Proofs.YtjajnhemgphefaaGreatDoor
open Go.RowKit Go.Shelf
set_option linter.unusedVariables false
set_option linter.unusedSimpArgs false

def emptyB (x : ByteArray) : Bool := x.toList.isEmpty
def eqB (x y : ByteArray) : Bool := x.toList == y.toList
def fitL : List Tm → List ByteArray → List ByteArray → Option (List ByteArray)
  | [], _, b => some b
  | t :: ts, [], b => none
  | t :: ts, x :: xs, b =>
    if emptyB t.name = false then (if eqB t.name x = true then fitL ts xs b else none)
    else if emptyB (b.getD t.num ⟨#[]⟩) = true then fitL ts xs (b.set t.num x)
    else if eqB (b.getD t.num ⟨#[]⟩) x = true then fitL ts xs b else none
def fitG (a : Am) (g : Gr) (b : List ByteArray) : Option (List ByteArray) := if eqB a.rel g.rel = true ∧ a.args.length = g.args.length then fitL a.args g.args b else none

/-- What is known stays known. -/
def ExtD (b o : List ByteArray) : Prop := o.length = b.length ∧ ∀ n, emptyB (b.getD n ⟨#[]⟩) = false → o.getD n ⟨#[]⟩ = b.getD n ⟨#[]⟩

theorem ExtD.set {b o : List ByteArray} (h : ExtD b o) (n : Nat) (x : ByteArray) (hn : emptyB (o.getD n ⟨#[]⟩) = true) : ExtD b (o.set n x) := by
  refine ⟨by rw [List.length_set]; exact h.1, fun m hm => ?_⟩
  have h1 := h.2 m hm
  by_cases e : m = n
  · subst e; rw [h1] at hn; rw [hn] at hm; cases hm
  · rw [← h1]
    simp only [List.getD_eq_getElem?_getD, List.getElem?_set]
    rw [if_neg (fun h => e h.symm)]

/-- A clash that can be seen ahead is one. -/
theorem clash (b : List ByteArray) : ∀ (ts : List Tm) (xs o : List ByteArray) (i : Nat) (h1 : i < ts.length) (h2 : i < xs.length), ExtD b o → emptyB (nmOf b ts[i]) = false → eqB (nmOf b ts[i]) xs[i] = false → fitL ts xs o = none
  | t :: ts, x :: xs, o, 0, h1, h2, hE, he, hq => by
    simp only [List.getElem_cons_zero] at he hq
    unfold fitL
    unfold nmOf at he hq
    by_cases hn : t.name.toList.isEmpty = true
    · rw [if_pos hn] at he hq
      have hn' : emptyB t.name = true := hn
      rw [if_neg (by rw [hn']; simp), hE.2 _ he, if_neg (by rw [he]; simp), if_neg (by rw [hq]; simp)]
    · have hn' : emptyB t.name = false := by unfold emptyB; simpa using hn
      rw [if_neg hn] at hq
      rw [if_pos hn', if_neg (by rw [hq]; simp)]
  | t :: ts, x :: xs, o, i + 1, h1, h2, hE, he, hq => by
    simp only [List.getElem_cons_succ] at he hq
    have ih := fun o' hE' => clash b ts xs o' i (by simpa using h1) (by simpa using h2) hE' he hq
    unfold fitL
    split
    · split
      · exact ih o hE
      · rfl
    · split
      · rename_i hem; exact ih _ (hE.set _ _ hem)
      · split
        · exact ih o hE
        · rfl

/-- Two boxes and a row of texts. -/
structure FtSt (N : Nat) (w X : World) (r1 : ByteArray) (v1 : Value) (r2 : ByteArray) (v2 : Value) (out : List ByteArray) : Prop where
  below : Below N w X
  b1 : X.heap[N]? = some (Obj.cells #[.string r1, v1] 145 (0, 0))
  b2 : X.heap[N + 1]? = some (Obj.cells #[.string r2, v2] 226 (0, 0))
  row : X.heap[N + 2]? = some (Obj.cells (out.map Value.string).toArray 9 (0, 0))

theorem FtSt.alloc {N : Nat} {w X : World} {r1 r2 : ByteArray} {v1 v2 : Value} {out : List ByteArray} (h : FtSt N w X r1 v1 r2 v2 out) (o : Obj) : FtSt N w (X.alloc o) r1 v1 r2 v2 out := by
  have hs : N + 3 ≤ X.heap.size := (Array.getElem?_eq_some_iff.1 h.row).1
  exact ⟨h.below.alloc (by omega) o, (Below.heap_alloc _ _ _ (by omega)).trans h.b1, (Below.heap_alloc _ _ _ (by omega)).trans h.b2, (Below.heap_alloc _ _ _ (by omega)).trans h.row⟩
theorem FtSt.drew {N : Nat} {w X : World} {r1 r2 : ByteArray} {v1 v2 : Value} {out : List ByteArray} (h : FtSt N w X r1 v1 r2 v2 out) : FtSt N w X.drew r1 v1 r2 v2 out := ⟨h.below.drew, h.b1, h.b2, h.row⟩
theorem FtSt.drewN {N : Nat} {w X : World} {r1 r2 : ByteArray} {v1 v2 : Value} {out : List ByteArray} (h : FtSt N w X r1 v1 r2 v2 out) (q : Nat) : FtSt N w (X.drewN q) r1 v1 r2 v2 out := ⟨below_drewN h.below, h.b1, h.b2, h.row⟩
theorem FtSt.like {N : Nat} {w X Y : World} {r1 r2 : ByteArray} {v1 v2 : Value} {out : List ByteArray} (h : FtSt N w X r1 v1 r2 v2 out) (hh : Y.heap = X.heap) (h1 : Y.os = X.os) (h2 : Y.tape = X.tape) (h3 : Y.output = X.output) : FtSt N w Y r1 v1 r2 v2 out :=
  ⟨⟨h1.trans h.below.os, h2.trans h.below.tape, h3.trans h.below.output, by rw [hh]; exact h.below.size, fun k hk => by rw [hh]; exact h.below.block k hk⟩, by rw [hh]; exact h.b1, by rw [hh]; exact h.b2, by rw [hh]; exact h.row⟩
theorem FtSt.set {N : Nat} {w X : World} {r1 r2 : ByteArray} {v1 v2 : Value} {out : List ByteArray} (h : FtSt N w X r1 v1 r2 v2 out) (k : Nat) (x : ByteArray) : FtSt N w (X.setCell ⟨N + 2, k, none⟩ (.string x)) r1 v1 r2 v2 (out.set k x) := by
  refine ⟨h.below.setCell (by simp) _, (Below.heap_setCell _ _ _ _ (by simp)).trans h.b1, (Below.heap_setCell _ _ _ _ (by simp)).trans h.b2, ?_⟩
  rw [heap_set1 h.row k (.string x)]
  congr 2
  rw [← Array.toList_inj]
  simp [List.map_set]
theorem FtSt.cell {N : Nat} {w X : World} {r1 r2 : ByteArray} {v1 v2 : Value} {out : List ByteArray} (h : FtSt N w X r1 v1 r2 v2 out) (k : Nat) (hk : k < out.length) : X.cell? ⟨N + 2, k, none⟩ = some (.string (out.getD k ⟨#[]⟩)) := by
  simp [World.cell?, h.row, List.getElem?_eq_getElem hk]
theorem FtSt.own {N : Nat} {w X : World} {r1 r2 : ByteArray} {v1 v2 : Value} {out : List ByteArray} (h : FtSt N w X r1 v1 r2 v2 out) (hl : out.length ≤ 1000) : X.ownsRow N 9 1 (.slice (some ⟨N + 2, 0, none⟩) out.length out.length) out.length (out.map Value.string) :=
  ⟨by simp, .inr ⟨N + 2, out.length, (out.map Value.string).toArray, rfl, by omega, h.row, Nat.le_refl _, by unfold maxLen; omega, by simp, by rw [Nat.mul_one]; exact List.take_of_length_le (by simp)⟩⟩

end Go.Proofs.YtjajnhemgphefaaGreatDoor
