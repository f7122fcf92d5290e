/-
  The parser takes a token: the whole of it.
-/
import Derived.Test.YtjajnhemgphefaaDoorJTake
namespace Go.Proofs.YtjajnhemgphefaaDoor
open Go.RowKit Go.Shelf
set_option linter.unusedVariables false
set_option linter.unusedSimpArgs false

theorem PAt.cell0 {base bS : Nat} {W : World} {bp : Nat} {s : PSt} (h : PAt base bS W bp s) : W.cell? ⟨bp, 0, none⟩ = some (.int .i64 s.st) ∧ bp < W.heap.size := by
  obtain ⟨vr, va, vv, b45, b87, h1, h2, h4, h5, h6, hS1, hS2, hh, hV, hR⟩ := h
  exact ⟨by simp [World.cell?, hh], (Array.getElem?_eq_some_iff.1 hh).1⟩

theorem exceeds_S (base bS bp : Nat) (s : PSt) (k : Int) (t : ByteArray) (p r : Int) (W : World) (hP : PAt base bS W bp s) (hna : s.atoms.length ≤ 100) (h3 : s.st = 3 → s.atoms ≠ []) :
    Calls Tryd.prog 42 #[.pointer (some ⟨bp, 0, none⟩), tokV k t p r] W fun e W' => e = .returned (.bool (exceedsB s.st r s.rules.length s.atoms.length (lastLen s.atoms))) ∧ Below W.heap.size W W' := by
  obtain ⟨vr, va, vv, b45, b87, h1, h2, h4, h5, h6, hS1, hS2, hh, hV, ⟨qs, r1, r2, r3⟩, ps, e1, e2, e3, e4⟩ := hP
  have hlen : ps.length = s.atoms.length := by rw [← e1]; simp
  have hqlen : qs.length = s.rules.length := by rw [← r1]; simp
  obtain ⟨aa, ca, rfl⟩ := owns_form e2
  obtain ⟨ar, cr, rfl⟩ := owns_form r2
  have hb : ∀ q O, Below W.heap.size W ((W.alloc O).drewN q) := by
    intro q O
    exact ⟨rfl, rfl, rfl, by show _ ≤ (W.alloc O).heap.size; simp, fun j hj => Below.heap_alloc _ _ j hj⟩
  rw [← hlen, ← hqlen]
  by_cases hps : ps = []
  · have hat : s.atoms = [] := by rw [← e1, hps]; rfl
    have hn3 : s.st ≠ 3 := fun e => h3 e hat
    have hll : lastLen s.atoms = 0 := by rw [hat]; rfl
    rw [hll]
    refine (exceeds_any bp s.st ar _ cr aa _ ca vv none 0 0 k t p r (by omega) W hh (fun e => absurd e hn3)).mono ?_
    rintro e W' ⟨rfl, q, rfl⟩
    exact ⟨rfl, hb q _⟩
  · obtain ⟨ps0, ⟨la, lv⟩, rfl⟩ : ∃ ps0 l, ps = ps0 ++ [l] := ⟨ps.dropLast, ps.getLast hps, (List.dropLast_concat_getLast hps).symm⟩
    have hl := e4 (la, lv) (by simp)
    simp only at hl
    obtain ⟨at', cm, rfl⟩ := owns_form hl
    have hll : lastLen s.atoms = la.args.length := by unfold lastLen; rw [← e1]; simp
    rw [hll]
    have e2' : W.ownsRow b45 45 2 (.slice aa (ps0 ++ [(la, Value.slice at' la.args.length cm)]).length ca) (ps0 ++ [(la, Value.slice at' la.args.length cm)]).length (ps0.flatMap atomC ++ [.string la.rel, .slice at' la.args.length cm]) := by simpa [atomC] using e2
    obtain ⟨g, c, cur, hv, hg, hbg, hlt, hy, htk, hyl⟩ := row_last e2' (by simp)
    have hpl : (ps0 ++ [(la, Value.slice at' la.args.length cm)]).length = ps0.length + 1 := by simp
    refine (exceeds_any bp s.st ar _ cr aa _ ca vv at' la.args.length cm k t p r (by omega) W hh (fun e => ⟨by omega, g, ?_, ?_, (Array.getElem?_eq_some_iff.1 hg).1⟩)).mono ?_
    · cases hv; rfl
    · simp only [World.cell?, hg]; simpa using hy
    · rintro e W' ⟨rfl, q, rfl⟩
      exact ⟨rfl, hb q _⟩

set_option maxHeartbeats 1000000 in
theorem take_S (base bS bp : Nat) (s : PSt) (k : Int) (t : ByteArray) (ht : t.size ≤ 1200) (p r : Int) (W : World) (hP : PAt base bS W bp s) (hI : PInv s) :
    Calls Tryd.prog 24 #[.pointer (some ⟨bp, 0, none⟩), tokV k t p r] W fun e W' => e = .returned (.int .i64 (takeS s k t r).1) ∧ PAt base bS W' bp (takeS s k t r).2 ∧ PFr base bS W W' := by
  have hna : s.atoms.length ≤ 100 := by have := hI.atoms; omega
  have hnr : s.rules.length ≤ 100 := by have := hI.rules; omega
  have h3 : s.st = 3 → s.atoms ≠ [] := fun e => hI.some (by omega)
  have hm : ∀ a ∈ s.atoms, a.args.length ≤ 100 := fun a ha => by have := (hI.ams a ha).args; omega
  have hnv : s.vars.length ≤ 100 := by have := hI.few; omega
  have hbl : ∀ O, Below W.heap.size W (W.alloc O) := fun O => (Below.refl W.heap.size W).alloc (Nat.le_refl _) O
  have hfits : Hid (∀ O, Calls Tryd.prog 41 #[.pointer (some ⟨bp, 0, none⟩), .int .i64 k] (W.alloc O) fun e w' => e = .returned (.bool (fitsB s.st k)) ∧ w' = W.alloc O) := fun O =>
    fits_any bp s.st k _ (hP.below (hbl O)).cell0.1
  have hexc : Hid (∀ O, Calls Tryd.prog 42 #[.pointer (some ⟨bp, 0, none⟩), tokV k t p r] (W.alloc O) fun e W' => e = .returned (.bool (exceedsB s.st r s.rules.length s.atoms.length (lastLen s.atoms))) ∧ Below (W.alloc O).heap.size (W.alloc O) W') := fun O =>
    exceeds_S base bS bp s k t p r _ (hP.below (hbl O)) hna h3
  have hadd : Hid (fitsB s.st k = true → ∀ O W1, Below (W.alloc O).heap.size (W.alloc O) W1 → Calls Tryd.prog 43 #[.pointer (some ⟨bp, 0, none⟩), tokV k t p r] W1 fun e W' => e = .returned (.tuple #[]) ∧ PAt base bS W' bp (addS s k t) ∧ PFr base bS W W') := fun hf O W1 hb =>
    (add_S base bS bp s k t ht p r W1 ((hP.below (hbl O)).below hb) hnv hna hnr h3 hm (fun hk => hI.some (fun h0 => by rw [h0, hk] at hf; simp [fitsB] at hf))).mono
      (fun e W' ⟨a, b, c⟩ => ⟨a, b, ((PFr.ofBelow (hbl O) hP.base_le).trans (PFr.ofBelow hb (hP.below (hbl O)).base_le)).trans c⟩)
  have hkeep : Hid (∀ O W1, Below (W.alloc O).heap.size (W.alloc O) W1 → PAt base bS W1 bp s ∧ PFr base bS W W1) := fun O W1 hb =>
    ⟨(hP.below (hbl O)).below hb, (PFr.ofBelow (hbl O) hP.base_le).trans (PFr.ofBelow hb (hP.below (hbl O)).base_le)⟩
  have hsz : Hid (∀ O W1, Below (W.alloc O).heap.size (W.alloc O) W1 → ∀ x, (W.alloc O).cell? ⟨W.heap.size, x, none⟩ = W1.cell? ⟨W.heap.size, x, none⟩) := fun O W1 hb x => (hb.cell (p := ⟨W.heap.size, x, none⟩) (by simp)).symm
  clear hP hI h3 hm hbl
  have hts : Hid (takeS s k t r = if fitsB s.st k = false then (2, s) else if exceedsB s.st r s.rules.length s.atoms.length (lastLen s.atoms) = true then (3, s) else (0, addS s k t)) := rfl
  generalize hEX : exceedsB s.st r s.rules.length s.atoms.length (lastLen s.atoms) = ex at *
  have HEX : Hid (exceedsB s.st r s.rules.length s.atoms.length (lastLen s.atoms) = ex) := hEX
  clear hEX
  by_cases hf : fitsB s.st k = false
  · rw [hts.out, if_pos hf]
    unfold tokV tokC at hexc hadd ⊢
    go_enter Tryd.func24, Tryd.ntmps24
    go_wp2_with (go_at_call 41; refine (hfits.out _).mono ?_; rintro e w' ⟨rfl, rfl⟩)
    go_ret
    exact ⟨rfl, hkeep.out _ _ (Below.refl _ _)⟩
  · have hf' : fitsB s.st k = true := by simpa using hf
    clear hf
    cases ex with
    | true =>
      have hts' : Hid (takeS s k t r = (3, s)) := by rw [hts.out, hf']; rfl
      rw [hts'.out]
      unfold tokV tokC at hexc hadd ⊢
      go_enter Tryd.func24, Tryd.ntmps24
      go_wp2_with (first | (go_at_call 41; refine (hfits.out _).mono ?_; rintro e w' ⟨rfl, rfl⟩) | (go_at_call 42; refine (hexc.out _).mono ?_; rintro e W1 ⟨rfl, hb1⟩))
      go_ret
      exact ⟨rfl, hkeep.out _ _ hb1⟩
    | false =>
      have hts' : Hid (takeS s k t r = (0, addS s k t)) := by rw [hts.out, hf']; rfl
      rw [hts'.out]
      unfold tokV tokC at hexc hadd ⊢
      have ha := hadd.out hf' (.cells #[.int .i64 k, .string t, .int .i64 p, .int .i64 r] 71)
      have hs2 := hsz.out (.cells #[.int .i64 k, .string t, .int .i64 p, .int .i64 r] 71)
      have HA : Hid (∀ W1, Below (W.alloc (.cells #[.int .i64 k, .string t, .int .i64 p, .int .i64 r] 71)).heap.size (W.alloc (.cells #[.int .i64 k, .string t, .int .i64 p, .int .i64 r] 71)) W1 → _) := ha
      have HS : Hid (∀ W1, Below (W.alloc (.cells #[.int .i64 k, .string t, .int .i64 p, .int .i64 r] 71)).heap.size (W.alloc (.cells #[.int .i64 k, .string t, .int .i64 p, .int .i64 r] 71)) W1 → _) := hs2
      clear ha hs2
      go_enter Tryd.func24, Tryd.ntmps24
      go_wp2_with (first | (go_at_call 41; refine (hfits.out _).mono ?_; rintro e w' ⟨rfl, rfl⟩))
      refine (hexc.out _).mono ?_
      rintro e W1 ⟨rfl, hb1⟩
      have hcs := HS.out W1 hb1
      have q0 := (hcs 0).symm
      have q1 := (hcs 1).symm
      have q2 := (hcs 2).symm
      have q3 := (hcs 3).symm
      simp at q0 q1 q2 q3
      clear hcs
      go_wp2_with fail
      refine (HA.out W1 hb1).mono ?_
      rintro e W2 ⟨rfl, hres⟩
      go_wp2
      go_ret
      exact ⟨rfl, hres⟩

end Go.Proofs.YtjajnhemgphefaaDoor
