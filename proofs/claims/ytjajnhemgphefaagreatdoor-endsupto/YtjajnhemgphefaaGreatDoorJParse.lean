/-
  The parser takes a token: what it answers, and the state behind it.
  The parser takes a token: the whole of it.
  rules.parse: the text is read token by token.
-/
import Derived.Test.YtjajnhemgphefaaGreatDoorJState3
namespace Go.Proofs.YtjajnhemgphefaaGreatDoor
open Go.RowKit Go.Shelf
set_option linter.unusedVariables false
set_option linter.unusedSimpArgs false

theorem PAt.below {base bS : Nat} {W W' : World} {bp : Nat} {s : PSt} (h : PAt base bS W bp s) (hb : Below W.heap.size W W') : PAt base bS W' bp s := by
  obtain ⟨vr, va, vv, b45, b87, h1, h2, h3, h4, h5, h6, h7, hh, hV, hR, ps, e1, e2, e3, e4⟩ := h
  have hk : ∀ (k : Nat) (c : Array Value) (t : TypeId), W.heap[k]? = some (Obj.cells c t (0, 0)) → W'.heap[k]? = some (Obj.cells c t (0, 0)) := fun k c t hc => (hb.block k (Array.getElem?_eq_some_iff.1 hc).1).trans hc
  exact ⟨vr, va, vv, b45, b87, h1, h2, Nat.le_trans h3 hb.size, Nat.le_trans h4 hb.size, h5, h6, Nat.le_trans h7 hb.size, hk _ _ _ hh, owns_kept hV (fun g c _ hc => hk g c _ hc), hR.kept (fun g c _ hc => hk g c _ hc) (fun k c _ hc => hk k c _ hc) (fun k c _ hc => hk k c _ hc),
    ps, e1, owns_kept e2 (fun g c _ hc => hk g c _ hc), fun p hp => (e3 p hp).kept (fun k c _ hc => hk k c _ hc), fun p hp => owns_kept (e4 p hp) (fun g c _ hc => hk g c _ hc)⟩

theorem PAt.base_le {base bS : Nat} {W : World} {bp : Nat} {s : PSt} (h : PAt base bS W bp s) : base ≤ W.heap.size := by
  obtain ⟨vr, va, vv, b45, b87, h1, h2, h3, _⟩ := h; omega

theorem endAtom_S (base bS bp : Nat) (s : PSt) (W : World) (hP : PAt base bS W bp s) :
    Calls Tryz.prog 234 #[.pointer (some ⟨bp, 0, none⟩)] W fun e W' => e = .returned (.tuple #[]) ∧ PAt base bS W' bp (endAtomS s) ∧ PFr base bS W W' := by
  have hs := fun x => hP.state x
  obtain ⟨vr, va, vv, b45, b87, h1, h2, h4, h5, h6, hS1, hS2, hh, hV, hR, ps, e1, e2, e3, e4⟩ := hP
  have hlen : ps.length = s.atoms.length := by rw [← e1]; simp
  obtain ⟨a, c, rfl⟩ := owns_form e2
  refine (endAtom_any bp s.st vr vv a _ c W hh).mono ?_
  rintro e W' ⟨rfl, rfl⟩
  rw [hlen]
  exact ⟨rfl, hs _⟩

theorem addComma_S (base bS bp : Nat) (s : PSt) (W : World) (hP : PAt base bS W bp s) :
    Calls Tryz.prog 235 #[.pointer (some ⟨bp, 0, none⟩)] W fun e W' => e = .returned (.tuple #[]) ∧ PAt base bS W' bp { s with st := if s.st = 4 then 3 else 1 } ∧ PFr base bS W W' := by
  have hs := fun x => hP.state x
  obtain ⟨vr, va, vv, b45, b87, h1, h2, h4, h5, h6, hS1, hS2, hh, hV, hR⟩ := hP
  refine (addComma_any bp s.st vr va vv W hh).mono ?_
  rintro e W' ⟨rfl, rfl⟩
  exact ⟨rfl, hs _⟩

set_option maxHeartbeats 1000000 in
theorem add_S (base bS bp : Nat) (s : PSt) (k : Int) (t : ByteArray) (ht : t.size ≤ 1200) (p r : Int) (W : World) (hP : PAt base bS W bp s) (hnv : s.vars.length ≤ 100) (hna : s.atoms.length ≤ 100) (hnr : s.rules.length ≤ 100) (h3 : s.st = 3 → s.atoms ≠ []) (hm : ∀ a ∈ s.atoms, a.args.length ≤ 100) (h6 : k = 6 → s.atoms ≠ []) :
    Calls Tryz.prog 197 #[.pointer (some ⟨bp, 0, none⟩), tokV k t p r] W fun e W' => e = .returned (.tuple #[]) ∧ PAt base bS W' bp (addS s k t) ∧ PFr base bS W W' := by
  have hbl : ∀ O, Below W.heap.size W (W.alloc O) := fun O => (Below.refl W.heap.size W).alloc (Nat.le_refl _) O
  have hPO : Hid (∀ O, PAt base bS (W.alloc O) bp s ∧ PFr base bS W (W.alloc O)) := fun O => ⟨hP.below (hbl O), PFr.ofBelow (hbl O) hP.base_le⟩
  have hbpc : ∃ x, W.cell? ⟨bp, 0, none⟩ = some (.int .i64 x) ∧ W.frozen? ⟨bp, 0, none⟩ = false ∧ bp < W.heap.size := by
    obtain ⟨vr, va, vv, b45, b87, h1, h2, h4, h5, h6, hS1, hS2, hh, hV, hR⟩ := hP
    exact ⟨s.st, by simp [World.cell?, hh], by simp [World.frozen?, hh], (Array.getElem?_eq_some_iff.1 hh).1⟩
  obtain ⟨x0, hc0, hf0, hbp⟩ := hbpc
  have hword : Hid (k = 1 ∨ k = 2 → ∀ O, Calls Tryz.prog 233 #[.pointer (some ⟨bp, 0, none⟩), tokV k t p r] (W.alloc O) fun e W' => e = .returned (.tuple #[]) ∧ PAt base bS W' bp (addWordS s k t) ∧ PFr base bS W W') := fun hk12 O =>
    (addWord_S base bS bp s k t ht p r _ (hPO.out O).1 hk12 hnv hna h3 hm).mono (fun e W' ⟨a, b, c⟩ => ⟨a, b, (hPO.out O).2.trans c⟩)
  have hend : Hid (∀ O, Calls Tryz.prog 234 #[.pointer (some ⟨bp, 0, none⟩)] (W.alloc O) fun e W' => e = .returned (.tuple #[]) ∧ PAt base bS W' bp (endAtomS s) ∧ PFr base bS W W') := fun O =>
    (endAtom_S base bS bp s _ (hPO.out O).1).mono (fun e W' ⟨a, b, c⟩ => ⟨a, b, (hPO.out O).2.trans c⟩)
  have hcom : Hid (∀ O, Calls Tryz.prog 235 #[.pointer (some ⟨bp, 0, none⟩)] (W.alloc O) fun e W' => e = .returned (.tuple #[]) ∧ PAt base bS W' bp { s with st := if s.st = 4 then 3 else 1 } ∧ PFr base bS W W') := fun O =>
    (addComma_S base bS bp s _ (hPO.out O).1).mono (fun e W' ⟨a, b, c⟩ => ⟨a, b, (hPO.out O).2.trans c⟩)
  have hrul : Hid (k = 6 → ∀ O, Calls Tryz.prog 236 #[.pointer (some ⟨bp, 0, none⟩)] (W.alloc O) fun e W' => e = .returned (.tuple #[]) ∧ PAt base bS W' bp (endRuleS s) ∧ PFr base bS W W') := fun hk O =>
    (endRule_S base bS bp s _ (hPO.out O).1 hna (h6 hk) hnr).mono (fun e W' ⟨a, b, c⟩ => ⟨a, b, (hPO.out O).2.trans c⟩)
  have hst : Hid (∀ O x, PAt base bS ((W.alloc O).setCell ⟨bp, 0, none⟩ (.int .i64 x)) bp { s with st := x } ∧ PFr base bS W ((W.alloc O).setCell ⟨bp, 0, none⟩ (.int .i64 x))) := fun O x =>
    ⟨((hPO.out O).1.state x).1, (hPO.out O).2.trans ((hPO.out O).1.state x).2⟩
  clear hP h3 h6 hm hbl
  unfold tokV tokC at hword ⊢
  by_cases k1 : k = 1 ∨ k = 2
  · have hfin : Hid (addS s k t = addWordS s k t) := by show _ = _; unfold addS; rw [if_pos k1]
    rcases k1 with rfl | rfl
    all_goals
      go_enter Tryz.func197, Tryz.ntmps197
      go_wp2_with fail
      refine (hword.out (by first | exact .inl rfl | exact .inr rfl | exact .inl trivial | exact .inr trivial | decide | simp) _).mono ?_
      rintro e W' ⟨rfl, hres⟩
      go_wp2
      go_end0
      rw [hfin.out]
      exact ⟨rfl, hres⟩
  by_cases k3 : k = 3
  · subst k3
    go_enter Tryz.func197, Tryz.ntmps197
    go_wp2
    go_end0
    refine ⟨rfl, ?_⟩
    have := hst.out (.cells #[.int .i64 3, .string t, .int .i64 p, .int .i64 r] 191) 3
    rw [World.setCell_alloc_past _ _ _ _ hbp] at this
    exact this
  by_cases k4 : k = 4
  · subst k4
    go_enter Tryz.func197, Tryz.ntmps197
    go_wp2_with fail
    refine (hend.out _).mono ?_
    rintro e W' ⟨rfl, hres⟩
    go_wp2
    go_end0
    exact ⟨rfl, hres⟩
  by_cases k5 : k = 5
  · subst k5
    go_enter Tryz.func197, Tryz.ntmps197
    go_wp2_with fail
    refine (hcom.out _).mono ?_
    rintro e W' ⟨rfl, hres⟩
    go_wp2
    go_end0
    exact ⟨rfl, hres⟩
  by_cases k7 : k = 7
  · subst k7
    go_enter Tryz.func197, Tryz.ntmps197
    go_wp2
    go_end0
    refine ⟨rfl, ?_⟩
    have := hst.out (.cells #[.int .i64 7, .string t, .int .i64 p, .int .i64 r] 191) 1
    rw [World.setCell_alloc_past _ _ _ _ hbp] at this
    exact this
  by_cases k6 : k = 6
  · subst k6
    go_enter Tryz.func197, Tryz.ntmps197
    go_wp2_with fail
    refine (hrul.out (by trivial) _).mono ?_
    rintro e W' ⟨rfl, hres⟩
    go_wp2
    go_end0
    exact ⟨rfl, hres⟩
  · have hfin : Hid (addS s k t = s) := by show _ = _; unfold addS; simp [k1, k3, k4, k5, k6, k7]
    have n1 : (k == 1) = false := by simp; omega
    have n2 : (k == 2) = false := by simp; omega
    have n3 : (k == 3) = false := by simp; omega
    have n4 : (k == 4) = false := by simp; omega
    have n5 : (k == 5) = false := by simp; omega
    have n6 : (k == 6) = false := by simp; omega
    have n7 : (k == 7) = false := by simp; omega
    clear k1 k3 k4 k5 k6 k7
    go_enter Tryz.func197, Tryz.ntmps197
    go_wp2
    go_end0
    rw [hfin.out]
    exact ⟨rfl, hPO.out _⟩

end Go.Proofs.YtjajnhemgphefaaGreatDoor

namespace Go.Proofs.YtjajnhemgphefaaGreatDoor
open Go.RowKit Go.Shelf
set_option linter.unusedVariables false
set_option linter.unusedSimpArgs false

theorem PAt.cell0 {base bS : Nat} {W : World} {bp : Nat} {s : PSt} (h : PAt base bS W bp s) : W.cell? ⟨bp, 0, none⟩ = some (.int .i64 s.st) ∧ bp < W.heap.size := by
  obtain ⟨vr, va, vv, b45, b87, h1, h2, h4, h5, h6, hS1, hS2, hh, hV, hR⟩ := h
  exact ⟨by simp [World.cell?, hh], (Array.getElem?_eq_some_iff.1 hh).1⟩

theorem exceeds_S (base bS bp : Nat) (s : PSt) (k : Int) (t : ByteArray) (p r : Int) (W : World) (hP : PAt base bS W bp s) (hna : s.atoms.length ≤ 100) (h3 : s.st = 3 → s.atoms ≠ []) :
    Calls Tryz.prog 196 #[.pointer (some ⟨bp, 0, none⟩), tokV k t p r] W fun e W' => e = .returned (.bool (exceedsB s.st r s.rules.length s.atoms.length (lastLen s.atoms))) ∧ Below W.heap.size W W' := by
  obtain ⟨vr, va, vv, b45, b87, h1, h2, h4, h5, h6, hS1, hS2, hh, hV, ⟨qs, r1, r2, r3⟩, ps, e1, e2, e3, e4⟩ := hP
  have hlen : ps.length = s.atoms.length := by rw [← e1]; simp
  have hqlen : qs.length = s.rules.length := by rw [← r1]; simp
  obtain ⟨aa, ca, rfl⟩ := owns_form e2
  obtain ⟨ar, cr, rfl⟩ := owns_form r2
  have hb : ∀ q O, Below W.heap.size W ((W.alloc O).drewN q) := by
    intro q O
    exact ⟨rfl, rfl, rfl, by show _ ≤ (W.alloc O).heap.size; simp, fun j hj => Below.heap_alloc _ _ j hj⟩
  rw [← hlen, ← hqlen]
  by_cases hps : ps = []
  · have hat : s.atoms = [] := by rw [← e1, hps]; rfl
    have hn3 : s.st ≠ 3 := fun e => h3 e hat
    have hll : lastLen s.atoms = 0 := by rw [hat]; rfl
    rw [hll]
    refine (exceeds_any bp s.st ar _ cr aa _ ca vv none 0 0 k t p r (by omega) W hh (fun e => absurd e hn3)).mono ?_
    rintro e W' ⟨rfl, q, rfl⟩
    exact ⟨rfl, hb q _⟩
  · obtain ⟨ps0, ⟨la, lv⟩, rfl⟩ : ∃ ps0 l, ps = ps0 ++ [l] := ⟨ps.dropLast, ps.getLast hps, (List.dropLast_concat_getLast hps).symm⟩
    have hl := e4 (la, lv) (by simp)
    simp only at hl
    obtain ⟨at', cm, rfl⟩ := owns_form hl
    have hll : lastLen s.atoms = la.args.length := by unfold lastLen; rw [← e1]; simp
    rw [hll]
    have e2' : W.ownsRow b45 92 2 (.slice aa (ps0 ++ [(la, Value.slice at' la.args.length cm)]).length ca) (ps0 ++ [(la, Value.slice at' la.args.length cm)]).length (ps0.flatMap atomC ++ [.string la.rel, .slice at' la.args.length cm]) := by simpa [atomC] using e2
    obtain ⟨g, c, cur, hv, hg, hbg, hlt, hy, htk, hyl⟩ := row_last e2' (by simp)
    have hpl : (ps0 ++ [(la, Value.slice at' la.args.length cm)]).length = ps0.length + 1 := by simp
    refine (exceeds_any bp s.st ar _ cr aa _ ca vv at' la.args.length cm k t p r (by omega) W hh (fun e => ⟨by omega, g, ?_, ?_, (Array.getElem?_eq_some_iff.1 hg).1⟩)).mono ?_
    · cases hv; rfl
    · simp only [World.cell?, hg]; simpa using hy
    · rintro e W' ⟨rfl, q, rfl⟩
      exact ⟨rfl, hb q _⟩

set_option maxHeartbeats 1000000 in
theorem take_S (base bS bp : Nat) (s : PSt) (k : Int) (t : ByteArray) (ht : t.size ≤ 1200) (p r : Int) (W : World) (hP : PAt base bS W bp s) (hI : PInv s) :
    Calls Tryz.prog 152 #[.pointer (some ⟨bp, 0, none⟩), tokV k t p r] W fun e W' => e = .returned (.int .i64 (takeS s k t r).1) ∧ PAt base bS W' bp (takeS s k t r).2 ∧ PFr base bS W W' := by
  have hna : s.atoms.length ≤ 100 := by have := hI.atoms; omega
  have hnr : s.rules.length ≤ 100 := by have := hI.rules; omega
  have h3 : s.st = 3 → s.atoms ≠ [] := fun e => hI.some (by omega)
  have hm : ∀ a ∈ s.atoms, a.args.length ≤ 100 := fun a ha => by have := (hI.ams a ha).args; omega
  have hnv : s.vars.length ≤ 100 := by have := hI.few; omega
  have hbl : ∀ O, Below W.heap.size W (W.alloc O) := fun O => (Below.refl W.heap.size W).alloc (Nat.le_refl _) O
  have hfits : Hid (∀ O, Calls Tryz.prog 195 #[.pointer (some ⟨bp, 0, none⟩), .int .i64 k] (W.alloc O) fun e w' => e = .returned (.bool (fitsB s.st k)) ∧ w' = W.alloc O) := fun O =>
    fits_any bp s.st k _ (hP.below (hbl O)).cell0.1
  have hexc : Hid (∀ O, Calls Tryz.prog 196 #[.pointer (some ⟨bp, 0, none⟩), tokV k t p r] (W.alloc O) fun e W' => e = .returned (.bool (exceedsB s.st r s.rules.length s.atoms.length (lastLen s.atoms))) ∧ Below (W.alloc O).heap.size (W.alloc O) W') := fun O =>
    exceeds_S base bS bp s k t p r _ (hP.below (hbl O)) hna h3
  have hadd : Hid (fitsB s.st k = true → ∀ O W1, Below (W.alloc O).heap.size (W.alloc O) W1 → Calls Tryz.prog 197 #[.pointer (some ⟨bp, 0, none⟩), tokV k t p r] W1 fun e W' => e = .returned (.tuple #[]) ∧ PAt base bS W' bp (addS s k t) ∧ PFr base bS W W') := fun hf O W1 hb =>
    (add_S base bS bp s k t ht p r W1 ((hP.below (hbl O)).below hb) hnv hna hnr h3 hm (fun hk => hI.some (fun h0 => by rw [h0, hk] at hf; simp [fitsB] at hf))).mono
      (fun e W' ⟨a, b, c⟩ => ⟨a, b, ((PFr.ofBelow (hbl O) hP.base_le).trans (PFr.ofBelow hb (hP.below (hbl O)).base_le)).trans c⟩)
  have hkeep : Hid (∀ O W1, Below (W.alloc O).heap.size (W.alloc O) W1 → PAt base bS W1 bp s ∧ PFr base bS W W1) := fun O W1 hb =>
    ⟨(hP.below (hbl O)).below hb, (PFr.ofBelow (hbl O) hP.base_le).trans (PFr.ofBelow hb (hP.below (hbl O)).base_le)⟩
  have hsz : Hid (∀ O W1, Below (W.alloc O).heap.size (W.alloc O) W1 → ∀ x, (W.alloc O).cell? ⟨W.heap.size, x, none⟩ = W1.cell? ⟨W.heap.size, x, none⟩) := fun O W1 hb x => (hb.cell (p := ⟨W.heap.size, x, none⟩) (by simp)).symm
  clear hP hI h3 hm hbl
  have hts : Hid (takeS s k t r = if fitsB s.st k = false then (2, s) else if exceedsB s.st r s.rules.length s.atoms.length (lastLen s.atoms) = true then (3, s) else (0, addS s k t)) := rfl
  generalize hEX : exceedsB s.st r s.rules.length s.atoms.length (lastLen s.atoms) = ex at *
  have HEX : Hid (exceedsB s.st r s.rules.length s.atoms.length (lastLen s.atoms) = ex) := hEX
  clear hEX
  by_cases hf : fitsB s.st k = false
  · rw [hts.out, if_pos hf]
    unfold tokV tokC at hexc hadd ⊢
    go_enter Tryz.func152, Tryz.ntmps152
    go_wp2_with (go_at_call 195; refine (hfits.out _).mono ?_; rintro e w' ⟨rfl, rfl⟩)
    go_ret
    exact ⟨rfl, hkeep.out _ _ (Below.refl _ _)⟩
  · have hf' : fitsB s.st k = true := by simpa using hf
    clear hf
    cases ex with
    | true =>
      have hts' : Hid (takeS s k t r = (3, s)) := by rw [hts.out, hf']; rfl
      rw [hts'.out]
      unfold tokV tokC at hexc hadd ⊢
      go_enter Tryz.func152, Tryz.ntmps152
      go_wp2_with (first | (go_at_call 195; refine (hfits.out _).mono ?_; rintro e w' ⟨rfl, rfl⟩) | (go_at_call 196; refine (hexc.out _).mono ?_; rintro e W1 ⟨rfl, hb1⟩))
      go_ret
      exact ⟨rfl, hkeep.out _ _ hb1⟩
    | false =>
      have hts' : Hid (takeS s k t r = (0, addS s k t)) := by rw [hts.out, hf']; rfl
      rw [hts'.out]
      unfold tokV tokC at hexc hadd ⊢
      have ha := hadd.out hf' (.cells #[.int .i64 k, .string t, .int .i64 p, .int .i64 r] 191)
      have hs2 := hsz.out (.cells #[.int .i64 k, .string t, .int .i64 p, .int .i64 r] 191)
      have HA : Hid (∀ W1, Below (W.alloc (.cells #[.int .i64 k, .string t, .int .i64 p, .int .i64 r] 191)).heap.size (W.alloc (.cells #[.int .i64 k, .string t, .int .i64 p, .int .i64 r] 191)) W1 → _) := ha
      have HS : Hid (∀ W1, Below (W.alloc (.cells #[.int .i64 k, .string t, .int .i64 p, .int .i64 r] 191)).heap.size (W.alloc (.cells #[.int .i64 k, .string t, .int .i64 p, .int .i64 r] 191)) W1 → _) := hs2
      clear ha hs2
      go_enter Tryz.func152, Tryz.ntmps152
      go_wp2_with (first | (go_at_call 195; refine (hfits.out _).mono ?_; rintro e w' ⟨rfl, rfl⟩))
      refine (hexc.out _).mono ?_
      rintro e W1 ⟨rfl, hb1⟩
      have hcs := HS.out W1 hb1
      have q0 := (hcs 0).symm
      have q1 := (hcs 1).symm
      have q2 := (hcs 2).symm
      have q3 := (hcs 3).symm
      simp at q0 q1 q2 q3
      clear hcs
      go_wp2_with fail
      refine (HA.out W1 hb1).mono ?_
      rintro e W2 ⟨rfl, hres⟩
      go_wp2
      go_ret
      exact ⟨rfl, hres⟩

end Go.Proofs.YtjajnhemgphefaaGreatDoor

namespace Go.Proofs.YtjajnhemgphefaaGreatDoor
open Go.RowKit Go.Shelf
set_option linter.unusedVariables false
set_option linter.unusedSimpArgs false
attribute [local go_sem] Oper.semAt_some

theorem decode_width_le (s : ByteArray) (i : Nat) : (Utf8.decode s i).2 ≤ 4 := by
  unfold Utf8.decode
  dsimp only
  repeat' split
  all_goals simp

theorem size_le_from (s : ByteArray) : ∀ f pos, s.size ≤ pos + f → s.size ≤ pos + 4 * Lib.runeCountFrom s f pos
  | 0, pos, h => by simp [Lib.runeCountFrom]; omega
  | f + 1, pos, h => by
    unfold Lib.runeCountFrom
    split
    · rename_i hp
      have h1 := Lib.decode_width_pos s pos hp
      have h2 := decode_width_le s pos
      have := size_le_from s f (pos + (Utf8.decode s pos).2) (by omega)
      omega
    · omega

theorem size_le_runes (s : ByteArray) : s.size ≤ 4 * Lib.runeCount s := by
  have := size_le_from s s.size 0 (by omega)
  unfold Lib.runeCount; omega

theorem runeCount_any (s : ByteArray) (w : World) (hs : s.size < 9223372036854775807) :
    Calls Tryz.prog 95 #[.string s] w fun e w' => e = .returned (.int .i64 (Lib.runeCount s)) ∧ ∃ pos, w' = w.alloc (.stringIter s pos) := Tryz.utf8_RuneCountInString s w hs

/-- What the parser's memory stands on are cells: whatever keeps these keeps it. -/
theorem PAt.keptAll {base bS : Nat} {W W' : World} {bp : Nat} {s : PSt} (h : PAt base bS W bp s) (hk : ∀ (k : Nat) (c : Array Value) (t : TypeId), W.heap[k]? = some (Obj.cells c t (0, 0)) → W'.heap[k]? = some (Obj.cells c t (0, 0))) (hsz : W.heap.size ≤ W'.heap.size) : PAt base bS W' bp s := by
  obtain ⟨vr, va, vv, b45, b87, h1, h2, h3, h4, h5, h6, h7, hh, hV, hR, ps, e1, e2, e3, e4⟩ := h
  exact ⟨vr, va, vv, b45, b87, h1, h2, Nat.le_trans h3 hsz, Nat.le_trans h4 hsz, h5, h6, Nat.le_trans h7 hsz, hk _ _ _ hh, owns_kept hV (fun g c _ hc => hk g c _ hc), hR.kept (fun g c _ hc => hk g c _ hc) (fun k c _ hc => hk k c _ hc) (fun k c _ hc => hk k c _ hc),
    ps, e1, owns_kept e2 (fun g c _ hc => hk g c _ hc), fun p hp => (e3 p hp).kept (fun k c _ hc => hk k c _ hc), fun p hp => owns_kept (e4 p hp) (fun g c _ hc => hk g c _ hc)⟩

theorem kept_of_grown {W W' : World} {row : Option Nat} (hg : W.grownBy W' row) (hr : ∀ r, row = some r → ∃ o : Obj, W.heap[r]? = some o ∧ o.isCells = false) :
    ∀ (k : Nat) (c : Array Value) (t : TypeId) (fz : Nat × Nat), W.heap[k]? = some (Obj.cells c t fz) → W'.heap[k]? = some (Obj.cells c t fz) := by
  intro k c t fz hk
  rw [hg.block k (Array.getElem?_eq_some_iff.1 hk).1 (fun e => ?_)]
  · exact hk
  · obtain ⟨o, ho, hc⟩ := hr k e.symm
    rw [hk] at ho; cases ho; simp [Obj.isCells] at hc

theorem below_size_le {N : Nat} {w W : World} (h : Below N w W) (hN : w.heap.size = N) : N ≤ W.heap.size := by have := h.size; omega

theorem boxed_set {W : World} {B : Nat} {t : TypeId} {v : Value} (h : Boxed W B t v) (u : Value) : Boxed (W.setCell ⟨B, 0, none⟩ u) B t u := heap_set h 0 u

/-- The two result cells, stored one after the other. -/
theorem two_set {W : World} {A t1 t2 : Nat} {y z : Value} (h1 : Boxed W A t1 y) (h2 : Boxed W (A + 1) t2 z) (b c : Value) :
    Boxed ((W.setCell ⟨A, 0, none⟩ b).setCell ⟨A + 1, 0, none⟩ c) A t1 b ∧ Boxed ((W.setCell ⟨A, 0, none⟩ b).setCell ⟨A + 1, 0, none⟩ c) (A + 1) t2 c ∧
    Chg W ((W.setCell ⟨A, 0, none⟩ b).setCell ⟨A + 1, 0, none⟩ c) (fun j => j = A ∨ j = A + 1) ∧ KeepsOthers W ((W.setCell ⟨A, 0, none⟩ b).setCell ⟨A + 1, 0, none⟩ c) := by
  refine ⟨(boxed_set h1 b).other (by omega) _, boxed_set (h2.other (by omega) _) c, ?_, ?_⟩
  · exact ((Chg.refl W _).setCell ⟨A, 0, none⟩ b (fun _ => .inl rfl)).setCell ⟨A + 1, 0, none⟩ c (fun _ => .inr rfl)
  · exact (KeepsOthers.setCell _ _ _).trans (KeepsOthers.setCell _ _ _)

theorem RulesAt.keep {W W' : World} {base b45 b87 : Nat} {v : Value} {l : List Rl} (h : RulesAt W base b45 b87 v l)
    (hk : ∀ (k : Nat) (c : Array Value) (t : TypeId), (t = 136 ∨ t = 92 ∨ t = 166) → W.heap[k]? = some (Obj.cells c t (0, 0)) → W'.heap[k]? = some (Obj.cells c t (0, 0))) : RulesAt W' base b45 b87 v l :=
  h.kept (fun g c _ hc => hk g c _ (.inl rfl) hc) (fun k c _ hc => hk k c _ (.inr (.inl rfl)) hc) (fun k c _ hc => hk k c _ (.inr (.inr rfl)) hc)

theorem fin_cells {W2 : World} {D A t1 t2 : Nat} {y z : Value} (h1 : Boxed W2 A t1 y) (h2 : Boxed W2 (A + 1) t2 z) (hK : W2.heap[D]? = some (.deferred (some []))) :
    (W2.putObj D (.deferred none)).cell? ⟨A, 0, none⟩ = some y ∧ (W2.putObj D (.deferred none)).cell? ⟨A + 1, 0, none⟩ = some z ∧
    ∀ (k : Nat) (c : Array Value) (t : TypeId) (fz : Nat × Nat), W2.heap[k]? = some (Obj.cells c t fz) → (W2.putObj D (.deferred none)).heap[k]? = some (Obj.cells c t fz) := by
  have hk := kept_of_grown (grownBy_putObj' W2 D (.deferred none)) (fun r e => by cases e; exact ⟨_, hK, rfl⟩)
  exact ⟨Boxed.cell (t := t1) (hk _ _ _ _ h1), Boxed.cell (t := t2) (hk _ _ _ _ h2), hk⟩

theorem below_put {N : Nat} {w W : World} {D : Nat} {o : Obj} (h : Below N w W) (hN : N ≤ D) (hsz : N ≤ W.heap.size) : Below N w (W.putObj D o) :=
  h.grown (grownBy_putObj' W D o) hsz (fun k e => by cases e; exact hN)

/-- A block that the two result cells are not. -/
theorem not_two {W : World} {A t1 t2 : Nat} {y z : Value} (h1 : Boxed W A t1 y) (h2 : Boxed W (A + 1) t2 z) {k : Nat} {c : Array Value} {t : TypeId} (hk : W.heap[k]? = some (Obj.cells c t (0, 0))) (a1 : t ≠ t1) (a2 : t ≠ t2) : ¬ (k = A ∨ k = A + 1) := by
  unfold Boxed at h1 h2
  rintro (rfl | rfl)
  · rw [hk] at h1; cases h1; exact a1 rfl
  · rw [hk] at h2; cases h2; exact a2 rfl

/-- What PAt says is of cells of five types; whatever keeps these keeps it. -/
theorem PAt.keptT {base bS : Nat} {W W' : World} {bp : Nat} {s : PSt} (h : PAt base bS W bp s) (hk : ∀ (k : Nat) (c : Array Value) (t : TypeId), t = 179 ∨ t = 136 ∨ t = 92 ∨ t = 166 ∨ t = 9 → W.heap[k]? = some (Obj.cells c t (0, 0)) → W'.heap[k]? = some (Obj.cells c t (0, 0))) (hsz : W.heap.size ≤ W'.heap.size) : PAt base bS W' bp s := by
  obtain ⟨vr, va, vv, b45, b87, h1, h2, h3, h4, h5, h6, h7, hh, hV, hR, ps, e1, e2, e3, e4⟩ := h
  exact ⟨vr, va, vv, b45, b87, h1, h2, Nat.le_trans h3 hsz, Nat.le_trans h4 hsz, h5, h6, Nat.le_trans h7 hsz, hk _ _ _ (by simp) hh, owns_kept hV (fun g c _ hc => hk g c _ (by simp) hc), hR.kept (fun g c _ hc => hk g c _ (by simp) hc) (fun k c _ hc => hk k c _ (by simp) hc) (fun k c _ hc => hk k c _ (by simp) hc),
    ps, e1, owns_kept e2 (fun g c _ hc => hk g c _ (by simp) hc), fun p hp => (e3 p hp).kept (fun k c _ hc => hk k c _ (by simp) hc), fun p hp => owns_kept (e4 p hp) (fun g c _ hc => hk g c _ (by simp) hc)⟩

/-- What takeAll answers. -/
def TakePost (s : ByteArray) (base bp : Nat) (w : World) (e : Ending) (w' : World) : Prop :=
  Below base w w' ∧ match foldP pst0 (toks s.size s 0) with
  | (_, some (c, p)) => e = .returned (.tuple #[.int .i64 c, .int .i64 p])
  | (st, none) => e = .returned (.tuple #[.int .i64 0, .int .i64 0]) ∧ PInv st ∧ ∃ bS, PAt base bS w' bp st

set_option maxHeartbeats 1000000 in
theorem takeAll_long (s : ByteArray) (bp : Nat) (w : World) (hs : s.size ≤ 4611686018427387904) (hlong : 300 < Lib.runeCount s) :
    Calls Tryz.prog 90 #[.pointer (some ⟨bp, 0, none⟩), .string s] w fun e w' => e = .returned (.tuple #[.int .i64 1, .int .i64 0]) ∧ Below w.heap.size w w' := by
  have hl : (300 : Int) < (Lib.runeCount s : Int) := by omega
  refine (callsIn_wide (n := 6)).1 ?_
  refine callsIn_of_wp_marks Tryz.func90 rfl trivial ?_ rfl
  simp only [Tryz.ntmps90, List.size_toArray, List.length_cons, List.length_nil, Nat.reduceAdd, Nat.reduceSub, Array.replicate_succ, Array.replicate_zero, List.push_toArray, List.append_toArray, List.nil_append, List.cons_append]
  gi_wp2_with (refine ⟨trivial, ?_⟩; gi_at_call 95; refine (callsIn_wide.2 (runeCount_any _ _ (by omega))).mono ?_; rintro e w' ⟨rfl, pos, rfl⟩)
  refine ⟨.tuple #[.int .i64 1, .int .i64 0], by simp [results, Tryz.results90, go_sem], rfl, ?_⟩
  exact (((((Below.refl _ _).alloc (Nat.le_refl _) _).alloc (by simp) _).alloc (by simp; omega) _).alloc (by simp; omega) _)

set_option maxHeartbeats 2000000 in
theorem takeAll_short (s : ByteArray) (w00 : World) (base bp : Nat) (w : World) (hshort : Lib.runeCount s ≤ 300) (hT : Lib.Utf8Tabs 0 1 w00) (hw00 : w00.heap.size = base) (hB00 : Below base w00 w) (hbw : base ≤ bp) (hh0 : w.heap[bp]? = some (Obj.cells #[.int .i64 0, .slice none 0 0, .slice none 0 0, .slice none 0 0] 179 (0, 0))) :
    Calls Tryz.prog 90 #[.pointer (some ⟨bp, 0, none⟩), .string s] w (TakePost s base bp w) := by
  have hs : s.size ≤ 1200 := by have := size_le_runes s; omega
  have hl : decide ((300 : Int) < (Lib.runeCount s : Int)) = false := by simp; omega
  have hbpw : bp < w.heap.size := (Array.getElem?_eq_some_iff.1 hh0).1
  have hbase : base ≤ w.heap.size := by omega
  refine (callsIn_wide (n := 6)).1 ?_
  refine callsIn_of_wp_marks Tryz.func90 rfl trivial ?_ rfl
  simp only [Tryz.ntmps90, List.size_toArray, List.length_cons, List.length_nil, Nat.reduceAdd, Nat.reduceSub, Array.replicate_succ, Array.replicate_zero, List.push_toArray, List.append_toArray, List.nil_append, List.cons_append]
  gi_wp2_with (first | (refine ⟨trivial, ?_⟩; gi_at_call 95; refine (callsIn_wide.2 (runeCount_any _ _ (by omega))).mono ?_; rintro e w' ⟨rfl, pos, rfl⟩) | (refine ⟨trivial, ?_⟩; gi_at_call 96; refine (callsIn_wide.2 (all_any _ _)).mono ?_; rintro e w' ⟨rfl, rfl⟩))
  have hm1 : Lib.runeCount s ≤ s.size := Lib.runeCount_le s
  generalize hrc : Lib.runeCount s = rc at *
  have HRC : Hid (Lib.runeCount s = rc) := hrc
  clear hrc
  obtain ⟨N, hN⟩ : ∃ N, w.heap.size = N := ⟨_, rfl⟩
  obtain ⟨W0, hW0⟩ : ∃ W0, (((((w.alloc (.cells #[.pointer (some ⟨bp, 0, none⟩)] 268)).alloc (.cells #[.int .i64 0] 23)).alloc (.cells #[.int .i64 0] 3)).alloc (.stringIter s pos)).alloc (.cells #[.string s] 9)) = W0 := ⟨_, rfl⟩
  have hsz : W0.heap.size = N + 5 := by rw [← hW0, ← hN]; simp
  have hBw : Below w.heap.size w W0 := by
    rw [← hW0]
    exact (((((Below.refl _ _).alloc (Nat.le_refl _) _).alloc (by simp) _).alloc (by simp; omega) _).alloc (by simp; omega) _).alloc (by simp; omega) _
  have hB0 : Below base w W0 := hBw.mono hbase
  have b0 : Boxed W0 N 268 (.pointer (some ⟨bp, 0, none⟩)) := by
    rw [← hW0, ← hN]; exact ((((Boxed.new w _ _).alloc _).alloc _).alloc _).alloc _
  have b1 : Boxed W0 (N + 1) 23 (.int .i64 0) := by
    have := (((Boxed.new (w.alloc (.cells #[.pointer (some ⟨bp, 0, none⟩)] 268)) 23 (.int .i64 0)).alloc (.cells #[.int .i64 0] 3)).alloc (.stringIter s pos)).alloc (.cells #[.string s] 9)
    rw [World.size_alloc, hN, hW0] at this; exact this
  have b2 : Boxed W0 (N + 1 + 1) 3 (.int .i64 0) := by
    have := ((Boxed.new ((w.alloc (.cells #[.pointer (some ⟨bp, 0, none⟩)] 268)).alloc (.cells #[.int .i64 0] 23)) 3 (.int .i64 0)).alloc (.stringIter s pos)).alloc (.cells #[.string s] 9)
    rw [World.size_alloc, World.size_alloc, hN, hW0] at this; exact this
  have b5 : Boxed W0 (N + 4) 9 (.string s) := by
    have := Boxed.new ((((w.alloc (.cells #[.pointer (some ⟨bp, 0, none⟩)] 268)).alloc (.cells #[.int .i64 0] 23)).alloc (.cells #[.int .i64 0] 3)).alloc (.stringIter s pos)) 9 (.string s)
    simp only [World.size_alloc] at this
    rw [hN, hW0] at this; exact this
  have hP0 : PAt base (N + 5) W0 bp pst0 := ⟨_, _, _, base, base, Nat.le_refl _, Nat.le_refl _, by omega, by omega, hbw, by omega, by omega, (hBw.block bp hbpw).trans hh0, World.ownsRow_nil _ _ _ _, ⟨[], rfl, World.ownsRow_nil _ _ _ _, by simp⟩, [], rfl, World.ownsRow_nil _ _ _ _, by simp, by simp⟩
  simp only [hN]
  rw [hW0]
  clear hW0 hh0
  have hTB : Below w00.heap.size w00 W0 := by rw [hw00]; exact hB00.trans hB0
  refine wpIn_rangeFunc_ownH rfl (by decide) (gf := 158) (lb := #[.pointer (some ⟨N + 4, 0, none⟩)]) rfl trivial (enters_of Tryz.func158 (by kernel_rfl) rfl)
    (all_stops 5 (by decide) (N + 4) s hs w00 hT W0 hTB (by omega) b5.cell) RoundKept.tr (RoundKept.put (by omega)) (Below.refl _ _) (fun _ => rfl)
    (fun pre W => ∃ st, foldP pst0 pre = (st, none) ∧ PInv st ∧ PAt base (N + 5) W bp st ∧ Boxed W N 268 (.pointer (some ⟨bp, 0, none⟩)) ∧ Boxed W (N + 1) 23 (.int .i64 0) ∧ Boxed W (N + 1 + 1) 3 (.int .i64 0) ∧ Below base w W ∧ N ≤ W.heap.size)
    (fun c pre W => c = .ret ∧ ∃ (st : PSt) (pre' : List Tok) (x : Tok), pre = pre' ++ [x] ∧ foldP pst0 pre' = (st, none) ∧ (takeS st x.kind x.text x.runes).1 ≠ 0 ∧ Boxed W (N + 1) 23 (.int .i64 (takeS st x.kind x.text x.runes).1) ∧ Boxed W (N + 1 + 1) 3 (.int .i64 x.place) ∧ Below base w W ∧ N ≤ W.heap.size)
    ?hI ?hIx ?h0
    (fun x a' W => ∃ Bx, W.heap[Bx]? = some (Obj.cells (tokC x.kind x.text x.place x.runes) 191 (0, 0)) ∧ a' = { tmps := #[.pointer (some ⟨bp, 0, none⟩), .string s, .pointer (some ⟨N, 0, none⟩), undef, .pointer (some ⟨N + 1, 0, none⟩), .pointer (some ⟨N + 1 + 1, 0, none⟩), .pointer (some ⟨Bx, 0, none⟩), undef, .string s, .int .i64 rc, .bool false, .string s, .func (.func 158) #[] #[.pointer (some ⟨N + 1 + 1 + 1 + 1, 0, none⟩)], x.v, undef, undef, undef, undef, undef, undef, undef, undef], defers := [] })
    ?hAx ?assign ?body ?done ?stop
  case hI =>
    rintro pre W W' row ⟨st, h1, h2, h3, h4, h5, h6, h7, h8⟩ hg hr
    have hk := kept_of_grown hg (fun r e => (hr r e).2)
    exact ⟨st, h1, h2, h3.keptAll (fun k c t h => hk k c t _ h) hg.size, hk _ _ _ _ h4, hk _ _ _ _ h5, hk _ _ _ _ h6, h7.grown hg (by omega) (fun k e => by have := (hr k e).1; omega), Nat.le_trans h8 hg.size⟩
  case hIx =>
    rintro c pre W W' row ⟨rfl, st, pre', x, h1, h2, h3, h5, h6, h7, h8⟩ hg hr
    have hk := kept_of_grown hg (fun r e => (hr r e).2)
    exact ⟨rfl, st, pre', x, h1, h2, h3, hk _ _ _ _ h5, hk _ _ _ _ h6, h7.grown hg (by omega) (fun k e => by have := (hr k e).1; omega), Nat.le_trans h8 hg.size⟩
  case h0 => exact ⟨pst0, rfl, ⟨by decide, by decide, by simp [pst0], fun _ => rfl, fun h => absurd rfl h, fun h => absurd rfl h, by simp [pst0], by simp [pst0]⟩, hP0, b0, b1, b2, hB0, by omega⟩
  case hAx =>
    rintro x a' _ W W' row ⟨Bx, h2, h3⟩ hg hr
    exact ⟨Bx, kept_of_grown hg (fun r e => (hr r e).2) _ _ _ _ h2, h3⟩
  case assign =>
    rintro l pre x W K ⟨st, h1, h2, h3, h4, h5, h6, h7, h8⟩ hK
    have HK : Hid _ := hK
    clear hK
    unfold Tok.v tokV tokC
    gi_wp2
    have hbl : Below W.heap.size W (W.alloc (.cells #[.int .i64 x.kind, .string x.text, .int .i64 x.place, .int .i64 x.runes] 191)) := (Below.refl _ W).alloc (Nat.le_refl _) _
    refine HK.out _ _ ((KeepsOthers.alloc _ _).from _) ⟨hbl.mono (by omega), fun k c fz hk => (Below.heap_alloc _ _ _ (Array.getElem?_eq_some_iff.1 hk).1).trans hk⟩ ⟨st, h1, h2, h3.below hbl, h4.alloc _, h5.alloc _, h6.alloc _, h7.alloc (by omega) _, by simp; omega⟩ ⟨W.heap.size, World.alloc_heap_new W _, rfl⟩
  case body =>
    rintro l pre x a' W hl ⟨r, hr⟩ ⟨st, h1, h2, h3, h4, h5, h6, h7, h8⟩ ⟨Bx, hbx, rfl⟩ hlt
    have HT := take_S base (N + 5) bp st x.kind x.text x.ok x.place x.runes W h3 h2
    generalize hts : takeS st x.kind x.text x.runes = ts at HT
    obtain ⟨ec, st'⟩ := ts
    have kp := h4.cell
    have k0 : W.cell? ⟨Bx, 0, none⟩ = some (.int .i64 x.kind) := by simp [World.cell?, hbx, tokC]
    have k1 : W.cell? ⟨Bx, 1, none⟩ = some (.string x.text) := by simp [World.cell?, hbx, tokC]
    have k2 : W.cell? ⟨Bx, 2, none⟩ = some (.int .i64 x.place) := by simp [World.cell?, hbx, tokC]
    have k3 : W.cell? ⟨Bx, 3, none⟩ = some (.int .i64 x.runes) := by simp [World.cell?, hbx, tokC]
    unfold tokV tokC at HT
    have HTS : Hid (takeS st x.kind x.text x.runes = (ec, st')) := hts
    have H1 : Hid (foldP pst0 pre = (st, none)) := h1
    clear hts h1
    gi_wp2_with fail
    refine ⟨trivial, ?_⟩
    refine (CallsIn.inRound l (callsIn_wide.2 HT)).mono ?_
    rintro e W1 ⟨rfl, hP1, hF1⟩
    have hnp : ∀ (B : Nat) (c : Array Value) (t : TypeId), t ≠ 179 → t ≠ 136 → t ≠ 92 → t ≠ 166 → t ≠ 9 → W.heap[B]? = some (Obj.cells c t (0, 0)) → W1.heap[B]? = some (Obj.cells c t (0, 0)) := by
      intro B c t a1 a2 a3 a4 a5 hB
      exact hF1.same B _ hB (fun c' t' fz' e => by cases e; exact ⟨a1, a2, a3, a4, a5⟩)
    have g4 : Boxed W1 N 268 (.pointer (some ⟨bp, 0, none⟩)) := hnp _ _ _ (by decide) (by decide) (by decide) (by decide) (by decide) h4
    have g5 : Boxed W1 (N + 1) 23 (.int .i64 0) := hnp _ _ _ (by decide) (by decide) (by decide) (by decide) (by decide) h5
    have g6 : Boxed W1 (N + 1 + 1) 3 (.int .i64 0) := hnp _ _ _ (by decide) (by decide) (by decide) (by decide) (by decide) h6
    have gx := hnp _ _ _ (by decide) (by decide) (by decide) (by decide) (by decide) hbx
    have hKF : KeepsFrom W0.heap.size W W1 := ⟨hF1.low.size, fun k o _ hk ho => hF1.same k o hk (fun c t fz e => by subst e; simp [Obj.isCells] at ho)⟩
    have hRK : RoundKept w00.heap.size W W1 := ⟨by rw [hw00]; exact hF1.low, fun k c fz hk => hF1.same k _ hk (fun c' t' fz' e => by cases e; exact ⟨by decide, by decide, by decide, by decide, by decide⟩)⟩
    have hBN : Below base w W1 := h7.trans hF1.low
    have hN1 : N ≤ W1.heap.size := Nat.le_trans h8 hF1.low.size
    by_cases hec : ec = 0
    · subst hec
      clear hF1 hnp HT
      gi_wp2
      refine ⟨hKF, hRK, st', ?_, ?_, hP1, g4, g5, g6, hBN, hN1⟩
      · rw [foldP_append _ _ _ _ H1.out]; simp [foldP, HTS.out]
      · have := takeS_inv st x.kind x.text x.runes x.ok h2 (by rw [HTS.out])
        rw [HTS.out] at this; exact this
    · have hec' : (ec == 0) = false := by simp [hec]
      have c5 := g5.cell
      have c6 := g6.cell
      have f5 := g5.frozen
      have f6 := g6.frozen
      have cx : W1.cell? ⟨Bx, 2, none⟩ = some (.int .i64 x.place) := by simp [World.cell?, gx, tokC]
      have n1 : N + 1 ≠ Bx := by intro e; subst e; unfold Boxed at g5; rw [gx] at g5; simp at g5
      have n2 : N + 1 + 1 ≠ Bx := by intro e; subst e; unfold Boxed at g6; rw [gx] at g6; simp at g6
      clear hF1 hnp HT k0 k1 k2 k3 kp
      gi_wp2
      gi_region
      all_goals
        gi_wp2
        obtain ⟨t1, t2, tc, tk⟩ := two_set g5 g6 (.int .i64 ec) (.int .i64 x.place)
        refine ⟨⟨Nat.le_trans hKF.size tk.size, fun k o hk ho hc => tk.same k o (hKF.same k o hk ho hc) hc⟩, rfl, st, pre, x, rfl, H1.out, by rw [HTS.out]; exact hec, by rw [HTS.out]; exact t1, t2, (hBN.trans (tc.below (by omega) (fun k e => by omega))).drew, ?_⟩
        exact Nat.le_trans hN1 tc.size
  case done =>
    rintro D xs W hD rfl ⟨st, h1, h2, h3, h4, h5, h6, h7, h8⟩ hK
    have c5 := h5.cell
    have c6 := h6.cell
    have f5 := h5.frozen
    have f6 := h6.frozen
    have H1 : Hid (foldP pst0 (toks s.size s 0) = (st, none)) := h1
    clear h1
    gi_wp2
    obtain ⟨t1, t2, tc, tk⟩ := two_set h5 h6 (.int .i64 0) (.int .i64 0)
    refine ⟨by simp, .inl ⟨_, _, rfl, run_takeDeferred (tk.same D _ hK rfl), ?_⟩⟩
    obtain ⟨d1, d2, dk⟩ := fin_cells t1 t2 (tk.same D _ hK rfl)
    refine ⟨.tuple #[.int .i64 0, .int .i64 0], by simp [results, Tryz.results90, go_sem, d1, d2], ?_⟩
    have hBf := below_put (D := D) (o := .deferred none) (h7.trans (tc.below (by omega) (fun k e => by omega))) (by omega) (Nat.le_trans (by omega) tc.size)
    refine ⟨hBf, ?_⟩
    rw [H1.out]
    refine ⟨rfl, h2, N + 5, h3.keptT (fun k c t ht hc => dk k c t _ ?_) (Nat.le_trans tc.size (grownBy_putObj' _ D _).size)⟩
    rw [tc.block k (Array.getElem?_eq_some_iff.1 hc).1 (not_two h5 h6 hc (by rcases ht with rfl | rfl | rfl | rfl | rfl <;> decide) (by rcases ht with rfl | rfl | rfl | rfl | rfl <;> decide))]
    exact hc
  case stop =>
    rintro D c pre W hD hpre ⟨rfl, st, pre', x, rfl, h1, h2, h5, h6, h7, h8⟩ hK
    have hres : Hid (foldP pst0 (toks s.size s 0) = (st, some ((takeS st x.kind x.text x.runes).1, x.place))) := by
      show _ = _
      obtain ⟨tl, htl⟩ := hpre
      rw [← htl, List.append_assoc, foldP_append _ _ _ _ h1]
      simp [foldP, h2]
    generalize (takeS st x.kind x.text x.runes).1 = ec at *
    gi_wp2
    refine ⟨by simp, .inl ⟨_, _, rfl, run_takeDeferred hK, ?_⟩⟩
    obtain ⟨d1, d2, dk⟩ := fin_cells h5 h6 hK
    refine ⟨.tuple #[.int .i64 ec, .int .i64 x.place], by simp [results, Tryz.results90, go_sem, d1, d2], ?_⟩
    refine ⟨below_put h7 (by omega) (by omega), ?_⟩
    rw [hres.out]

end Go.Proofs.YtjajnhemgphefaaGreatDoor
