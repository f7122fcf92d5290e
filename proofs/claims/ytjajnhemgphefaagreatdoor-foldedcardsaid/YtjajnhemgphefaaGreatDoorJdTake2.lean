/-
  The parser takes a token: what it answers, and the state behind it.
  The parser takes a token: the whole of it.
-/
import Derived.Test.YtjajnhemgphefaaGreatDoorJdState3
namespace Go.Proofs.YtjajnhemgphefaaGreatDoor
open Go.RowKit Go.Shelf
set_option linter.unusedVariables false
set_option linter.unusedSimpArgs false

theorem PAt.below {base bS : Nat} {W W' : World} {bp : Nat} {s : PSt} (h : PAt base bS W bp s) (hb : Below W.heap.size W W') : PAt base bS W' bp s := by
  obtain ⟨vr, va, vv, b45, b87, h1, h2, h3, h4, h5, h6, h7, hh, hV, hR, ps, e1, e2, e3, e4⟩ := h
  have hk : ∀ (k : Nat) (c : Array Value) (t : TypeId), W.heap[k]? = some (Obj.cells c t (0, 0)) → W'.heap[k]? = some (Obj.cells c t (0, 0)) := fun k c t hc => (hb.block k (Array.getElem?_eq_some_iff.1 hc).1).trans hc
  exact ⟨vr, va, vv, b45, b87, h1, h2, Nat.le_trans h3 hb.size, Nat.le_trans h4 hb.size, h5, h6, Nat.le_trans h7 hb.size, hk _ _ _ hh, owns_kept hV (fun g c _ hc => hk g c _ hc), hR.kept (fun g c _ hc => hk g c _ hc) (fun k c _ hc => hk k c _ hc) (fun k c _ hc => hk k c _ hc),
    ps, e1, owns_kept e2 (fun g c _ hc => hk g c _ hc), fun p hp => (e3 p hp).kept (fun k c _ hc => hk k c _ hc), fun p hp => owns_kept (e4 p hp) (fun g c _ hc => hk g c _ hc)⟩

theorem PAt.base_le {base bS : Nat} {W : World} {bp : Nat} {s : PSt} (h : PAt base bS W bp s) : base ≤ W.heap.size := by
  obtain ⟨vr, va, vv, b45, b87, h1, h2, h3, _⟩ := h; omega

theorem endAtom_S (base bS bp : Nat) (s : PSt) (W : World) (hP : PAt base bS W bp s) :
    Calls Tryz.prog 234 #[.pointer (some ⟨bp, 0, none⟩)] W fun e W' => e = .returned (.tuple #[]) ∧ PAt base bS W' bp (endAtomS s) ∧ PFr base bS W W' := by
  have hs := fun x => hP.state x
  obtain ⟨vr, va, vv, b45, b87, h1, h2, h4, h5, h6, hS1, hS2, hh, hV, hR, ps, e1, e2, e3, e4⟩ := hP
  have hlen : ps.length = s.atoms.length := by rw [← e1]; simp
  obtain ⟨a, c, rfl⟩ := owns_form e2
  refine (endAtom_any bp s.st vr vv a _ c W hh).mono ?_
  rintro e W' ⟨rfl, rfl⟩
  rw [hlen]
  exact ⟨rfl, hs _⟩

theorem addComma_S (base bS bp : Nat) (s : PSt) (W : World) (hP : PAt base bS W bp s) :
    Calls Tryz.prog 235 #[.pointer (some ⟨bp, 0, none⟩)] W fun e W' => e = .returned (.tuple #[]) ∧ PAt base bS W' bp { s with st := if s.st = 4 then 3 else 1 } ∧ PFr base bS W W' := by
  have hs := fun x => hP.state x
  obtain ⟨vr, va, vv, b45, b87, h1, h2, h4, h5, h6, hS1, hS2, hh, hV, hR⟩ := hP
  refine (addComma_any bp s.st vr va vv W hh).mono ?_
  rintro e W' ⟨rfl, rfl⟩
  exact ⟨rfl, hs _⟩

set_option maxHeartbeats 1000000 in
theorem add_S (base bS bp : Nat) (s : PSt) (k : Int) (t : ByteArray) (ht : t.size ≤ 1200) (p r : Int) (W : World) (hP : PAt base bS W bp s) (hnv : s.vars.length ≤ 100) (hna : s.atoms.length ≤ 100) (hnr : s.rules.length ≤ 100) (h3 : s.st = 3 → s.atoms ≠ []) (hm : ∀ a ∈ s.atoms, a.args.length ≤ 100) (h6 : k = 6 → s.atoms ≠ []) :
    Calls Tryz.prog 197 #[.pointer (some ⟨bp, 0, none⟩), tokV k t p r] W fun e W' => e = .returned (.tuple #[]) ∧ PAt base bS W' bp (addS s k t) ∧ PFr base bS W W' := by
  have hbl : ∀ O, Below W.heap.size W (W.alloc O) := fun O => (Below.refl W.heap.size W).alloc (Nat.le_refl _) O
  have hPO : Hid (∀ O, PAt base bS (W.alloc O) bp s ∧ PFr base bS W (W.alloc O)) := fun O => ⟨hP.below (hbl O), PFr.ofBelow (hbl O) hP.base_le⟩
  have hbpc : ∃ x, W.cell? ⟨bp, 0, none⟩ = some (.int .i64 x) ∧ W.frozen? ⟨bp, 0, none⟩ = false ∧ bp < W.heap.size := by
    obtain ⟨vr, va, vv, b45, b87, h1, h2, h4, h5, h6, hS1, hS2, hh, hV, hR⟩ := hP
    exact ⟨s.st, by simp [World.cell?, hh], by simp [World.frozen?, hh], (Array.getElem?_eq_some_iff.1 hh).1⟩
  obtain ⟨x0, hc0, hf0, hbp⟩ := hbpc
  have hword : Hid (k = 1 ∨ k = 2 → ∀ O, Calls Tryz.prog 233 #[.pointer (some ⟨bp, 0, none⟩), tokV k t p r] (W.alloc O) fun e W' => e = .returned (.tuple #[]) ∧ PAt base bS W' bp (addWordS s k t) ∧ PFr base bS W W') := fun hk12 O =>
    (addWord_S base bS bp s k t ht p r _ (hPO.out O).1 hk12 hnv hna h3 hm).mono (fun e W' ⟨a, b, c⟩ => ⟨a, b, (hPO.out O).2.trans c⟩)
  have hend : Hid (∀ O, Calls Tryz.prog 234 #[.pointer (some ⟨bp, 0, none⟩)] (W.alloc O) fun e W' => e = .returned (.tuple #[]) ∧ PAt base bS W' bp (endAtomS s) ∧ PFr base bS W W') := fun O =>
    (endAtom_S base bS bp s _ (hPO.out O).1).mono (fun e W' ⟨a, b, c⟩ => ⟨a, b, (hPO.out O).2.trans c⟩)
  have hcom : Hid (∀ O, Calls Tryz.prog 235 #[.pointer (some ⟨bp, 0, none⟩)] (W.alloc O) fun e W' => e = .returned (.tuple #[]) ∧ PAt base bS W' bp { s with st := if s.st = 4 then 3 else 1 } ∧ PFr base bS W W') := fun O =>
    (addComma_S base bS bp s _ (hPO.out O).1).mono (fun e W' ⟨a, b, c⟩ => ⟨a, b, (hPO.out O).2.trans c⟩)
  have hrul : Hid (k = 6 → ∀ O, Calls Tryz.prog 236 #[.pointer (some ⟨bp, 0, none⟩)] (W.alloc O) fun e W' => e = .returned (.tuple #[]) ∧ PAt base bS W' bp (endRuleS s) ∧ PFr base bS W W') := fun hk O =>
    (endRule_S base bS bp s _ (hPO.out O).1 hna (h6 hk) hnr).mono (fun e W' ⟨a, b, c⟩ => ⟨a, b, (hPO.out O).2.trans c⟩)
  have hst : Hid (∀ O x, PAt base bS ((W.alloc O).setCell ⟨bp, 0, none⟩ (.int .i64 x)) bp { s with st := x } ∧ PFr base bS W ((W.alloc O).setCell ⟨bp, 0, none⟩ (.int .i64 x))) := fun O x =>
    ⟨((hPO.out O).1.state x).1, (hPO.out O).2.trans ((hPO.out O).1.state x).2⟩
  clear hP h3 h6 hm hbl
  unfold tokV tokC at hword ⊢
  by_cases k1 : k = 1 ∨ k = 2
  · have hfin : Hid (addS s k t = addWordS s k t) := by show _ = _; unfold addS; rw [if_pos k1]
    rcases k1 with rfl | rfl
    all_goals
      go_enter Tryz.func197, Tryz.ntmps197
      go_wp2_with fail
      refine (hword.out (by first | exact .inl rfl | exact .inr rfl | exact .inl trivial | exact .inr trivial | decide | simp) _).mono ?_
      rintro e W' ⟨rfl, hres⟩
      go_wp2
      go_end0
      rw [hfin.out]
      exact ⟨rfl, hres⟩
  by_cases k3 : k = 3
  · subst k3
    go_enter Tryz.func197, Tryz.ntmps197
    go_wp2
    go_end0
    refine ⟨rfl, ?_⟩
    have := hst.out (.cells #[.int .i64 3, .string t, .int .i64 p, .int .i64 r] 191) 3
    rw [World.setCell_alloc_past _ _ _ _ hbp] at this
    exact this
  by_cases k4 : k = 4
  · subst k4
    go_enter Tryz.func197, Tryz.ntmps197
    go_wp2_with fail
    refine (hend.out _).mono ?_
    rintro e W' ⟨rfl, hres⟩
    go_wp2
    go_end0
    exact ⟨rfl, hres⟩
  by_cases k5 : k = 5
  · subst k5
    go_enter Tryz.func197, Tryz.ntmps197
    go_wp2_with fail
    refine (hcom.out _).mono ?_
    rintro e W' ⟨rfl, hres⟩
    go_wp2
    go_end0
    exact ⟨rfl, hres⟩
  by_cases k7 : k = 7
  · subst k7
    go_enter Tryz.func197, Tryz.ntmps197
    go_wp2
    go_end0
    refine ⟨rfl, ?_⟩
    have := hst.out (.cells #[.int .i64 7, .string t, .int .i64 p, .int .i64 r] 191) 1
    rw [World.setCell_alloc_past _ _ _ _ hbp] at this
    exact this
  by_cases k6 : k = 6
  · subst k6
    go_enter Tryz.func197, Tryz.ntmps197
    go_wp2_with fail
    refine (hrul.out (by trivial) _).mono ?_
    rintro e W' ⟨rfl, hres⟩
    go_wp2
    go_end0
    exact ⟨rfl, hres⟩
  · have hfin : Hid (addS s k t = s) := by show _ = _; unfold addS; simp [k1, k3, k4, k5, k6, k7]
    have n1 : (k == 1) = false := by simp; omega
    have n2 : (k == 2) = false := by simp; omega
    have n3 : (k == 3) = false := by simp; omega
    have n4 : (k == 4) = false := by simp; omega
    have n5 : (k == 5) = false := by simp; omega
    have n6 : (k == 6) = false := by simp; omega
    have n7 : (k == 7) = false := by simp; omega
    clear k1 k3 k4 k5 k6 k7
    go_enter Tryz.func197, Tryz.ntmps197
    go_wp2
    go_end0
    rw [hfin.out]
    exact ⟨rfl, hPO.out _⟩

end Go.Proofs.YtjajnhemgphefaaGreatDoor

namespace Go.Proofs.YtjajnhemgphefaaGreatDoor
open Go.RowKit Go.Shelf
set_option linter.unusedVariables false
set_option linter.unusedSimpArgs false

theorem PAt.cell0 {base bS : Nat} {W : World} {bp : Nat} {s : PSt} (h : PAt base bS W bp s) : W.cell? ⟨bp, 0, none⟩ = some (.int .i64 s.st) ∧ bp < W.heap.size := by
  obtain ⟨vr, va, vv, b45, b87, h1, h2, h4, h5, h6, hS1, hS2, hh, hV, hR⟩ := h
  exact ⟨by simp [World.cell?, hh], (Array.getElem?_eq_some_iff.1 hh).1⟩

theorem exceeds_S (base bS bp : Nat) (s : PSt) (k : Int) (t : ByteArray) (p r : Int) (W : World) (hP : PAt base bS W bp s) (hna : s.atoms.length ≤ 100) (h3 : s.st = 3 → s.atoms ≠ []) :
    Calls Tryz.prog 196 #[.pointer (some ⟨bp, 0, none⟩), tokV k t p r] W fun e W' => e = .returned (.bool (exceedsB s.st r s.rules.length s.atoms.length (lastLen s.atoms))) ∧ Below W.heap.size W W' := by
  obtain ⟨vr, va, vv, b45, b87, h1, h2, h4, h5, h6, hS1, hS2, hh, hV, ⟨qs, r1, r2, r3⟩, ps, e1, e2, e3, e4⟩ := hP
  have hlen : ps.length = s.atoms.length := by rw [← e1]; simp
  have hqlen : qs.length = s.rules.length := by rw [← r1]; simp
  obtain ⟨aa, ca, rfl⟩ := owns_form e2
  obtain ⟨ar, cr, rfl⟩ := owns_form r2
  have hb : ∀ q O, Below W.heap.size W ((W.alloc O).drewN q) := by
    intro q O
    exact ⟨rfl, rfl, rfl, by show _ ≤ (W.alloc O).heap.size; simp, fun j hj => Below.heap_alloc _ _ j hj⟩
  rw [← hlen, ← hqlen]
  by_cases hps : ps = []
  · have hat : s.atoms = [] := by rw [← e1, hps]; rfl
    have hn3 : s.st ≠ 3 := fun e => h3 e hat
    have hll : lastLen s.atoms = 0 := by rw [hat]; rfl
    rw [hll]
    refine (exceeds_any bp s.st ar _ cr aa _ ca vv none 0 0 k t p r (by omega) W hh (fun e => absurd e hn3)).mono ?_
    rintro e W' ⟨rfl, q, rfl⟩
    exact ⟨rfl, hb q _⟩
  · obtain ⟨ps0, ⟨la, lv⟩, rfl⟩ : ∃ ps0 l, ps = ps0 ++ [l] := ⟨ps.dropLast, ps.getLast hps, (List.dropLast_concat_getLast hps).symm⟩
    have hl := e4 (la, lv) (by simp)
    simp only at hl
    obtain ⟨at', cm, rfl⟩ := owns_form hl
    have hll : lastLen s.atoms = la.args.length := by unfold lastLen; rw [← e1]; simp
    rw [hll]
    have e2' : W.ownsRow b45 92 2 (.slice aa (ps0 ++ [(la, Value.slice at' la.args.length cm)]).length ca) (ps0 ++ [(la, Value.slice at' la.args.length cm)]).length (ps0.flatMap atomC ++ [.string la.rel, .slice at' la.args.length cm]) := by simpa [atomC] using e2
    obtain ⟨g, c, cur, hv, hg, hbg, hlt, hy, htk, hyl⟩ := row_last e2' (by simp)
    have hpl : (ps0 ++ [(la, Value.slice at' la.args.length cm)]).length = ps0.length + 1 := by simp
    refine (exceeds_any bp s.st ar _ cr aa _ ca vv at' la.args.length cm k t p r (by omega) W hh (fun e => ⟨by omega, g, ?_, ?_, (Array.getElem?_eq_some_iff.1 hg).1⟩)).mono ?_
    · cases hv; rfl
    · simp only [World.cell?, hg]; simpa using hy
    · rintro e W' ⟨rfl, q, rfl⟩
      exact ⟨rfl, hb q _⟩

set_option maxHeartbeats 1000000 in
theorem take_S (base bS bp : Nat) (s : PSt) (k : Int) (t : ByteArray) (ht : t.size ≤ 1200) (p r : Int) (W : World) (hP : PAt base bS W bp s) (hI : PInv s) :
    Calls Tryz.prog 152 #[.pointer (some ⟨bp, 0, none⟩), tokV k t p r] W fun e W' => e = .returned (.int .i64 (takeS s k t r).1) ∧ PAt base bS W' bp (takeS s k t r).2 ∧ PFr base bS W W' := by
  have hna : s.atoms.length ≤ 100 := by have := hI.atoms; omega
  have hnr : s.rules.length ≤ 100 := by have := hI.rules; omega
  have h3 : s.st = 3 → s.atoms ≠ [] := fun e => hI.some (by omega)
  have hm : ∀ a ∈ s.atoms, a.args.length ≤ 100 := fun a ha => by have := (hI.ams a ha).args; omega
  have hnv : s.vars.length ≤ 100 := by have := hI.few; omega
  have hbl : ∀ O, Below W.heap.size W (W.alloc O) := fun O => (Below.refl W.heap.size W).alloc (Nat.le_refl _) O
  have hfits : Hid (∀ O, Calls Tryz.prog 195 #[.pointer (some ⟨bp, 0, none⟩), .int .i64 k] (W.alloc O) fun e w' => e = .returned (.bool (fitsB s.st k)) ∧ w' = W.alloc O) := fun O =>
    fits_any bp s.st k _ (hP.below (hbl O)).cell0.1
  have hexc : Hid (∀ O, Calls Tryz.prog 196 #[.pointer (some ⟨bp, 0, none⟩), tokV k t p r] (W.alloc O) fun e W' => e = .returned (.bool (exceedsB s.st r s.rules.length s.atoms.length (lastLen s.atoms))) ∧ Below (W.alloc O).heap.size (W.alloc O) W') := fun O =>
    exceeds_S base bS bp s k t p r _ (hP.below (hbl O)) hna h3
  have hadd : Hid (fitsB s.st k = true → ∀ O W1, Below (W.alloc O).heap.size (W.alloc O) W1 → Calls Tryz.prog 197 #[.pointer (some ⟨bp, 0, none⟩), tokV k t p r] W1 fun e W' => e = .returned (.tuple #[]) ∧ PAt base bS W' bp (addS s k t) ∧ PFr base bS W W') := fun hf O W1 hb =>
    (add_S base bS bp s k t ht p r W1 ((hP.below (hbl O)).below hb) hnv hna hnr h3 hm (fun hk => hI.some (fun h0 => by rw [h0, hk] at hf; simp [fitsB] at hf))).mono
      (fun e W' ⟨a, b, c⟩ => ⟨a, b, ((PFr.ofBelow (hbl O) hP.base_le).trans (PFr.ofBelow hb (hP.below (hbl O)).base_le)).trans c⟩)
  have hkeep : Hid (∀ O W1, Below (W.alloc O).heap.size (W.alloc O) W1 → PAt base bS W1 bp s ∧ PFr base bS W W1) := fun O W1 hb =>
    ⟨(hP.below (hbl O)).below hb, (PFr.ofBelow (hbl O) hP.base_le).trans (PFr.ofBelow hb (hP.below (hbl O)).base_le)⟩
  have hsz : Hid (∀ O W1, Below (W.alloc O).heap.size (W.alloc O) W1 → ∀ x, (W.alloc O).cell? ⟨W.heap.size, x, none⟩ = W1.cell? ⟨W.heap.size, x, none⟩) := fun O W1 hb x => (hb.cell (p := ⟨W.heap.size, x, none⟩) (by simp)).symm
  clear hP hI h3 hm hbl
  have hts : Hid (takeS s k t r = if fitsB s.st k = false then (2, s) else if exceedsB s.st r s.rules.length s.atoms.length (lastLen s.atoms) = true then (3, s) else (0, addS s k t)) := rfl
  generalize hEX : exceedsB s.st r s.rules.length s.atoms.length (lastLen s.atoms) = ex at *
  have HEX : Hid (exceedsB s.st r s.rules.length s.atoms.length (lastLen s.atoms) = ex) := hEX
  clear hEX
  by_cases hf : fitsB s.st k = false
  · rw [hts.out, if_pos hf]
    unfold tokV tokC at hexc hadd ⊢
    go_enter Tryz.func152, Tryz.ntmps152
    go_wp2_with (go_at_call 195; refine (hfits.out _).mono ?_; rintro e w' ⟨rfl, rfl⟩)
    go_ret
    exact ⟨rfl, hkeep.out _ _ (Below.refl _ _)⟩
  · have hf' : fitsB s.st k = true := by simpa using hf
    clear hf
    cases ex with
    | true =>
      have hts' : Hid (takeS s k t r = (3, s)) := by rw [hts.out, hf']; rfl
      rw [hts'.out]
      unfold tokV tokC at hexc hadd ⊢
      go_enter Tryz.func152, Tryz.ntmps152
      go_wp2_with (first | (go_at_call 195; refine (hfits.out _).mono ?_; rintro e w' ⟨rfl, rfl⟩) | (go_at_call 196; refine (hexc.out _).mono ?_; rintro e W1 ⟨rfl, hb1⟩))
      go_ret
      exact ⟨rfl, hkeep.out _ _ hb1⟩
    | false =>
      have hts' : Hid (takeS s k t r = (0, addS s k t)) := by rw [hts.out, hf']; rfl
      rw [hts'.out]
      unfold tokV tokC at hexc hadd ⊢
      have ha := hadd.out hf' (.cells #[.int .i64 k, .string t, .int .i64 p, .int .i64 r] 191)
      have hs2 := hsz.out (.cells #[.int .i64 k, .string t, .int .i64 p, .int .i64 r] 191)
      have HA : Hid (∀ W1, Below (W.alloc (.cells #[.int .i64 k, .string t, .int .i64 p, .int .i64 r] 191)).heap.size (W.alloc (.cells #[.int .i64 k, .string t, .int .i64 p, .int .i64 r] 191)) W1 → _) := ha
      have HS : Hid (∀ W1, Below (W.alloc (.cells #[.int .i64 k, .string t, .int .i64 p, .int .i64 r] 191)).heap.size (W.alloc (.cells #[.int .i64 k, .string t, .int .i64 p, .int .i64 r] 191)) W1 → _) := hs2
      clear ha hs2
      go_enter Tryz.func152, Tryz.ntmps152
      go_wp2_with (first | (go_at_call 195; refine (hfits.out _).mono ?_; rintro e w' ⟨rfl, rfl⟩))
      refine (hexc.out _).mono ?_
      rintro e W1 ⟨rfl, hb1⟩
      have hcs := HS.out W1 hb1
      have q0 := (hcs 0).symm
      have q1 := (hcs 1).symm
      have q2 := (hcs 2).symm
      have q3 := (hcs 3).symm
      simp at q0 q1 q2 q3
      clear hcs
      go_wp2_with fail
      refine (HA.out W1 hb1).mono ?_
      rintro e W2 ⟨rfl, hres⟩
      go_wp2
      go_ret
      exact ⟨rfl, hres⟩

end Go.Proofs.YtjajnhemgphefaaGreatDoor
