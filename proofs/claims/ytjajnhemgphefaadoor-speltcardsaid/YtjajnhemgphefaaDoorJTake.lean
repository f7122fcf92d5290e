/-
  The parser takes a token: what it answers, and the state behind it.
-/
import Derived.Test.YtjajnhemgphefaaDoorJState3
namespace Go.Proofs.YtjajnhemgphefaaDoor
open Go.RowKit Go.Shelf
set_option linter.unusedVariables false
set_option linter.unusedSimpArgs false

theorem PAt.below {base bS : Nat} {W W' : World} {bp : Nat} {s : PSt} (h : PAt base bS W bp s) (hb : Below W.heap.size W W') : PAt base bS W' bp s := by
  obtain ⟨vr, va, vv, b45, b87, h1, h2, h3, h4, h5, h6, h7, hh, hV, hR, ps, e1, e2, e3, e4⟩ := h
  have hk : ∀ (k : Nat) (c : Array Value) (t : TypeId), W.heap[k]? = some (Obj.cells c t (0, 0)) → W'.heap[k]? = some (Obj.cells c t (0, 0)) := fun k c t hc => (hb.block k (Array.getElem?_eq_some_iff.1 hc).1).trans hc
  exact ⟨vr, va, vv, b45, b87, h1, h2, Nat.le_trans h3 hb.size, Nat.le_trans h4 hb.size, h5, h6, Nat.le_trans h7 hb.size, hk _ _ _ hh, owns_kept hV (fun g c _ hc => hk g c _ hc), hR.kept (fun g c _ hc => hk g c _ hc) (fun k c _ hc => hk k c _ hc) (fun k c _ hc => hk k c _ hc),
    ps, e1, owns_kept e2 (fun g c _ hc => hk g c _ hc), fun p hp => (e3 p hp).kept (fun k c _ hc => hk k c _ hc), fun p hp => owns_kept (e4 p hp) (fun g c _ hc => hk g c _ hc)⟩

theorem PAt.base_le {base bS : Nat} {W : World} {bp : Nat} {s : PSt} (h : PAt base bS W bp s) : base ≤ W.heap.size := by
  obtain ⟨vr, va, vv, b45, b87, h1, h2, h3, _⟩ := h; omega

theorem endAtom_S (base bS bp : Nat) (s : PSt) (W : World) (hP : PAt base bS W bp s) :
    Calls Tryd.prog 60 #[.pointer (some ⟨bp, 0, none⟩)] W fun e W' => e = .returned (.tuple #[]) ∧ PAt base bS W' bp (endAtomS s) ∧ PFr base bS W W' := by
  have hs := fun x => hP.state x
  obtain ⟨vr, va, vv, b45, b87, h1, h2, h4, h5, h6, hS1, hS2, hh, hV, hR, ps, e1, e2, e3, e4⟩ := hP
  have hlen : ps.length = s.atoms.length := by rw [← e1]; simp
  obtain ⟨a, c, rfl⟩ := owns_form e2
  refine (endAtom_any bp s.st vr vv a _ c W hh).mono ?_
  rintro e W' ⟨rfl, rfl⟩
  rw [hlen]
  exact ⟨rfl, hs _⟩

theorem addComma_S (base bS bp : Nat) (s : PSt) (W : World) (hP : PAt base bS W bp s) :
    Calls Tryd.prog 61 #[.pointer (some ⟨bp, 0, none⟩)] W fun e W' => e = .returned (.tuple #[]) ∧ PAt base bS W' bp { s with st := if s.st = 4 then 3 else 1 } ∧ PFr base bS W W' := by
  have hs := fun x => hP.state x
  obtain ⟨vr, va, vv, b45, b87, h1, h2, h4, h5, h6, hS1, hS2, hh, hV, hR⟩ := hP
  refine (addComma_any bp s.st vr va vv W hh).mono ?_
  rintro e W' ⟨rfl, rfl⟩
  exact ⟨rfl, hs _⟩

set_option maxHeartbeats 1000000 in
theorem add_S (base bS bp : Nat) (s : PSt) (k : Int) (t : ByteArray) (ht : t.size ≤ 1200) (p r : Int) (W : World) (hP : PAt base bS W bp s) (hnv : s.vars.length ≤ 100) (hna : s.atoms.length ≤ 100) (hnr : s.rules.length ≤ 100) (h3 : s.st = 3 → s.atoms ≠ []) (hm : ∀ a ∈ s.atoms, a.args.length ≤ 100) (h6 : k = 6 → s.atoms ≠ []) :
    Calls Tryd.prog 43 #[.pointer (some ⟨bp, 0, none⟩), tokV k t p r] W fun e W' => e = .returned (.tuple #[]) ∧ PAt base bS W' bp (addS s k t) ∧ PFr base bS W W' := by
  have hbl : ∀ O, Below W.heap.size W (W.alloc O) := fun O => (Below.refl W.heap.size W).alloc (Nat.le_refl _) O
  have hPO : Hid (∀ O, PAt base bS (W.alloc O) bp s ∧ PFr base bS W (W.alloc O)) := fun O => ⟨hP.below (hbl O), PFr.ofBelow (hbl O) hP.base_le⟩
  have hbpc : ∃ x, W.cell? ⟨bp, 0, none⟩ = some (.int .i64 x) ∧ W.frozen? ⟨bp, 0, none⟩ = false ∧ bp < W.heap.size := by
    obtain ⟨vr, va, vv, b45, b87, h1, h2, h4, h5, h6, hS1, hS2, hh, hV, hR⟩ := hP
    exact ⟨s.st, by simp [World.cell?, hh], by simp [World.frozen?, hh], (Array.getElem?_eq_some_iff.1 hh).1⟩
  obtain ⟨x0, hc0, hf0, hbp⟩ := hbpc
  have hword : Hid (k = 1 ∨ k = 2 → ∀ O, Calls Tryd.prog 59 #[.pointer (some ⟨bp, 0, none⟩), tokV k t p r] (W.alloc O) fun e W' => e = .returned (.tuple #[]) ∧ PAt base bS W' bp (addWordS s k t) ∧ PFr base bS W W') := fun hk12 O =>
    (addWord_S base bS bp s k t ht p r _ (hPO.out O).1 hk12 hnv hna h3 hm).mono (fun e W' ⟨a, b, c⟩ => ⟨a, b, (hPO.out O).2.trans c⟩)
  have hend : Hid (∀ O, Calls Tryd.prog 60 #[.pointer (some ⟨bp, 0, none⟩)] (W.alloc O) fun e W' => e = .returned (.tuple #[]) ∧ PAt base bS W' bp (endAtomS s) ∧ PFr base bS W W') := fun O =>
    (endAtom_S base bS bp s _ (hPO.out O).1).mono (fun e W' ⟨a, b, c⟩ => ⟨a, b, (hPO.out O).2.trans c⟩)
  have hcom : Hid (∀ O, Calls Tryd.prog 61 #[.pointer (some ⟨bp, 0, none⟩)] (W.alloc O) fun e W' => e = .returned (.tuple #[]) ∧ PAt base bS W' bp { s with st := if s.st = 4 then 3 else 1 } ∧ PFr base bS W W') := fun O =>
    (addComma_S base bS bp s _ (hPO.out O).1).mono (fun e W' ⟨a, b, c⟩ => ⟨a, b, (hPO.out O).2.trans c⟩)
  have hrul : Hid (k = 6 → ∀ O, Calls Tryd.prog 62 #[.pointer (some ⟨bp, 0, none⟩)] (W.alloc O) fun e W' => e = .returned (.tuple #[]) ∧ PAt base bS W' bp (endRuleS s) ∧ PFr base bS W W') := fun hk O =>
    (endRule_S base bS bp s _ (hPO.out O).1 hna (h6 hk) hnr).mono (fun e W' ⟨a, b, c⟩ => ⟨a, b, (hPO.out O).2.trans c⟩)
  have hst : Hid (∀ O x, PAt base bS ((W.alloc O).setCell ⟨bp, 0, none⟩ (.int .i64 x)) bp { s with st := x } ∧ PFr base bS W ((W.alloc O).setCell ⟨bp, 0, none⟩ (.int .i64 x))) := fun O x =>
    ⟨((hPO.out O).1.state x).1, (hPO.out O).2.trans ((hPO.out O).1.state x).2⟩
  clear hP h3 h6 hm hbl
  unfold tokV tokC at hword ⊢
  by_cases k1 : k = 1 ∨ k = 2
  · have hfin : Hid (addS s k t = addWordS s k t) := by show _ = _; unfold addS; rw [if_pos k1]
    rcases k1 with rfl | rfl
    all_goals
      go_enter Tryd.func43, Tryd.ntmps43
      go_wp2_with fail
      refine (hword.out (by first | exact .inl rfl | exact .inr rfl | exact .inl trivial | exact .inr trivial | decide | simp) _).mono ?_
      rintro e W' ⟨rfl, hres⟩
      go_wp2
      go_end0
      rw [hfin.out]
      exact ⟨rfl, hres⟩
  by_cases k3 : k = 3
  · subst k3
    go_enter Tryd.func43, Tryd.ntmps43
    go_wp2
    go_end0
    refine ⟨rfl, ?_⟩
    have := hst.out (.cells #[.int .i64 3, .string t, .int .i64 p, .int .i64 r] 71) 3
    rw [World.setCell_alloc_past _ _ _ _ hbp] at this
    exact this
  by_cases k4 : k = 4
  · subst k4
    go_enter Tryd.func43, Tryd.ntmps43
    go_wp2_with fail
    refine (hend.out _).mono ?_
    rintro e W' ⟨rfl, hres⟩
    go_wp2
    go_end0
    exact ⟨rfl, hres⟩
  by_cases k5 : k = 5
  · subst k5
    go_enter Tryd.func43, Tryd.ntmps43
    go_wp2_with fail
    refine (hcom.out _).mono ?_
    rintro e W' ⟨rfl, hres⟩
    go_wp2
    go_end0
    exact ⟨rfl, hres⟩
  by_cases k7 : k = 7
  · subst k7
    go_enter Tryd.func43, Tryd.ntmps43
    go_wp2
    go_end0
    refine ⟨rfl, ?_⟩
    have := hst.out (.cells #[.int .i64 7, .string t, .int .i64 p, .int .i64 r] 71) 1
    rw [World.setCell_alloc_past _ _ _ _ hbp] at this
    exact this
  by_cases k6 : k = 6
  · subst k6
    go_enter Tryd.func43, Tryd.ntmps43
    go_wp2_with fail
    refine (hrul.out (by trivial) _).mono ?_
    rintro e W' ⟨rfl, hres⟩
    go_wp2
    go_end0
    exact ⟨rfl, hres⟩
  · have hfin : Hid (addS s k t = s) := by show _ = _; unfold addS; simp [k1, k3, k4, k5, k6, k7]
    have n1 : (k == 1) = false := by simp; omega
    have n2 : (k == 2) = false := by simp; omega
    have n3 : (k == 3) = false := by simp; omega
    have n4 : (k == 4) = false := by simp; omega
    have n5 : (k == 5) = false := by simp; omega
    have n6 : (k == 6) = false := by simp; omega
    have n7 : (k == 7) = false := by simp; omega
    clear k1 k3 k4 k5 k6 k7
    go_enter Tryd.func43, Tryd.ntmps43
    go_wp2
    go_end0
    rw [hfin.out]
    exact ⟨rfl, hPO.out _⟩

end Go.Proofs.YtjajnhemgphefaaDoor
