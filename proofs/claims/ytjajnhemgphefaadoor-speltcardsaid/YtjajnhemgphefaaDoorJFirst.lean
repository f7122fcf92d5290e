/-
  tokens.first: the token that a text, not empty, begins with; nothing that lay before is turned. Condition: the two tables of package utf8 hold what their text lays.
-/
import Derived.Test.YtjajnhemgphefaaDoorJWord
import Derived.Test.YtjajnhemgphefaaDoorShelf
import Derived.Deep.RegionWith
namespace Go.Proofs.YtjajnhemgphefaaDoor
open Go.RowKit
set_option linter.unusedVariables false
set_option linter.unusedSimpArgs false

theorem bcell {W w1 : World} (hb : Below W.heap.size W w1) : (∀ b o, b < W.heap.size → w1.cell? ⟨b, o, none⟩ = W.cell? ⟨b, o, none⟩) ∧ (∀ b o, b < W.heap.size → w1.frozen? ⟨b, o, none⟩ = W.frozen? ⟨b, o, none⟩) :=
  ⟨fun b o h => hb.cell (p := ⟨b, o, none⟩) h, fun b o h => hb.frozen (p := ⟨b, o, none⟩) h⟩

/-- The first token of a text: its kind, its bytes, its runes. -/
def firstT (s : ByteArray) : Int × Nat × Nat :=
  if capB (Utf8.decode s 0).1 then (2, (scan s s.size 0 0).1, (scan s s.size 0 0).2)
  else if smallB (Utf8.decode s 0).1 then (1, (scan s s.size 0 0).1, (scan s s.size 0 0).2)
  else if Lib.hasPrefix s.data.toList [58, 45] then (7, 2, 2)
  else (signK (Utf8.decode s 0).1, (Utf8.decode s 0).2, 1)

def tokOf (s : ByteArray) (p : Int) : Value := tokV (firstT s).1 (s.extract 0 (firstT s).2.1) p (firstT s).2.2

theorem pre_extract (s : ByteArray) (h : Lib.hasPrefix s.data.toList [58, 45] = true) : s.extract 0 2 = ⟨#[58, 45]⟩ := by
  have h1 : [58, 45] <+: s.data.toList := by simpa [Lib.hasPrefix] using h
  obtain ⟨t, ht⟩ := h1
  have hs : s = ⟨([58, 45] ++ t).toArray⟩ := by
    cases s; simp at ht; simp [ht]
  rw [hs]
  apply ByteArray.ext
  simp

set_option maxHeartbeats 1000000 in
theorem first_any (s : ByteArray) (w : World) (hs : s.size ≤ maxLen) (h0 : 0 < s.size) (hT : Lib.Utf8Tabs 0 1 w) :
    Calls Tryd.prog 40 #[.string s] w fun e w' => e = .returned (tokOf s 0) ∧ Below w.heap.size w w' := by
  have hdg : Lib.decodeGo s = Utf8.decode s 0 := by
    unfold Lib.decodeGo; rw [if_neg (by omega)]
  have hT1 := Utf8Tabs_below hT ((Below.refl w.heap.size w).alloc (Nat.le_refl _) (.cells #[.int .i64 0, .string ⟨#[]⟩, .int .i64 0, .int .i64 0] 71))
  go_enter Tryd.func40, Tryd.ntmps40
  go_wp2_with fail
  refine (Tryd.utf8_DecodeRuneInString _ _ hT1).mono ?_
  rintro e w1 ⟨rfl, hb1⟩
  rw [hdg]
  generalize hd : Utf8.decode s 0 = d
  obtain ⟨r, wd⟩ := d
  have HD : Hid (Utf8.decode s 0 = (r, wd)) := hd
  clear hd hdg
  obtain ⟨hc1, hf1⟩ := bcell hb1
  have hz1 : w.heap.size < w1.heap.size := by have := hb1.size; simp at this; omega
  by_cases hcap : capB (r : Int) = true
  · go_wp2_with (go_at_call 53; refine (isCapital_any _ _).mono ?_; rintro e w' ⟨rfl, rfl⟩)
    refine (word_any _ _ _ hs).mono ?_
    rintro e w2 ⟨rfl, hb2⟩
    obtain ⟨hc2, hf2⟩ := bcell hb2
    have hz2 : w.heap.size < w2.heap.size := by have := hb2.size; omega
    have hB : Below w.heap.size w w2 := (((Below.refl w.heap.size w).alloc (Nat.le_refl _) _).trans (hb1.mono (by simp))).trans (hb2.mono (by omega))
    clear hb1 hb2 hT hT1
    have hfin : Hid (tokOf s 0 = tokV 2 (s.extract 0 (scan s s.size 0 0).1) 0 (scan s s.size 0 0).2) := by
      show tokOf s 0 = _; unfold tokOf firstT; rw [HD.out]; simp [hcap]
    generalize (scan s s.size 0 0).1 = sb at *
    generalize (scan s s.size 0 0).2 = sm at *
    unfold tokV tokC
    go_wp2
    refine bodyPost_ret (v := tokV 2 (s.extract 0 sb) 0 sm) (by simp [results, Tryd.results40, go_sem, tokV, tokC, hc2, hf2, hc1, hf1, hz1, hz2]) rfl ?_
    rw [hfin.out]
    exact ⟨rfl, (((hB.setCell (by simp) _).setCell (by simp) _).setCell (by simp) _).setCell (by simp) _⟩
  have hcap' : capB (r : Int) = false := by simpa using hcap
  clear hcap
  by_cases hsm : smallB (r : Int) = true
  · go_wp2_with (first | (go_at_call 53; refine (isCapital_any _ _).mono ?_; rintro e w' ⟨rfl, rfl⟩) | (go_at_call 55; refine (isSmall_any _ _).mono ?_; rintro e w' ⟨rfl, rfl⟩))
    refine (word_any _ _ _ hs).mono ?_
    rintro e w2 ⟨rfl, hb2⟩
    obtain ⟨hc2, hf2⟩ := bcell hb2
    have hz2 : w.heap.size < w2.heap.size := by have := hb2.size; omega
    have hB : Below w.heap.size w w2 := (((Below.refl w.heap.size w).alloc (Nat.le_refl _) _).trans (hb1.mono (by simp))).trans (hb2.mono (by omega))
    clear hb1 hb2 hT hT1
    have hfin : Hid (tokOf s 0 = tokV 1 (s.extract 0 (scan s s.size 0 0).1) 0 (scan s s.size 0 0).2) := by
      show tokOf s 0 = _; unfold tokOf firstT; rw [HD.out]; simp [hcap', hsm]
    generalize (scan s s.size 0 0).1 = sb at *
    generalize (scan s s.size 0 0).2 = sm at *
    unfold tokV tokC
    go_wp2
    refine bodyPost_ret (v := tokV 1 (s.extract 0 sb) 0 sm) (by simp [results, Tryd.results40, go_sem, tokV, tokC, hc2, hf2, hc1, hf1, hz1, hz2]) rfl ?_
    rw [hfin.out]
    exact ⟨rfl, (((hB.setCell (by simp) _).setCell (by simp) _).setCell (by simp) _).setCell (by simp) _⟩
  have hsm' : smallB (r : Int) = false := by simpa using hsm
  clear hsm
  have hwl : wd ≤ s.size := by have := Lib.width_le s h0; rw [HD.out] at this; exact this
  have hB : Below w.heap.size w w1 := ((Below.refl w.heap.size w).alloc (Nat.le_refl _) _).trans (hb1.mono (by simp))
  clear hb1 hT hT1
  unfold maxLen at hs
  by_cases hpre : Lib.hasPrefix s.data.toList [58, 45] = true
  · have hfin : Hid (tokOf s 0 = tokV 7 ⟨#[58, 45]⟩ 0 2) := by
      show tokOf s 0 = _
      unfold tokOf firstT; rw [HD.out]; simp only [hcap', hsm', hpre, Bool.false_eq_true, if_false, if_true]
      rw [pre_extract s hpre]; rfl
    clear HD
    go_wp2_with (first | (go_at_call 53; refine (isCapital_any _ _).mono ?_; rintro e w' ⟨rfl, rfl⟩) | (go_at_call 55; refine (isSmall_any _ _).mono ?_; rintro e w' ⟨rfl, rfl⟩) | (go_at_call 56; refine (Tryd.strings_HasPrefix _ _ _).mono ?_; rintro e w' ⟨rfl, rfl⟩))
    refine bodyPost_ret (v := tokV 7 ⟨#[58, 45]⟩ 0 2) (by simp [results, Tryd.results40, go_sem, tokV, tokC, hc1, hf1, hz1]) rfl ?_
    rw [hfin.out]
    exact ⟨rfl, (((hB.setCell (by simp) _).setCell (by simp) _).setCell (by simp) _).setCell (by simp) _⟩
  · have hpre' : Lib.hasPrefix s.data.toList [58, 45] = false := by simpa using hpre
    clear hpre
    have hfin : Hid (tokOf s 0 = tokV (signK r) (s.extract 0 wd) 0 1) := by
      show tokOf s 0 = _
      unfold tokOf firstT; rw [HD.out]; simp [hcap', hsm', hpre']
    clear HD
    go_wp2_with (first | (go_at_call 53; refine (isCapital_any _ _).mono ?_; rintro e w' ⟨rfl, rfl⟩) | (go_at_call 55; refine (isSmall_any _ _).mono ?_; rintro e w' ⟨rfl, rfl⟩) | (go_at_call 56; refine (Tryd.strings_HasPrefix _ _ _).mono ?_; rintro e w' ⟨rfl, rfl⟩))
    go_region_with (go_at_call 57; refine (signKind_any _ _).mono ?_; rintro e w' ⟨rfl, rfl⟩)
    all_goals
      go_wp2
      refine bodyPost_ret (v := tokV (signK r) (s.extract 0 wd) 0 1) (by simp [results, Tryd.results40, go_sem, tokV, tokC, hc1, hf1, hz1]) rfl ?_
      rw [hfin.out]
      exact ⟨rfl, ((((hB.setCell (by simp) _).setCell (by simp) _).setCell (by simp) _).setCell (by simp) _).drew⟩

end Go.Proofs.YtjajnhemgphefaaDoor
