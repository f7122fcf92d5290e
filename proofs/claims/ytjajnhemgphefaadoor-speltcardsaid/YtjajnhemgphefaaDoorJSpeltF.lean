/-
  The statement's function Spelt answers true, whatever it is handed.
-/
import Derived.Test.YtjajnhemgphefaaDoorJSpelt
namespace Go.Proofs.YtjajnhemgphefaaDoor
open Go.RowKit Go.Shelf
set_option linter.unusedVariables false
set_option linter.unusedSimpArgs false

/-- The canonical text, written out. -/
theorem canon_arr : (⟨canonL.toArray⟩ : ByteArray) = ⟨#[112, 97, 116, 104, 40, 88, 48, 44, 88, 49, 41, 32, 58, 45, 32, 101, 100, 103, 101, 40, 88, 48, 44, 88, 49, 41, 46, 10, 112, 97, 116, 104, 40, 88, 48, 44, 88, 49, 41, 32, 58, 45, 32, 112, 97, 116, 104, 40, 88, 48, 44, 88, 50, 41, 44, 32, 101, 100, 103, 101, 40, 88, 50, 44, 88, 49, 41, 46, 10]⟩ := rfl

theorem rules_canon (w : World) (hT : Lib.Utf8Tabs 0 1 w) :
    Calls Tryd.prog 6 #[.string ⟨canonL.toArray⟩] w fun e w' => e = .returned (.tuple #[.string ⟨canonL.toArray⟩, .int .i64 0, .int .i64 0]) ∧ Below w.heap.size w w' := by
  have h := rules_any ⟨canonL.toArray⟩ w (by decide) hT
  have e : rulesR ⟨canonL.toArray⟩ = (canonL, 0, 0) := canon_ok
  rw [e] at h
  exact h

theorem spelt_good (raw : Value) (zs : List Int) (v : Int) (w : World) (h0 : 0 ≤ v) (h3 : v ≤ 3)
    (hgap : ∀ (W : World) (k : Nat), k < 35 → Below w.heap.size w W → Calls Tryd.prog 7 #[raw, .int .i64 k] W fun e w' => e = .returned (.string (B (gapF zs k))) ∧ ∃ q, w' = W.drewN q) :
    Calls Tryd.prog 5 #[raw, .int .i64 v, .int .i64 (-1)] w fun e w' => ∃ (s : ByteArray) (p : Int), e = .returned (.tuple #[.string s, .int .i64 p]) ∧ s.size ≤ 300 ∧ rulesR s = (canonL, 0, 0) ∧ Below w.heap.size w w' := by
  refine (spelt_any raw zs v none w h0 h3 hgap).mono fun e w' h => ?_
  refine ⟨_, _, h.1, ?_, ?_, h.2⟩
  · rw [sT_eq _ _ _ 35 (Nat.le_refl _)]
    exact (rc_mk (nmOf v) none (gapF zs) [] (fun i => (gapF_ok zs i).2) (by decide) codes1 (by decide)).2
  · rw [sT_eq _ _ _ 35 (Nat.le_refl _)]
    exact spelt_ok (nmOf v) (gapF zs) (fun i => (gapF_ok zs i).1) (fun i => (gapF_ok zs i).2)

theorem spelt_wrong (raw : Value) (zs : List Int) (v : Int) (b : Nat) (hb : b < 35) (w : World) (h0 : 0 ≤ v) (h3 : v ≤ 3)
    (hgap : ∀ (W : World) (k : Nat), k < 35 → Below w.heap.size w W → Calls Tryd.prog 7 #[raw, .int .i64 k] W fun e w' => e = .returned (.string (B (gapF zs k))) ∧ ∃ q, w' = W.drewN q) :
    Calls Tryd.prog 5 #[raw, .int .i64 v, .int .i64 b] w fun e w' => ∃ (s : ByteArray) (p : Int), e = .returned (.tuple #[.string s, .int .i64 p]) ∧ s.size ≤ 300 ∧ rulesR s = ([], 2, p) ∧ Below w.heap.size w w' := by
  refine (spelt_any raw zs v (some b) w h0 h3 hgap).mono fun e w' h => ?_
  refine ⟨_, _, h.1, ?_, ?_, h.2⟩
  · rw [sT_eq _ _ _ 35 (Nat.le_refl _)]
    exact (rc_mk (nmOf v) (some b) (gapF zs) [] (fun i => (gapF_ok zs i).2) (by decide) codes1 (by decide)).2
  · rw [sT_eq _ _ _ 35 (Nat.le_refl _)]
    have hp : pT (nmOf v) (some b) (gapF zs) 35 = wid (mkL (nmOf v) (some b) (gapF zs) 0 (codes1.take b)) + (gapF zs b).length := by
      simp only [pT]
      rw [if_pos hb, aT_eq _ _ _ b (by omega)]
    rw [hp]
    exact spelt_bad (nmOf v) (gapF zs) (fun i => (gapF_ok zs i).1) (fun i => (gapF_ok zs i).2) b hb

set_option maxHeartbeats 4000000 in
theorem speltF_any (raw : Value) (zs : List Int) (nm bd : Int) (w : World) (hT : Lib.Utf8Tabs 0 1 w)
    (hn1 : -9223372036854775808 ≤ nm) (hn2 : nm ≤ 9223372036854775807) (hb1 : -9223372036854775808 ≤ bd) (hb2 : bd ≤ 9223372036854775807)
    (hgap : ∀ (W : World) (k : Nat), k < 35 → Below w.heap.size w W → Calls Tryd.prog 7 #[raw, .int .i64 k] W fun e w' => e = .returned (.string (B (gapF zs k))) ∧ ∃ q, w' = W.drewN q) :
    Calls Tryd.prog 3 #[raw, .int .i64 nm, .int .i64 bd] w fun e w' => e = .returned (.bool true) ∧ Below w.heap.size w w' := by
  have hv := pickZ_bounds nm 4 (by decide)
  have hb := pickZ_bounds bd 35 (by decide)
  have hp := pick_any nm 4 w hn1 hn2 (by decide) (by decide)
  have hpb := fun W => pick_any bd 35 W hb1 hb2 (by decide) (by decide)
  obtain ⟨b, hbe⟩ : ∃ b : Nat, pickZ bd 35 = (b : Int) := ⟨(pickZ bd 35).toNat, by omega⟩
  rw [hbe] at hb hpb
  generalize pickZ nm 4 = v at hv hp
  have HP : Hid _ := hp
  have HPb : Hid _ := hpb
  have HS1 : Hid _ := spelt_good raw zs v w (by omega) (by omega) hgap
  have HS2 : Hid (∀ W, Below w.heap.size w W → Calls Tryd.prog 5 #[raw, .int .i64 v, .int .i64 b] W fun e w' => ∃ (s : ByteArray) (p : Int), e = .returned (.tuple #[.string s, .int .i64 p]) ∧ s.size ≤ 300 ∧ rulesR s = ([], 2, p) ∧ Below w.heap.size w w') := by
    intro W hW
    refine (spelt_wrong raw zs v b (by omega) W (by omega) (by omega) (fun X k hk hX => hgap X k hk (hW.trans (hX.mono hW.size)))).mono fun e w' h => ?_
    obtain ⟨s, p, r1, r2, r3, r4⟩ := h
    exact ⟨s, p, r1, r2, r3, hW.trans (r4.mono hW.size)⟩
  have HR : Hid (∀ (s : ByteArray) (W : World), s.size ≤ 300 → Below w.heap.size w W → ∀ x, rulesR s = x → Calls Tryd.prog 6 #[.string s] W fun e w' => e = .returned (.tuple #[.string ⟨x.1.toArray⟩, .int .i64 x.2.1, .int .i64 x.2.2]) ∧ Below w.heap.size w w') := by
    intro s W hs hW x hx
    subst hx
    exact (rules_any s W (by omega) (Utf8Tabs_below hT hW)).mono fun e w' h => ⟨h.1, hW.trans (h.2.mono hW.size)⟩
  have HRc : Hid (∀ (W : World), Below w.heap.size w W → Calls Tryd.prog 6 #[.string ⟨canonL.toArray⟩] W fun e w' => e = .returned (.tuple #[.string ⟨canonL.toArray⟩, .int .i64 0, .int .i64 0]) ∧ Below w.heap.size w w') := by
    intro W hW
    exact (rules_canon W (Utf8Tabs_below hT hW)).mono fun e w' h => ⟨h.1, hW.trans (h.2.mono hW.size)⟩
  have H0 : Hid (Below w.heap.size w w) := Below.refl _ _
  clear hT hgap hn1 hn2 hb1 hb2 hp hpb hv hb hbe
  obtain ⟨w0, hw0⟩ : ∃ w0, w0 = w := ⟨w, rfl⟩
  have hgoal : Calls Tryd.prog 3 #[raw, .int .i64 nm, .int .i64 bd] w fun e w' => e = .returned (.bool true) ∧ Below w.heap.size w w' := by
    generalize hQ : Below w.heap.size w = Q at HS1 HS2 HR HRc H0 ⊢
    have HQ : Hid _ := hQ
    clear hQ hw0 w0 HQ
    go_enter Tryd.func3, Tryd.ntmps3
    go_wp2_with fail
    refine Calls.mono HP.out ?_
    rintro e w1 ⟨rfl, rfl⟩
    clear HP
    go_wp2_with fail
    refine Calls.mono HS1.out ?_
    rintro e w2 ⟨s, p, rfl, hs, hr, hq⟩
    have HQ2 : Hid _ := hq
    have HC : Hid _ := HR.out s w2 hs hq _ hr
    clear HS1 hs hr hq
    go_wp2_with fail
    refine Calls.mono HC.out ?_
    rintro e w3 ⟨rfl, hq⟩
    have HC3 : Hid _ := HRc.out w3 hq
    have HQ3 : Hid _ := hq
    clear HC hq
    go_wp2_with fail
    refine Calls.mono HC3.out ?_
    rintro e w4 ⟨rfl, hq⟩
    have HQ4 : Hid _ := hq
    clear HC3 hq
    rw [canon_arr]
    go_wp2_with fail
    refine Calls.mono (HPb.out w4) ?_
    rintro e w5 ⟨rfl, rfl⟩
    clear HPb
    go_wp2_with fail
    refine Calls.mono (HS2.out _ HQ4.out) ?_
    rintro e w6 ⟨s2, p2, rfl, hs, hr, hq⟩
    have HC : Hid _ := HR.out s2 w6 hs hq _ hr
    clear HS2 hs hr hq HQ4 HQ3 HQ2
    go_wp2_with fail
    refine Calls.mono HC.out ?_
    rintro e w7 ⟨rfl, hq⟩
    have HQ7 : Hid _ := hq
    clear HC hq
    go_wp2_with fail
    go_ret
    exact ⟨rfl, HQ7.out⟩
  exact hgoal

end Go.Proofs.YtjajnhemgphefaaDoor
