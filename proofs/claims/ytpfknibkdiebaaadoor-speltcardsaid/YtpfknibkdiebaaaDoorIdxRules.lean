/-
  The search for the first rule that is loose.
-/
import Derived.Test.YtpfknibkdiebaaaDoorLoose3
namespace Go.Proofs.YtpfknibkdiebaaaDoor
open Go.RowKit Go.Shelf
set_option linter.unusedVariables false
set_option linter.unusedSimpArgs false

def firstFrom (p : ARule → Bool) : Nat → List ARule → Int
  | _, [] => -1
  | i, r :: rs => if p r = true then i else firstFrom p (i + 1) rs
def firstLoose (rs : List ARule) : Int := firstFrom looseB 0 rs

theorem firstFrom_skip (p : ARule → Bool) : ∀ (rs : List ARule) (i k : Nat), k ≤ rs.length → (∀ j, (hj : j < rs.length) → j < k → p rs[j] = false) → firstFrom p i rs = firstFrom p (i + k) (rs.drop k)
  | rs, i, 0, _, _ => by simp
  | [], i, k + 1, h, _ => by simp at h
  | r :: rs, i, k + 1, h, hn => by
    have h0 := hn 0 (by simp) (by omega)
    simp only [List.getElem_cons_zero] at h0
    rw [firstFrom, if_neg (by simp [h0]), List.drop_succ_cons, firstFrom_skip p rs (i + 1) k (by simpa using h) (fun j hj hk => by
      have := hn (j + 1) (by simp; omega) (by omega)
      simpa using this)]
    congr 1; omega

theorem firstFrom_here (p : ARule → Bool) (rs : List ARule) (k : Nat) (hk : k < rs.length) (hn : ∀ j, (hj : j < rs.length) → j < k → p rs[j] = false) (h : p rs[k] = true) : firstFrom p 0 rs = k := by
  rw [firstFrom_skip p rs 0 k (by omega) hn, List.drop_eq_getElem_cons hk, firstFrom, if_pos h]
  simp

theorem firstFrom_none (p : ARule → Bool) (rs : List ARule) (hn : ∀ j, (hj : j < rs.length) → p rs[j] = false) : firstFrom p 0 rs = -1 := by
  rw [firstFrom_skip p rs 0 rs.length (by omega) (fun j hj _ => hn j hj), List.drop_length]; rfl

set_option maxHeartbeats 1000000 in
theorem idxRules_any (v : Value) (rs : List ARule) (base b45 b87 : Nat) (w : World) (hR : RulesAt w base b45 b87 v rs) (hrow : ∀ g, v.ownBlock = some g → g < w.heap.size) (h8 : rs.length ≤ 8) (hok : ∀ r ∈ rs, RuleOk r) :
    Calls Tryd.prog 19 #[v, .func (.func 20) #[] #[]] w fun e w' => e = .returned (.int .i64 (firstLoose rs)) ∧ Below w.heap.size w w' := by
  obtain ⟨a, c, hform⟩ := hR.form
  have hcell : ∀ k (hk : k < rs.length), ∃ g v0 vb, a = some ⟨g, 0, none⟩ ∧ w.cell? ⟨g, k * 3, none⟩ = some (.string (rs[k]).head.rel) ∧ w.cell? ⟨g, k * 3 + 1, none⟩ = some v0 ∧ w.cell? ⟨g, k * 3 + 2, none⟩ = some vb ∧ RuleV w b45 b87 rs[k] v0 vb ∧ g < w.heap.size := by
    intro k hk
    obtain ⟨g, c', v0, vb, h1, h2, h3, h4, h5⟩ := rules_cell hR hk
    have hg := hrow g (by rw [h1]; rfl)
    rw [hform] at h1; cases h1
    exact ⟨g, v0, vb, rfl, h2, h3, h4, h5, hg⟩
  subst hform
  have HC : Hid _ := hcell
  have HOK : Hid _ := hok
  clear hcell hR hok hrow
  go_enter Tryd.func19, Tryd.ntmps19
  go_wp2
  go_loopw [8] (fun i wr => ∃ k : Nat, k ≤ rs.length ∧ i = .int .i64 k ∧ Hid (∀ j, (hj : j < rs.length) → j < k → looseB rs[j] = false) ∧ Below w.heap.size w wr) (fun i _ => rs.length - (intOf i).toNat)
  case atStart => exact ⟨0, Nat.zero_le _, rfl, fun j _ hj => by omega, Below.refl _ _⟩
  case round =>
    obtain ⟨k, hk, rfl, hno, hb⟩ := hrel
    by_cases hlt : k < rs.length
    · obtain ⟨g, v0, vb, rfl, q0, q1, q2, hv, hg⟩ := HC.out k hlt
      have q0' := (hb.cell (p := ⟨g, k * 3, none⟩) hg).trans q0
      have q1' := (hb.cell (p := ⟨g, k * 3 + 1, none⟩) hg).trans q1
      have q2' := (hb.cell (p := ⟨g, k * 3 + 2, none⟩) hg).trans q2
      have hcall := isLoose_any rs[k] v0 vb b45 b87 wr (HOK.out _ (List.getElem_mem hlt)) (hv.rk (RuleKept.ofBelow hb))
      obtain ⟨sa, sc, hsf⟩ := hv.1.form
      obtain ⟨ta, tc, htf⟩ := hv.2.form
      rw [hsf] at hcall q1'
      rw [htf] at hcall q2'
      have i1 : (k : Int) < (rs.length : Int) := by omega
      generalize hbb : looseB rs[k] = bb at *
      have HBB : Hid (looseB rs[k] = bb) := hbb
      clear hbb q0 q1 q2 hv hsf htf
      generalize (rs[k]).head.rel = rel at *
      generalize (rs[k]).head.args.length = m1 at *
      generalize (rs[k]).body.length = m2 at *
      cases bb with
      | true =>
        go_wp2_with fail
        refine hcall.mono ?_
        rintro e w1 ⟨rfl, hb1⟩
        go_wp2
        go_ret
        exact ⟨ret_int (firstFrom_here looseB rs k hlt hno.out HBB.out).symm, hb.trans (hb1.mono hb.size)⟩
      | false =>
        go_wp2_with fail
        refine hcall.mono ?_
        rintro e w1 ⟨rfl, hb1⟩
        go_wp2
        go_roundw
        case rel =>
          refine ⟨k + 1, by omega, by go_num, ?_, hb.trans (hb1.mono hb.size)⟩
          intro j hj hjk
          by_cases e : j = k
          · subst e; exact HBB.out
          · exact hno.out j hj (by omega)
        case measure => simp [intOf]; omega
    · go_wp2
      go_ret
      exact ⟨ret_int (firstFrom_none looseB rs (fun j hj => hno.out j hj (by omega))).symm, hb⟩

end Go.Proofs.YtpfknibkdiebaaaDoor
