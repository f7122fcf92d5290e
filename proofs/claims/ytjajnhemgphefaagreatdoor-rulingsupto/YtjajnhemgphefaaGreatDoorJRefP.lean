/-
  The document's own answer: has a body a variable? names, and a name more.
-/
import Derived.Test.YtjajnhemgphefaaGreatDoorJRefO
namespace Go.Proofs.YtjajnhemgphefaaGreatDoor
open Go.RowKit Go.Shelf
set_option linter.unusedVariables false
set_option linter.unusedSimpArgs false

set_option maxRecDepth 100000 in
set_option maxHeartbeats 4000000 in
theorem added_any (B : Nat) (v : Value) (vs : List ByteArray) (x : ByteArray) (w : World) (hB : B ≤ w.heap.size) (hl : vs.length ≤ 1000000) (hown : w.ownsRow B 9 1 v vs.length (vs.map Value.string)) :
    Calls Tryz.prog 119 #[v, .string x] w fun e w' => ∃ v', e = .returned v' ∧ w'.ownsRow B 9 1 v' (seenL vs x).length ((seenL vs x).map Value.string) ∧ w.grownBy w' v.ownBlock := by
  obtain ⟨i0, hi, hz0, hz1, hz2⟩ := info_parts Tryz.infoStr
  obtain ⟨a, c, hv⟩ := own_form hown
  have hcells : ∀ (j : Nat) (hj : j < vs.length), ∃ g, a = some ⟨g, 0, none⟩ ∧ w.cell? ⟨g, j, none⟩ = some (.string vs[j]) := by
    intro j hj
    have h2 := hown
    rw [strs_flat] at h2
    obtain ⟨g, cap, e1, e2, e3, e4, e5⟩ := own_get h2 strC_len (by omega)
    rw [hv] at e1
    cases e1
    have := e5 j 0 hj (.string vs[j]) (by decide) rfl
    rw [Nat.mul_one, Nat.add_zero] at this
    exact ⟨g, rfl, this⟩
  subst hv
  have HO : Hid (w.ownsRow B 9 1 (.slice a vs.length c) vs.length (vs.map Value.string)) := hown
  have HC : Hid _ := hcells
  clear hown hcells
  go_enter Tryz.func119, Tryz.ntmps119
  go_wp2
  go_loopw [5] (fun p wr => ∃ i : Nat, p = .int .i64 i ∧ i ≤ vs.length ∧ wr = w ∧ Hid (∀ (j : Nat) (hj : j < vs.length), j < i → sameB x vs[j] = false)) (fun p _ => vs.length - (intOf p).toNat)
  case atStart => exact ⟨0, rfl, Nat.zero_le _, rfl, fun j hj h => by omega⟩
  case round =>
    obtain ⟨i, rfl, hle, rfl, hno⟩ := hrel
    by_cases hlt : i < vs.length
    · obtain ⟨g, rfl, hcell⟩ := HC.out i hlt
      obtain ⟨y, hy⟩ : ∃ y, vs[i] = y := ⟨_, rfl⟩
      rw [hy] at hcell
      have HY : Hid (vs[i] = y) := hy
      clear hy
      by_cases hs : sameB x y = true
      · have hN := seenN_hit vs x i hlt (by rw [HY.out]; exact hs) hno.out
        have HN : Hid _ := hN
        clear hN
        unfold sameB at hs
        go_wp2
        go_ret
        have hL : seenL vs x = vs := by unfold seenL; rw [if_pos (by rw [HN.out]; exact hlt)]
        rw [hL]
        exact ⟨_, rfl, HO.out, World.grownBy.refl _ _⟩
      · have hs' : sameB x y = false := by simpa using hs
        have hno' : Hid (∀ (j : Nat) (hj : j < vs.length), j < i + 1 → sameB x vs[j] = false) := by
          intro j hj hji
          by_cases e : j = i
          · subst e; rw [HY.out]; exact hs'
          · exact hno.out j hj (by omega)
        unfold sameB at hs'
        clear hs
        go_wp2
        go_roundw
        case rel => exact ⟨i + 1, by go_num, by omega, by trivial, hno'⟩
        case measure => simp [intOf]; omega
    · have hN := seenN_miss vs x (fun j hj => hno.out j hj (by omega))
      have hL : seenL vs x = vs ++ [x] := by unfold seenL; rw [if_neg (by omega)]
      have HL : Hid (seenL vs x = vs ++ [x]) := hL
      have hc3 : vs.length + 1 ≤ maxLen := by unfold maxLen; omega
      have hc4 : (vs.length + 1) * 16 ≤ 140737488355328 := by omega
      have hc5 : Hid (∀ O, B ≤ (wr.alloc O).heap.size) := fun O => by simp; omega
      have h1c : ∀ u ∈ [Value.string x], u.oneCell' = true := by simp [Value.oneCell']
      clear hN hL
      go_wp2_with (at_builtin; refine wpList_append_own _ rfl (.tmp 19) (.tmp 21) 22 rfl B 9 i0 (.string ⟨#[]⟩) 1 16 Tryz.underlying22 hi hz0 hz1 hz2 rfl (by decide) _ _ _ rfl (HO.out.alloc _) ⟨wr.heap.size, 0, none⟩ 1 1 [.string x] rfl rfl (one_new _ _ _) h1c hc3 hc4 (hc5.out _) ?_; intro v' w1 hown1 hgrow1 _)
      go_ret
      rw [HL.out]
      refine ⟨_, rfl, ?_, ?_⟩
      · simpa using hown1
      · exact ⟨hgrow1.os, hgrow1.tape, hgrow1.output, by have := hgrow1.size; simp at this; omega, fun k hk hn => (hgrow1.block k (by simp; omega) hn).trans (Below.heap_alloc _ _ _ hk)⟩

def tmIs (n : Nat) (t : Tm) : Bool := t.name.toList.isEmpty && decide (t.num = n)
def boundR (bd : List Am) (n : Nat) : Bool := bd.any (fun a => a.args.any (tmIs n))

set_option maxRecDepth 100000 in
set_option maxHeartbeats 8000000 in
theorem bound_any (q : Rl × Value × Value) (ps : List (Am × Value)) (n : Nat) (w : World) (hp : AtomsIn w q.2.2 ps) (hA : AtomV w (q.1.head, q.2.1)) (hps : ps.map (·.1) = q.1.body) (hl : ps.length ≤ 1000) (hn : n ≤ 1000000) (hm : ∀ p ∈ ps, p.1.args.length ≤ 1000000 ∧ ∀ t ∈ p.1.args, t.num ≤ 1000000) :
    Calls Tryz.prog 179 #[rlV q, .int .i64 n] w fun e w' => e = .returned (.bool (boundR q.1.body n)) ∧ Below w.heap.size w w' := by
  rw [← hps]
  unfold rlV
  obtain ⟨a1, a2, hq1⟩ := own_form hA
  simp only at hq1
  obtain ⟨b1, b2, hq2⟩ := own_form hp.row
  rw [hq1]
  rw [hq2] at hp ⊢
  clear hps hq1 hq2
  generalize q.1.head.rel = hrl at *
  generalize q.1.head.args.length = hal at *
  have HP : Hid (∀ O, AtomsIn (w.alloc O) (.slice b1 ps.length b2) ps) := fun O => hp.below ((Below.refl _ w).alloc (Nat.le_refl _) O)
  have hbw : Hid (∀ O, Below w.heap.size w (w.alloc O)) := fun O => (Below.refl _ w).alloc (Nat.le_refl _) O
  clear hp hA
  go_enter Tryz.func179, Tryz.ntmps179
  go_wp2
  go_loopw [5] (fun p wr => ∃ i : Nat, p = .int .i64 i ∧ i ≤ ps.length ∧ wr = w.alloc (.cells #[.string hrl, .slice a1 hal a2, .slice b1 ps.length b2] 148) ∧ Hid (boundR ((ps.drop i).map (·.1)) n = boundR (ps.map (·.1)) n)) (fun p _ => ps.length - (intOf p).toNat)
  case atStart => exact ⟨0, rfl, Nat.zero_le _, rfl, rfl⟩
  case round =>
    obtain ⟨i, rfl, hle, rfl, hsp⟩ := hrel
    by_cases hlt : i < ps.length
    · obtain ⟨g, cap, e1, hg, c0, c1, ⟨x1, x2, hx⟩, hAV⟩ := (HP.out (.cells #[.string hrl, .slice a1 hal a2, .slice b1 ps.length b2] 148)).cell i hlt
      cases e1
      rw [List.drop_eq_getElem_cons hlt] at hsp
      have hmi := hm ps[i] (List.getElem_mem hlt)
      rw [hx] at c1
      generalize ps[i] = p at *
      simp only [List.map_cons, boundR, List.any_cons] at hsp
      have hcl : Hid (∀ (j : Nat) (hj : j < p.1.args.length), ∃ g2, x1 = some ⟨g2, 0, none⟩ ∧ (w.alloc (.cells #[.string hrl, .slice a1 hal a2, .slice (some ⟨g, 0, none⟩) ps.length b2] 148)).cell? ⟨g2, j * 2, none⟩ = some (.string p.1.args[j].name) ∧ (w.alloc (.cells #[.string hrl, .slice a1 hal a2, .slice (some ⟨g, 0, none⟩) ps.length b2] 148)).cell? ⟨g2, j * 2 + 1, none⟩ = some (.int .i64 p.1.args[j].num)) := by
        intro j hj
        obtain ⟨g2, cap2, e2, _, d0, d1⟩ := hAV.cell j hj
        rw [hx] at e2; cases e2
        exact ⟨g2, rfl, d0, d1⟩
      have HSP : Hid ((p.1.args.any (tmIs n) || boundR ((ps.drop (i + 1)).map (·.1)) n) = boundR (ps.map (·.1)) n) := hsp
      obtain ⟨hm1, hm2⟩ := hmi
      clear hsp hAV hx c0
      generalize p.1.args = args at *
      go_wp2
      go_loopw [6] (fun p wr => ∃ k : Nat, p = .int .i64 k ∧ k ≤ args.length ∧ wr = w.alloc (.cells #[.string hrl, .slice a1 hal a2, .slice (some ⟨g, 0, none⟩) ps.length b2] 148) ∧ Hid (((args.drop k).any (tmIs n) || boundR ((ps.drop (i + 1)).map (·.1)) n) = boundR (ps.map (·.1)) n)) (fun p _ => args.length - (intOf p).toNat)
      case atStart => exact ⟨0, rfl, Nat.zero_le _, rfl, HSP⟩
      case round =>
        obtain ⟨k, rfl, hkle, rfl, hsk⟩ := hrel
        by_cases hkl : k < args.length
        · obtain ⟨g2, rfl, d0, d1⟩ := hcl.out k hkl
          have hm3 := hm2 args[k] (List.getElem_mem hkl)
          rw [List.drop_eq_getElem_cons hkl] at hsk
          generalize args[k] = tm at *
          obtain ⟨nm, nu⟩ := tm
          simp only [List.any_cons] at hsk d0 d1 hm3
          by_cases h1 : nm.toList.isEmpty = true
          · by_cases h2 : nu = n
            · subst h2
              have hT : tmIs nu ⟨nm, nu⟩ = true := by unfold tmIs; simp [h1]
              rw [hT] at hsk
              go_wp2
              go_ret
              rw [← hsk.out]
              exact ⟨by simp, hbw.out _⟩
            · have hT : tmIs n ⟨nm, nu⟩ = false := by unfold tmIs; simp [h2]
              rw [hT] at hsk
              have m2 : ((nu : Int) == (n : Int)) = false := by simp; omega
              go_wp2
              go_roundw
              case rel => exact ⟨k + 1, by go_num, by omega, by trivial, by simpa using hsk⟩
              case measure => simp [intOf]; omega
          · have h1' : nm.toList.isEmpty = false := by simpa using h1
            have hT : tmIs n ⟨nm, nu⟩ = false := by unfold tmIs; simp [h1']
            rw [hT] at hsk
            clear h1
            go_wp2
            go_roundw
            case rel => exact ⟨k + 1, by go_num, by omega, by trivial, by simpa using hsk⟩
            case measure => simp [intOf]; omega
        · rw [List.drop_eq_nil_of_le (by omega)] at hsk
          simp only [List.any_nil, Bool.false_or] at hsk
          go_wp2
          go_roundw
          case rel => exact ⟨i + 1, by go_num, by omega, by trivial, hsk⟩
          case measure => simp [intOf]; omega
    · rw [List.drop_eq_nil_of_le (by omega)] at hsp
      go_wp2
      go_ret
      rw [← hsp.out]
      exact ⟨rfl, hbw.out _⟩

end Go.Proofs.YtjajnhemgphefaaGreatDoor
