/-
  The statement's own function spelt: the text that it makes is the one of the pieces.
-/
import Derived.Test.YtjajnhemgphefaaDoorJKeep
import Derived.Test.YtjajnhemgphefaaDoorJPure3
import Derived.WalkKit
namespace Go.Proofs.YtjajnhemgphefaaDoor
open Go.RowKit
set_option linter.unusedVariables false
set_option linter.unusedSimpArgs false

def tokB : Cd → ByteArray
  | none => ⟨#[112, 97, 116, 104]⟩
  | some none => ⟨#[101, 100, 103, 101]⟩
  | some (some none) => ⟨#[40]⟩
  | some (some (some none)) => ⟨#[41]⟩
  | some (some (some (some none))) => ⟨#[44]⟩
  | some (some (some (some (some none)))) => ⟨#[46]⟩
  | some (some (some (some (some (some none))))) => ⟨#[58, 45]⟩
  | some (some (some (some (some (some (some none)))))) => ⟨#[48]⟩
  | some (some (some (some (some (some (some (some false))))))) => ⟨#[49]⟩
  | some (some (some (some (some (some (some (some true))))))) => ⟨#[50]⟩
def tokArr : Array Value := (codes1.map (fun c => Value.string (tokB c))).toArray
def cdAt (k : Nat) : Cd := codes1[k]?.getD .dot

theorem tok_cell (w : World) (k : Nat) (hk : k < 35) : (w.alloc (.cells tokArr 9)).cell? ⟨w.heap.size, k, none⟩ = some (.string (tokB (cdAt k))) := by
  have h : tokArr[k]? = some (.string (tokB (cdAt k))) := by
    have hk' : k < codes1.length := hk
    unfold tokArr cdAt
    simp [List.getElem?_eq_getElem hk']
  unfold World.cell?
  simp only [World.alloc_heap_new]
  exact h

section
variable (v : Nm) (bad : Option Nat) (g : Nat → List UInt8)
/-- The text, and its runes, behind the k-th token. -/
def sT : Nat → List UInt8
  | 0 => []
  | k + 1 => sT k ++ g k ++ (if bad = some k then [195, 169] else []) ++ codeB v (cdAt k)
def aT : Nat → Nat
  | 0 => 0
  | k + 1 => aT k + (g k).length + (if bad = some k then 1 else 0) + codeR v (cdAt k)
def pT (k : Nat) : Nat := match bad with
  | some b => if b < k then aT v bad g b + (g b).length else 0
  | none => 0

theorem txt_snoc (c : Cd) : ∀ (cs : List Cd) (i : Nat), txt [] (mkL v bad g i (cs ++ [c])) = txt [] (mkL v bad g i cs) ++ g (i + cs.length) ++ (if bad = some (i + cs.length) then [195, 169] else []) ++ codeB v c
  | [], i => by
    simp only [List.nil_append, List.length_nil, Nat.add_zero]
    unfold mkL mkL
    split <;> simp [txt, pcB, pcC]
  | d :: cs, i => by
    have ih := txt_snoc c cs (i + 1)
    have e : i + 1 + cs.length = i + (d :: cs).length := by simp only [List.length_cons]; omega
    rw [e] at ih
    rw [List.cons_append]
    conv => lhs; unfold mkL
    conv => rhs; unfold mkL
    split <;> simp only [txt, pcB, pcC, ih] <;> simp [List.append_assoc]

theorem wid_snoc (c : Cd) : ∀ (cs : List Cd) (i : Nat), wid (mkL v bad g i (cs ++ [c])) = wid (mkL v bad g i cs) + (g (i + cs.length)).length + (if bad = some (i + cs.length) then 1 else 0) + codeR v c
  | [], i => by
    simp only [List.nil_append, List.length_nil, Nat.add_zero]
    unfold mkL mkL
    split <;> simp [wid, pcB, pcC]
  | d :: cs, i => by
    have ih := wid_snoc c cs (i + 1)
    have e : i + 1 + cs.length = i + (d :: cs).length := by simp only [List.length_cons]; omega
    rw [e] at ih
    rw [List.cons_append]
    conv => lhs; unfold mkL
    conv => rhs; unfold mkL
    split <;> simp only [wid, pcB, pcC, ih] <;> simp <;> omega

theorem take_snoc (k : Nat) (hk : k < 35) : codes1.take (k + 1) = codes1.take k ++ [cdAt k] := by
  have hk' : k < codes1.length := hk
  rw [List.take_add_one, cdAt, List.getElem?_eq_getElem hk']
  simp

theorem sT_eq : ∀ k, k ≤ 35 → sT v bad g k = txt [] (mkL v bad g 0 (codes1.take k))
  | 0, _ => by simp [sT, mkL, txt]
  | k + 1, hk => by
    have hl : (codes1.take k).length = k := by rw [List.length_take]; exact Nat.min_eq_left (by show k ≤ 35; omega)
    rw [take_snoc k (by omega), txt_snoc, hl, Nat.zero_add, ← sT_eq k (by omega)]
    rfl
theorem aT_eq : ∀ k, k ≤ 35 → aT v bad g k = wid (mkL v bad g 0 (codes1.take k))
  | 0, _ => by simp [aT, mkL, wid]
  | k + 1, hk => by
    have hl : (codes1.take k).length = k := by rw [List.length_take]; exact Nat.min_eq_left (by show k ≤ 35; omega)
    rw [take_snoc k (by omega), wid_snoc, hl, Nat.zero_add, ← aT_eq k (by omega)]
    rfl
end

/-- Of which names a number stands. -/
def nmOf (v : Int) : Nm := if v = 0 then .n0 else if v = 1 then .n1 else if v = 2 then .n2 else .n3

theorem word_x (v : Int) (h0 : 0 ≤ v) (h3 : v ≤ 3) : wordZ ((0 + v) % 4) = (B (codeB (nmOf v) .x0), (codeR (nmOf v) .x0 : Int)) ∧ wordZ ((1 + v) % 4) = (B (codeB (nmOf v) .x1), (codeR (nmOf v) .x1 : Int)) ∧ wordZ ((2 + v) % 4) = (B (codeB (nmOf v) .x2), (codeR (nmOf v) .x2 : Int)) := by
  have h : v = 0 ∨ v = 1 ∨ v = 2 ∨ v = 3 := by omega
  rcases h with rfl | rfl | rfl | rfl <;> exact ⟨rfl, rfl, rfl⟩

theorem aT_le (v : Nm) (bad : Option Nat) (g : Nat → List UInt8) (hg : ∀ k, (g k).length ≤ 2) : ∀ k, aT v bad g k ≤ 8 * k
  | 0 => by simp [aT]
  | k + 1 => by
    have h1 := aT_le v bad g hg k
    have h2 := hg k
    have h3 := code_runes v (cdAt k)
    unfold aT
    split <;> omega

theorem B_append (a b : List UInt8) : B (a ++ b) = B a ++ B b := by
  have : (B a ++ B b).data = (B (a ++ b)).data := by rw [ByteArray.data_append]; simp [B]
  cases h : B a ++ B b with | mk d => rw [h] at this; exact congrArg ByteArray.mk this.symm
theorem B_nil_append (b : ByteArray) : b ++ B [] = b := by
  rw [← B_toList b, ← B_append, List.append_nil]
theorem pT_succ (v : Nm) (bad : Option Nat) (g : Nat → List UInt8) (k : Nat) : pT v bad g (k + 1) = if bad = some k then aT v bad g k + (g k).length else pT v bad g k := by
  cases bad with
  | none => simp [pT]
  | some b =>
    simp only [pT, Option.some.injEq]
    by_cases h : b = k
    · subst h; simp
    · by_cases h2 : b < k
      · rw [if_pos (by omega), if_neg h, if_pos h2]
      · rw [if_neg (by omega), if_neg h, if_neg h2]

def badI : Option Nat → Int
  | some b => b
  | none => -1

theorem drewN_below (n : Nat) (W : World) (q : Nat) : Below n W (W.drewN q) := ⟨rfl, rfl, rfl, Nat.le_refl _, fun j hj => rfl⟩
theorem sT_le (v : Nm) (bad : Option Nat) (g : Nat → List UInt8) (hg : ∀ k, (g k).length ≤ 2) : ∀ k, (sT v bad g k).length ≤ 9 * k
  | 0 => by simp [sT]
  | k + 1 => by
    have h1 := sT_le v bad g hg k
    have h2 := hg k
    have h3 := code_len v (cdAt k)
    unfold sT
    split <;> simp <;> omega

theorem kword_at (n : Int) (T : ByteArray) (r : Nat) (h : wordZ n = (T, (r : Int))) (w : World) :
    Calls Tryd.prog 8 #[.int .i64 n] w fun e w' => e = .returned (.tuple #[.string T, .int .i64 r]) ∧ w' = w := by
  have := kword_any n w
  rw [h] at this
  exact this

theorem badI_eq (bad : Option Nat) (k : Nat) : ((k : Int) = badI bad) ↔ bad = some k := by
  cases bad with
  | none => simp [badI]
  | some b => simp [badI]; omega

set_option maxHeartbeats 4000000 in
theorem spelt_any (raw : Value) (zs : List Int) (v : Int) (bad : Option Nat) (w : World) (h0 : 0 ≤ v) (h3 : v ≤ 3)
    (hgap : ∀ (W : World) (k : Nat), k < 35 → Below w.heap.size w W → Calls Tryd.prog 7 #[raw, .int .i64 k] W fun e w' => e = .returned (.string (B (gapF zs k))) ∧ ∃ q, w' = W.drewN q) :
    Calls Tryd.prog 5 #[raw, .int .i64 v, .int .i64 (badI bad)] w fun e w' => e = .returned (.tuple #[.string (B (sT (nmOf v) bad (gapF zs) 35)), .int .i64 (pT (nmOf v) bad (gapF zs) 35)]) ∧ Below w.heap.size w w' := by
  have HG : Hid _ := hgap
  have HW : Hid _ := word_x v h0 h3
  clear hgap
  go_enter Tryd.func5, Tryd.ntmps5
  go_wp2
  change Code.wp _ _ _ _ (w.alloc (Obj.cells tokArr 9))
  have HT : Hid _ := tok_cell w
  have HB : Hid (Below w.heap.size w (w.alloc (Obj.cells tokArr 9))) := (Below.refl w.heap.size w).alloc (Nat.le_refl _) _
  obtain ⟨N, hN⟩ : ∃ N, N = w.heap.size := ⟨_, rfl⟩
  rw [← hN] at HT HB ⊢
  have HGN : Hid (∀ (W : World) (k : Nat), k < 35 → Below N w W → Calls Tryd.prog 7 #[raw, .int .i64 k] W fun e w' => e = .returned (.string (B (gapF zs k))) ∧ ∃ q, w' = W.drewN q) := by rw [hN]; exact HG.out
  clear HG
  have HN : Hid _ := hN
  clear hN
  generalize w.alloc (Obj.cells tokArr 9) = W0 at HT HB ⊢
  have HI : Hid _ := badI_eq bad
  generalize badI bad = bi at HI ⊢
  go_loopw [9, 10, 11, 12] (fun s a p i W => ∃ k q : Nat, k ≤ 35 ∧ s = .string (B (sT (nmOf v) bad (gapF zs) k)) ∧ a = .int .i64 (aT (nmOf v) bad (gapF zs) k) ∧ p = .int .i64 (pT (nmOf v) bad (gapF zs) k) ∧ i = .int .i64 k ∧ W = W0.drewN q) (fun _ _ _ i _ => 35 - (intOf i).toNat)
  case atStart => exact ⟨0, 0, by omega, rfl, rfl, by cases bad <;> rfl, rfl, rfl⟩
  case round =>
    obtain ⟨k, q, hk, rfl, rfl, rfl, rfl, rfl⟩ := hrel
    by_cases hlt : k < 35
    · have hcell := HT.out k hlt
      have HA : Hid _ := aT_le (nmOf v) bad (gapF zs) (fun k => (gapF_ok zs k).2) k
      have hA : aT (nmOf v) bad (gapF zs) k ≤ 300 := by have := HA.out; omega
      have hI := HI.out k
      have HG : Hid _ := HGN.out (W0.drewN q) k hlt (HB.out.trans (drewN_below _ _ _))
      have hgl : (B (gapF zs k)).size ≤ 2 := by rw [size_B]; exact (gapF_ok zs k).2
      have HS1 : Hid (B (sT (nmOf v) bad (gapF zs) (k + 1)) = B (sT (nmOf v) bad (gapF zs) k) ++ B (gapF zs k) ++ B (if bad = some k then [195, 169] else []) ++ B (codeB (nmOf v) (cdAt k))) := by
        show _ = _
        rw [← B_append, ← B_append, ← B_append]; rfl
      have HA1 : Hid (aT (nmOf v) bad (gapF zs) (k + 1) = aT (nmOf v) bad (gapF zs) k + (B (gapF zs k)).size + (if bad = some k then 1 else 0) + codeR (nmOf v) (cdAt k)) := by
        show _ = _
        rw [size_B]; rfl
      have HP1 : Hid (pT (nmOf v) bad (gapF zs) (k + 1) = if bad = some k then aT (nmOf v) bad (gapF zs) k + (B (gapF zs k)).size else pT (nmOf v) bad (gapF zs) k) := by
        show _ = _
        rw [size_B]; exact pT_succ _ _ _ _
      clear HA
      have hss : (B (sT (nmOf v) bad (gapF zs) k)).size ≤ 400 := by
        have := sT_le (nmOf v) bad (gapF zs) (fun k => (gapF_ok zs k).2) k
        rw [size_B]; omega
      have hts : (B (codeB (nmOf v) (cdAt k))).size ≤ 5 := by rw [size_B]; exact code_len _ _
      have htr := code_runes (nmOf v) (cdAt k)
      generalize B (sT (nmOf v) bad (gapF zs) k) = S at hss HS1 ⊢
      generalize aT (nmOf v) bad (gapF zs) k = a at hA HA1 HP1 ⊢
      generalize pT (nmOf v) bad (gapF zs) k = p at HP1 ⊢
      generalize B (gapF zs k) = G at hgl HS1 HA1 HP1 HG ⊢
      have hsg : (S ++ G).size ≤ 402 := by rw [ByteArray.size_append]; omega
      have hse : (S ++ G ++ (⟨#[195, 169]⟩ : ByteArray)).size ≤ 404 := by rw [ByteArray.size_append]; have : (⟨#[195, 169]⟩ : ByteArray).size = 2 := rfl; omega
      have hsT : (S ++ G ++ B (codeB (nmOf v) (cdAt k))).size ≤ 410 := by rw [ByteArray.size_append]; omega
      have hsT2 : (S ++ G ++ (⟨#[195, 169]⟩ : ByteArray) ++ B (codeB (nmOf v) (cdAt k))).size ≤ 410 := by rw [ByteArray.size_append]; omega
      generalize cdAt k = c at hcell HS1 HA1 hts htr hsT hsT2
      rcases c with _ | _ | _ | _ | _ | _ | _ | _ | _ | _ <;> simp only [tokB] at hcell
      · skip
        by_cases hb : bi = (k : Int)
        · subst hb
          have HB' : Hid _ := hI.1 rfl
          clear hI HI
          go_wp2_with fail
          refine Calls.mono HG.out ?_
          rintro e w1 ⟨rfl, q1, rfl⟩
          clear HG
          go_wp2_with fail
          go_roundw
          case rel =>
            have e1 := HS1.out
            have e2 := HA1.out
            have e3 := HP1.out
            rw [if_pos HB'.out] at e1 e2 e3
            refine ⟨k + 1, q + q1, by omega, ?_, ?_, ?_, by go_num, rfl⟩
            · rw [e1]; rfl
            · rw [e2]; simp [codeR]
            · rw [e3]; simp
          case measure => simp [intOf]; omega
        · have hbf : ((k : Int) == bi) = false := by simp; omega
          have HB' : Hid (¬ bad = some k) := fun e => hb (hI.2 e).symm
          clear hI HI hb
          go_wp2_with fail
          refine Calls.mono HG.out ?_
          rintro e w1 ⟨rfl, q1, rfl⟩
          clear HG
          go_wp2_with fail
          go_roundw
          case rel =>
            have e1 := HS1.out
            have e2 := HA1.out
            have e3 := HP1.out
            rw [if_neg HB'.out] at e1 e2 e3
            refine ⟨k + 1, q + q1, by omega, ?_, ?_, ?_, by go_num, rfl⟩
            · rw [e1, B_nil_append]; rfl
            · rw [e2]; simp [codeR]
            · rw [e3]
          case measure => simp [intOf]; omega
      · skip
        by_cases hb : bi = (k : Int)
        · subst hb
          have HB' : Hid _ := hI.1 rfl
          clear hI HI
          go_wp2_with fail
          refine Calls.mono HG.out ?_
          rintro e w1 ⟨rfl, q1, rfl⟩
          clear HG
          go_wp2_with fail
          go_roundw
          case rel =>
            have e1 := HS1.out
            have e2 := HA1.out
            have e3 := HP1.out
            rw [if_pos HB'.out] at e1 e2 e3
            refine ⟨k + 1, q + q1, by omega, ?_, ?_, ?_, by go_num, rfl⟩
            · rw [e1]; rfl
            · rw [e2]; simp [codeR]
            · rw [e3]; simp
          case measure => simp [intOf]; omega
        · have hbf : ((k : Int) == bi) = false := by simp; omega
          have HB' : Hid (¬ bad = some k) := fun e => hb (hI.2 e).symm
          clear hI HI hb
          go_wp2_with fail
          refine Calls.mono HG.out ?_
          rintro e w1 ⟨rfl, q1, rfl⟩
          clear HG
          go_wp2_with fail
          go_roundw
          case rel =>
            have e1 := HS1.out
            have e2 := HA1.out
            have e3 := HP1.out
            rw [if_neg HB'.out] at e1 e2 e3
            refine ⟨k + 1, q + q1, by omega, ?_, ?_, ?_, by go_num, rfl⟩
            · rw [e1, B_nil_append]; rfl
            · rw [e2]; simp [codeR]
            · rw [e3]
          case measure => simp [intOf]; omega
      · skip
        by_cases hb : bi = (k : Int)
        · subst hb
          have HB' : Hid _ := hI.1 rfl
          clear hI HI
          go_wp2_with fail
          refine Calls.mono HG.out ?_
          rintro e w1 ⟨rfl, q1, rfl⟩
          clear HG
          go_wp2_with fail
          go_roundw
          case rel =>
            have e1 := HS1.out
            have e2 := HA1.out
            have e3 := HP1.out
            rw [if_pos HB'.out] at e1 e2 e3
            refine ⟨k + 1, q + q1, by omega, ?_, ?_, ?_, by go_num, rfl⟩
            · rw [e1]; rfl
            · rw [e2]; simp [codeR]
            · rw [e3]; simp
          case measure => simp [intOf]; omega
        · have hbf : ((k : Int) == bi) = false := by simp; omega
          have HB' : Hid (¬ bad = some k) := fun e => hb (hI.2 e).symm
          clear hI HI hb
          go_wp2_with fail
          refine Calls.mono HG.out ?_
          rintro e w1 ⟨rfl, q1, rfl⟩
          clear HG
          go_wp2_with fail
          go_roundw
          case rel =>
            have e1 := HS1.out
            have e2 := HA1.out
            have e3 := HP1.out
            rw [if_neg HB'.out] at e1 e2 e3
            refine ⟨k + 1, q + q1, by omega, ?_, ?_, ?_, by go_num, rfl⟩
            · rw [e1, B_nil_append]; rfl
            · rw [e2]; simp [codeR]
            · rw [e3]
          case measure => simp [intOf]; omega
      · skip
        by_cases hb : bi = (k : Int)
        · subst hb
          have HB' : Hid _ := hI.1 rfl
          clear hI HI
          go_wp2_with fail
          refine Calls.mono HG.out ?_
          rintro e w1 ⟨rfl, q1, rfl⟩
          clear HG
          go_wp2_with fail
          go_roundw
          case rel =>
            have e1 := HS1.out
            have e2 := HA1.out
            have e3 := HP1.out
            rw [if_pos HB'.out] at e1 e2 e3
            refine ⟨k + 1, q + q1, by omega, ?_, ?_, ?_, by go_num, rfl⟩
            · rw [e1]; rfl
            · rw [e2]; simp [codeR]
            · rw [e3]; simp
          case measure => simp [intOf]; omega
        · have hbf : ((k : Int) == bi) = false := by simp; omega
          have HB' : Hid (¬ bad = some k) := fun e => hb (hI.2 e).symm
          clear hI HI hb
          go_wp2_with fail
          refine Calls.mono HG.out ?_
          rintro e w1 ⟨rfl, q1, rfl⟩
          clear HG
          go_wp2_with fail
          go_roundw
          case rel =>
            have e1 := HS1.out
            have e2 := HA1.out
            have e3 := HP1.out
            rw [if_neg HB'.out] at e1 e2 e3
            refine ⟨k + 1, q + q1, by omega, ?_, ?_, ?_, by go_num, rfl⟩
            · rw [e1, B_nil_append]; rfl
            · rw [e2]; simp [codeR]
            · rw [e3]
          case measure => simp [intOf]; omega
      · skip
        by_cases hb : bi = (k : Int)
        · subst hb
          have HB' : Hid _ := hI.1 rfl
          clear hI HI
          go_wp2_with fail
          refine Calls.mono HG.out ?_
          rintro e w1 ⟨rfl, q1, rfl⟩
          clear HG
          go_wp2_with fail
          go_roundw
          case rel =>
            have e1 := HS1.out
            have e2 := HA1.out
            have e3 := HP1.out
            rw [if_pos HB'.out] at e1 e2 e3
            refine ⟨k + 1, q + q1, by omega, ?_, ?_, ?_, by go_num, rfl⟩
            · rw [e1]; rfl
            · rw [e2]; simp [codeR]
            · rw [e3]; simp
          case measure => simp [intOf]; omega
        · have hbf : ((k : Int) == bi) = false := by simp; omega
          have HB' : Hid (¬ bad = some k) := fun e => hb (hI.2 e).symm
          clear hI HI hb
          go_wp2_with fail
          refine Calls.mono HG.out ?_
          rintro e w1 ⟨rfl, q1, rfl⟩
          clear HG
          go_wp2_with fail
          go_roundw
          case rel =>
            have e1 := HS1.out
            have e2 := HA1.out
            have e3 := HP1.out
            rw [if_neg HB'.out] at e1 e2 e3
            refine ⟨k + 1, q + q1, by omega, ?_, ?_, ?_, by go_num, rfl⟩
            · rw [e1, B_nil_append]; rfl
            · rw [e2]; simp [codeR]
            · rw [e3]
          case measure => simp [intOf]; omega
      · skip
        by_cases hb : bi = (k : Int)
        · subst hb
          have HB' : Hid _ := hI.1 rfl
          clear hI HI
          go_wp2_with fail
          refine Calls.mono HG.out ?_
          rintro e w1 ⟨rfl, q1, rfl⟩
          clear HG
          go_wp2_with fail
          go_roundw
          case rel =>
            have e1 := HS1.out
            have e2 := HA1.out
            have e3 := HP1.out
            rw [if_pos HB'.out] at e1 e2 e3
            refine ⟨k + 1, q + q1, by omega, ?_, ?_, ?_, by go_num, rfl⟩
            · rw [e1]; rfl
            · rw [e2]; simp [codeR]
            · rw [e3]; simp
          case measure => simp [intOf]; omega
        · have hbf : ((k : Int) == bi) = false := by simp; omega
          have HB' : Hid (¬ bad = some k) := fun e => hb (hI.2 e).symm
          clear hI HI hb
          go_wp2_with fail
          refine Calls.mono HG.out ?_
          rintro e w1 ⟨rfl, q1, rfl⟩
          clear HG
          go_wp2_with fail
          go_roundw
          case rel =>
            have e1 := HS1.out
            have e2 := HA1.out
            have e3 := HP1.out
            rw [if_neg HB'.out] at e1 e2 e3
            refine ⟨k + 1, q + q1, by omega, ?_, ?_, ?_, by go_num, rfl⟩
            · rw [e1, B_nil_append]; rfl
            · rw [e2]; simp [codeR]
            · rw [e3]
          case measure => simp [intOf]; omega
      · skip
        by_cases hb : bi = (k : Int)
        · subst hb
          have HB' : Hid _ := hI.1 rfl
          clear hI HI
          go_wp2_with fail
          refine Calls.mono HG.out ?_
          rintro e w1 ⟨rfl, q1, rfl⟩
          clear HG
          go_wp2_with fail
          go_roundw
          case rel =>
            have e1 := HS1.out
            have e2 := HA1.out
            have e3 := HP1.out
            rw [if_pos HB'.out] at e1 e2 e3
            refine ⟨k + 1, q + q1, by omega, ?_, ?_, ?_, by go_num, rfl⟩
            · rw [e1]; rfl
            · rw [e2]; simp [codeR]
            · rw [e3]; simp
          case measure => simp [intOf]; omega
        · have hbf : ((k : Int) == bi) = false := by simp; omega
          have HB' : Hid (¬ bad = some k) := fun e => hb (hI.2 e).symm
          clear hI HI hb
          go_wp2_with fail
          refine Calls.mono HG.out ?_
          rintro e w1 ⟨rfl, q1, rfl⟩
          clear HG
          go_wp2_with fail
          go_roundw
          case rel =>
            have e1 := HS1.out
            have e2 := HA1.out
            have e3 := HP1.out
            rw [if_neg HB'.out] at e1 e2 e3
            refine ⟨k + 1, q + q1, by omega, ?_, ?_, ?_, by go_num, rfl⟩
            · rw [e1, B_nil_append]; rfl
            · rw [e2]; simp [codeR]
            · rw [e3]
          case measure => simp [intOf]; omega
      · skip
        by_cases hb : bi = (k : Int)
        · subst hb
          have HB' : Hid _ := hI.1 rfl
          clear hI HI
          go_wp2_with fail
          refine Calls.mono HG.out ?_
          rintro e w1 ⟨rfl, q1, rfl⟩
          clear HG
          go_wp2_with fail
          refine Calls.mono (kword_at _ (B (codeB (nmOf v) (some (some (some (some (some (some (some none))))))))) (codeR (nmOf v) (some (some (some (some (some (some (some none)))))))) HW.out.1 _) ?_
          rintro e w2 ⟨rfl, rfl⟩
          generalize B (codeB (nmOf v) (some (some (some (some (some (some (some none)))))))) = T at hts hsT hsT2 HS1 ⊢
          generalize codeR (nmOf v) (some (some (some (some (some (some (some none))))))) = r at htr HA1 ⊢
          go_wp2_with fail
          go_roundw
          case rel =>
            have e1 := HS1.out
            have e2 := HA1.out
            have e3 := HP1.out
            rw [if_pos HB'.out] at e1 e2 e3
            refine ⟨k + 1, q + q1, by omega, ?_, ?_, ?_, by go_num, rfl⟩
            · rw [e1]; rfl
            · rw [e2]; simp
            · rw [e3]; simp
          case measure => simp [intOf]; omega
        · have hbf : ((k : Int) == bi) = false := by simp; omega
          have HB' : Hid (¬ bad = some k) := fun e => hb (hI.2 e).symm
          clear hI HI hb
          go_wp2_with fail
          refine Calls.mono HG.out ?_
          rintro e w1 ⟨rfl, q1, rfl⟩
          clear HG
          go_wp2_with fail
          refine Calls.mono (kword_at _ (B (codeB (nmOf v) (some (some (some (some (some (some (some none))))))))) (codeR (nmOf v) (some (some (some (some (some (some (some none)))))))) HW.out.1 _) ?_
          rintro e w2 ⟨rfl, rfl⟩
          generalize B (codeB (nmOf v) (some (some (some (some (some (some (some none)))))))) = T at hts hsT hsT2 HS1 ⊢
          generalize codeR (nmOf v) (some (some (some (some (some (some (some none))))))) = r at htr HA1 ⊢
          go_wp2_with fail
          go_roundw
          case rel =>
            have e1 := HS1.out
            have e2 := HA1.out
            have e3 := HP1.out
            rw [if_neg HB'.out] at e1 e2 e3
            refine ⟨k + 1, q + q1, by omega, ?_, ?_, ?_, by go_num, rfl⟩
            · rw [e1, B_nil_append]
            · rw [e2]; simp
            · rw [e3]
          case measure => simp [intOf]; omega
      · skip
        by_cases hb : bi = (k : Int)
        · subst hb
          have HB' : Hid _ := hI.1 rfl
          clear hI HI
          go_wp2_with fail
          refine Calls.mono HG.out ?_
          rintro e w1 ⟨rfl, q1, rfl⟩
          clear HG
          go_wp2_with fail
          refine Calls.mono (kword_at _ (B (codeB (nmOf v) (some (some (some (some (some (some (some (some false)))))))))) (codeR (nmOf v) (some (some (some (some (some (some (some (some false))))))))) HW.out.2.1 _) ?_
          rintro e w2 ⟨rfl, rfl⟩
          generalize B (codeB (nmOf v) (some (some (some (some (some (some (some (some false))))))))) = T at hts hsT hsT2 HS1 ⊢
          generalize codeR (nmOf v) (some (some (some (some (some (some (some (some false)))))))) = r at htr HA1 ⊢
          go_wp2_with fail
          go_roundw
          case rel =>
            have e1 := HS1.out
            have e2 := HA1.out
            have e3 := HP1.out
            rw [if_pos HB'.out] at e1 e2 e3
            refine ⟨k + 1, q + q1, by omega, ?_, ?_, ?_, by go_num, rfl⟩
            · rw [e1]; rfl
            · rw [e2]; simp
            · rw [e3]; simp
          case measure => simp [intOf]; omega
        · have hbf : ((k : Int) == bi) = false := by simp; omega
          have HB' : Hid (¬ bad = some k) := fun e => hb (hI.2 e).symm
          clear hI HI hb
          go_wp2_with fail
          refine Calls.mono HG.out ?_
          rintro e w1 ⟨rfl, q1, rfl⟩
          clear HG
          go_wp2_with fail
          refine Calls.mono (kword_at _ (B (codeB (nmOf v) (some (some (some (some (some (some (some (some false)))))))))) (codeR (nmOf v) (some (some (some (some (some (some (some (some false))))))))) HW.out.2.1 _) ?_
          rintro e w2 ⟨rfl, rfl⟩
          generalize B (codeB (nmOf v) (some (some (some (some (some (some (some (some false))))))))) = T at hts hsT hsT2 HS1 ⊢
          generalize codeR (nmOf v) (some (some (some (some (some (some (some (some false)))))))) = r at htr HA1 ⊢
          go_wp2_with fail
          go_roundw
          case rel =>
            have e1 := HS1.out
            have e2 := HA1.out
            have e3 := HP1.out
            rw [if_neg HB'.out] at e1 e2 e3
            refine ⟨k + 1, q + q1, by omega, ?_, ?_, ?_, by go_num, rfl⟩
            · rw [e1, B_nil_append]
            · rw [e2]; simp
            · rw [e3]
          case measure => simp [intOf]; omega
      · skip
        by_cases hb : bi = (k : Int)
        · subst hb
          have HB' : Hid _ := hI.1 rfl
          clear hI HI
          go_wp2_with fail
          refine Calls.mono HG.out ?_
          rintro e w1 ⟨rfl, q1, rfl⟩
          clear HG
          go_wp2_with fail
          refine Calls.mono (kword_at _ (B (codeB (nmOf v) (some (some (some (some (some (some (some (some true)))))))))) (codeR (nmOf v) (some (some (some (some (some (some (some (some true))))))))) HW.out.2.2 _) ?_
          rintro e w2 ⟨rfl, rfl⟩
          generalize B (codeB (nmOf v) (some (some (some (some (some (some (some (some true))))))))) = T at hts hsT hsT2 HS1 ⊢
          generalize codeR (nmOf v) (some (some (some (some (some (some (some (some true)))))))) = r at htr HA1 ⊢
          go_wp2_with fail
          go_roundw
          case rel =>
            have e1 := HS1.out
            have e2 := HA1.out
            have e3 := HP1.out
            rw [if_pos HB'.out] at e1 e2 e3
            refine ⟨k + 1, q + q1, by omega, ?_, ?_, ?_, by go_num, rfl⟩
            · rw [e1]; rfl
            · rw [e2]; simp
            · rw [e3]; simp
          case measure => simp [intOf]; omega
        · have hbf : ((k : Int) == bi) = false := by simp; omega
          have HB' : Hid (¬ bad = some k) := fun e => hb (hI.2 e).symm
          clear hI HI hb
          go_wp2_with fail
          refine Calls.mono HG.out ?_
          rintro e w1 ⟨rfl, q1, rfl⟩
          clear HG
          go_wp2_with fail
          refine Calls.mono (kword_at _ (B (codeB (nmOf v) (some (some (some (some (some (some (some (some true)))))))))) (codeR (nmOf v) (some (some (some (some (some (some (some (some true))))))))) HW.out.2.2 _) ?_
          rintro e w2 ⟨rfl, rfl⟩
          generalize B (codeB (nmOf v) (some (some (some (some (some (some (some (some true))))))))) = T at hts hsT hsT2 HS1 ⊢
          generalize codeR (nmOf v) (some (some (some (some (some (some (some (some true)))))))) = r at htr HA1 ⊢
          go_wp2_with fail
          go_roundw
          case rel =>
            have e1 := HS1.out
            have e2 := HA1.out
            have e3 := HP1.out
            rw [if_neg HB'.out] at e1 e2 e3
            refine ⟨k + 1, q + q1, by omega, ?_, ?_, ?_, by go_num, rfl⟩
            · rw [e1, B_nil_append]
            · rw [e2]; simp
            · rw [e3]
          case measure => simp [intOf]; omega
    · have hk35 : k = 35 := by omega
      subst hk35
      go_wp2
      go_ret2
      exact ⟨rfl, by rw [← HN.out]; exact HB.out.trans (drewN_below _ _ _)⟩

end Go.Proofs.YtjajnhemgphefaaDoor
