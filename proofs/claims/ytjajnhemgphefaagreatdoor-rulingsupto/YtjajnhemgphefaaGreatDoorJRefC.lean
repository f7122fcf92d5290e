/-
  The document's own answer: what the calls one, follows, size and greek answer, for every text and place.
  The document's own answer: how many bytes the rune has that begins at a place.
  The document's own answer: the runes of a text, in a row of the call's own.
-/
import Derived.Test.YtjajnhemgphefaaGreatDoorJRef3
import Derived.BigQuiet
namespace Go.Proofs.YtjajnhemgphefaaGreatDoor
open Go.RowKit Go.Shelf
set_option linter.unusedVariables false
set_option linter.unusedSimpArgs false

set_option maxHeartbeats 2000000 in
theorem one_any (c : Nat) (w : World) :
    Calls Tryz.prog 173 #[.int .u8 c] w fun e w' => e = .returned (.int .i64 (oneR c)) ∧ w' = w := by
  go_enter Tryz.func173, Tryz.ntmps173
  go_wp2
  all_goals
    go_ret
    exact ⟨ret_int (by unfold oneR; (repeat' split) <;> first | rfl | (exfalso; omega) | (simp at *; done) | (exfalso; simp at *; omega)), rfl⟩

theorem by_get (s : ByteArray) (i : Nat) (h : i < s.size) : s[i].toNat = byN s i := by
  unfold byN
  congr 1
  have h' : i < s.data.size := h
  show s.data[i] = s.data[i]!
  rw [getElem!_pos s.data i h']

set_option maxHeartbeats 2000000 in
theorem follows_any (s : ByteArray) (i lo hi : Nat) (w : World) (hs : s.size ≤ 1048576) (hi' : i ≤ 1048576 + 10) :
    Calls Tryz.prog 220 #[.string s, .int .i64 i, .int .u8 lo, .int .u8 hi] w fun e w' => e = .returned (.bool (folR s i lo hi)) ∧ w' = w := by
  by_cases hlt : i < s.size
  · have hb := by_get s i hlt
    go_enter Tryz.func220, Tryz.ntmps220
    go_wp2
    all_goals
      go_ret
      exact ⟨ret_bool (by rw [Bool.eq_iff_iff]; simp only [folR, decide_eq_true_eq]; (try simp) <;> omega), rfl⟩
  · go_enter Tryz.func220, Tryz.ntmps220
    go_wp2
    go_ret
    exact ⟨ret_bool (by rw [Bool.eq_iff_iff]; simp only [folR, decide_eq_true_eq]; (try simp) <;> omega), rfl⟩

set_option maxHeartbeats 2000000 in
theorem greek_any (a b : Nat) (ha : a < 256) (hb : b < 256) (w : World) :
    Calls Tryz.prog 174 #[.int .u8 a, .int .u8 b] w fun e w' => e = .returned (.int .i64 (greekR a b)) ∧ w' = w := by
  go_enter Tryz.func174, Tryz.ntmps174
  go_wp2
  all_goals
    go_ret
    exact ⟨ret_int (by unfold greekR; (repeat' split) <;> first | rfl | (exfalso; omega) | (simp at *; done) | (exfalso; simp at *; omega)), rfl⟩

end Go.Proofs.YtjajnhemgphefaaGreatDoor

namespace Go.Proofs.YtjajnhemgphefaaGreatDoor
open Go.RowKit Go.Shelf
set_option linter.unusedVariables false
set_option linter.unusedSimpArgs false

def sizeK (c : Nat) (a b d : Bool) : Nat :=
  if 194 ≤ c ∧ c ≤ 223 ∧ a = true then 2 else if 224 ≤ c ∧ c ≤ 239 ∧ a = true ∧ b = true then 3
  else if 240 ≤ c ∧ c ≤ 244 ∧ a = true ∧ b = true ∧ d = true then 4 else 1

set_option maxHeartbeats 4000000 in
theorem size_any (s : ByteArray) (i : Nat) (w : World) (hs : s.size ≤ 1048576) (hi : i < s.size) :
    Calls Tryz.prog 172 #[.string s, .int .i64 i] w fun e w' => e = .returned (.int .i64 (sizeR s i)) ∧ w' = w := by
  have hb := by_get s i hi
  have hfin : sizeR s i = sizeK (byN s i) (folR s (i + 1) (loB (byN s i)) (hiB (byN s i))) (folR s (i + 2) 128 191) (folR s (i + 3) 128 191) := rfl
  have f1 : Calls Tryz.prog 220 #[.string s, .int .i64 ((i : Int) + 1), .int .u8 (loB (byN s i)), .int .u8 (hiB (byN s i))] w fun e w' => e = .returned (.bool (folR s (i + 1) (loB (byN s i)) (hiB (byN s i)))) ∧ w' = w := follows_any s (i + 1) _ _ w hs (by omega)
  have f2 : Calls Tryz.prog 220 #[.string s, .int .i64 ((i : Int) + 2), .int .u8 128, .int .u8 191] w fun e w' => e = .returned (.bool (folR s (i + 2) 128 191)) ∧ w' = w := follows_any s (i + 2) _ _ w hs (by omega)
  have f3 : Calls Tryz.prog 220 #[.string s, .int .i64 ((i : Int) + 3), .int .u8 128, .int .u8 191] w fun e w' => e = .returned (.bool (folR s (i + 3) 128 191)) ∧ w' = w := follows_any s (i + 3) _ _ w hs (by omega)
  rw [hfin]
  clear hfin
  generalize folR s (i + 1) (loB (byN s i)) (hiB (byN s i)) = A at *
  generalize folR s (i + 2) 128 191 = B at *
  generalize folR s (i + 3) 128 191 = D at *
  have hc : byN s i = 224 ∨ byN s i = 237 ∨ byN s i = 240 ∨ byN s i = 244 ∨ (byN s i ≠ 224 ∧ byN s i ≠ 237 ∧ byN s i ≠ 240 ∧ byN s i ≠ 244) := by omega
  generalize byN s i = c at *
  rcases hc with rfl | rfl | rfl | rfl | ⟨n1, n2, n3, n4⟩
  case inr.inr.inr.inr =>
    have l1 : loB c = 128 := by unfold loB; simp [n1, n3]
    have l2 : hiB c = 191 := by unfold hiB; simp [n2, n4]
    rw [l1, l2] at f1
    have m1 : ((c : Int) == 224) = false := by simp; omega
    have m2 : ((c : Int) == 237) = false := by simp; omega
    have m3 : ((c : Int) == 240) = false := by simp; omega
    have m4 : ((c : Int) == 244) = false := by simp; omega
    clear n1 n2 n3 n4
    go_enter Tryz.func172, Tryz.ntmps172
    go_wp2_with fail
    refine f1.mono ?_
    rintro e w' ⟨rfl, rfl⟩
    go_wp2_with fail
    refine f2.mono ?_
    rintro e w' ⟨rfl, rfl⟩
    go_wp2_with fail
    refine f3.mono ?_
    rintro e w' ⟨rfl, rfl⟩
    go_wp2
    all_goals
      go_ret
      exact ⟨ret_int (by unfold sizeK; (repeat' split) <;> first | rfl | (exfalso; simp_all; done) | (exfalso; simp_all; omega)), rfl⟩
  all_goals
    simp only [loB, hiB] at f1
    go_enter Tryz.func172, Tryz.ntmps172
    go_wp2_with fail
    refine f1.mono ?_
    rintro e w' ⟨rfl, rfl⟩
    go_wp2_with fail
    refine f2.mono ?_
    rintro e w' ⟨rfl, rfl⟩
    go_wp2_with fail
    refine f3.mono ?_
    rintro e w' ⟨rfl, rfl⟩
    go_wp2
    all_goals
      go_ret
      exact ⟨ret_int (by unfold sizeK; (repeat' split) <;> first | rfl | (exfalso; simp_all; done) | (exfalso; simp_all; omega)), rfl⟩

end Go.Proofs.YtjajnhemgphefaaGreatDoor

namespace Go.Proofs.YtjajnhemgphefaaGreatDoor
open Go.RowKit Go.Shelf
set_option linter.unusedVariables false
set_option linter.unusedSimpArgs false

theorem below_drewN {B : Nat} {a w : World} (h : Below B a w) {q : Nat} : Below B a (w.drewN q) := ⟨h.os, h.tape, h.output, h.size, h.block⟩
theorem below_app {B : Nat} {w wr w1 : World} {o : Obj} {v : Value} {T sz n : Nat} {xs : List Value} (hb : Below B w wr) (hown : wr.ownsRow B T sz v n xs) (hB : B ≤ w.heap.size) (hg : (wr.alloc o).grownBy w1 v.ownBlock) : Below B w w1 := by
  have hs := hb.size
  exact (hb.alloc (by omega) o).grown hg (by simp; omega) (fun k hk => (hown.lt k hk).1)

def rnC (r : Rn) : List Value := [.int .i64 r.kind, .string r.text]
theorem rnC_len (l : List Rn) : (l.flatMap rnC).length = l.length * 2 := by
  induction l with
  | nil => rfl
  | cons t l ih => simp [rnC] at ih ⊢; omega

theorem Tryz.infoRn : (Tryz.prog.info? 295).map (fun i => (i.zero, i.size, i.bytes)) = some (some (.agg #[.int .i64 0, .string ⟨#[]⟩]), 2, 24) := by kernel_rfl

/-- Two new cells lie where they were put. -/
theorem two_new (w : World) (x y : Value) (t : TypeId) : ∀ j u, [x, y][j]? = some u → (w.alloc (.cells #[x, y] t)).cell? ((⟨w.heap.size, 0, none⟩ : Addr).add j) = some u := by
  intro j u hj
  match j, hj with
  | 0, hj => simp at hj; subst hj; simp [Addr.add]
  | 1, hj => simp at hj; subst hj; simp [Addr.add]
  | j + 2, hj => simp at hj

theorem rn_step {B : Nat} {w wr X w1 : World} {v v' : Value} {pre : List Rn} {k : Nat} {t : ByteArray} (hb : Below B w X) (hX : B ≤ X.heap.size) (hown : wr.ownsRow B 295 2 v pre.length (pre.flatMap rnC))
    (hown' : w1.ownsRow B 295 2 v' (pre.length + 1) (pre.flatMap rnC ++ [.int .i64 k, .string t])) (hg : X.grownBy w1 v.ownBlock) :
    w1.ownsRow B 295 2 v' (pre ++ [Rn.mk k t]).length ((pre ++ [Rn.mk k t]).flatMap rnC) ∧ Below B w w1 := by
  refine ⟨?_, hb.grown hg hX (fun k hk => (hown.lt k hk).1)⟩
  simpa [rnC] using hown'

set_option maxRecDepth 100000 in
set_option maxHeartbeats 4000000 in
theorem runes_any (s : ByteArray) (w : World) (hs : s.size ≤ 1048576) :
    Calls Tryz.prog 106 #[.string s] w fun e w' => ∃ v, e = .returned v ∧ w'.ownsRow w.heap.size 295 2 v (R s 0).length ((R s 0).flatMap rnC) ∧ Below w.heap.size w w' := by
  obtain ⟨i0, hi, hz0, hz1, hz2⟩ := info_parts Tryz.infoRn
  obtain ⟨B, hB⟩ : ∃ B, B = w.heap.size := ⟨_, rfl⟩
  have hBw : B ≤ w.heap.size := by omega
  have HB : Hid (w.heap.size = B) := hB.symm
  rw [← hB]
  clear hB
  go_enter Tryz.func106, Tryz.ntmps106
  go_wp2
  go_loopw [3, 4] (fun v a wr => ∃ (i : Nat) (pre : List Rn) (v1 : Value), v1 = v ∧ a = .int .i64 i ∧ i ≤ s.size ∧ pre ++ R s i = R s 0 ∧ pre.length ≤ i ∧ wr.ownsRow B 295 2 v1 pre.length (pre.flatMap rnC) ∧ Below B w wr)
    (fun _ a _ => s.size - (intOf a).toNat)
  case atStart => exact ⟨0, [], _, rfl, rfl, Nat.zero_le _, rfl, Nat.le_refl _, World.ownsRow_nil _ _ _ _, Below.refl _ _⟩
  case round =>
    obtain ⟨i, pre, v, rfl, rfl, hle, hpre, hpl, hown, hbel⟩ := hrel
    by_cases hlt : i < s.size
    · have hkd := kind_ref s i
      have hsd := size_ref s i
      have hwl := width_le_at s i hlt
      have hwp := width_pos s i
      have hcons := R_cons s i hlt
      have hb := by_get s i hlt
      rw [hsd] at hwl hwp hcons
      rw [← hkd] at hcons
      clear hsd hkd
      have hsz := size_any s i wr hs hlt
      have HC : Hid (R s i = ⟨kindAt s i, s.extract i (i + sizeR s i)⟩ :: R s (i + sizeR s i)) := hcons
      clear hcons
      have hk1 : Hid (sizeR s i = 1 → kindAt s i = oneR (byN s i)) := fun h => by unfold kindAt; rw [if_pos h]
      have hk2 : Hid (sizeR s i = 2 → kindAt s i = greekR (byN s i) (byN s (i + 1))) := fun h => by unfold kindAt; rw [if_neg (by omega), if_pos h]
      have hk3 : Hid (sizeR s i ≠ 1 → sizeR s i ≠ 2 → kindAt s i = 8) := fun h h' => by unfold kindAt; rw [if_neg h, if_neg h']
      have hfin : Hid (∀ (v' : Value) (w1 : World) (kd : Nat) (X : World), kd = kindAt s i → Below B w X → B ≤ X.heap.size → w1.ownsRow B 295 2 v' (pre.length + 1) (pre.flatMap rnC ++ [.int .i64 kd, .string (s.extract i (i + sizeR s i))]) → X.grownBy w1 v.ownBlock →
          ∃ pre' : List Rn, pre' ++ R s (i + sizeR s i) = R s 0 ∧ pre'.length ≤ i + sizeR s i ∧ w1.ownsRow B 295 2 v' pre'.length (pre'.flatMap rnC) ∧ Below B w w1) := by
        intro v' w1 kd X hkd hXb hXs ho hg
        subst hkd
        obtain ⟨a1, a2⟩ := rn_step hXb hXs hown ho hg
        exact ⟨pre ++ [⟨kindAt s i, s.extract i (i + sizeR s i)⟩], by rw [← hpre, HC.out]; simp, by simp; omega, a1, a2⟩
      clear HC hpre
      have hbs : B ≤ wr.heap.size := Nat.le_trans hBw hbel.size
      have HBW : Hid (Below B w wr) := hbel
      clear hbel
      generalize sizeR s i = n at *
      generalize kindAt s i = kd at *
      have hc3 : pre.length + 1 ≤ maxLen := by unfold maxLen; omega
      have hc4 : (pre.length + 1) * 24 ≤ 140737488355328 := by omega
      have hc5 : ∀ o, B ≤ (wr.alloc o).heap.size := fun o => by simp; omega
      have h1c : ∀ (k : Nat) (t : ByteArray), ∀ u ∈ [Value.int .i64 k, .string t], u.oneCell' = true := fun k t => by simp [Value.oneCell']
      by_cases h1 : n = 1
      · subst h1
        have hkv := hk1.out rfl
        subst hkv
        clear hk1 hk2 hk3
        have hon := one_any (byN s i) wr
        generalize oneR (byN s i) = kd at *
        go_wp2_with (first
          | (go_at_call 172; refine hsz.mono ?_; rintro e w' ⟨rfl, hw'⟩; obtain rfl : wr = w' := hw'.symm)
          | (go_at_call 173; refine hon.mono ?_; rintro e w' ⟨rfl, hw'⟩; obtain rfl : wr = w' := hw'.symm)
          | (at_builtin; refine wpList_append_own _ rfl (.tmp 30) (.tmp 39) 207 rfl B 295 i0 (.agg #[.int .i64 0, .string ⟨#[]⟩]) 2 24 Tryz.underlying207 hi hz0 hz1 hz2 rfl (by decide) _ _ _ rfl (hown.alloc _) ⟨wr.heap.size, 0, none⟩ 1 1 [.int .i64 kd, .string (s.extract i (i + 1))] rfl rfl (two_new _ _ _ _) (h1c _ _) hc3 hc4 (hc5 _) ?_; intro v' w1 hown1 hgrow1 _))
        obtain ⟨pre', q1, q2, q3, q4⟩ := hfin.out v' w1 kd _ rfl (HBW.out.alloc hbs _) (hc5 _) hown1 hgrow1
        clear hown1 hgrow1 hfin hown HBW
        go_roundw
        case rel => exact ⟨i + 1, pre', v', rfl, by go_num, by omega, q1, q2, q3, q4⟩
        case measure => simp [intOf]; omega
      by_cases h2 : n = 2
      · subst h2
        have hkv := hk2.out rfl
        subst hkv
        clear hk1 hk2 hk3 h1
        have hb2 := by_get s (i + 1) (by omega)
        have hgk := greek_any (byN s i) (byN s (i + 1)) (byN_lt _ _) (byN_lt _ _)
        generalize greekR (byN s i) (byN s (i + 1)) = kd at *
        have i1 : i + 1 < s.size := by omega
        go_wp2_with (first
          | (go_at_call 172; refine hsz.mono ?_; rintro e w' ⟨rfl, hw'⟩; obtain rfl : wr = w' := hw'.symm))
        go_quiet ((go_at_call 174; exact Calls.quiet_of_same (hgk _)))
        go_wp2_with (first
          | (at_builtin; refine wpList_append_own _ rfl (.tmp 30) (.tmp 39) 207 rfl B 295 i0 (.agg #[.int .i64 0, .string ⟨#[]⟩]) 2 24 Tryz.underlying207 hi hz0 hz1 hz2 rfl (by decide) _ _ _ rfl (World.ownsRow.alloc hown _) ⟨wr.heap.size, 0, none⟩ 1 1 [.int .i64 kd, .string (s.extract i (i + 2))] rfl rfl (two_new _ _ _ _) (h1c _ _) hc3 hc4 (hc5 _) ?_; intro v' w1 hown1 hgrow1 _))
        obtain ⟨pre', q1, q2, q3, q4⟩ := hfin.out v' w1 kd _ rfl ((below_drewN HBW.out).alloc hbs _) (hc5 _) hown1 hgrow1
        clear hown1 hgrow1 hfin hown HBW
        go_roundw
        case rel => exact ⟨i + 2, pre', v', rfl, by go_num, by omega, q1, q2, q3, q4⟩
        case measure => simp [intOf]; omega
      · have hkv := hk3.out h1 h2
        subst hkv
        clear hk1 hk2 hk3
        have m1 : ((n : Int) == 1) = false := by simp; omega
        have m2 : ((n : Int) == 2) = false := by simp; omega
        go_wp2_with (first
          | (go_at_call 172; refine hsz.mono ?_; rintro e w' ⟨rfl, hw'⟩; obtain rfl : wr = w' := hw'.symm)
          | (at_builtin; refine wpList_append_own _ rfl (.tmp 30) (.tmp 39) 207 rfl B 295 i0 (.agg #[.int .i64 0, .string ⟨#[]⟩]) 2 24 Tryz.underlying207 hi hz0 hz1 hz2 rfl (by decide) _ _ _ rfl (hown.alloc _) ⟨wr.heap.size, 0, none⟩ 1 1 [.int .i64 ((8 : Nat) : Int), .string (s.extract i (i + n))] rfl rfl (two_new _ _ _ _) (h1c _ _) hc3 hc4 (hc5 _) ?_; intro v' w1 hown1 hgrow1 _))
        obtain ⟨pre', q1, q2, q3, q4⟩ := hfin.out v' w1 8 _ rfl (HBW.out.alloc hbs _) (hc5 _) hown1 hgrow1
        clear hown1 hgrow1 hfin hown HBW
        go_roundw
        case rel => exact ⟨i + n, pre', v', rfl, by go_num, by omega, q1, q2, q3, q4⟩
        case measure => simp [intOf]; omega
    · rw [R_end s i hlt] at hpre
      simp only [List.append_nil] at hpre
      subst hpre
      go_wp2
      go_ret
      exact ⟨v, rfl, hown, hbel⟩

end Go.Proofs.YtjajnhemgphefaaGreatDoor
