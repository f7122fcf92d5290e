/-
  What Folded and Ebbed call beside the program: take of a Remove.
  One who follows a feed, in memory.
  Ask, the row of its answer being the caller's.
  The statement Reached: right.
  The statement Reached, call by call.
-/
import Derived.Test.YtjajnhemgphefaaGreatDoorJcEgX
import Derived.Test.YtjajnhemgphefaaGreatDoorJcKpW
import Derived.Test.YtjajnhemgphefaaGreatDoorJcKqN
import Derived.Deep.RegionHeld3
namespace Go.Proofs.YtjajnhemgphefaaGreatDoor
open Go.RowKit Go.Shelf Go.Maps
set_option linter.unusedVariables false
set_option linter.unusedSimpArgs false

end Go.Proofs.YtjajnhemgphefaaGreatDoor

namespace Go.Proofs.YtjajnhemgphefaaGreatDoor
open Go.RowKit Go.Shelf Go.Maps
set_option linter.unusedVariables false
set_option linter.unusedSimpArgs false

/-- The caller's own blocks are changed. -/
theorem KSt.put {w W W' : World} {be : Nat} {bs bs' : List Nat} {e : Eg} (h : KSt w be bs e W) {ex : Nat → Prop} (hc : Chg W W' ex) (hx : ∀ k, k < W.heap.size → ex k → k ∈ bs ∧ w.heap.size ≤ k ∧ NTy W k) (hb : ∀ b ∈ bs', (b ∈ bs ∨ W.heap.size ≤ b) ∧ b < W'.heap.size) : KSt w be bs' e W' := by
  obtain ⟨⟨S, h1, h2⟩, h3, h4, h5⟩ := h
  have hlt : ∀ k, S k → k < W.heap.size := fun k hk => by
    obtain ⟨_, _, _, _, _, _, _, _, _, _, hv⟩ := h1
    exact (hv.typ k hk).lt
  refine ⟨⟨S, h1.keepN hc (fun k hk he => (h2 k hk).2 (hx k (hlt k hk) he).1) (fun k hk he => (hx k hk he).2.2), fun k hk => ⟨(h2 k hk).1, fun hm => ?_⟩⟩, fun b hm => (hb b hm).2, h4.trans (Chg.below hc h4.size (fun k hk => ?_)), h5⟩
  · rcases (hb k hm).1 with h | h
    · exact (h2 k hk).2 h
    · have := hlt k hk; omega
  · rcases Nat.lt_or_ge k W.heap.size with hl | hl
    · exact (hx k hl hk).2.1
    · have := h4.size; omega
theorem Kept.trans {bs : List Nat} {W1 W2 W3 : World} (h : Kept bs W1 W2) (h' : Kept bs W2 W3) : Kept bs W1 W3 := fun b hb => (h' b hb).trans (h b hb)
theorem Kept.fewer {bs bs' : List Nat} {W1 W2 : World} (h : Kept bs W1 W2) (hs : ∀ b ∈ bs', b ∈ bs) : Kept bs' W1 W2 := fun b hb => h b (hs b hb)

/-- An engine, and one who follows it; bs: what is neither's. -/
def DrI (w : World) (be : Nat) (bs : List Nat) (B : Nat) (e : Eg) (f : Fo) (W : World) : Prop :=
  ∃ v, KSt w be (B :: (v.ownBlock.toList ++ bs)) e W ∧ FoAt W B f v ∧ (w.heap.size ≤ B ∧ B ∉ bs) ∧ ∀ g, v.ownBlock = some g → w.heap.size ≤ g ∧ g ∉ bs
theorem fo_kept {W W' : World} {B : Nat} {bs : List Nat} {f : Fo} {v : Value} (h : FoAt W B f v) (hk : Kept (B :: (v.ownBlock.toList ++ bs)) W W') : FoAt W' B f v :=
  ⟨(hk B List.mem_cons_self).trans h.1, own_keep h.2 (fun g hg _ => hk g (List.mem_cons_of_mem _ (List.mem_append_left _ (by rw [hg]; simp))))⟩
section
variable {w W : World} {be B : Nat} {bs : List Nat} {e : Eg} {f : Fo}
theorem DrI.later {W' : World} (h : DrI w be bs B e f W) (hb : Below W.heap.size W W') : DrI w be bs B e f W' ∧ Kept bs W W' := by
  obtain ⟨v, h1, h2, h3, h4⟩ := h
  obtain ⟨k1, k2⟩ := h1.same hb
  exact ⟨⟨v, k1, fo_kept h2 k2, h3, h4⟩, k2.fewer (fun b hb => List.mem_cons_of_mem _ (List.mem_append_right _ hb))⟩
theorem DrI.fewer {bs' : List Nat} (h : DrI w be bs B e f W) (hs : ∀ b ∈ bs', b ∈ bs) : DrI w be bs' B e f W := by
  obtain ⟨v, h1, h2, h3, h4⟩ := h
  refine ⟨v, h1.fewer (fun b hb => ?_), h2, ⟨h3.1, fun hm => h3.2 (hs _ hm)⟩, fun g hg => ⟨(h4 g hg).1, fun hm => (h4 g hg).2 (hs _ hm)⟩⟩
  rcases List.mem_cons.1 hb with rfl | hb
  · exact List.mem_cons_self
  · rcases List.mem_append.1 hb with hb | hb
    · exact List.mem_cons_of_mem _ (List.mem_append_left _ hb)
    · exact List.mem_cons_of_mem _ (List.mem_append_right _ (hs _ hb))
theorem DrI.alloc (h : DrI w be bs B e f W) (O : Obj) : DrI w be (W.heap.size :: bs) B e f (W.alloc O) ∧ Kept bs W (W.alloc O) := by
  obtain ⟨v, h1, h2, h3, h4⟩ := h
  have hb : Below W.heap.size W (W.alloc O) := (Below.refl _ W).alloc (Nat.le_refl _) O
  obtain ⟨k1, k2⟩ := h1.alloc O
  have hlt := h1.lt
  refine ⟨⟨v, k1.fewer (fun b hb => ?_), fo_kept h2 k2, ⟨h3.1, fun hm => ?_⟩, fun g hg => ⟨(h4 g hg).1, fun hm => ?_⟩⟩, k2.fewer (fun b hb => List.mem_cons_of_mem _ (List.mem_append_right _ hb))⟩
  · rcases List.mem_cons.1 hb with rfl | hb
    · exact List.mem_cons_of_mem _ List.mem_cons_self
    · rcases List.mem_append.1 hb with hb | hb
      · exact List.mem_cons_of_mem _ (List.mem_cons_of_mem _ (List.mem_append_left _ hb))
      · rcases List.mem_cons.1 hb with rfl | hb
        · exact List.mem_cons_self
        · exact List.mem_cons_of_mem _ (List.mem_cons_of_mem _ (List.mem_append_right _ hb))
  · rcases List.mem_cons.1 hm with e | hm
    · have := hlt B List.mem_cons_self; omega
    · exact h3.2 hm
  · rcases List.mem_cons.1 hm with e | hm
    · have := hlt g (List.mem_cons_of_mem _ (List.mem_append_left _ (by rw [hg]; simp))); omega
    · exact (h4 g hg).2 hm
end
/-- What was seen can be read. -/
def SeenT (W : World) (vs : Value) (S : List (Int × List ByteArray)) : Prop := ∃ vals : List (Int × Value), SeenRd W vs vals ∧ vals.length = S.length ∧ ∀ k (h : k < S.length) (h' : k < vals.length), (vals[k]).1 = (S[k]).1 ∧ StrRd W (vals[k]).2 (S[k]).2
/-- .. as long as these blocks abide. -/
def SeenK (bs : List Nat) (W : World) (vs : Value) (S : List (Int × List ByteArray)) : Prop := ∀ W', Kept bs W W' → SeenT W' vs S
theorem SeenK.next {bs : List Nat} {W W' : World} {vs : Value} {S : List (Int × List ByteArray)} (h : SeenK bs W vs S) (hk : Kept bs W W') : SeenK bs W' vs S :=
  fun W2 k2 => h W2 (hk.trans k2)
end Go.Proofs.YtjajnhemgphefaaGreatDoor

namespace Go.Proofs.YtjajnhemgphefaaGreatDoor
open Go.RowKit Go.Shelf Go.Maps
set_option linter.unusedVariables false
set_option linter.unusedSimpArgs false

theorem kask2 {w W : World} {be : Nat} {bs : List Nat} {e : Eg} (h : KSt w be bs e W) (hT : Lib.Utf8Tabs 0 1 w) (s : ByteArray) (hs : s.size ≤ 4611686018427387904) (a : Am) (ha : atomR s = some a) (hn : ∀ t ∈ a.args, t.num < 6) (hck : ckR e.rs a = 0) :
    Calls Tryz.prog 25 #[.pointer (some ⟨be, 0, none⟩), .string s] W fun en W' => ∃ (oa : Option Addr) (oc : Nat) (gs : List Gd), en = .returned (.tuple #[.slice oa gs.length oc, .int .i64 0]) ∧ fitP e.M a gs ∧ W'.ownsRow W.heap.size 9 1 (.slice oa gs.length oc) gs.length ((textsOf gs).map strV) ∧ KSt w be ((Value.slice oa gs.length oc).ownBlock.toList ++ bs) e W' ∧ Kept bs W W' := by
  obtain ⟨S, h1, h2⟩ := h.eng
  refine (ask_any S be e s W h1 h.ok hs (Utf8Tabs_below hT h.below) (fun b hb => by rw [ha] at hb; cases hb; exact hn)).mono ?_
  rintro en W' ⟨k1, k2⟩
  rw [ha] at k2
  rcases k2 with ⟨k2, _⟩ | ⟨_, v, gs, k3, k4, k5⟩
  · exact absurd hck k2
  · obtain ⟨oa, oc, hof⟩ := owns_form k5
    subst hof
    rw [textsOf_len] at k4 k5
    refine ⟨oa, oc, gs, k4, k3, k5, h.put (Chg.ofBelow (fun _ => False) k1) (fun _ _ h => h.elim) (fun b hb => ?_), (h.same k1).2⟩
    rcases List.mem_append.1 hb with hb | hb
    · have hv : (Value.slice oa gs.length oc).ownBlock = some b := by simpa using hb
      obtain ⟨g1, c, g2⟩ := owns_block k5 hv
      exact ⟨.inr g1, (Array.getElem?_eq_some_iff.1 g2).1⟩
    · exact ⟨.inl hb, Nat.lt_of_lt_of_le (h.lt b hb) k1.size⟩
theorem kept_cell {bs : List Nat} {W W' : World} (h : Kept bs W W') {b : Nat} (hb : b ∈ bs) (j : Nat) : W'.cell? ⟨b, j, none⟩ = W.cell? ⟨b, j, none⟩ := World.cell?_of_block (a := ⟨b, j, none⟩) (h b hb)

end Go.Proofs.YtjajnhemgphefaaGreatDoor

namespace Go.Proofs.YtjajnhemgphefaaGreatDoor
open Go.RowKit Go.Shelf Go.Maps
set_option linter.unusedVariables false
set_option linter.unusedSimpArgs false

/-- How many of the first k pairs are reached. -/
def cntA (A : Nat → Nat → Int) (k : Nat) : Nat := ((pairs6.take k).filter (fun p => decide (0 < A p.1 p.2))).length
theorem pairs_len : pairs6.length = 36 := by decide +kernel
theorem pairs_at {i j : Nat} (hi : i < 6) (hj : j < 6) : pairs6[6 * i + j]'(by rw [pairs_len]; omega) = (i, j) := by
  have h : ∀ i j : Fin 6, pairs6[6 * i.1 + j.1]? = some (i.1, j.1) := by decide +kernel
  have := h ⟨i, hi⟩ ⟨j, hj⟩
  rw [List.getElem?_eq_getElem (by rw [pairs_len]; omega)] at this
  exact Option.some.inj this
theorem cnt_succ (A : Nat → Nat → Int) {i j : Nat} (hi : i < 6) (hj : j < 6) : cntA A (6 * i + j + 1) = cntA A (6 * i + j) + if 0 < A i j then 1 else 0 := by
  unfold cntA
  rw [List.take_succ_eq_append_getElem (by rw [pairs_len]; omega), pairs_at hi hj, List.filter_append, List.length_append]
  by_cases h : 0 < A i j
  · rw [if_pos h, List.filter_cons_of_pos (by simpa using h)]; rfl
  · rw [if_neg h, List.filter_cons_of_neg (by simpa using h)]; rfl
theorem cnt_all (A : Nat → Nat → Int) : cntA A 36 = (ordP A).length := by
  unfold cntA ordP
  rw [List.take_of_length_le (by rw [pairs_len]; exact Nat.le_refl _)]
theorem cnt_at (A : Nat → Nat → Int) {i j : Nat} (hi : i < 6) (hj : j < 6) (h : 0 < A i j) : ∃ hl : cntA A (6 * i + j) < (ordP A).length, (ordP A)[cntA A (6 * i + j)] = (i, j) := by
  have h1 := ord_at A (k := 6 * i + j) (by rw [pairs_len]; omega) (by rw [pairs_at hi hj]; exact h)
  rw [pairs_at hi hj] at h1
  obtain ⟨h2, h3⟩ := List.getElem?_eq_some_iff.1 h1
  exact ⟨h2, h3⟩
theorem cnt_le (A : Nat → Nat → Int) (k : Nat) : cntA A k ≤ 36 := by
  unfold cntA
  refine Nat.le_trans (List.length_filter_le _ _) ?_
  rw [List.length_take, pairs_len]; omega
/-- While right looks: the row of what was told, and the ends, abide. -/
def RgI (w : World) (be B g : Nat) (bs : List Nat) (e : Eg) (A : Nat → Nat → Int) (W0 W : World) : Prop := KSt w be bs e W ∧ Kept bs W0 W ∧ EnAt W B A ∧ ∀ n (h : n < (ordP A).length), W.cell? ⟨g, n, none⟩ = some (.string (ofB bPa ((ordP A)[n]).1 ((ordP A)[n]).2))

set_option maxRecDepth 100000 in
set_option maxHeartbeats 4000000 in
theorem right_any {w W : World} {be B : Nat} {bs : List Nat} {e : Eg} {l : List (Nat × Nat × Int)} {A : Nat → Nat → Int} (h : KSt w be bs e W) (hB : B ∈ bs) (hE : EnAt W B A) (hR : ReE l A e) (hT : Lib.Utf8Tabs 0 1 w) :
    Calls Tryz.prog 23 #[.pointer (some ⟨B, 0, none⟩), .pointer (some ⟨be, 0, none⟩)] W fun en W' => en = .returned (.bool true) ∧ KSt w be bs e W' ∧ Kept bs W W' := by
  have hask : Hid (Calls Tryz.prog 25 #[.pointer (some ⟨be, 0, none⟩), .string txtXY] W fun en W' => ∃ (oa : Option Addr) (oc g : Nat), en = .returned (.tuple #[.slice oa (ordP A).length oc, .int .i64 0]) ∧ (0 < (ordP A).length → oa = some ⟨g, 0, none⟩) ∧ Hid (∃ bs', (∀ b ∈ bs, b ∈ bs') ∧ (0 < (ordP A).length → g ∈ bs') ∧ B ∈ bs' ∧ Kept bs W W' ∧ RgI w be B g bs' e A W' W')) := by
    refine (kask2 h hT txtXY (by decide) aPX atom_xy (by intro t ht; simp only [aPX, List.mem_cons, List.not_mem_nil, or_false] at ht; rcases ht with rfl | rfl <;> decide) (by
      unfold ckR
      show (if arR e.rs bPa = 0 then (7 : Int) else if arR e.rs bPa = 2 then 0 else 4) = 0
      rw [hR.pe.rs, p_arP]; rfl)).mono ?_
    rintro en W' ⟨oa, oc, gs, k1, k2, k3, k4, k5⟩
    obtain ⟨t1, t2⟩ := re_texts hR k2
    rw [t1] at k1 k3 k4
    rw [t2] at k3
    have hrow : ∀ n (hn : n < (ordP A).length), ∃ g c, Value.slice oa (ordP A).length oc = .slice (some ⟨g, 0, none⟩) (ordP A).length c ∧ W'.cell? ⟨g, n, none⟩ = some (.string (ofB bPa ((ordP A)[n]).1 ((ordP A)[n]).2)) := fun n hn => by
      have k3' : W'.ownsRow W.heap.size 9 1 (.slice oa (ordP A).length oc) ((ordP A).map (fun p => (ofB bPa p.1 p.2).data.toList)).length (((ordP A).map (fun p => (ofB bPa p.1 p.2).data.toList)).map strV) := by rw [List.length_map]; exact k3
      obtain ⟨g, c, e0, x0⟩ := row_str k3' (k := n) (by rw [List.length_map]; exact hn)
      rw [List.getElem_map] at x0
      rw [List.length_map] at e0
      exact ⟨g, c, e0, x0⟩
    have hbs : ∀ b ∈ bs, b ∈ (Value.slice oa (ordP A).length oc).ownBlock.toList ++ bs := fun b hb => List.mem_append_right _ hb
    have hE' : EnAt W' B A := (k5 B hB).trans hE
    by_cases h0 : 0 < (ordP A).length
    · obtain ⟨g, c, e0, _⟩ := hrow 0 h0
      simp only [Value.slice.injEq] at e0
      obtain ⟨rfl, _, rfl⟩ := e0
      refine ⟨_, oc, g, k1, fun _ => rfl, _, hbs, fun _ => List.mem_append_left _ (by simp [Value.ownBlock]), hbs B hB, k5, k4, fun _ _ => rfl, hE', fun n hn => ?_⟩
      obtain ⟨g', c', e1, x1⟩ := hrow n hn
      simp only [Value.slice.injEq, Option.some.injEq, Addr.mk.injEq, and_true, true_and] at e1
      obtain ⟨rfl, _⟩ := e1
      exact x1
    · exact ⟨oa, oc, 0, k1, fun h => absurd h h0, _, hbs, fun h => absurd h h0, hbs B hB, k5, k4, fun _ _ => rfl, hE', fun n hn => by omega⟩
  have HT : Hid _ := hT
  have HR : Hid (ReE l A e) := hR
  clear h hE hR hT
  go_enter Tryz.func23, Tryz.ntmps23
  go_wp2_with fail
  refine Calls.mono hask.out ?_
  rintro en W1 ⟨oa, oc, g, rfl, hoa, hst0⟩
  clear hask
  obtain ⟨bs', s1, s2, s3, s4, s5⟩ := hst0.out
  have HS : Hid ((∀ b ∈ bs, b ∈ bs') ∧ (0 < (ordP A).length → g ∈ bs') ∧ B ∈ bs' ∧ Kept bs W W1) := ⟨s1, s2, s3, s4⟩
  have h5 : Hid (RgI w be B g bs' e A W1 W1) := s5
  have HO : Hid (0 < (ordP A).length → oa = some ⟨g, 0, none⟩) := hoa
  obtain ⟨N, hN⟩ : ∃ N, (ordP A).length = N := ⟨_, rfl⟩
  have hN36 : N ≤ 36 := by rw [← hN, ← cnt_all]; exact cnt_le A 36
  rw [hN]
  clear hst0 s1 s2 s3 s4 s5 hoa
  have hof : Hid (∀ (i j : Nat) W, i < 6 → j < 6 → Calls Tryz.prog 21 #[.string bPa, .int .i64 (i : Int), .int .i64 (j : Int)] W fun e w' => e = .returned (.string (ofB bPa i j)) ∧ W = w') := fun i j W h2 h3 => (kof_any bPa i j (by decide) h2 h3 W).mono (by rintro e w' ⟨h1, h2⟩; exact ⟨h1, h2.symm⟩)
  have hun : Hid (∀ (i j : Nat) V, i < 6 → j < 6 → RgI w be B g bs' e A W1 V → Calls Tryz.prog 24 #[.pointer (some ⟨be, 0, none⟩), .string (ofB bPa i j)] V fun en V' => en = .returned (.tuple #[.int .i64 (A i j), .int .i64 0]) ∧ Hid (RgI w be B g bs' e A W1 V')) := fun i j V hi hj hr => by
    obtain ⟨r1, r2, r3, r4⟩ := hr
    refine (kuntil r1 HT.out (ofB bPa i j) (by show (4 + 5 : Nat) ≤ _; decide) (fun c hc => by rw [atom_p hi hj] at hc; cases hc; exact am_nums _ _ _)).mono ?_
    rintro en V' ⟨k1, k2, k3⟩
    rw [until_p HR.out.pe.rs hi hj, HR.out.ends i j hi hj] at k1
    refine ⟨k1, k2, r2.trans k3, (k3 B HS.out.2.2.1).trans r3, fun n hn => ?_⟩
    exact (kept_cell k3 (HS.out.2.1 (by omega)) n).trans (r4 n hn)
  have hc0 : Hid (cntA A 0 = 0) := rfl
  go_wp2_with fail
  go_loopw [7, 8] (fun vn vi wr => ∃ i : Nat, vi = .int .i64 i ∧ vn = .int .i64 (cntA A (6 * i)) ∧ i ≤ 6 ∧ Hid (RgI w be B g bs' e A W1 wr)) (fun _ vi _ => 6 - (intOf vi).toNat)
  case atStart => exact ⟨0, rfl, rfl, Nat.zero_le _, h5⟩
  case round =>
    clear h5
    obtain ⟨i, rfl, rfl, hi, hst⟩ := hrel
    by_cases hli : i < 6
    · have i1 : (i : Int) < 6 := by omega
      go_wp2_with fail
      go_loopw [7, 9] (fun vn vj wr => ∃ j : Nat, vj = .int .i64 j ∧ vn = .int .i64 (cntA A (6 * i + j)) ∧ j ≤ 6 ∧ Hid (RgI w be B g bs' e A W1 wr)) (fun _ vj _ => 6 - (intOf vj).toNat)
      case atStart => exact ⟨0, rfl, rfl, Nat.zero_le _, hst⟩
      case round =>
        clear hst
        obtain ⟨j, rfl, rfl, hj, hst⟩ := hrel
        by_cases hlj : j < 6
        · have j1 : (j : Int) < 6 := by omega
          have hcs := cnt_succ A hli hlj
          have HCS : Hid (cntA A (6 * i + (j + 1)) = cntA A (6 * i + j) + if 0 < A i j then 1 else 0) := hcs
          have hc36 := cnt_le A (6 * i + j)
          go_wp2_with fail
          refine (hof.out i j wr hli hlj).mono ?_
          rintro e' w' ⟨rfl, hw'⟩
          subst hw'
          have hu : Hid _ := hun.out i j wr hli hlj hst.out
          clear hst
          go_wp2_with fail
          refine Calls.mono hu.out ?_
          rintro e' V ⟨rfl, hst⟩
          clear hu
          have p3 : V.cell? ⟨B, i * 6 + j, none⟩ = some (.int .i64 (A i j)) := en_cell hst.out.2.2.1 hli hlj
          by_cases hpos : 0 < A i j
          · obtain ⟨hl, hat⟩ := cnt_at A hli hlj hpos
            have p4 : V.cell? ⟨g, cntA A (6 * i + j), none⟩ = some (.string (ofB bPa i j)) := by have := hst.out.2.2.2 _ hl; rw [hat] at this; exact this
            have hog := HO.out (by omega)
            rw [hN] at hl
            have c1 : ((cntA A (6 * i + j) : Nat) : Int) < (N : Int) := by omega
            rw [if_pos hpos] at HCS
            clear hat hcs
            subst hog
            generalize cntA A (6 * i + j) = n at *
            generalize A i j = aij at *
            generalize ofB bPa i j = tij at *
            go_wp2
            refine ⟨⟨j + 1, by go_num, ?_, by omega, hst⟩, by simp [intOf]; omega⟩
            rw [HCS.out]; go_num
          · have hpos' : decide (0 < A i j) = false := by simpa using hpos
            rw [if_neg hpos] at HCS
            clear hcs
            generalize cntA A (6 * i + j) = n at *
            generalize A i j = aij at *
            generalize ofB bPa i j = tij at *
            go_wp2
            refine ⟨⟨j + 1, by go_num, ?_, by omega, hst⟩, by simp [intOf]; omega⟩
            rw [HCS.out]; rfl
        · obtain rfl : j = 6 := by omega
          have h66 : 6 * i + 6 = 6 * (i + 1) := by omega
          rw [h66]
          go_wp2
          refine ⟨⟨i + 1, by go_num, rfl, by omega, hst⟩, by simp [intOf]; omega⟩
    · obtain rfl : i = 6 := by omega
      have hc : cntA A (6 * 6) = N := by rw [← hN]; exact cnt_all A
      rw [hc]
      have hfin : Hid (KSt w be bs e wr ∧ Kept bs W wr) := ⟨hst.out.1.fewer HS.out.1, HS.out.2.2.2.trans (hst.out.2.1.fewer HS.out.1)⟩
      clear hst
      go_wp2
      go_ret
      exact ⟨rfl, hfin.out⟩

end Go.Proofs.YtjajnhemgphefaaGreatDoor

namespace Go.Proofs.YtjajnhemgphefaaGreatDoor
open Go.RowKit Go.Shelf Go.Maps
set_option linter.unusedVariables false
set_option linter.unusedSimpArgs false

def edC (x : Nat × Nat × Int) : List Value := [.int .i64 (x.1 : Int), .int .i64 (x.2.1 : Int), .int .i64 x.2.2]
/-- The engine of Reached, the ends at Bm and the row of what was kept; xs: blocks of the caller's. -/
def ReS (w : World) (be : Nat) (xs : List Nat) (z : Bool) (mk : Int) (vk : Value) (Bm : Nat) (W : World) : Prop :=
  ∃ e l A bs, ReE l A e ∧ e.mark = mk ∧ KSt w be bs e W ∧ (∀ b ∈ xs, b ∈ bs) ∧ Bm ∈ bs ∧ EnAt W Bm A ∧ W.ownsRow w.heap.size 46 3 vk l.length (l.flatMap edC) ∧ (∀ g, vk.ownBlock = some g → g ∈ bs) ∧ (z = true → l = [])
/-- .. one edge being still to be put into the row. -/
def ReP (w : World) (be : Nat) (xs : List Nat) (mk : Int) (vk : Value) (n Bm : Nat) (x : Nat × Nat × Int) (W : World) : Prop :=
  ∃ e l A bs, ReE (l ++ [x]) A e ∧ e.mark = mk ∧ KSt w be bs e W ∧ (∀ b ∈ xs, b ∈ bs) ∧ Bm ∈ bs ∧ EnAt W Bm A ∧ l.length = n ∧ W.ownsRow w.heap.size 46 3 vk n (l.flatMap edC) ∧ (∀ g, vk.ownBlock = some g → g ∈ bs)
/-- .. the ends being still to be reckoned. -/
def ReT (w : World) (be : Nat) (mk : Int) (vk : Value) (W : World) : Prop :=
  ∃ e l bs, ReE l (allA 6 (recA mk l)) e ∧ e.mark = mk ∧ KSt w be bs e W ∧ W.ownsRow w.heap.size 46 3 vk l.length (l.flatMap edC) ∧ (∀ g, vk.ownBlock = some g → g ∈ bs)
section
variable {w W : World} {be : Nat} {xs : List Nat} {z : Bool} {mk : Int} {vk : Value} {Bm : Nat}
theorem row_kept {bs : List Nat} {W' : World} {n : Nat} {cs : List Value} {B T k : Nat} (h : W.ownsRow B T k vk n cs) (hk : Kept bs W W') (hb : ∀ g, vk.ownBlock = some g → g ∈ bs) : W'.ownsRow B T k vk n cs := own_keep h (fun g hg _ => hk g (hb g hg))
theorem ReS.same {W' : World} (h : ReS w be xs z mk vk Bm W) (hb : Below W.heap.size W W') : ReS w be xs z mk vk Bm W' := by
  obtain ⟨e, l, A, bs, h1, h2, h3, h4, h5, h6, h7, h8, h9⟩ := h
  obtain ⟨k1, k2⟩ := h3.same hb
  exact ⟨e, l, A, bs, h1, h2, k1, h4, h5, (k2 Bm h5).trans h6, row_kept h7 k2 h8, h8, h9⟩
theorem ReS.alloc (h : ReS w be [] z mk vk Bm W) (O : Obj) : ReS w be [W.heap.size] z mk vk Bm (W.alloc O) := by
  obtain ⟨e, l, A, bs, h1, h2, h3, h4, h5, h6, h7, h8, h9⟩ := h
  obtain ⟨k1, k2⟩ := h3.alloc O
  exact ⟨e, l, A, _, h1, h2, k1, fun b hb => by rw [List.mem_singleton] at hb; rw [hb]; exact List.mem_cons_self, List.mem_cons_of_mem _ h5, (k2 Bm h5).trans h6, row_kept h7 k2 h8, fun g hg => List.mem_cons_of_mem _ (h8 g hg), h9⟩
theorem ReS.fewer (h : ReS w be xs z mk vk Bm W) : ReS w be [] false mk vk Bm W := by
  obtain ⟨e, l, A, bs, h1, h2, h3, h4, h5, h6, h7, h8, h9⟩ := h
  exact ⟨e, l, A, bs, h1, h2, h3, fun b hb => (by cases hb), h5, h6, h7, h8, fun h => by cases h⟩
theorem ReS.below (h : ReS w be xs z mk vk Bm W) : Below w.heap.size w W ∧ 0 ≤ mk ∧ ∃ n : Nat, n ≤ 1000000000 ∧ ∃ a c, vk = .slice a n c := by
  obtain ⟨e, l, A, bs, h1, h2, h3, h4, h5, h6, h7, h8, h9⟩ := h
  have hm := h3.ok.mark
  have hk := h3.ok.k24
  have hl := h1.len
  exact ⟨h3.below, by rw [← h2]; exact hm.1, l.length, by omega, owns_form h7⟩
theorem re_insert (h : ReS w be xs z mk vk Bm W) (hT : Lib.Utf8Tabs 0 1 w) {a b : Nat} (ha : a < 6) (hb : b < 6) {t : Int} (ht : 0 ≤ t ∧ t ≤ 1000000) {n : Nat} {ka : Option Addr} {kc : Nat} (hvk : vk = .slice ka n kc) :
    Calls Tryz.prog 20 #[.pointer (some ⟨be, 0, none⟩), .string (ofB bEd a b), .int .i64 t] W fun en W' => ∃ r : Int, en = .returned (.int .i64 r) ∧ (r = 0 ∨ r = 8 ∨ r = 9 ∨ r = 10) ∧ (r = 8 ↔ t + 20 ≤ mk) ∧ (z = true → mk = 0 → r = 0) ∧ Kept xs W W' ∧ Hid ((r ≠ 0 → ReS w be xs false mk vk Bm W') ∧ (r = 0 → ReP w be xs mk vk n Bm (a, b, t) W')) := by
  obtain ⟨e, l, A, bs, h1, h2, h3, h4, h5, h6, h7, h8, h9⟩ := h
  have hn : l.length = n := by
    obtain ⟨a', c', e1⟩ := owns_form h7
    rw [hvk] at e1
    simp only [Value.slice.injEq] at e1
    omega
  refine (kinsert h3 hT (ofB bEd a b) t (by show (4 + 5 : Nat) ≤ _; decide) (fun c hc => by rw [atom_e ha hb] at hc; cases hc; exact ⟨am_ok _ (by decide) _ _, am_nums _ _ _⟩)).mono ?_
  rintro en W' ⟨k1, k2, k3⟩
  obtain ⟨r, hr⟩ : ∃ r, insR e (ofB bEd a b) t = r := ⟨_, rfl⟩
  obtain ⟨g1, g2, g3, g4, g5, g6⟩ := re_ins h1 ha hb ht hr
  rw [hr] at k1 k2
  have e6 : EnAt W' Bm A := (k3 Bm h5).trans h6
  have e7 := row_kept h7 k3 h8
  refine ⟨r.1, k1, g1, by rw [← h2]; exact g2, fun hz hm => g6 (h9 hz) (by rw [h2]; exact hm), fun b hb => k3 b (h4 b hb), fun h0 => ?_, fun h0 => ?_⟩
  · exact ⟨r.2, l, A, bs, g5 h0, by rw [g3]; exact h2, k2, h4, h5, e6, e7, h8, fun h => by cases h⟩
  · exact ⟨r.2, l, A, bs, g4 h0, by rw [g3]; exact h2, k2, h4, h5, e6, hn, by rw [← hn]; exact e7, h8⟩
theorem rep_row {n : Nat} {x : Nat × Nat × Int} (h : ReP w be xs mk vk n Bm x W) : ∃ l : List (Nat × Nat × Int), W.ownsRow w.heap.size 46 3 vk n (l.flatMap edC) ∧ n ≤ 1000000000 ∧ w.heap.size ≤ W.heap.size ∧ ∀ (O : Obj) (w1 : World) (v' : Value), w1.ownsRow w.heap.size 46 3 v' (n + 1) (l.flatMap edC ++ edC x) → (W.alloc O).grownBy w1 vk.ownBlock → (v'.ownBlock = vk.ownBlock ∨ v'.ownBlock = some (W.alloc O).heap.size) → ReS w be [] false mk v' Bm w1 := by
  obtain ⟨e, l, A, bs, h1, h2, h3, h4, h5, h6, h7, h8, h9⟩ := h
  have hm5 := h3.ok.mark
  have hk5 := h3.ok.k24
  have hl5 := h1.len
  rw [List.length_append] at hl5
  refine ⟨l, h8, by simp at hl5; omega, h3.below.size, fun O w1 v' ho hg hat => ?_⟩
  have hlt : ∀ b ∈ bs, b < W.heap.size := h3.lt
  have hch : Chg W w1 (fun k => vk.ownBlock = some k) := ((Chg.refl W _).alloc O).grown hg (fun k hk _ => hk)
  have hne : vk.ownBlock ≠ some Bm := fun hs => by
    obtain ⟨_, c, hc⟩ := owns_block h8 hs
    unfold EnAt at h6
    rw [h6] at hc; cases hc
  have hl1 : (l ++ [x]).length = n + 1 := by rw [List.length_append, h7]; rfl
  refine ⟨e, l ++ [x], A, v'.ownBlock.toList ++ bs, h1, h2, h3.put hch (fun k hk he => ?_) (fun b hb => ?_), fun b hb => (by cases hb), List.mem_append_right _ h5, (hch.block Bm (hlt Bm h5) hne).trans h6, ?_, fun g hg' => List.mem_append_left _ (by rw [hg']; simp), fun h => by cases h⟩
  · obtain ⟨g1, c, hc⟩ := owns_block h8 he
    exact ⟨h9 k he, g1, _, _, hc, by decide⟩
  · rcases List.mem_append.1 hb with hb | hb
    · have hv : v'.ownBlock = some b := by simpa using hb
      obtain ⟨_, c, hc⟩ := owns_block ho hv
      refine ⟨?_, (Array.getElem?_eq_some_iff.1 hc).1⟩
      rcases hat with e1 | e1
      · exact .inl (h9 b (e1.symm.trans hv))
      · right
        rw [e1] at hv
        have := Option.some.inj hv
        simp at this
        omega
    · exact ⟨.inl hb, Nat.lt_of_lt_of_le (hlt b hb) hch.size⟩
  · rw [hl1, List.flatMap_append]
    simpa using ho
theorem re_tk (h : ReS w be [] z mk vk Bm W) {c : Int} (hc : 0 ≤ c ∧ c ≤ 1000000) :
    Calls Tryz.prog 22 #[.pointer (some ⟨be, 0, none⟩), .int .i64 c] W fun en W' => en = .returned (.tuple #[.int .i64 (max mk (c - 3)), .int .i64 0]) ∧ Hid ((c - 3 ≤ mk → ReS w be [] false mk vk Bm W') ∧ (mk < c - 3 → ReT w be (c - 3) vk W')) := by
  obtain ⟨e, l, A, bs, h1, h2, h3, h4, h5, h6, h7, h8, h9⟩ := h
  refine (ktick h3 c).mono ?_
  rintro en W' ⟨e', r, k1, k2, k3, k4⟩
  obtain ⟨g1, g2, g3⟩ := re_tick h1 h3.ok k3.ok hc k1
  rw [g1, g2] at k2
  have e6 : EnAt W' Bm A := (k4 Bm h5).trans h6
  have e7 := row_kept h7 k4 h8
  rcases g3 with ⟨g4, rfl⟩ | ⟨g4, g5, g6⟩
  · have hmx : max mk (c - 3) = e'.mark := by omega
    rw [hmx]
    exact ⟨k2, fun _ => ⟨e', l, A, bs, h1, h2, k3, h4, h5, e6, e7, h8, fun h => by cases h⟩, fun hlt => by omega⟩
  · have hmx : max mk (c - 3) = e'.mark := by omega
    rw [hmx]
    exact ⟨k2, fun hle => by omega, fun _ => ⟨e', l, bs, g6, g5, k3, e7, h8⟩⟩
theorem ed_row {l : List (Nat × Nat × Int)} {ka : Option Addr} {n kc B : Nat} (h : W.ownsRow B 46 3 (.slice ka n kc) l.length (l.flatMap edC)) : EdAt W ka (l.map toZ) := by
  intro i hi
  rw [List.length_map] at hi
  obtain ⟨_, ⟨_, hz⟩ | ⟨g, c, cur, hv, _, hw, _, _, _, htk⟩⟩ := h
  · omega
  simp only [Value.slice.injEq] at hv
  obtain ⟨rfl, _, _⟩ := hv
  have hfl : ∀ (l : List (Nat × Nat × Int)) i (hi : i < l.length) k (hk : k < 3), (l.flatMap edC)[i * 3 + k]? = (edC l[i])[k]? := by
    intro l
    induction l with
    | nil => intro i hi; simp at hi
    | cons y l ih =>
      intro i hi k hk
      rw [List.flatMap_cons]
      cases i with
      | zero => rw [List.getElem?_append_left (by show _ < 3; omega)]; simp
      | succ i =>
        rw [List.getElem?_append_right (by show 3 ≤ _; omega)]
        have : (i + 1) * 3 + k - (edC y).length = i * 3 + k := by show (i + 1) * 3 + k - 3 = _; omega
        rw [this, ih i (by simpa using hi) k hk]
        simp
  have hcell : ∀ k (hk : k < 3) v, (edC l[i])[k]? = some v → W.cell? ⟨g, i * 3 + k, none⟩ = some v := fun k hk v hv => by
    have e1 := hfl l i hi k hk
    rw [hv, ← htk, List.getElem?_take, if_pos (by omega)] at e1
    simp only [World.cell?, hw]
    simpa using e1
  refine ⟨g, 0, rfl, (Array.getElem?_eq_some_iff.1 hw).1, ?_, ?_, ?_⟩
  · rw [List.getElem_map, Nat.zero_add]; exact hcell 0 (by decide) _ rfl
  · rw [List.getElem_map, Nat.zero_add]; exact hcell 1 (by decide) _ rfl
  · rw [List.getElem_map, Nat.zero_add]; exact hcell 2 (by decide) _ rfl
theorem re_reckon {ka : Option Addr} {n kc : Nat} (h : ReT w be mk (.slice ka n kc) W) :
    Calls Tryz.prog 18 #[.slice ka n kc, .int .i64 mk] W fun en W' => en = .returned (.pointer (some ⟨W.heap.size, 0, none⟩)) ∧ Hid (ReS w be [] false mk (.slice ka n kc) W.heap.size W') := by
  obtain ⟨e, l, bs, h1, h2, h3, h4, h5⟩ := h
  have hm := h3.ok.mark
  have hk := h3.ok.k24
  have hl := h1.len
  have hn : n = l.length := by
    obtain ⟨a', c', e1⟩ := owns_form h4
    simp only [Value.slice.injEq] at e1
    omega
  subst hn
  refine (reckon_any ka kc l mk W (ed_row h4) (by omega) h1.pts).mono ?_
  rintro en W' ⟨k1, k2, k3, k4⟩
  have hkp := (h3.same k3).2
  refine ⟨k1, e, l, _, W.heap.size :: bs, h1, h2, h3.put (Chg.ofBelow (fun _ => False) k3) (fun _ _ h => h.elim) (fun b hb => ?_), fun b hb => (by cases hb), List.mem_cons_self, k2, row_kept h4 hkp h5, fun g hg => List.mem_cons_of_mem _ (h5 g hg), fun h => by cases h⟩
  rcases List.mem_cons.1 hb with rfl | hb
  · exact ⟨.inr (Nat.le_refl _), k4⟩
  · exact ⟨.inl hb, Nat.lt_of_lt_of_le (h3.lt b hb) k3.size⟩
theorem re_right (h : ReS w be [] z mk vk Bm W) (hT : Lib.Utf8Tabs 0 1 w) :
    Calls Tryz.prog 23 #[.pointer (some ⟨Bm, 0, none⟩), .pointer (some ⟨be, 0, none⟩)] W fun en W' => en = .returned (.bool true) ∧ Hid (ReS w be [] z mk vk Bm W') := by
  obtain ⟨e, l, A, bs, h1, h2, h3, h4, h5, h6, h7, h8, h9⟩ := h
  refine (right_any h3 h5 h6 h1 hT).mono ?_
  rintro en W' ⟨k1, k2, k3⟩
  exact ⟨k1, e, l, A, bs, h1, h2, k2, h4, h5, (k3 Bm h5).trans h6, row_kept h7 k3 h8, h8, h9⟩
end
/-- At the start. -/
theorem allA_zero : ∀ (n : Nat) i j, allA n (fun _ _ => 0) i j = 0
  | 0, i, j => rfl
  | n + 1, i, j => by
    have h0 : allA n (fun _ _ => 0) = fun _ _ => 0 := by funext a b; exact allA_zero n a b
    have hs : ∀ (ps : List (Nat × Nat)), ps.foldl (stepA n) (fun _ _ => (0 : Int)) = fun _ _ => 0 := by
      intro ps
      induction ps with
      | nil => rfl
      | cons p ps ih =>
        rw [List.foldl_cons]
        have : stepA n (fun _ _ => (0 : Int)) p = fun _ _ => 0 := by
          funext a b
          unfold stepA setA
          split <;> rfl
        rw [this, ih]
    rw [allA_succ, h0]
    unfold roundA
    rw [hs]
theorem re_first {w W : World} {be : Nat} {M : Gd → Option Int} (hM : LeastM rsP (givenL rsP) M) (h : KSt w be [] (newE rsP 20 3 5 M) W) :
    Calls Tryz.prog 18 #[.slice none 0 0, .int .i64 0] W fun en W' => en = .returned (.pointer (some ⟨W.heap.size, 0, none⟩)) ∧ Hid (ReS w be [] true 0 (.slice none 0 0) W.heap.size W') := by
  refine (reckon_any none 0 [] 0 W (fun i hi => by simp at hi) (by decide) (fun x hx => by cases hx)).mono ?_
  rintro en W' ⟨k1, k2, k3, k4⟩
  have hA : allA 6 (recA 0 []) = fun _ _ => 0 := by funext a b; exact allA_zero 6 a b
  rw [hA] at k2
  refine ⟨k1, _, [], _, [W.heap.size], re_new hM, rfl, h.put (Chg.ofBelow (fun _ => False) k3) (fun _ _ h => h.elim) (fun b hb => ?_), fun b hb => (by cases hb), List.mem_cons_self, k2, ⟨rfl, .inl ⟨rfl, rfl⟩⟩, fun g hg => (by cases hg), fun _ => rfl⟩
  rw [List.mem_singleton] at hb
  subst hb
  exact ⟨.inr (Nat.le_refl _), k4⟩

end Go.Proofs.YtjajnhemgphefaaGreatDoor
