/-
  slices.Grow and slices.Concat of atoms.
-/
import Derived.Test.YtjajnhemgphefaaGreatDoorJdMoE
import Derived.Test.YtjajnhemgphefaaGreatDoorMore
namespace Go.Proofs.YtjajnhemgphefaaGreatDoor
open Go.RowKit Go.Shelf
set_option linter.unusedVariables false
set_option linter.unusedSimpArgs false

theorem zero_size (z : Array Value) (n : Nat) : (Builtin.zeroCells z n).size = n * z.size := by
  unfold Builtin.zeroCells
  induction n with
  | zero => simp
  | succ n ih => simp [Array.replicate_succ, Nat.succ_mul]

/-- A slice that is read alone. -/
structure Sl where
  v : Value
  n : Nat
  xs : List Value
def slSum (l : List Sl) : Nat := (l.map (·.n)).sum
theorem slSum_take {l : List Sl} {k : Nat} (h : k < l.length) : slSum (l.take (k + 1)) = slSum (l.take k) + (l[k]).n := by
  unfold slSum; rw [List.take_succ_eq_append_getElem h, List.map_append, List.sum_append]; rfl
theorem slSum_le (l : List Sl) (k : Nat) : slSum (l.take k) ≤ slSum l := by
  unfold slSum
  conv => rhs; rw [← List.take_append_drop k l]
  rw [List.map_append, List.sum_append]
  omega
def SrcAt (W : World) (size : Nat) (s : Sl) : Prop :=
  (s.v = .slice none 0 0 ∧ s.n = 0 ∧ s.xs = []) ∨
  ∃ a c, s.v = .slice (some a) s.n c ∧ s.xs.length = s.n * size ∧ (∀ j u, s.xs[j]? = some u → W.cell? (a.add j) = some u) ∧ (s.n ≠ 0 → a.block < W.heap.size) ∧ ∀ u ∈ s.xs, u.oneCell' = true
theorem SrcAt.form {W : World} {size : Nat} {s : Sl} (h : SrcAt W size s) : ∃ a c, s.v = .slice a s.n c := by
  rcases h with ⟨h1, h2, _⟩ | ⟨a, c, h1, _⟩
  · exact ⟨none, 0, by rw [h1, h2]⟩
  · exact ⟨some a, c, h1⟩
theorem SrcAt.later {W W' : World} {size : Nat} {s : Sl} (h : SrcAt W size s) (hb : Below W.heap.size W W') : SrcAt W' size s := by
  rcases h with h | ⟨a, c, h1, h2, h3, h4, h5⟩
  · exact .inl h
  · refine .inr ⟨a, c, h1, h2, fun j u hj => cell_later hb (h3 j u hj), fun hn => ?_, h5⟩
    have := h4 hn; have := hb.size; omega

theorem ownsRow_lower {W : World} {b b' e size n : Nat} {v : Value} {xs : List Value} (h : W.ownsRow b e size v n xs) (hb : b' ≤ b) : W.ownsRow b' e size v n xs := by
  obtain ⟨h0, h1 | ⟨g, cap, cur, hv, hg, h2⟩⟩ := h
  · exact ⟨h0, .inl h1⟩
  · exact ⟨h0, .inr ⟨g, cap, cur, hv, Nat.le_trans hb hg, h2⟩⟩
theorem own_ge {W : World} {b e size n : Nat} {v : Value} {xs : List Value} (h : W.ownsRow b e size v n xs) {g : Nat} (hg : v.ownBlock = some g) : b ≤ g := by
  obtain ⟨h0, ⟨h1, _⟩ | ⟨g', cap, cur, hv, hb, h2⟩⟩ := h
  · rw [h1] at hg; cases hg
  · rw [hv] at hg; cases hg; exact hb
theorem grown_refl (W : World) (r : Option Nat) : W.grownBy W r := ⟨rfl, rfl, rfl, Nat.le_refl _, fun _ _ _ => rfl⟩

theorem wpList_append_none {P : Program} (w : World) {ops : Array Oper} {rest : List Oper} {o : Oper} {a : Act} {Q : Exit → Act → World → Prop} (hgd : o.guard = none) (s x : Operand) (t : TypeId)
    (ho : o.op = .call { callee := .builtin .append, args := #[s, x], argTypes := #[t, t] }) (base : Nat) (e : TypeId) (i : TypeInfo) (size : Nat) (ht : P.underlying t = some (.slice e)) (hi : P.info? e = some i)
    (v : Value) (n : Nat) (xs : List Value) (hs : a.eval s = v) (hown : w.ownsRow base e size v n xs) (hx : a.eval x = .slice none 0 0) (h : wpList P ops Q rest (a.put o.dst v) w) : wpList P ops Q (o :: rest) a w := by
  refine wpList_plain hgd fun K hK => ?_
  have hr := run_append_owned_none (P := P) w base t o.type e i size ht hi v n xs hown
  unfold Oper.wp execOp
  simp only [ho, resolve, invoke, builtin, Sem.run_bind, Sem.run_pure, Result.andThen_ok, List.map_toArray, List.map_cons, List.map_nil, hs, hx, hr]
  exact hK _ _ h
theorem Tryz.infoRec : (Tryz.prog.info? 71).map (fun i => (i.zero, i.size, i.bytes)) = some (some (.agg #[.int .i64 0, .int .i64 0, .string ⟨#[]⟩, .int .i64 0]), 4, 40) := by kernel_rfl

theorem growA_any (n : Nat) (hn : n ≤ 1000) (w : World) :
    Calls Tryz.prog 259 #[.slice none 0 0, .int .i64 n] w fun e w' => ∃ v, e = .returned v ∧ w'.ownsRow w.heap.size 92 2 v 0 [] ∧ Below w.heap.size w w' := by
  by_cases h0 : n = 0
  · subst h0
    refine (Any8.slices_Grow_room Tryz.growAtom none 0 0 0 w (Nat.le_refl _) (by decide) (by decide) (Nat.le_refl _)).mono ?_
    rintro e w' ⟨rfl, rfl⟩
    exact ⟨_, rfl, World.ownsRow_nil _ _ _ _, Below.refl _ _⟩
  · obtain ⟨i0, hi, hz0, hz1, hz2⟩ := info_parts Tryz.info45
    refine (Any8.slices_Grow_grow Tryz.growAtom i0 _ hi hz0 (by rw [hz1]; decide) none 0 0 n [] w (Nat.le_refl _) (by omega) (by rw [hz2]; omega) (by omega) (by simp) (fun _ => rfl) (fun a h => by cases h)).mono ?_
    rintro e w' ⟨rfl, rfl⟩
    have hg := grownCap_ge w (0 + n) 0 92
    have hm := grownCap_le_maxLen w (0 + n) 0 92 (by unfold maxLen; omega)
    refine ⟨_, rfl, ⟨rfl, .inr ⟨w.heap.size, _, _, rfl, Nat.le_refl _, World.alloc_heap_new w.drew _, Nat.zero_le _, hm, ?_, by simp⟩⟩, (Below.refl w.heap.size w).drew.alloc (Nat.le_refl _) _⟩
    rw [Array.size_append, Array.size_append, zero_size, zero_size]
    show 0 + _ * 2 + _ * 2 = _ * 2
    have : ∀ g : Nat, 0 + n ≤ g → 0 + (0 + n - 0) * 2 + (g - (0 + n)) * 2 = g * 2 := fun g h => by omega
    exact this _ hg

set_option maxRecDepth 100000 in
set_option maxHeartbeats 2000000 in
theorem concatA_any (B : Nat) (ss : List Sl) (w : World) (hB : w.heap[B]? = some (Obj.cells (ss.map (·.v)).toArray 134 (0, 0))) (hss : ∀ s ∈ ss, SrcAt w 2 s) (hn : slSum ss ≤ 500) (hl : ss.length ≤ 10) :
    Calls Tryz.prog 230 #[.slice (some ⟨B, 0, none⟩) ss.length ss.length] w fun e w' => ∃ v, e = .returned v ∧ w'.ownsRow w.heap.size 92 2 v (slSum ss) (ss.flatMap (·.xs)) ∧ Below w.heap.size w w' := by
  have hBl : B < w.heap.size := (Array.getElem?_eq_some_iff.1 hB).1
  have hgr : Hid (∀ W, Calls Tryz.prog 259 #[.slice none 0 0, .int .i64 (slSum ss)] W fun e w' => ∃ v, e = .returned v ∧ w'.ownsRow W.heap.size 92 2 v 0 [] ∧ Below W.heap.size W w') := fun W => growA_any _ (by omega) W
  have hcell : Hid (∀ W, Below w.heap.size w W → ∀ k (hk : k < ss.length), W.cell? ⟨B, k, none⟩ = some (ss[k]).v ∧ SrcAt W 2 ss[k]) := by
    intro W hb k hk
    refine ⟨cell_later hb ?_, (hss _ (List.getElem_mem hk)).later hb⟩
    simp [World.cell?, hB, hk]
  clear hss hB
  obtain ⟨i0, hi, hz0, hz1, hz2⟩ := info_parts Tryz.info45
  go_enter Tryz.func230, Tryz.ntmps230
  go_wp2
  go_loopw [3, 11] (fun x y wr => ∃ k : Nat, k ≤ ss.length ∧ x = .int .i64 (slSum (ss.take k)) ∧ y = .int .i64 k ∧ Below w.heap.size w wr) (fun x y _ => ss.length - (intOf y).toNat)
  case atStart => exact ⟨0, Nat.zero_le _, rfl, rfl, Below.refl _ _⟩
  case round =>
    obtain ⟨k, hk, rfl, rfl, hb⟩ := hrel
    by_cases hlt : k < ss.length
    · obtain ⟨hc, hs⟩ := hcell.out wr hb k hlt
      obtain ⟨a, c, hv⟩ := hs.form
      have hsum : slSum (ss.take (k + 1)) = slSum (ss.take k) + (ss[k]).n := slSum_take hlt
      have hle := slSum_le ss (k + 1)
      rw [hv] at hc
      have i1 : (k : Int) < (ss.length : Int) := by omega
      generalize (ss[k]).n = m at *
      generalize hq : slSum (ss.take k) = q at *
      have i2 : ¬ ((q : Int) + m < 0) := by omega
      clear hs hv hq
      go_wp2
      go_roundw
      case rel => exact ⟨k + 1, by omega, by rw [hsum]; go_num, by go_num, hb⟩
      case measure => simp [intOf]; omega
    · have hkl : k = ss.length := by omega
      subst hkl
      rw [List.take_length] at *
      generalize hq : slSum ss = q at *
      have hqs : Hid (slSum ss = q) := hq
      have hq5 : q ≤ 500 := hn
      clear hq
      go_wp2_with (go_at_call 259; refine (hgr.out _).mono ?_; rintro e W1 ⟨v, rfl, hown, hb1⟩; obtain ⟨va, vc, hvf⟩ := own_form hown; subst hvf)
      have hbW : Below w.heap.size w W1 := hb.trans (hb1.mono hb.size)
      have hown0 : W1.ownsRow w.heap.size 92 2 (.slice va 0 vc) 0 [] := ownsRow_lower hown hb.size
      clear hown hgr hb1 hb
      go_loopw [6, 27] (fun x y wr => ∃ k : Nat, k ≤ ss.length ∧ (∃ vx, vx = x ∧ wr.ownsRow w.heap.size 92 2 vx (slSum (ss.take k)) ((ss.take k).flatMap (·.xs))) ∧ y = .int .i64 k ∧ Below w.heap.size w wr) (fun x y _ => ss.length - (intOf y).toNat)
      case atStart => exact ⟨0, Nat.zero_le _, ⟨_, rfl, hown0⟩, rfl, hbW⟩
      case round =>
        clear hown0 hbW
        obtain ⟨k, hk, ⟨vx, rfl, hown⟩, rfl, hb⟩ := hrel
        by_cases hlt : k < ss.length
        · obtain ⟨hc, hs⟩ := hcell.out _ hb k hlt
          have hsum : slSum (ss.take (k + 1)) = slSum (ss.take k) + (ss[k]).n := slSum_take hlt
          have hle := slSum_le ss (k + 1)
          have hxs : (ss.take (k + 1)).flatMap (·.xs) = (ss.take k).flatMap (·.xs) ++ (ss[k]).xs := by rw [List.take_succ_eq_append_getElem hlt, List.flatMap_append]; simp
          have i1 : (k : Int) < (ss.length : Int) := by omega
          have hsz := hb.size
          have hnext : Hid (∀ v' w1, w1.ownsRow w.heap.size 92 2 v' (slSum (ss.take k) + (ss[k]).n) ((ss.take k).flatMap (·.xs) ++ (ss[k]).xs) → wr.grownBy w1 vx.ownBlock → w1.ownsRow w.heap.size 92 2 v' (slSum (ss.take (k + 1))) ((ss.take (k + 1)).flatMap (·.xs)) ∧ Below w.heap.size w w1) := by
            intro v' w1 h1 h2
            rw [hsum, hxs]
            exact ⟨h1, hb.grown h2 hsz (fun g hg => own_ge hown hg)⟩
          rw [hqs.out] at hle
          rcases hs with ⟨s1, s2, s3⟩ | ⟨a, c, s1, s2, s3, s4, s5⟩
          · rw [s1] at hc
            have hl := hnext.out vx wr (by rw [s2, s3]; simpa using hown) (grown_refl _ _)
            have HL : Hid _ := hl
            have HO : Hid (wr.ownsRow w.heap.size 92 2 vx (slSum (ss.take k)) ((ss.take k).flatMap (·.xs))) := hown
            obtain ⟨xa, xc, hxf⟩ := own_form hown
            clear hnext hxs hsum hl
            subst hxf
            go_wp2_with (at_builtin; refine wpList_append_none _ rfl (.tmp 31) (.tmp 32) 134 rfl w.heap.size 92 i0 2 Tryz.underlying134 hi _ _ _ rfl HO.out rfl ?_)
            go_roundw
            case rel => exact ⟨k + 1, by omega, ⟨_, rfl, HL.out.1⟩, by go_num, HL.out.2⟩
            case measure => simp [intOf]; omega
          · rw [s1] at hc
            have hb1 : slSum (ss.take k) + (ss[k]).n ≤ maxLen := by unfold maxLen; omega
            have hb2 : (slSum (ss.take k) + (ss[k]).n) * 40 ≤ 140737488355328 := by omega
            have HO : Hid (wr.ownsRow w.heap.size 92 2 vx (slSum (ss.take k)) ((ss.take k).flatMap (·.xs))) := hown
            obtain ⟨xa, xc, hxf⟩ := own_form hown
            have S3 : Hid _ := s3
            generalize (ss[k]).n = m at *
            generalize (ss[k]).xs = news at *
            clear hxs hsum hle s3 hown
            subst hxf
            go_wp2_with (at_builtin; refine wpList_append_own _ rfl (.tmp 31) (.tmp 32) 134 rfl w.heap.size 92 i0 _ 2 40 Tryz.underlying134 hi hz0 hz1 hz2 rfl (by decide) _ _ _ rfl HO.out a m c news rfl s2 S3.out s5 hb1 hb2 hsz ?_; intro v' w1 hown1 hgrow1 _; obtain ⟨xa', xc', hxf'⟩ := own_form hown1; subst hxf')
            obtain ⟨t1, t2⟩ := hnext.out _ w1 hown1 hgrow1
            go_roundw
            case rel => exact ⟨k + 1, by omega, ⟨_, rfl, t1⟩, by go_num, t2⟩
            case measure => simp [intOf]; omega
        · have hkl : k = ss.length := by omega
          subst hkl
          rw [List.take_length] at hown
          rw [hqs.out] at hown
          obtain ⟨xa, xc, hxf⟩ := own_form hown
          subst hxf
          go_wp2
          go_ret
          refine ⟨_, rfl, ?_, hb⟩
          rw [hqs.out]
          exact hown

theorem growR_any (n : Nat) (hn : n ≤ 1000) (w : World) :
    Calls Tryz.prog 194 #[.slice none 0 0, .int .i64 n] w fun e w' => ∃ v, e = .returned v ∧ w'.ownsRow w.heap.size 71 4 v 0 [] ∧ Below w.heap.size w w' := by
  by_cases h0 : n = 0
  · subst h0
    refine (Any8.slices_Grow_room Tryz.growRecord none 0 0 0 w (Nat.le_refl _) (by decide) (by decide) (Nat.le_refl _)).mono ?_
    rintro e w' ⟨rfl, rfl⟩
    exact ⟨_, rfl, World.ownsRow_nil _ _ _ _, Below.refl _ _⟩
  · obtain ⟨i0, hi, hz0, hz1, hz2⟩ := info_parts Tryz.infoRec
    refine (Any8.slices_Grow_grow Tryz.growRecord i0 _ hi hz0 (by rw [hz1]; decide) none 0 0 n [] w (Nat.le_refl _) (by omega) (by rw [hz2]; omega) (by omega) (by simp) (fun _ => rfl) (fun a h => by cases h)).mono ?_
    rintro e w' ⟨rfl, rfl⟩
    have hg := grownCap_ge w (0 + n) 0 71
    have hm := grownCap_le_maxLen w (0 + n) 0 71 (by unfold maxLen; omega)
    refine ⟨_, rfl, ⟨rfl, .inr ⟨w.heap.size, _, _, rfl, Nat.le_refl _, World.alloc_heap_new w.drew _, Nat.zero_le _, hm, ?_, by simp⟩⟩, (Below.refl w.heap.size w).drew.alloc (Nat.le_refl _) _⟩
    rw [Array.size_append, Array.size_append, zero_size, zero_size]
    show 0 + _ * 4 + _ * 4 = _ * 4
    have : ∀ g : Nat, 0 + n ≤ g → 0 + (0 + n - 0) * 4 + (g - (0 + n)) * 4 = g * 4 := fun g h => by omega
    exact this _ hg

set_option maxRecDepth 100000 in
set_option maxHeartbeats 2000000 in
theorem concatR_any (B : Nat) (ss : List Sl) (w : World) (hB : w.heap[B]? = some (Obj.cells (ss.map (·.v)).toArray 196 (0, 0))) (hss : ∀ s ∈ ss, SrcAt w 4 s) (hn : slSum ss ≤ 500) (hl : ss.length ≤ 10) :
    Calls Tryz.prog 148 #[.slice (some ⟨B, 0, none⟩) ss.length ss.length] w fun e w' => ∃ v, e = .returned v ∧ w'.ownsRow w.heap.size 71 4 v (slSum ss) (ss.flatMap (·.xs)) ∧ Below w.heap.size w w' := by
  have hBl : B < w.heap.size := (Array.getElem?_eq_some_iff.1 hB).1
  have hgr : Hid (∀ W, Calls Tryz.prog 194 #[.slice none 0 0, .int .i64 (slSum ss)] W fun e w' => ∃ v, e = .returned v ∧ w'.ownsRow W.heap.size 71 4 v 0 [] ∧ Below W.heap.size W w') := fun W => growR_any _ (by omega) W
  have hcell : Hid (∀ W, Below w.heap.size w W → ∀ k (hk : k < ss.length), W.cell? ⟨B, k, none⟩ = some (ss[k]).v ∧ SrcAt W 4 ss[k]) := by
    intro W hb k hk
    refine ⟨cell_later hb ?_, (hss _ (List.getElem_mem hk)).later hb⟩
    simp [World.cell?, hB, hk]
  clear hss hB
  obtain ⟨i0, hi, hz0, hz1, hz2⟩ := info_parts Tryz.infoRec
  go_enter Tryz.func148, Tryz.ntmps148
  go_wp2
  go_loopw [3, 11] (fun x y wr => ∃ k : Nat, k ≤ ss.length ∧ x = .int .i64 (slSum (ss.take k)) ∧ y = .int .i64 k ∧ Below w.heap.size w wr) (fun x y _ => ss.length - (intOf y).toNat)
  case atStart => exact ⟨0, Nat.zero_le _, rfl, rfl, Below.refl _ _⟩
  case round =>
    obtain ⟨k, hk, rfl, rfl, hb⟩ := hrel
    by_cases hlt : k < ss.length
    · obtain ⟨hc, hs⟩ := hcell.out wr hb k hlt
      obtain ⟨a, c, hv⟩ := hs.form
      have hsum : slSum (ss.take (k + 1)) = slSum (ss.take k) + (ss[k]).n := slSum_take hlt
      have hle := slSum_le ss (k + 1)
      rw [hv] at hc
      have i1 : (k : Int) < (ss.length : Int) := by omega
      generalize (ss[k]).n = m at *
      generalize hq : slSum (ss.take k) = q at *
      have i2 : ¬ ((q : Int) + m < 0) := by omega
      clear hs hv hq
      go_wp2
      go_roundw
      case rel => exact ⟨k + 1, by omega, by rw [hsum]; go_num, by go_num, hb⟩
      case measure => simp [intOf]; omega
    · have hkl : k = ss.length := by omega
      subst hkl
      rw [List.take_length] at *
      generalize hq : slSum ss = q at *
      have hqs : Hid (slSum ss = q) := hq
      have hq5 : q ≤ 500 := hn
      clear hq
      go_wp2_with (go_at_call 194; refine (hgr.out _).mono ?_; rintro e W1 ⟨v, rfl, hown, hb1⟩; obtain ⟨va, vc, hvf⟩ := own_form hown; subst hvf)
      have hbW : Below w.heap.size w W1 := hb.trans (hb1.mono hb.size)
      have hown0 : W1.ownsRow w.heap.size 71 4 (.slice va 0 vc) 0 [] := ownsRow_lower hown hb.size
      clear hown hgr hb1 hb
      go_loopw [6, 27] (fun x y wr => ∃ k : Nat, k ≤ ss.length ∧ (∃ vx, vx = x ∧ wr.ownsRow w.heap.size 71 4 vx (slSum (ss.take k)) ((ss.take k).flatMap (·.xs))) ∧ y = .int .i64 k ∧ Below w.heap.size w wr) (fun x y _ => ss.length - (intOf y).toNat)
      case atStart => exact ⟨0, Nat.zero_le _, ⟨_, rfl, hown0⟩, rfl, hbW⟩
      case round =>
        clear hown0 hbW
        obtain ⟨k, hk, ⟨vx, rfl, hown⟩, rfl, hb⟩ := hrel
        by_cases hlt : k < ss.length
        · obtain ⟨hc, hs⟩ := hcell.out _ hb k hlt
          have hsum : slSum (ss.take (k + 1)) = slSum (ss.take k) + (ss[k]).n := slSum_take hlt
          have hle := slSum_le ss (k + 1)
          have hxs : (ss.take (k + 1)).flatMap (·.xs) = (ss.take k).flatMap (·.xs) ++ (ss[k]).xs := by rw [List.take_succ_eq_append_getElem hlt, List.flatMap_append]; simp
          have i1 : (k : Int) < (ss.length : Int) := by omega
          have hsz := hb.size
          have hnext : Hid (∀ v' w1, w1.ownsRow w.heap.size 71 4 v' (slSum (ss.take k) + (ss[k]).n) ((ss.take k).flatMap (·.xs) ++ (ss[k]).xs) → wr.grownBy w1 vx.ownBlock → w1.ownsRow w.heap.size 71 4 v' (slSum (ss.take (k + 1))) ((ss.take (k + 1)).flatMap (·.xs)) ∧ Below w.heap.size w w1) := by
            intro v' w1 h1 h2
            rw [hsum, hxs]
            exact ⟨h1, hb.grown h2 hsz (fun g hg => own_ge hown hg)⟩
          rw [hqs.out] at hle
          rcases hs with ⟨s1, s2, s3⟩ | ⟨a, c, s1, s2, s3, s4, s5⟩
          · rw [s1] at hc
            have hl := hnext.out vx wr (by rw [s2, s3]; simpa using hown) (grown_refl _ _)
            have HL : Hid _ := hl
            have HO : Hid (wr.ownsRow w.heap.size 71 4 vx (slSum (ss.take k)) ((ss.take k).flatMap (·.xs))) := hown
            obtain ⟨xa, xc, hxf⟩ := own_form hown
            clear hnext hxs hsum hl
            subst hxf
            go_wp2_with (at_builtin; refine wpList_append_none _ rfl (.tmp 31) (.tmp 32) 196 rfl w.heap.size 71 i0 4 Tryz.underlying196 hi _ _ _ rfl HO.out rfl ?_)
            go_roundw
            case rel => exact ⟨k + 1, by omega, ⟨_, rfl, HL.out.1⟩, by go_num, HL.out.2⟩
            case measure => simp [intOf]; omega
          · rw [s1] at hc
            have hb1 : slSum (ss.take k) + (ss[k]).n ≤ maxLen := by unfold maxLen; omega
            have hb2 : (slSum (ss.take k) + (ss[k]).n) * 40 ≤ 140737488355328 := by omega
            have HO : Hid (wr.ownsRow w.heap.size 71 4 vx (slSum (ss.take k)) ((ss.take k).flatMap (·.xs))) := hown
            obtain ⟨xa, xc, hxf⟩ := own_form hown
            have S3 : Hid _ := s3
            generalize (ss[k]).n = m at *
            generalize (ss[k]).xs = news at *
            clear hxs hsum hle s3 hown
            subst hxf
            go_wp2_with (at_builtin; refine wpList_append_own _ rfl (.tmp 31) (.tmp 32) 196 rfl w.heap.size 71 i0 _ 4 40 Tryz.underlying196 hi hz0 hz1 hz2 rfl (by decide) _ _ _ rfl HO.out a m c news rfl s2 S3.out s5 hb1 hb2 hsz ?_; intro v' w1 hown1 hgrow1 _; obtain ⟨xa', xc', hxf'⟩ := own_form hown1; subst hxf')
            obtain ⟨t1, t2⟩ := hnext.out _ w1 hown1 hgrow1
            go_roundw
            case rel => exact ⟨k + 1, by omega, ⟨_, rfl, t1⟩, by go_num, t2⟩
            case measure => simp [intOf]; omega
        · have hkl : k = ss.length := by omega
          subst hkl
          rw [List.take_length] at hown
          rw [hqs.out] at hown
          obtain ⟨xa, xc, hxf⟩ := own_form hown
          subst hxf
          go_wp2
          go_ret
          refine ⟨_, rfl, ?_, hb⟩
          rw [hqs.out]
          exact hown

end Go.Proofs.YtjajnhemgphefaaGreatDoor
