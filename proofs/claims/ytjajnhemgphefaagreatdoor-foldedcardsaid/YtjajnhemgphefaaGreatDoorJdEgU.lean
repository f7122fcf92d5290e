/-
  The engine: accept.
-/
import Derived.Test.YtjajnhemgphefaaGreatDoorJdEgR
import Derived.Test.YtjajnhemgphefaaGreatDoorJdEgT
import Derived.Maps.AppendAt
namespace Go.Proofs.YtjajnhemgphefaaGreatDoor
open Go.RowKit Go.Shelf Go.Maps
set_option linter.unusedVariables false
set_option linter.unusedSimpArgs false

theorem infoDt : (Tryz.prog.info? 161).map (fun i => (i.zero, i.size, i.bytes)) = some (some (.agg #[.string ⟨#[]⟩, .string ⟨#[]⟩, .string ⟨#[]⟩, .int .i64 0]), 4, 56) := by kernel_rfl

theorem step_append_at {P : Program} {ops : Array Oper} {o : Oper} {a : Act} {w : World} {K : Act → World → Prop} {Q : Exit → Act → World → Prop} {E : Prop}
    (hg : o.guard = none) (s x : Operand) (t : TypeId) (hop : o.op = Op.call { callee := Callee.builtin Builtin.append, args := #[s, x], argTypes := #[t, t] })
    (base : Nat) (e : TypeId) (i : TypeInfo) (z : Value) (size bytes : Nat) (h1 : P.underlying t = some (.slice e)) (h2 : P.info? e = some i) (h3 : i.zero = some z) (h4 : i.size = size) (h5 : i.bytes = bytes) (h6 : z.cells.size = size) (h7 : 0 < size)
    (v : Value) (n : Nat) (xs : List Value) (hs : a.eval s = v) (hown : w.ownsRow base e size v n xs)
    (ad : Addr) (m c : Nat) (news : List Value) (hx : a.eval x = .slice (some ad) m c) (hn : news.length = m * size) (hc : ∀ j u, news[j]? = some u → w.cell? (ad.add j) = some u) (h1c : ∀ u ∈ news, u.oneCell' = true)
    (b1 : n + m ≤ maxLen) (b2 : (n + m) * bytes ≤ 140737488355328) (hbase : base ≤ w.heap.size)
    (hK : ∀ v' w', w'.ownsRow base e size v' (n + m) (xs ++ news) → w.grownBy w' v.ownBlock → (v'.ownBlock = v.ownBlock ∨ v'.ownBlock = some w.heap.size) → K (a.put o.dst v') w') :
    if Region.wanted o (yielded ops a.tmps) = true then Oper.wp P o a w K Q else E := by
  have hw : Region.wanted o (yielded ops a.tmps) = true := by simp [Region.wanted, hg]
  rw [if_pos hw]
  obtain ⟨v', w', hrun, r1, r2, _, r3⟩ := run_append_own_at (P := P) w base t o.type e i z size bytes h1 h2 h3 h4 h5 h6 h7 v n xs hown ad m c news hn hc h1c b1 b2 hbase
  unfold Oper.wp
  simp [execOp, hop, resolve, invoke, builtin, hs, hx, hrun, Result.andThen]
  exact hK v' w' r1 r2 r3

set_option maxRecDepth 100000 in
set_option maxHeartbeats 4000000 in
theorem accept_any (S : Nat → Prop) (be : Nat) (e : Eg) (a : Am) (ta : Option Addr) (tc b : Nat) (t : Int) (w : World) (h : EngAt w S be e) (hok : EgOk e) (hak : AmOk a) (hsl : SealT w b (.slice ta a.args.length tc) a.args) (hn : ∀ t ∈ a.args, t.num < 6) (ht : 0 ≤ t ∧ t ≤ 1000000) :
    Calls Tryz.prog 44 #[.pointer (some ⟨be, 0, none⟩), .agg #[.string a.rel, .slice ta a.args.length tc], .int .i64 t] w fun en w' => en = .returned (.int .i64 (accR e a t).1) ∧ EngPost S be (accR e a t).2 w w' := by
  have HE : Hid (EngAt w S be e) := h
  obtain ⟨vr, vn, vk, vf, bm, rb, b45, b87, bfs, Sf, hv⟩ := h
  obtain ⟨N, hN⟩ : ∃ N, w.heap.size = N := ⟨_, rfl⟩
  have hbe := hv.lt
  obtain ⟨na, nc, hnf⟩ := owns_form hv.names
  subst hnf
  obtain ⟨ka, kc, hkf⟩ := owns_form hv.kept
  subst hkf
  obtain ⟨fa, fc, hff⟩ := owns_form hv.frow
  subst hff
  have hblk : Hid (∀ W, Below w.heap.size w W → W.heap[be]? = some (Obj.cells #[vr, .int .i64 e.win, .int .i64 e.lat, .int .i64 e.que, .int .i64 e.mark, .slice na e.names.length nc, .slice ka e.kept.length kc, .map (some bm), .slice fa bfs.length fc] 101 (0, 0))) := fun W hb => (hv.below hb).blk
  have hcells : Hid (∀ W, Below w.heap.size w W → W.cell? ⟨be, 5, none⟩ = some (.slice na e.names.length nc) ∧ W.frozen? ⟨be, 5, none⟩ = false ∧ W.cell? ⟨be, 6, none⟩ = some (.slice ka e.kept.length kc) ∧ W.frozen? ⟨be, 6, none⟩ = false) := fun W hb => by
    have := hblk.out W hb
    refine ⟨by simp [World.cell?, this], by simp [World.frozen?, this], by simp [World.cell?, this], by simp [World.frozen?, this]⟩
  have hov : Hid (∀ W, Below w.heap.size w W → Calls Tryz.prog 81 #[.pointer (some ⟨be, 0, none⟩), .int .i64 t] W fun e' w' => e' = .returned (.bool (overB e.win e.mark t)) ∧ W.drew = w') := fun W hb => by
    have := hblk.out W hb
    refine (isOver_any be t e.win e.mark W (by simp [World.cell?, this]) (by simp [World.cell?, this]) ht ⟨by have := hok.win; omega, hok.win.2⟩).mono ?_
    rintro e' w' ⟨h1, h2⟩; exact ⟨h1, h2.symm⟩
  have hof : Hid (∀ W, Below w.heap.size w W → Calls Tryz.prog 48 #[.agg #[.string a.rel, .slice ta a.args.length tc]] W fun e' w' => e' = .returned (.agg #[.string (groundA nms0 a).rel, .string (groundA nms0 a).x, .string (groundA nms0 a).y]) ∧ Below W.heap.size W w') := fun W hb => of_atom_any a _ b W (hsl.rk (RuleKept.ofBelow hb)) hak.args hn
  have hct : Hid (∀ W, Below w.heap.size w W → Calls Tryz.prog 82 #[.slice ka e.kept.length kc, .agg #[.string (groundA nms0 a).rel, .string (groundA nms0 a).x, .string (groundA nms0 a).y, .int .i64 t]] W fun e' w' => e' = .returned (.bool (hasD e.kept (groundA nms0 a, t))) ∧ Below W.heap.size W w') := fun W hb => containsD_any _ e.kept 0 (groundA nms0 a, t) W (own_below hv.kept hb) (by have := hok.k24; omega)
  have hcl : Hid (∀ W, Below w.heap.size w W → Calls Tryz.prog 83 #[.slice na e.names.length nc] W fun e' w' => ∃ (oa : Option Addr) (oc : Nat), e' = .returned (.slice oa e.names.length oc) ∧ w'.ownsRow W.heap.size 9 1 (.slice oa e.names.length oc) e.names.length (e.names.map Value.string) ∧ Below W.heap.size W w') := fun W hb => cloneN_any _ e.names 0 W (own_below hv.names hb) (by have := hok.n8; omega)
  have hva : Hid (∀ W, Calls Tryz.prog 84 #[.slice ta a.args.length tc] W fun e' w' => e' = .returned (.func (.func 144) #[] #[.pointer (some ⟨W.heap.size, 0, none⟩)]) ∧ W.alloc (.cells #[.slice ta a.args.length tc] 90) = w') := fun W => by
    refine (valuesT_any _ W _ _ _ rfl).mono ?_
    rintro e' w' ⟨h1, h2⟩; exact ⟨h1, h2.symm⟩
  have hadd : Hid (∀ W3 base (oa : Option Addr) (oc : Nat), Below w.heap.size w W3 → base ≤ W3.heap.size → w.heap.size ≤ base → W3.ownsRow base 9 1 (.slice oa e.names.length oc) e.names.length (e.names.map Value.string) → Calls Tryz.prog 76 #[.slice oa e.names.length oc, .func (.func 144) #[] #[.pointer (some ⟨W3.heap.size, 0, none⟩)]] (W3.alloc (.cells #[.slice ta a.args.length tc] 90)) fun e' w' => ∃ (oa : Option Addr) (oc : Nat), e' = .returned (.slice oa (nmL e.names a.args).length oc) ∧ w'.ownsRow base 9 1 (.slice oa (nmL e.names a.args).length oc) (nmL e.names a.args).length ((nmL e.names a.args).map Value.string) ∧ Below base W3 w') := fun W3 base oa oc hb h1 h2 ho => by
    have hb3 : Below W3.heap.size W3 (W3.alloc (.cells #[.slice ta a.args.length tc] 90)) := (Below.refl _ W3).alloc (Nat.le_refl _) _
    refine (addArgs_any _ e.names base W3.heap.size b _ a.args _ (World.alloc_heap_new W3 _) ((hsl.rk (RuleKept.ofBelow hb)).rk (RuleKept.ofBelow hb3)) hak.args (own_below ho hb3) (by simp; omega) (by have := hok.n8; omega)).mono ?_
    rintro e' w' ⟨oa, oc, k1, k2, k3⟩
    exact ⟨oa, oc, k1, k2, (hb3.mono h1).trans k3⟩
  have hV : Hid (EngV w S be e vr (.slice na e.names.length nc) (.slice ka e.kept.length kc) (.slice fa bfs.length fc) bm rb b45 b87 bfs Sf) := hv
  have h24 : e.kept.length ≤ 24 := hok.k24
  have hAcc : Hid (accR e a t = if overB e.win e.mark t = true then (8, e) else if hasD e.kept (groundA nms0 a, t) = true then (9, e) else if e.kept.length = 24 ∨ 8 < (nmL e.names a.args).length then (10, e) else (0, { e with names := nmL e.names a.args, kept := e.kept ++ [(groundA nms0 a, t)] })) := rfl
  have hb0 : ∀ O, Below w.heap.size w (w.alloc O) := fun O => (Below.refl _ w).alloc (Nat.le_refl _) O
  have HB0 : Hid _ := hb0
  clear hv hok hsl hn hb0
  cases hob : overB e.win e.mark t with
  | true =>
    rw [hob, if_pos rfl] at hAcc
    rw [hob] at hov
    rw [hAcc.out]
    clear hob
    go_enter Tryz.func44, Tryz.ntmps44
    go_wp2_with (go_at_call 81; refine (hov.out _ (HB0.out _)).mono ?_; rintro e' w' ⟨rfl, hw'⟩; subst hw')
    go_ret
    exact ⟨rfl, EngPost.same HE.out (HB0.out _).drew⟩
  | false =>
    rw [hob, if_neg (by decide)] at hAcc
    rw [hob] at hov
    clear hob
    go_enter Tryz.func44, Tryz.ntmps44
    go_wp2_with (go_at_call 81; refine (hov.out _ (HB0.out _)).mono ?_; rintro e' w' ⟨rfl, hw'⟩; subst hw')
    have hbD : Hid (Below w.heap.size w (w.alloc (.cells #[.string a.rel, .slice ta a.args.length tc] 92)).drew) := (HB0.out _).drew
    have hbx : Hid (∀ W, Below (w.alloc (.cells #[.string a.rel, .slice ta a.args.length tc] 92)).drew.heap.size (w.alloc (.cells #[.string a.rel, .slice ta a.args.length tc] 92)).drew W → Below w.heap.size w W ∧ W.cell? ⟨N, 0, none⟩ = some (.string a.rel) ∧ W.cell? ⟨N, 1, none⟩ = some (.slice ta a.args.length tc) ∧ N + 1 ≤ W.heap.size) := fun W hb => by
      have h1 := (hb.block w.heap.size (by show _ < (w.alloc _).heap.size; simp)).trans (World.alloc_heap_new w _)
      rw [hN] at h1
      have h2 : (w.alloc (.cells #[.string a.rel, .slice ta a.args.length tc] 92)).drew.heap.size = w.heap.size + 1 := by show (w.alloc _).heap.size = _; simp
      have h3 := hb.size
      exact ⟨hbD.out.trans (hb.mono (by omega)), by simp [World.cell?, h1], by simp [World.cell?, h1], by omega⟩
    generalize (w.alloc (.cells #[.string a.rel, .slice ta a.args.length tc] 92)).drew = WD at *
    refine (hof.out WD hbD.out).mono ?_
    rintro e' W1 ⟨rfl, hb1⟩
    obtain ⟨hbw1, c0, c1, hs1⟩ := hbx.out W1 hb1
    obtain ⟨c5, y5, c6, y6⟩ := hcells.out W1 hbw1
    obtain ⟨gd, hgd⟩ : ∃ gd, groundA nms0 a = gd := ⟨_, rfl⟩
    rw [hgd] at hct hAcc
    simp only [hgd]
    obtain ⟨W2, hW2⟩ : ∃ W2, W1.alloc (.cells #[.string gd.rel, .string gd.x, .string gd.y, .int .i64 t] 161) = W2 := ⟨_, rfl⟩
    have hb2 : Below W1.heap.size W1 W2 := by rw [← hW2]; exact (Below.refl _ W1).alloc (Nat.le_refl _) _
    have hbw2 : Below w.heap.size w W2 := hbw1.trans (hb2.mono hbw1.size)
    have hs2 : W2.heap.size = W1.heap.size + 1 := by rw [← hW2]; simp
    obtain ⟨N1, hN1⟩ : ∃ N1, W1.heap.size = N1 := ⟨_, rfl⟩
    have hbox : Hid (∀ W, Below W2.heap.size W2 W → Below w.heap.size w W ∧ W.cell? ⟨N, 0, none⟩ = some (.string a.rel) ∧ W.cell? ⟨N, 1, none⟩ = some (.slice ta a.args.length tc) ∧ W.cell? ⟨N1, 0, none⟩ = some (.string gd.rel) ∧ W.cell? ⟨N1, 1, none⟩ = some (.string gd.x) ∧ W.cell? ⟨N1, 2, none⟩ = some (.string gd.y) ∧ W.cell? ⟨N1, 3, none⟩ = some (.int .i64 t)) := fun W hb => by
      have h1 : W.heap[N1]? = some (Obj.cells #[.string gd.rel, .string gd.x, .string gd.y, .int .i64 t] 161 (0, 0)) := by
        refine (hb.block N1 (by omega)).trans ?_
        rw [← hW2, ← hN1]; exact World.alloc_heap_new W1 _
      have h2 : Below W1.heap.size W1 W := hb2.trans (hb.mono (by omega))
      have h3 := hbx.out W (hb1.trans (h2.mono hb1.size))
      exact ⟨h3.1, h3.2.1, h3.2.2.1, by simp [World.cell?, h1], by simp [World.cell?, h1], by simp [World.cell?, h1], by simp [World.cell?, h1]⟩
    obtain ⟨_, d0, d1, q0, q1, q2, q3⟩ := hbox.out W2 (Below.refl _ _)
    obtain ⟨k5, z5, k6, z6⟩ := hcells.out W2 hbw2
    have hD2 : Hid (Below w.heap.size w W2.drew) := hbw2.drew
    have HN1 : Hid _ := hN1
    have HS2 : Hid _ := hs2
    have HN : Hid _ := hN
    clear hs2 hb2 hb1 hbx c0 c1 c5 y5 c6 y6 hof hov hgd
    cases hhd : hasD e.kept (gd, t) with
    | true =>
      rw [hhd, if_pos rfl] at hAcc
      rw [hhd] at hct
      clear hhd
      go_wp2_with fail
      first | (go_region_with (go_at_call 82; refine (hct.out _ hD2.out).mono ?_; rintro e' W3 ⟨rfl, hb3⟩)) | fail
      all_goals go_wp2
      all_goals go_ret
      all_goals (rw [hAcc.out]; exact ⟨rfl, EngPost.same HE.out (hD2.out.trans (hb3.mono hD2.out.size))⟩)
    | false =>
      rw [hhd, if_neg (by decide)] at hAcc
      rw [hhd] at hct
      clear hhd
      have h3f : Hid (∀ W3, Below W2.drew.heap.size W2.drew W3 → Below w.heap.size w W3 ∧ W3.cell? ⟨N, 1, none⟩ = some (.slice ta a.args.length tc) ∧ W3.cell? ⟨be, 5, none⟩ = some (.slice na e.names.length nc) ∧ W3.frozen? ⟨be, 5, none⟩ = false ∧ Hid (Below w.heap.size w W3.drew)) := fun W3 hb3 => by
        have hb3' : Below W2.heap.size W2 W3 := ⟨hb3.os, hb3.tape, hb3.output, hb3.size, hb3.block⟩
        have h1 := hbox.out W3 hb3'
        have h2 := hcells.out W3 h1.1
        exact ⟨h1.1, h1.2.2.1, h2.1, h2.2.1, h1.1.drew⟩
      have h4f : Hid (∀ W3, Below W2.drew.heap.size W2.drew W3 → ∀ W4, Below W3.drew.heap.size W3.drew W4 → W4.cell? ⟨N, 1, none⟩ = some (.slice ta a.args.length tc) ∧ Below w.heap.size w W4 ∧ W3.drew.heap.size ≤ W4.heap.size ∧ w.heap.size ≤ W3.drew.heap.size) := fun W3 hb3 W4 hb => by
        have hb3' : Below W2.heap.size W2 W3 := ⟨hb3.os, hb3.tape, hb3.output, hb3.size, hb3.block⟩
        have h1 : Below W2.heap.size W2 W4 := hb3'.trans ⟨hb.os, hb.tape, hb.output, hb.size, fun k hk => hb.block k (by have := hb3'.size; show k < W3.heap.size; omega)⟩
        have h2 := hbox.out W4 h1
        exact ⟨h2.2.2.1, h2.1, hb.size, (hbox.out W3 hb3').1.size⟩
      have hne : be ≠ N1 := by have := hbw1.size; have := HN1.out; omega
      have h5f : Hid (∀ W3, Below W2.drew.heap.size W2.drew W3 → ∀ W4 W5, Below W3.drew.heap.size W3.drew W4 → Below W3.drew.heap.size W4 W5 → Below w.heap.size w W5 ∧ W5.cell? ⟨be, 5, none⟩ = some (.slice na e.names.length nc) ∧ W5.frozen? ⟨be, 5, none⟩ = false ∧ W5.cell? ⟨be, 6, none⟩ = some (.slice ka e.kept.length kc) ∧ W5.frozen? ⟨be, 6, none⟩ = false ∧ (∀ v, (W5.setCell ⟨be, 5, none⟩ v).cell? ⟨be, 6, none⟩ = some (.slice ka e.kept.length kc)) ∧ (∀ v, (W5.setCell ⟨be, 5, none⟩ v).cell? ⟨N1, 0, none⟩ = some (.string gd.rel)) ∧ (∀ v, (W5.setCell ⟨be, 5, none⟩ v).cell? ⟨N1, 1, none⟩ = some (.string gd.x)) ∧ (∀ v, (W5.setCell ⟨be, 5, none⟩ v).cell? ⟨N1, 2, none⟩ = some (.string gd.y)) ∧ (∀ v, (W5.setCell ⟨be, 5, none⟩ v).cell? ⟨N1, 3, none⟩ = some (.int .i64 t))) := fun W3 hb3 W4 W5 h1 h2 => by
        have hb3' : Below W2.heap.size W2 W3 := ⟨hb3.os, hb3.tape, hb3.output, hb3.size, hb3.block⟩
        have h3 := h1.trans h2
        have h4 := hbox.out W5 (hb3'.trans ⟨h3.os, h3.tape, h3.output, h3.size, fun k hk => h3.block k (by have := hb3'.size; show k < W3.heap.size; omega)⟩)
        have h5 := hcells.out W5 h4.1
        have h6 := hblk.out W5 h4.1
        have h7 : ∀ v, (W5.setCell ⟨be, 5, none⟩ v).cell? ⟨be, 6, none⟩ = some (.slice ka e.kept.length kc) := fun v => by
          have := heap_set h6 5 v
          simp [World.cell?, this]
        exact ⟨h4.1, h5.1, h5.2.1, h5.2.2.1, h5.2.2.2, h7, fun v => (cell_other _ _ _ _ _ _ (Ne.symm hne)).trans h4.2.2.2.1, fun v => (cell_other _ _ _ _ _ _ (Ne.symm hne)).trans h4.2.2.2.2.1, fun v => (cell_other _ _ _ _ _ _ (Ne.symm hne)).trans h4.2.2.2.2.2.1, fun v => (cell_other _ _ _ _ _ _ (Ne.symm hne)).trans h4.2.2.2.2.2.2⟩
      by_cases hf : e.kept.length = 24 ∨ 8 < (nmL e.names a.args).length
      · rw [if_pos hf] at hAcc
        by_cases hf1 : e.kept.length = 24
        · have i2 : ((e.kept.length : Int) == 24) = true := by simp [hf1]
          clear hf hf1
          go_wp2_with fail
          first | (go_region_with (go_at_call 82; refine (hct.out _ hD2.out).mono ?_; rintro e' W3 ⟨rfl, hb3⟩)) | fail
          all_goals go_wp2_with fail
          all_goals (
            obtain ⟨hbw3, r1, m5, x5, hbD3⟩ := h3f.out W3 hb3
            have hb4' : Hid _ := h4f.out W3 hb3
            have hb5' : Hid _ := h5f.out W3 hb3
            clear hb3
            first | (go_region_with (first | (go_at_call 83; refine (hcl.out _ hbD3.out).mono ?_; rintro e' W4 ⟨oa, oc, rfl, ho4, hb4⟩; obtain ⟨s1, hbw4, hz4, hz3⟩ := hb4'.out W4 hb4) | (go_at_call 84; refine (hva.out _).mono ?_; rintro e' w' ⟨rfl, hw'⟩; subst hw') | (go_at_call 76; refine (hadd.out W4 W3.drew.heap.size oa oc hbw4 hz4 hz3 ho4).mono ?_; rintro e' W5 ⟨pa, pc, rfl, ho5, hb5⟩; obtain ⟨hbw5, f5, y5, f6, y6, g6, g0, g1, g2, g3⟩ := hb5'.out W4 W5 hb4 hb5; clear hb4'))) | fail)
          all_goals go_wp2
          all_goals go_ret
          all_goals (rw [hAcc.out]; exact ⟨rfl, EngPost.same HE.out hbw5⟩)
        · have i1 : ¬ (e.kept.length : Int) = 24 := by omega
          have i2 : ((e.kept.length : Int) == 24) = false := by simp [i1]
          have i3 : (8 : Int) < ((nmL e.names a.args).length : Int) := by omega
          clear hf
          go_wp2_with fail
          first | (go_region_with (go_at_call 82; refine (hct.out _ hD2.out).mono ?_; rintro e' W3 ⟨rfl, hb3⟩)) | fail
          all_goals go_wp2_with fail
          all_goals (
            obtain ⟨hbw3, r1, m5, x5, hbD3⟩ := h3f.out W3 hb3
            have hb4' : Hid _ := h4f.out W3 hb3
            have hb5' : Hid _ := h5f.out W3 hb3
            clear hb3
            first | (go_region_with (first | (go_at_call 83; refine (hcl.out _ hbD3.out).mono ?_; rintro e' W4 ⟨oa, oc, rfl, ho4, hb4⟩; obtain ⟨s1, hbw4, hz4, hz3⟩ := hb4'.out W4 hb4) | (go_at_call 84; refine (hva.out _).mono ?_; rintro e' w' ⟨rfl, hw'⟩; subst hw') | (go_at_call 76; refine (hadd.out W4 W3.drew.heap.size oa oc hbw4 hz4 hz3 ho4).mono ?_; rintro e' W5 ⟨pa, pc, rfl, ho5, hb5⟩; obtain ⟨hbw5, f5, y5, f6, y6, g6, g0, g1, g2, g3⟩ := hb5'.out W4 W5 hb4 hb5; clear hb4'))) | fail)
          all_goals go_wp2
          all_goals go_ret
          all_goals (rw [hAcc.out]; exact ⟨rfl, EngPost.same HE.out hbw5⟩)
      · rw [if_neg hf] at hAcc
        have i1 : ¬ (e.kept.length : Int) = 24 := by omega
        have i2 : ((e.kept.length : Int) == 24) = false := by simp [i1]
        have i3 : ¬ (8 : Int) < ((nmL e.names a.args).length : Int) := by omega
        clear hf
        obtain ⟨j0, hi, hz0, hz1, hz2⟩ := info_parts infoDt
        have hb1' : e.kept.length + 1 ≤ maxLen := by unfold maxLen; omega
        have hb2' : (e.kept.length + 1) * 56 ≤ 140737488355328 := by omega
        have hkeep : Hid (∀ W5, Below w.heap.size w W5 → ∀ v, (W5.setCell ⟨be, 5, none⟩ v).drew.ownsRow 0 161 4 (.slice ka e.kept.length kc) e.kept.length (e.kept.flatMap lastC)) := fun W5 hb v => by
          have h5 := hV.out.below hb
          have := owns_set h5.kept ⟨be, 5, none⟩ v (owns_ne h5.kept h5.blk (by decide))
          exact ⟨this.1, this.2⟩
        have hlt5 : Hid (∀ W5, Below w.heap.size w W5 → ∀ v, be < (W5.setCell ⟨be, 5, none⟩ v).drew.heap.size) := fun W5 hb v => by
          have := hb.size
          show be < (W5.setCell ⟨be, 5, none⟩ v).heap.size
          simp
          omega
        have hend : Hid (∀ W5 nb (pa : Option Addr) (pc : Nat), w.heap.size ≤ nb → Below w.heap.size w W5 → W5.ownsRow nb 9 1 (.slice pa (nmL e.names a.args).length pc) (nmL e.names a.args).length ((nmL e.names a.args).map Value.string) → ∀ (O : Obj) (w1 : World) (v' : Value), w1.ownsRow 0 161 4 v' (e.kept.length + 1) (e.kept.flatMap lastC ++ [.string gd.rel, .string gd.x, .string gd.y, .int .i64 t]) → ((W5.setCell ⟨be, 5, none⟩ (.slice pa (nmL e.names a.args).length pc)).drew.alloc O).grownBy w1 (Value.slice ka e.kept.length kc).ownBlock → (v'.ownBlock = (Value.slice ka e.kept.length kc).ownBlock ∨ v'.ownBlock = some ((W5.setCell ⟨be, 5, none⟩ (.slice pa (nmL e.names a.args).length pc)).drew.alloc O).heap.size) → w1.cell? ⟨be, 6, none⟩ = some (.slice ka e.kept.length kc) ∧ w1.frozen? ⟨be, 6, none⟩ = false ∧ EngPost S be { e with names := nmL e.names a.args, kept := e.kept ++ [(gd, t)] } w (w1.setCell ⟨be, 6, none⟩ v')) := fun W5 nb pa pc hnb hb ho O w1 v' h1 h2 h3 =>
          acc_mem hV.out hb (d := (gd, t)) hnb ho O h1 ⟨h2.os, h2.tape, h2.output, h2.size, h2.block⟩ h3
        go_wp2_with fail
        first | (go_region_with (go_at_call 82; refine (hct.out _ hD2.out).mono ?_; rintro e' W3 ⟨rfl, hb3⟩)) | fail
        all_goals go_wp2_with fail
        all_goals (
          obtain ⟨hbw3, r1, m5, x5, hbD3⟩ := h3f.out W3 hb3
          have hb4' : Hid _ := h4f.out W3 hb3
          have hb5' : Hid _ := h5f.out W3 hb3
          clear hb3
          first | (go_region_with (first | (go_at_call 83; refine (hcl.out _ hbD3.out).mono ?_; rintro e' W4 ⟨oa, oc, rfl, ho4, hb4⟩; obtain ⟨s1, hbw4, hz4, hz3⟩ := hb4'.out W4 hb4) | (go_at_call 84; refine (hva.out _).mono ?_; rintro e' w' ⟨rfl, hw'⟩; subst hw') | (go_at_call 76; refine (hadd.out W4 W3.drew.heap.size oa oc hbw4 hz4 hz3 ho4).mono ?_; rintro e' W5 ⟨pa, pc, rfl, ho5, hb5⟩; obtain ⟨hbw5, f5, y5, f6, y6, g6, g0, g1, g2, g3⟩ := hb5'.out W4 W5 hb4 hb5; clear hb4'))) | fail)
        all_goals go_wp2_with fail
        all_goals (
          have hk5 : (W5.setCell ⟨be, 5, none⟩ (.slice pa (nmL e.names a.args).length pc)).drew.ownsRow 0 161 4 (.slice ka e.kept.length kc) e.kept.length (e.kept.flatMap lastC) := hkeep.out W5 hbw5 _
          have hfin : Hid _ := hend.out W5 _ pa pc hz3 hbw5 ho5
          have hs5 : be < (W5.setCell ⟨be, 5, none⟩ (.slice pa (nmL e.names a.args).length pc)).drew.heap.size := hlt5.out W5 hbw5 _
          have v0 : (W5.setCell ⟨be, 5, none⟩ (.slice pa (nmL e.names a.args).length pc)).drew.cell? ⟨N1, 0, none⟩ = some (.string gd.rel) := g0 _
          have v1 : (W5.setCell ⟨be, 5, none⟩ (.slice pa (nmL e.names a.args).length pc)).drew.cell? ⟨N1, 1, none⟩ = some (.string gd.x) := g1 _
          have v2 : (W5.setCell ⟨be, 5, none⟩ (.slice pa (nmL e.names a.args).length pc)).drew.cell? ⟨N1, 2, none⟩ = some (.string gd.y) := g2 _
          have v3 : (W5.setCell ⟨be, 5, none⟩ (.slice pa (nmL e.names a.args).length pc)).drew.cell? ⟨N1, 3, none⟩ = some (.int .i64 t) := g3 _
          have v6 : (W5.setCell ⟨be, 5, none⟩ (.slice pa (nmL e.names a.args).length pc)).drew.cell? ⟨be, 6, none⟩ = some (.slice ka e.kept.length kc) := g6 _
          clear g0 g1 g2 g3 g6 f5 y5 f6 y6 ho5 hb5 hb5'
          generalize hV5 : (W5.setCell ⟨be, 5, none⟩ (.slice pa (nmL e.names a.args).length pc)).drew = V5 at *
          have v6' : ∀ O, (V5.alloc O).cell? ⟨be, 6, none⟩ = some (.slice ka e.kept.length kc) := fun O => cell_later ((Below.refl V5.heap.size V5).alloc (Nat.le_refl _) O) v6
          go_region_law (first | (refine step_append_at rfl (.tmp 50) (.tmp 52) 96 rfl 0 161 j0 (.agg #[.string ⟨#[]⟩, .string ⟨#[]⟩, .string ⟨#[]⟩, .int .i64 0]) 4 56 Tryz.underlying96 hi hz0 hz1 hz2 rfl (by decide) (.slice ka e.kept.length kc) e.kept.length (e.kept.flatMap lastC) (by simp [Act.eval, Act.put]) (World.ownsRow.alloc hk5 _) ⟨V5.heap.size, 0, none⟩ 1 1 [.string gd.rel, .string gd.x, .string gd.y, .int .i64 t] (by simp [Act.eval, Act.put]) rfl (cell_four_new _ _ _ _ _ _) (by simp [Value.oneCell']) hb1' hb2' (Nat.zero_le _) ?_; intro v' w1 hown1 hgrow1 hat1; obtain ⟨g', cap', hv'⟩ := ownsRow_succ hown1; subst hv'; obtain ⟨s6, t6, hpost⟩ := hfin.out _ w1 _ hown1 hgrow1 hat1) | go_simp))
        all_goals (
          go_wp2
          go_ret
          rw [hAcc.out]
          exact ⟨rfl, hpost⟩)

end Go.Proofs.YtjajnhemgphefaaGreatDoor
