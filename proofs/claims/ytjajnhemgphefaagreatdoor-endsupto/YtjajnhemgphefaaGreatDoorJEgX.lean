/-
  The engine: accept.
  The engine: Subscribe.
  The engine: Insert.
  The engine: what move does to its feeds, one after the other.
-/
import Derived.Test.YtjajnhemgphefaaGreatDoorJEgT
import Derived.Maps.AppendAt
namespace Go.Proofs.YtjajnhemgphefaaGreatDoor
open Go.RowKit Go.Shelf Go.Maps
set_option linter.unusedVariables false
set_option linter.unusedSimpArgs false

theorem infoDt : (Tryz.prog.info? 161).map (fun i => (i.zero, i.size, i.bytes)) = some (some (.agg #[.string ⟨#[]⟩, .string ⟨#[]⟩, .string ⟨#[]⟩, .int .i64 0]), 4, 56) := by kernel_rfl

theorem step_append_at {P : Program} {ops : Array Oper} {o : Oper} {a : Act} {w : World} {K : Act → World → Prop} {Q : Exit → Act → World → Prop} {E : Prop}
    (hg : o.guard = none) (s x : Operand) (t : TypeId) (hop : o.op = Op.call { callee := Callee.builtin Builtin.append, args := #[s, x], argTypes := #[t, t] })
    (base : Nat) (e : TypeId) (i : TypeInfo) (z : Value) (size bytes : Nat) (h1 : P.underlying t = some (.slice e)) (h2 : P.info? e = some i) (h3 : i.zero = some z) (h4 : i.size = size) (h5 : i.bytes = bytes) (h6 : z.cells.size = size) (h7 : 0 < size)
    (v : Value) (n : Nat) (xs : List Value) (hs : a.eval s = v) (hown : w.ownsRow base e size v n xs)
    (ad : Addr) (m c : Nat) (news : List Value) (hx : a.eval x = .slice (some ad) m c) (hn : news.length = m * size) (hc : ∀ j u, news[j]? = some u → w.cell? (ad.add j) = some u) (h1c : ∀ u ∈ news, u.oneCell' = true)
    (b1 : n + m ≤ maxLen) (b2 : (n + m) * bytes ≤ 140737488355328) (hbase : base ≤ w.heap.size)
    (hK : ∀ v' w', w'.ownsRow base e size v' (n + m) (xs ++ news) → w.grownBy w' v.ownBlock → (v'.ownBlock = v.ownBlock ∨ v'.ownBlock = some w.heap.size) → K (a.put o.dst v') w') :
    if Region.wanted o (yielded ops a.tmps) = true then Oper.wp P o a w K Q else E := by
  have hw : Region.wanted o (yielded ops a.tmps) = true := by simp [Region.wanted, hg]
  rw [if_pos hw]
  obtain ⟨v', w', hrun, r1, r2, _, r3⟩ := run_append_own_at (P := P) w base t o.type e i z size bytes h1 h2 h3 h4 h5 h6 h7 v n xs hown ad m c news hn hc h1c b1 b2 hbase
  unfold Oper.wp
  simp [execOp, hop, resolve, invoke, builtin, hs, hx, hrun, Result.andThen]
  exact hK v' w' r1 r2 r3

set_option maxRecDepth 100000 in
set_option maxHeartbeats 4000000 in
theorem accept_any (S : Nat → Prop) (be : Nat) (e : Eg) (a : Am) (ta : Option Addr) (tc b : Nat) (t : Int) (w : World) (h : EngAt w S be e) (hok : EgOk e) (hak : AmOk a) (hsl : SealT w b (.slice ta a.args.length tc) a.args) (hn : ∀ t ∈ a.args, t.num < 6) (ht : 0 ≤ t ∧ t ≤ 1000000) :
    Calls Tryz.prog 44 #[.pointer (some ⟨be, 0, none⟩), .agg #[.string a.rel, .slice ta a.args.length tc], .int .i64 t] w fun en w' => en = .returned (.int .i64 (accR e a t).1) ∧ EngPost S be (accR e a t).2 w w' := by
  have HE : Hid (EngAt w S be e) := h
  obtain ⟨vr, vn, vk, vf, bm, rb, b45, b87, bfs, Sf, hv⟩ := h
  obtain ⟨N, hN⟩ : ∃ N, w.heap.size = N := ⟨_, rfl⟩
  have hbe := hv.lt
  obtain ⟨na, nc, hnf⟩ := owns_form hv.names
  subst hnf
  obtain ⟨ka, kc, hkf⟩ := owns_form hv.kept
  subst hkf
  obtain ⟨fa, fc, hff⟩ := owns_form hv.frow
  subst hff
  have hblk : Hid (∀ W, Below w.heap.size w W → W.heap[be]? = some (Obj.cells #[vr, .int .i64 e.win, .int .i64 e.lat, .int .i64 e.que, .int .i64 e.mark, .slice na e.names.length nc, .slice ka e.kept.length kc, .map (some bm), .slice fa bfs.length fc] 101 (0, 0))) := fun W hb => (hv.below hb).blk
  have hcells : Hid (∀ W, Below w.heap.size w W → W.cell? ⟨be, 5, none⟩ = some (.slice na e.names.length nc) ∧ W.frozen? ⟨be, 5, none⟩ = false ∧ W.cell? ⟨be, 6, none⟩ = some (.slice ka e.kept.length kc) ∧ W.frozen? ⟨be, 6, none⟩ = false) := fun W hb => by
    have := hblk.out W hb
    refine ⟨by simp [World.cell?, this], by simp [World.frozen?, this], by simp [World.cell?, this], by simp [World.frozen?, this]⟩
  have hov : Hid (∀ W, Below w.heap.size w W → Calls Tryz.prog 81 #[.pointer (some ⟨be, 0, none⟩), .int .i64 t] W fun e' w' => e' = .returned (.bool (overB e.win e.mark t)) ∧ W.drew = w') := fun W hb => by
    have := hblk.out W hb
    refine (isOver_any be t e.win e.mark W (by simp [World.cell?, this]) (by simp [World.cell?, this]) ht ⟨by have := hok.win; omega, hok.win.2⟩).mono ?_
    rintro e' w' ⟨h1, h2⟩; exact ⟨h1, h2.symm⟩
  have hof : Hid (∀ W, Below w.heap.size w W → Calls Tryz.prog 48 #[.agg #[.string a.rel, .slice ta a.args.length tc]] W fun e' w' => e' = .returned (.agg #[.string (groundA nms0 a).rel, .string (groundA nms0 a).x, .string (groundA nms0 a).y]) ∧ Below W.heap.size W w') := fun W hb => of_atom_any a _ b W (hsl.rk (RuleKept.ofBelow hb)) hak.args hn
  have hct : Hid (∀ W, Below w.heap.size w W → Calls Tryz.prog 82 #[.slice ka e.kept.length kc, .agg #[.string (groundA nms0 a).rel, .string (groundA nms0 a).x, .string (groundA nms0 a).y, .int .i64 t]] W fun e' w' => e' = .returned (.bool (hasD e.kept (groundA nms0 a, t))) ∧ Below W.heap.size W w') := fun W hb => containsD_any _ e.kept 0 (groundA nms0 a, t) W (own_below hv.kept hb) (by have := hok.k24; omega)
  have hcl : Hid (∀ W, Below w.heap.size w W → Calls Tryz.prog 83 #[.slice na e.names.length nc] W fun e' w' => ∃ (oa : Option Addr) (oc : Nat), e' = .returned (.slice oa e.names.length oc) ∧ w'.ownsRow W.heap.size 9 1 (.slice oa e.names.length oc) e.names.length (e.names.map Value.string) ∧ Below W.heap.size W w') := fun W hb => cloneN_any _ e.names 0 W (own_below hv.names hb) (by have := hok.n8; omega)
  have hva : Hid (∀ W, Calls Tryz.prog 84 #[.slice ta a.args.length tc] W fun e' w' => e' = .returned (.func (.func 144) #[] #[.pointer (some ⟨W.heap.size, 0, none⟩)]) ∧ W.alloc (.cells #[.slice ta a.args.length tc] 90) = w') := fun W => by
    refine (valuesT_any _ W _ _ _ rfl).mono ?_
    rintro e' w' ⟨h1, h2⟩; exact ⟨h1, h2.symm⟩
  have hadd : Hid (∀ W3 base (oa : Option Addr) (oc : Nat), Below w.heap.size w W3 → base ≤ W3.heap.size → w.heap.size ≤ base → W3.ownsRow base 9 1 (.slice oa e.names.length oc) e.names.length (e.names.map Value.string) → Calls Tryz.prog 76 #[.slice oa e.names.length oc, .func (.func 144) #[] #[.pointer (some ⟨W3.heap.size, 0, none⟩)]] (W3.alloc (.cells #[.slice ta a.args.length tc] 90)) fun e' w' => ∃ (oa : Option Addr) (oc : Nat), e' = .returned (.slice oa (nmL e.names a.args).length oc) ∧ w'.ownsRow base 9 1 (.slice oa (nmL e.names a.args).length oc) (nmL e.names a.args).length ((nmL e.names a.args).map Value.string) ∧ Below base W3 w') := fun W3 base oa oc hb h1 h2 ho => by
    have hb3 : Below W3.heap.size W3 (W3.alloc (.cells #[.slice ta a.args.length tc] 90)) := (Below.refl _ W3).alloc (Nat.le_refl _) _
    refine (addArgs_any _ e.names base W3.heap.size b _ a.args _ (World.alloc_heap_new W3 _) ((hsl.rk (RuleKept.ofBelow hb)).rk (RuleKept.ofBelow hb3)) hak.args (own_below ho hb3) (by simp; omega) (by have := hok.n8; omega)).mono ?_
    rintro e' w' ⟨oa, oc, k1, k2, k3⟩
    exact ⟨oa, oc, k1, k2, (hb3.mono h1).trans k3⟩
  have hV : Hid (EngV w S be e vr (.slice na e.names.length nc) (.slice ka e.kept.length kc) (.slice fa bfs.length fc) bm rb b45 b87 bfs Sf) := hv
  have h24 : e.kept.length ≤ 24 := hok.k24
  have hAcc : Hid (accR e a t = if overB e.win e.mark t = true then (8, e) else if hasD e.kept (groundA nms0 a, t) = true then (9, e) else if e.kept.length = 24 ∨ 8 < (nmL e.names a.args).length then (10, e) else (0, { e with names := nmL e.names a.args, kept := e.kept ++ [(groundA nms0 a, t)] })) := rfl
  have hb0 : ∀ O, Below w.heap.size w (w.alloc O) := fun O => (Below.refl _ w).alloc (Nat.le_refl _) O
  have HB0 : Hid _ := hb0
  clear hv hok hsl hn hb0
  cases hob : overB e.win e.mark t with
  | true =>
    rw [hob, if_pos rfl] at hAcc
    rw [hob] at hov
    rw [hAcc.out]
    clear hob
    go_enter Tryz.func44, Tryz.ntmps44
    go_wp2_with (go_at_call 81; refine (hov.out _ (HB0.out _)).mono ?_; rintro e' w' ⟨rfl, hw'⟩; subst hw')
    go_ret
    exact ⟨rfl, EngPost.same HE.out (HB0.out _).drew⟩
  | false =>
    rw [hob, if_neg (by decide)] at hAcc
    rw [hob] at hov
    clear hob
    go_enter Tryz.func44, Tryz.ntmps44
    go_wp2_with (go_at_call 81; refine (hov.out _ (HB0.out _)).mono ?_; rintro e' w' ⟨rfl, hw'⟩; subst hw')
    have hbD : Hid (Below w.heap.size w (w.alloc (.cells #[.string a.rel, .slice ta a.args.length tc] 92)).drew) := (HB0.out _).drew
    have hbx : Hid (∀ W, Below (w.alloc (.cells #[.string a.rel, .slice ta a.args.length tc] 92)).drew.heap.size (w.alloc (.cells #[.string a.rel, .slice ta a.args.length tc] 92)).drew W → Below w.heap.size w W ∧ W.cell? ⟨N, 0, none⟩ = some (.string a.rel) ∧ W.cell? ⟨N, 1, none⟩ = some (.slice ta a.args.length tc) ∧ N + 1 ≤ W.heap.size) := fun W hb => by
      have h1 := (hb.block w.heap.size (by show _ < (w.alloc _).heap.size; simp)).trans (World.alloc_heap_new w _)
      rw [hN] at h1
      have h2 : (w.alloc (.cells #[.string a.rel, .slice ta a.args.length tc] 92)).drew.heap.size = w.heap.size + 1 := by show (w.alloc _).heap.size = _; simp
      have h3 := hb.size
      exact ⟨hbD.out.trans (hb.mono (by omega)), by simp [World.cell?, h1], by simp [World.cell?, h1], by omega⟩
    generalize (w.alloc (.cells #[.string a.rel, .slice ta a.args.length tc] 92)).drew = WD at *
    refine (hof.out WD hbD.out).mono ?_
    rintro e' W1 ⟨rfl, hb1⟩
    obtain ⟨hbw1, c0, c1, hs1⟩ := hbx.out W1 hb1
    obtain ⟨c5, y5, c6, y6⟩ := hcells.out W1 hbw1
    obtain ⟨gd, hgd⟩ : ∃ gd, groundA nms0 a = gd := ⟨_, rfl⟩
    rw [hgd] at hct hAcc
    simp only [hgd]
    obtain ⟨W2, hW2⟩ : ∃ W2, W1.alloc (.cells #[.string gd.rel, .string gd.x, .string gd.y, .int .i64 t] 161) = W2 := ⟨_, rfl⟩
    have hb2 : Below W1.heap.size W1 W2 := by rw [← hW2]; exact (Below.refl _ W1).alloc (Nat.le_refl _) _
    have hbw2 : Below w.heap.size w W2 := hbw1.trans (hb2.mono hbw1.size)
    have hs2 : W2.heap.size = W1.heap.size + 1 := by rw [← hW2]; simp
    obtain ⟨N1, hN1⟩ : ∃ N1, W1.heap.size = N1 := ⟨_, rfl⟩
    have hbox : Hid (∀ W, Below W2.heap.size W2 W → Below w.heap.size w W ∧ W.cell? ⟨N, 0, none⟩ = some (.string a.rel) ∧ W.cell? ⟨N, 1, none⟩ = some (.slice ta a.args.length tc) ∧ W.cell? ⟨N1, 0, none⟩ = some (.string gd.rel) ∧ W.cell? ⟨N1, 1, none⟩ = some (.string gd.x) ∧ W.cell? ⟨N1, 2, none⟩ = some (.string gd.y) ∧ W.cell? ⟨N1, 3, none⟩ = some (.int .i64 t)) := fun W hb => by
      have h1 : W.heap[N1]? = some (Obj.cells #[.string gd.rel, .string gd.x, .string gd.y, .int .i64 t] 161 (0, 0)) := by
        refine (hb.block N1 (by omega)).trans ?_
        rw [← hW2, ← hN1]; exact World.alloc_heap_new W1 _
      have h2 : Below W1.heap.size W1 W := hb2.trans (hb.mono (by omega))
      have h3 := hbx.out W (hb1.trans (h2.mono hb1.size))
      exact ⟨h3.1, h3.2.1, h3.2.2.1, by simp [World.cell?, h1], by simp [World.cell?, h1], by simp [World.cell?, h1], by simp [World.cell?, h1]⟩
    obtain ⟨_, d0, d1, q0, q1, q2, q3⟩ := hbox.out W2 (Below.refl _ _)
    obtain ⟨k5, z5, k6, z6⟩ := hcells.out W2 hbw2
    have hD2 : Hid (Below w.heap.size w W2.drew) := hbw2.drew
    have HN1 : Hid _ := hN1
    have HS2 : Hid _ := hs2
    have HN : Hid _ := hN
    clear hs2 hb2 hb1 hbx c0 c1 c5 y5 c6 y6 hof hov hgd
    cases hhd : hasD e.kept (gd, t) with
    | true =>
      rw [hhd, if_pos rfl] at hAcc
      rw [hhd] at hct
      clear hhd
      go_wp2_with fail
      first | (go_region_with (go_at_call 82; refine (hct.out _ hD2.out).mono ?_; rintro e' W3 ⟨rfl, hb3⟩)) | fail
      all_goals go_wp2
      all_goals go_ret
      all_goals (rw [hAcc.out]; exact ⟨rfl, EngPost.same HE.out (hD2.out.trans (hb3.mono hD2.out.size))⟩)
    | false =>
      rw [hhd, if_neg (by decide)] at hAcc
      rw [hhd] at hct
      clear hhd
      have h3f : Hid (∀ W3, Below W2.drew.heap.size W2.drew W3 → Below w.heap.size w W3 ∧ W3.cell? ⟨N, 1, none⟩ = some (.slice ta a.args.length tc) ∧ W3.cell? ⟨be, 5, none⟩ = some (.slice na e.names.length nc) ∧ W3.frozen? ⟨be, 5, none⟩ = false ∧ Hid (Below w.heap.size w W3.drew)) := fun W3 hb3 => by
        have hb3' : Below W2.heap.size W2 W3 := ⟨hb3.os, hb3.tape, hb3.output, hb3.size, hb3.block⟩
        have h1 := hbox.out W3 hb3'
        have h2 := hcells.out W3 h1.1
        exact ⟨h1.1, h1.2.2.1, h2.1, h2.2.1, h1.1.drew⟩
      have h4f : Hid (∀ W3, Below W2.drew.heap.size W2.drew W3 → ∀ W4, Below W3.drew.heap.size W3.drew W4 → W4.cell? ⟨N, 1, none⟩ = some (.slice ta a.args.length tc) ∧ Below w.heap.size w W4 ∧ W3.drew.heap.size ≤ W4.heap.size ∧ w.heap.size ≤ W3.drew.heap.size) := fun W3 hb3 W4 hb => by
        have hb3' : Below W2.heap.size W2 W3 := ⟨hb3.os, hb3.tape, hb3.output, hb3.size, hb3.block⟩
        have h1 : Below W2.heap.size W2 W4 := hb3'.trans ⟨hb.os, hb.tape, hb.output, hb.size, fun k hk => hb.block k (by have := hb3'.size; show k < W3.heap.size; omega)⟩
        have h2 := hbox.out W4 h1
        exact ⟨h2.2.2.1, h2.1, hb.size, (hbox.out W3 hb3').1.size⟩
      have hne : be ≠ N1 := by have := hbw1.size; have := HN1.out; omega
      have h5f : Hid (∀ W3, Below W2.drew.heap.size W2.drew W3 → ∀ W4 W5, Below W3.drew.heap.size W3.drew W4 → Below W3.drew.heap.size W4 W5 → Below w.heap.size w W5 ∧ W5.cell? ⟨be, 5, none⟩ = some (.slice na e.names.length nc) ∧ W5.frozen? ⟨be, 5, none⟩ = false ∧ W5.cell? ⟨be, 6, none⟩ = some (.slice ka e.kept.length kc) ∧ W5.frozen? ⟨be, 6, none⟩ = false ∧ (∀ v, (W5.setCell ⟨be, 5, none⟩ v).cell? ⟨be, 6, none⟩ = some (.slice ka e.kept.length kc)) ∧ (∀ v, (W5.setCell ⟨be, 5, none⟩ v).cell? ⟨N1, 0, none⟩ = some (.string gd.rel)) ∧ (∀ v, (W5.setCell ⟨be, 5, none⟩ v).cell? ⟨N1, 1, none⟩ = some (.string gd.x)) ∧ (∀ v, (W5.setCell ⟨be, 5, none⟩ v).cell? ⟨N1, 2, none⟩ = some (.string gd.y)) ∧ (∀ v, (W5.setCell ⟨be, 5, none⟩ v).cell? ⟨N1, 3, none⟩ = some (.int .i64 t))) := fun W3 hb3 W4 W5 h1 h2 => by
        have hb3' : Below W2.heap.size W2 W3 := ⟨hb3.os, hb3.tape, hb3.output, hb3.size, hb3.block⟩
        have h3 := h1.trans h2
        have h4 := hbox.out W5 (hb3'.trans ⟨h3.os, h3.tape, h3.output, h3.size, fun k hk => h3.block k (by have := hb3'.size; show k < W3.heap.size; omega)⟩)
        have h5 := hcells.out W5 h4.1
        have h6 := hblk.out W5 h4.1
        have h7 : ∀ v, (W5.setCell ⟨be, 5, none⟩ v).cell? ⟨be, 6, none⟩ = some (.slice ka e.kept.length kc) := fun v => by
          have := heap_set h6 5 v
          simp [World.cell?, this]
        exact ⟨h4.1, h5.1, h5.2.1, h5.2.2.1, h5.2.2.2, h7, fun v => (cell_other _ _ _ _ _ _ (Ne.symm hne)).trans h4.2.2.2.1, fun v => (cell_other _ _ _ _ _ _ (Ne.symm hne)).trans h4.2.2.2.2.1, fun v => (cell_other _ _ _ _ _ _ (Ne.symm hne)).trans h4.2.2.2.2.2.1, fun v => (cell_other _ _ _ _ _ _ (Ne.symm hne)).trans h4.2.2.2.2.2.2⟩
      by_cases hf : e.kept.length = 24 ∨ 8 < (nmL e.names a.args).length
      · rw [if_pos hf] at hAcc
        by_cases hf1 : e.kept.length = 24
        · have i2 : ((e.kept.length : Int) == 24) = true := by simp [hf1]
          clear hf hf1
          go_wp2_with fail
          first | (go_region_with (go_at_call 82; refine (hct.out _ hD2.out).mono ?_; rintro e' W3 ⟨rfl, hb3⟩)) | fail
          all_goals go_wp2_with fail
          all_goals (
            obtain ⟨hbw3, r1, m5, x5, hbD3⟩ := h3f.out W3 hb3
            have hb4' : Hid _ := h4f.out W3 hb3
            have hb5' : Hid _ := h5f.out W3 hb3
            clear hb3
            first | (go_region_with (first | (go_at_call 83; refine (hcl.out _ hbD3.out).mono ?_; rintro e' W4 ⟨oa, oc, rfl, ho4, hb4⟩; obtain ⟨s1, hbw4, hz4, hz3⟩ := hb4'.out W4 hb4) | (go_at_call 84; refine (hva.out _).mono ?_; rintro e' w' ⟨rfl, hw'⟩; subst hw') | (go_at_call 76; refine (hadd.out W4 W3.drew.heap.size oa oc hbw4 hz4 hz3 ho4).mono ?_; rintro e' W5 ⟨pa, pc, rfl, ho5, hb5⟩; obtain ⟨hbw5, f5, y5, f6, y6, g6, g0, g1, g2, g3⟩ := hb5'.out W4 W5 hb4 hb5; clear hb4'))) | fail)
          all_goals go_wp2
          all_goals go_ret
          all_goals (rw [hAcc.out]; exact ⟨rfl, EngPost.same HE.out hbw5⟩)
        · have i1 : ¬ (e.kept.length : Int) = 24 := by omega
          have i2 : ((e.kept.length : Int) == 24) = false := by simp [i1]
          have i3 : (8 : Int) < ((nmL e.names a.args).length : Int) := by omega
          clear hf
          go_wp2_with fail
          first | (go_region_with (go_at_call 82; refine (hct.out _ hD2.out).mono ?_; rintro e' W3 ⟨rfl, hb3⟩)) | fail
          all_goals go_wp2_with fail
          all_goals (
            obtain ⟨hbw3, r1, m5, x5, hbD3⟩ := h3f.out W3 hb3
            have hb4' : Hid _ := h4f.out W3 hb3
            have hb5' : Hid _ := h5f.out W3 hb3
            clear hb3
            first | (go_region_with (first | (go_at_call 83; refine (hcl.out _ hbD3.out).mono ?_; rintro e' W4 ⟨oa, oc, rfl, ho4, hb4⟩; obtain ⟨s1, hbw4, hz4, hz3⟩ := hb4'.out W4 hb4) | (go_at_call 84; refine (hva.out _).mono ?_; rintro e' w' ⟨rfl, hw'⟩; subst hw') | (go_at_call 76; refine (hadd.out W4 W3.drew.heap.size oa oc hbw4 hz4 hz3 ho4).mono ?_; rintro e' W5 ⟨pa, pc, rfl, ho5, hb5⟩; obtain ⟨hbw5, f5, y5, f6, y6, g6, g0, g1, g2, g3⟩ := hb5'.out W4 W5 hb4 hb5; clear hb4'))) | fail)
          all_goals go_wp2
          all_goals go_ret
          all_goals (rw [hAcc.out]; exact ⟨rfl, EngPost.same HE.out hbw5⟩)
      · rw [if_neg hf] at hAcc
        have i1 : ¬ (e.kept.length : Int) = 24 := by omega
        have i2 : ((e.kept.length : Int) == 24) = false := by simp [i1]
        have i3 : ¬ (8 : Int) < ((nmL e.names a.args).length : Int) := by omega
        clear hf
        obtain ⟨j0, hi, hz0, hz1, hz2⟩ := info_parts infoDt
        have hb1' : e.kept.length + 1 ≤ maxLen := by unfold maxLen; omega
        have hb2' : (e.kept.length + 1) * 56 ≤ 140737488355328 := by omega
        have hkeep : Hid (∀ W5, Below w.heap.size w W5 → ∀ v, (W5.setCell ⟨be, 5, none⟩ v).drew.ownsRow 0 161 4 (.slice ka e.kept.length kc) e.kept.length (e.kept.flatMap lastC)) := fun W5 hb v => by
          have h5 := hV.out.below hb
          have := owns_set h5.kept ⟨be, 5, none⟩ v (owns_ne h5.kept h5.blk (by decide))
          exact ⟨this.1, this.2⟩
        have hlt5 : Hid (∀ W5, Below w.heap.size w W5 → ∀ v, be < (W5.setCell ⟨be, 5, none⟩ v).drew.heap.size) := fun W5 hb v => by
          have := hb.size
          show be < (W5.setCell ⟨be, 5, none⟩ v).heap.size
          simp
          omega
        have hend : Hid (∀ W5 nb (pa : Option Addr) (pc : Nat), w.heap.size ≤ nb → Below w.heap.size w W5 → W5.ownsRow nb 9 1 (.slice pa (nmL e.names a.args).length pc) (nmL e.names a.args).length ((nmL e.names a.args).map Value.string) → ∀ (O : Obj) (w1 : World) (v' : Value), w1.ownsRow 0 161 4 v' (e.kept.length + 1) (e.kept.flatMap lastC ++ [.string gd.rel, .string gd.x, .string gd.y, .int .i64 t]) → ((W5.setCell ⟨be, 5, none⟩ (.slice pa (nmL e.names a.args).length pc)).drew.alloc O).grownBy w1 (Value.slice ka e.kept.length kc).ownBlock → (v'.ownBlock = (Value.slice ka e.kept.length kc).ownBlock ∨ v'.ownBlock = some ((W5.setCell ⟨be, 5, none⟩ (.slice pa (nmL e.names a.args).length pc)).drew.alloc O).heap.size) → w1.cell? ⟨be, 6, none⟩ = some (.slice ka e.kept.length kc) ∧ w1.frozen? ⟨be, 6, none⟩ = false ∧ EngPost S be { e with names := nmL e.names a.args, kept := e.kept ++ [(gd, t)] } w (w1.setCell ⟨be, 6, none⟩ v')) := fun W5 nb pa pc hnb hb ho O w1 v' h1 h2 h3 =>
          acc_mem hV.out hb (d := (gd, t)) hnb ho O h1 ⟨h2.os, h2.tape, h2.output, h2.size, h2.block⟩ h3
        go_wp2_with fail
        first | (go_region_with (go_at_call 82; refine (hct.out _ hD2.out).mono ?_; rintro e' W3 ⟨rfl, hb3⟩)) | fail
        all_goals go_wp2_with fail
        all_goals (
          obtain ⟨hbw3, r1, m5, x5, hbD3⟩ := h3f.out W3 hb3
          have hb4' : Hid _ := h4f.out W3 hb3
          have hb5' : Hid _ := h5f.out W3 hb3
          clear hb3
          first | (go_region_with (first | (go_at_call 83; refine (hcl.out _ hbD3.out).mono ?_; rintro e' W4 ⟨oa, oc, rfl, ho4, hb4⟩; obtain ⟨s1, hbw4, hz4, hz3⟩ := hb4'.out W4 hb4) | (go_at_call 84; refine (hva.out _).mono ?_; rintro e' w' ⟨rfl, hw'⟩; subst hw') | (go_at_call 76; refine (hadd.out W4 W3.drew.heap.size oa oc hbw4 hz4 hz3 ho4).mono ?_; rintro e' W5 ⟨pa, pc, rfl, ho5, hb5⟩; obtain ⟨hbw5, f5, y5, f6, y6, g6, g0, g1, g2, g3⟩ := hb5'.out W4 W5 hb4 hb5; clear hb4'))) | fail)
        all_goals go_wp2_with fail
        all_goals (
          have hk5 : (W5.setCell ⟨be, 5, none⟩ (.slice pa (nmL e.names a.args).length pc)).drew.ownsRow 0 161 4 (.slice ka e.kept.length kc) e.kept.length (e.kept.flatMap lastC) := hkeep.out W5 hbw5 _
          have hfin : Hid _ := hend.out W5 _ pa pc hz3 hbw5 ho5
          have hs5 : be < (W5.setCell ⟨be, 5, none⟩ (.slice pa (nmL e.names a.args).length pc)).drew.heap.size := hlt5.out W5 hbw5 _
          have v0 : (W5.setCell ⟨be, 5, none⟩ (.slice pa (nmL e.names a.args).length pc)).drew.cell? ⟨N1, 0, none⟩ = some (.string gd.rel) := g0 _
          have v1 : (W5.setCell ⟨be, 5, none⟩ (.slice pa (nmL e.names a.args).length pc)).drew.cell? ⟨N1, 1, none⟩ = some (.string gd.x) := g1 _
          have v2 : (W5.setCell ⟨be, 5, none⟩ (.slice pa (nmL e.names a.args).length pc)).drew.cell? ⟨N1, 2, none⟩ = some (.string gd.y) := g2 _
          have v3 : (W5.setCell ⟨be, 5, none⟩ (.slice pa (nmL e.names a.args).length pc)).drew.cell? ⟨N1, 3, none⟩ = some (.int .i64 t) := g3 _
          have v6 : (W5.setCell ⟨be, 5, none⟩ (.slice pa (nmL e.names a.args).length pc)).drew.cell? ⟨be, 6, none⟩ = some (.slice ka e.kept.length kc) := g6 _
          clear g0 g1 g2 g3 g6 f5 y5 f6 y6 ho5 hb5 hb5'
          generalize hV5 : (W5.setCell ⟨be, 5, none⟩ (.slice pa (nmL e.names a.args).length pc)).drew = V5 at *
          have v6' : ∀ O, (V5.alloc O).cell? ⟨be, 6, none⟩ = some (.slice ka e.kept.length kc) := fun O => cell_later ((Below.refl V5.heap.size V5).alloc (Nat.le_refl _) O) v6
          go_region_law (first | (refine step_append_at rfl (.tmp 50) (.tmp 52) 96 rfl 0 161 j0 (.agg #[.string ⟨#[]⟩, .string ⟨#[]⟩, .string ⟨#[]⟩, .int .i64 0]) 4 56 Tryz.underlying96 hi hz0 hz1 hz2 rfl (by decide) (.slice ka e.kept.length kc) e.kept.length (e.kept.flatMap lastC) (by simp [Act.eval, Act.put]) (World.ownsRow.alloc hk5 _) ⟨V5.heap.size, 0, none⟩ 1 1 [.string gd.rel, .string gd.x, .string gd.y, .int .i64 t] (by simp [Act.eval, Act.put]) rfl (cell_four_new _ _ _ _ _ _) (by simp [Value.oneCell']) hb1' hb2' (Nat.zero_le _) ?_; intro v' w1 hown1 hgrow1 hat1; obtain ⟨g', cap', hv'⟩ := ownsRow_succ hown1; subst hv'; obtain ⟨s6, t6, hpost⟩ := hfin.out _ w1 _ hown1 hgrow1 hat1) | go_simp))
        all_goals (
          go_wp2
          go_ret
          rw [hAcc.out]
          exact ⟨rfl, hpost⟩)

end Go.Proofs.YtjajnhemgphefaaGreatDoor

namespace Go.Proofs.YtjajnhemgphefaaGreatDoor
open Go.RowKit Go.Shelf Go.Maps
set_option linter.unusedVariables false
set_option linter.unusedSimpArgs false

end Go.Proofs.YtjajnhemgphefaaGreatDoor

namespace Go.Proofs.YtjajnhemgphefaaGreatDoor
open Go.RowKit Go.Shelf Go.Maps
set_option linter.unusedVariables false
set_option linter.unusedSimpArgs false

theorem EngPost.after {w w1 w2 : World} {S : Nat → Prop} {be : Nat} {e : Eg} (hb : Below w.heap.size w w1) (h : EngPost S be e w1 w2) : EngPost S be e w w2 := by
  obtain ⟨S', h1, h2, h3⟩ := h
  refine ⟨S', h1, fun k hk => (h2 k hk).imp id (fun h => Nat.le_trans hb.size h), h3.os.trans hb.os, h3.tape.trans hb.tape, h3.output.trans hb.output, Nat.le_trans hb.size h3.size, fun j hj hs => (h3.block j (Nat.lt_of_lt_of_le hj hb.size) hs).trans (hb.block j hj)⟩

set_option maxRecDepth 100000 in
set_option maxHeartbeats 4000000 in
theorem insert_any (S : Nat → Prop) (be : Nat) (e : Eg) (s : ByteArray) (t : Int) (w : World) (h : EngAt w S be e) (hok : EgOk e) (hs : s.size ≤ 4611686018427387904) (hT : Lib.Utf8Tabs 0 1 w) (hn : ∀ a, atomR s = some a → ∀ t ∈ a.args, t.num < 6) :
    Calls Tryz.prog 20 #[.pointer (some ⟨be, 0, none⟩), .string s, .int .i64 t] w fun en w' => en = .returned (.int .i64 (insR e s t).1) ∧ EngPost S be (insR e s t).2 w w' := by
  have hrg := readGround_any s w hs hT
  unfold GroundPost at hrg
  have HE : Hid (EngAt w S be e) := h
  cases ha : atomR s with
  | none =>
    rw [ha] at hrg
    have hu : Hid (insR e s t = (2, e)) := by show _ = _; unfold insR; rw [ha]
    have HR : Hid _ := hrg
    clear hrg ha h hok
    rw [hu.out]
    go_enter Tryz.func20, Tryz.ntmps20
    go_wp2_with (go_at_call 40; refine Calls.mono HR.out ?_; rintro e' W1 ⟨hb1, rfl⟩)
    go_ret
    exact ⟨rfl, EngPost.same HE.out (hb1.alloc hb1.size _)⟩
  | some a =>
    rw [ha] at hrg
    have hn' := hn a ha
    have hu : Hid (insR e s t = if groundB a = false then (2, e) else if derB e.rs a.rel = true then (7, e) else if ckR e.rs a ≠ 0 then (ckR e.rs a, e) else if ¬ (0 ≤ t ∧ t ≤ 1000000) then (6, e) else accR e a t) := by show _ = _; unfold insR; rw [ha]
    obtain ⟨gb, hgb⟩ : ∃ gb, groundB a = gb := ⟨_, rfl⟩
    have HR : Hid (Calls Tryz.prog 40 #[.string s] w fun e' w' => Below w.heap.size w w' ∧ ∃ va, e' = .returned (.tuple #[.agg #[.string a.rel, va], .bool gb]) ∧ AmOk a ∧ SealT w' w'.heap.size va a.args) := by
      show Calls _ _ _ _ _
      rw [← hgb]; exact hrg
    rw [hgb] at hu
    obtain ⟨vr, vn, vk, vf, bm, rb, b45, b87, bfs, Sf, hv⟩ := h
    obtain ⟨ra, rc, hrf⟩ := hv.rules.form
    subst hrf
    have hbe := hv.lt
    have hblk : Hid (∀ W, Below w.heap.size w W → W.cell? ⟨be, 0, none⟩ = some (.slice ra e.rs.length rc)) := fun W hb => by
      have := (hv.below hb).blk
      simp [World.cell?, this]
    have hde : Hid (∀ W, Below w.heap.size w W → Calls Tryz.prog 41 #[.slice ra e.rs.length rc, .string a.rel] W fun e' w' => e' = .returned (.bool (derB e.rs a.rel)) ∧ Below W.heap.size W w') := fun W hb => by
      have hv' := hv.below hb
      exact isDerived_any _ e.rs a.rel rb b45 b87 _ hv'.rules (rules_row hv'.rules) hok.rs.r8
    have hwi : Hid (∀ W, Calls Tryz.prog 43 #[.int .i64 t, .int .i64 0, .int .i64 1000000] W fun e' w' => e' = .returned (.bool (decide (0 ≤ t) && decide (t ≤ 1000000))) ∧ W = w') := fun W => by
      refine (isWithin_any t 0 1000000 W).mono ?_
      rintro e' w' ⟨h1, h2⟩; exact ⟨h1, h2.symm⟩
    have HOK : Hid (EgOk e) := hok
    clear hrg ha hv hok hT hn
    clear hgb
    cases gb with
    | false =>
      rw [if_pos rfl] at hu
      rw [hu.out]
      clear hu
      go_enter Tryz.func20, Tryz.ntmps20
      go_wp2_with (go_at_call 40; refine Calls.mono HR.out ?_; rintro e' W1 ⟨hb1, va, rfl, hak, hsl⟩; obtain ⟨xa, xc, hxf⟩ := hsl.form; subst hxf; have HAK : Hid _ := hak; have HSL : Hid _ := hsl; clear hak hsl)
      go_ret
      exact ⟨rfl, EngPost.same HE.out (hb1.alloc hb1.size _)⟩
    | true =>
      rw [if_neg (by decide)] at hu
      go_enter Tryz.func20, Tryz.ntmps20
      go_wp2_with fail
      refine Calls.mono HR.out ?_
      rintro e' W1 ⟨hb1, va, rfl, hak, hsl⟩
      obtain ⟨xa, xc, hxf⟩ := hsl.form
      subst hxf
      have hckc : Hid (∀ W, Below w.heap.size w W → Calls Tryz.prog 42 #[.pointer (some ⟨be, 0, none⟩), .agg #[.string a.rel, .slice xa a.args.length xc]] W fun en w' => en = .returned (.int .i64 (ckR e.rs a)) ∧ Below W.heap.size W w') := fun W hb => checkRel_any S be e W (HE.out.below hb) HOK.out.rs a _ _ _ rfl hak.args
      have hacc : Hid (∀ W, Below w.heap.size w W → Below W1.heap.size W1 W → 0 ≤ t ∧ t ≤ 1000000 → Calls Tryz.prog 44 #[.pointer (some ⟨be, 0, none⟩), .agg #[.string a.rel, .slice xa a.args.length xc], .int .i64 t] W fun en w' => en = .returned (.int .i64 (accR e a t).1) ∧ EngPost S be (accR e a t).2 w w') := fun W hb hb1' ht => by
        refine (accept_any S be e a xa xc W1.heap.size t W (HE.out.below hb) HOK.out hak (hsl.rk (RuleKept.ofBelow hb1')) hn' ht).mono ?_
        rintro en w' ⟨h1, h2⟩
        exact ⟨h1, EngPost.after hb h2⟩
      have hW1 : w.heap.size ≤ W1.heap.size := hb1.size
      have hbA : Hid (Below w.heap.size w (W1.alloc (.cells #[.string a.rel, .slice xa a.args.length xc] 92)) ∧ Below W1.heap.size W1 (W1.alloc (.cells #[.string a.rel, .slice xa a.args.length xc] 92))) := ⟨hb1.alloc hb1.size _, (Below.refl _ W1).alloc (Nat.le_refl _) _⟩
      have hbox : Hid (∀ W2, Below (W1.alloc (.cells #[.string a.rel, .slice xa a.args.length xc] 92)).heap.size (W1.alloc (.cells #[.string a.rel, .slice xa a.args.length xc] 92)) W2 → W2.cell? ⟨W1.heap.size, 0, none⟩ = some (.string a.rel) ∧ W2.cell? ⟨W1.heap.size, 1, none⟩ = some (.slice xa a.args.length xc) ∧ Below w.heap.size w W2 ∧ Below W1.heap.size W1 W2 ∧ W2.cell? ⟨be, 0, none⟩ = some (.slice ra e.rs.length rc)) := fun W2 hb => by
        have h1 := (hb.block _ (by simp)).trans (World.alloc_heap_new W1 _)
        have h2 := hbA.out.1.trans (hb.mono (by simp; omega))
        exact ⟨by simp [World.cell?, h1], by simp [World.cell?, h1], h2, hbA.out.2.trans (hb.mono (by simp)), hblk.out W2 h2⟩
      obtain ⟨r0, r1, r2, r3, r4⟩ := hbox.out _ (Below.refl _ _)
      have hbW : Hid (Below w.heap.size w (W1.alloc (.cells #[.string a.rel, .slice xa a.args.length xc] 92)).drew) := hbA.out.1.drew
      clear hak hsl
      cases hdb : derB e.rs a.rel with
      | true =>
        rw [hdb, if_pos rfl] at hu
        rw [hdb] at hde
        clear hdb
        go_wp2_with fail
        first | (go_region_with (go_at_call 41; refine (hde.out _ hbW.out).mono ?_; rintro e' W2 ⟨rfl, hb2⟩)) | fail
        all_goals go_wp2
        all_goals go_ret
        all_goals (rw [hu.out]; exact ⟨rfl, EngPost.same HE.out (hbW.out.trans (hb2.mono hbW.out.size))⟩)
      | false =>
        rw [hdb, if_neg (by decide)] at hu
        rw [hdb] at hde
        clear hdb
        go_wp2_with fail
        refine wp_mono (Q := fun e' a' w' => match e' with | Exit.normal => (Below (W1.alloc (.cells #[.string a.rel, .slice xa a.args.length xc] 92)).heap.size (W1.alloc (.cells #[.string a.rel, .slice xa a.args.length xc] 92)) w' ∧ a' = { tmps := #[.pointer (some ⟨be, 0, none⟩), .string s, .int .i64 t, undef, undef, undef, .int .i64 0, .pointer (some ⟨W1.heap.size, 0, none⟩), .bool true, undef, .tuple #[.agg #[.string a.rel, .slice xa a.args.length xc], .bool true], .string s, .tuple #[.agg #[.string a.rel, .slice xa a.args.length xc], .bool true], .agg #[.string a.rel, .slice xa a.args.length xc], .bool true, .bool true, .bool false, .pointer (some ⟨be, 0, none⟩), .pointer (some ⟨be, 0, none⟩), .pointer (some ⟨be, 0, none⟩), .slice ra e.rs.length rc, .pointer (some ⟨W1.heap.size, 0, none⟩), .string a.rel, .bool false, undef, undef, undef, undef, undef, undef, undef, undef, undef, undef, undef, undef, undef], defers := [] }) | _ => False) ?reg ?rest
        case reg =>
          first | (go_region_with (go_at_call 41; refine (hde.out _ hbW.out).mono ?_; rintro e' W2 ⟨rfl, hb2⟩)) | fail
          all_goals exact ⟨⟨hb2.os, hb2.tape, hb2.output, hb2.size, hb2.block⟩, rfl⟩
        case rest =>
          rintro (_ | _ | _ | _ | _ | _) a' W2 hq
          all_goals first | exact hq.elim | skip
          obtain ⟨hb2, rfl⟩ := hq
          obtain ⟨d0, d1, hb3, hb4, d4⟩ := hbox.out W2 hb2
          by_cases hck : ckR e.rs a = 0
          · have hck2 : Hid (¬ ckR e.rs a ≠ 0) := fun h => h hck
            rw [if_neg hck2.out] at hu
            rw [hck] at hckc
            clear hck
            go_wp2_with fail
            refine (hckc.out W2 hb3).mono ?_
            rintro e' W3 ⟨rfl, hb5⟩
            have hb6 : Below (W1.alloc (.cells #[.string a.rel, .slice xa a.args.length xc] 92)).heap.size (W1.alloc (.cells #[.string a.rel, .slice xa a.args.length xc] 92)) W3 := hb2.trans (hb5.mono hb2.size)
            obtain ⟨g0, g1, hb7, hb8, g4⟩ := hbox.out W3 hb6
            clear hb6 hb5 hb2
            by_cases ht : 0 ≤ t ∧ t ≤ 1000000
            · have hwt : (decide (0 ≤ t) && decide (t ≤ 1000000)) = true := by simp [ht.1, ht.2]
              rw [hwt] at hwi
              rw [if_neg (fun h => h ht)] at hu
              have HT : Hid (0 ≤ t ∧ t ≤ 1000000) := ht
              clear ht hwt
              go_wp2_with (first | (go_at_call 43; refine (hwi.out _).mono ?_; rintro e' w' ⟨rfl, hw'⟩; subst hw') | (go_at_call 44; refine (hacc.out W3 hb7 hb8 HT.out).mono ?_; rintro e' W4 ⟨rfl, hp⟩))
              go_ret
              rw [hu.out]
              exact ⟨rfl, hp⟩
            · have hwt : (decide (0 ≤ t) && decide (t ≤ 1000000)) = false := by
                rw [Bool.and_eq_false_iff]
                simp only [decide_eq_false_iff_not]
                omega
              rw [hwt] at hwi
              rw [if_pos ht] at hu
              clear ht hwt
              go_wp2_with (go_at_call 43; refine (hwi.out _).mono ?_; rintro e' w' ⟨rfl, hw'⟩; subst hw')
              go_ret
              rw [hu.out]
              exact ⟨rfl, EngPost.same HE.out hb7⟩
          · rw [if_pos hck] at hu
            have hck' : (ckR e.rs a == 0) = false := by simp [hck]
            generalize ckR e.rs a = ck at *
            go_wp2_with (go_at_call 42; refine (hckc.out W2 hb3).mono ?_; rintro e' W3 ⟨rfl, hb5⟩)
            go_ret
            rw [hu.out]
            exact ⟨rfl, EngPost.same HE.out (hb3.trans (hb5.mono hb3.size))⟩

end Go.Proofs.YtjajnhemgphefaaGreatDoor

namespace Go.Proofs.YtjajnhemgphefaaGreatDoor
open Go.RowKit Go.Shelf Go.Maps
set_option linter.unusedVariables false
set_option linter.unusedSimpArgs false

/-- Of the feeds k are moved. -/
structure MvI (w : World) (S : Nat → Prop) (be N bm B : Nat) (e : Eg) (l : List (Gd × Int)) (M' : Gd → Option Int) (vr vn vk vf : Value) (rb b45 b87 : Nat) (bfs : List Nat) (m : Int) (k : Nat) (V : World) : Prop where
  ex : ∃ (Sk : Nat → Prop) (Sfk : Nat → Nat → Prop) (L : List Fs), EngV V Sk be { e with mark := m, kept := l, M := M', fds := L } vr vn vk vf B rb b45 b87 bfs Sfk ∧ L.length = e.fds.length ∧ (∀ i (h : i < e.fds.length) (h' : i < L.length), i < k → MoveF e.M M' m e.que e.fds[i] L[i]) ∧ (∀ i (h : i < e.fds.length) (h' : i < L.length), k ≤ i → L[i] = e.fds[i]) ∧ ∀ j, Sk j → S j ∨ w.heap.size ≤ j
  chg : Chg w V S
  md : MdAt V bm 5000 e.M
  box : V.heap[N]? = some (Obj.cells #[.pointer (some ⟨be, 0, none⟩)] 40 (0, 0))

theorem MvI.blk {w V : World} {S : Nat → Prop} {be N bm B : Nat} {e : Eg} {l : List (Gd × Int)} {M' : Gd → Option Int} {vr vn vk vf : Value} {rb b45 b87 : Nat} {bfs : List Nat} {m : Int} {k : Nat} (h : MvI w S be N bm B e l M' vr vn vk vf rb b45 b87 bfs m k V) :
    V.heap[be]? = some (Obj.cells #[vr, .int .i64 e.win, .int .i64 e.lat, .int .i64 e.que, .int .i64 m, vn, vk, .map (some B), vf] 101 (0, 0)) ∧ V.ownsRow 0 120 1 vf bfs.length (bfs.map ptrV) := by
  obtain ⟨⟨Sk, Sfk, L, hv, _⟩, _⟩ := h
  exact ⟨hv.blk, hv.frow⟩
theorem MvI.drew {w V : World} {S : Nat → Prop} {be N bm B : Nat} {e : Eg} {l : List (Gd × Int)} {M' : Gd → Option Int} {vr vn vk vf : Value} {rb b45 b87 : Nat} {bfs : List Nat} {m : Int} {k : Nat} (h : MvI w S be N bm B e l M' vr vn vk vf rb b45 b87 bfs m k V) : MvI w S be N bm B e l M' vr vn vk vf rb b45 b87 bfs m k V.drew := by
  obtain ⟨⟨Sk, Sfk, L, hv, h1, h2, h3, h4⟩, h5, h6, h7⟩ := h
  exact ⟨⟨Sk, Sfk, L, hv.below (Below.refl _ V).drew, h1, h2, h3, h4⟩, h5.drew, h6.below (Below.refl _ V).drew, h7⟩

set_option maxHeartbeats 1000000 in
theorem mv_step {w V : World} {S : Nat → Prop} {be N bm B : Nat} {e : Eg} {l : List (Gd × Int)} {M' : Gd → Option Int} {vr vn vk vf : Value} {rb b45 b87 : Nat} {bfs : List Nat} {m : Int} {k : Nat} (h : MvI w S be N bm B e l M' vr vn vk vf rb b45 b87 bfs m k V) (hk : k < bfs.length) (hok : EgOk e) (hM : ∀ g, (M' g).isSome = true → arOk (arR e.rs) g ∧ g ∈ uni (relsR e.rs) e.names) :
    Calls Tryz.prog 88 #[.pointer (some ⟨bfs[k], 0, none⟩), .map (some bm), .map (some B), .int .i64 m, .int .i64 e.que] V fun en w' => en = .returned (.tuple #[]) ∧ MvI w S be N bm B e l M' vr vn vk vf rb b45 b87 bfs m (k + 1) w' := by
  obtain ⟨⟨Sk, Sfk, L, hv, hL, hd, hr, hs⟩, hc, hmd, hbx⟩ := h
  have hlen : bfs.length = L.length := hv.len
  have hkL : k < L.length := by omega
  have hke : k < e.fds.length := by omega
  obtain ⟨b, hf⟩ := hv.feed k hk hkL
  have hLk : L[k] = e.fds[k] := hr k hke hkL (Nat.le_refl k)
  have hf2 : FdAt V (Sfk k) bfs[k] b L[k] := hf
  have hfo := hok.fds _ (List.getElem_mem hke)
  cases hb : (e.fds[k]).behind with
  | true =>
    refine (move_behind (Sfk k) bfs[k] b L[k] bm B m e.que V hf2 (by rw [hLk]; exact hb)).mono ?_
    rintro en w' ⟨rfl, rfl⟩
    refine ⟨rfl, ⟨Sk, Sfk, L, hv, hL, fun i h1 h2 hi => ?_, fun i h1 h2 hi => hr i h1 h2 (by omega), hs⟩, hc, hmd, hbx⟩
    by_cases hik : i = k
    · subst hik; exact .inl ⟨hb, hLk⟩
    · exact hd i h1 h2 (by omega)
  | false =>
    have hMs : ∀ (rel x y : ByteArray), (M' ⟨rel, x, y⟩).isSome = true → x.size ≤ 2000 ∧ y.size ≤ 2000 := fun rel x y hx => by
      have := uni_size hok.rs hok.nsz (hM _ hx).2
      exact ⟨Nat.le_trans this.2.1 (by decide), Nat.le_trans this.2.2 (by decide)⟩
    have hfew : ∀ (P Q : Gd → Option Int) gs, (∀ g, (P g).isSome = true → g ∈ uni (relsR e.rs) e.names) → beyP P Q (L[k]).form gs → gs.length ≤ 100 := by
      rintro P Q gs hP ⟨g0, hg0, rfl⟩
      have h1 := fit_few hg0 hP hok.n8
      have h2 := List.length_filter_le (fun g => (Q g).isNone) g0
      omega
    refine (move_go (Sfk k) bfs[k] b L[k] bm B 5000 5000 e.M M' m e.que V hf2 (fun j hj => (hv.sub k j hj).2.lt) (by rw [hLk]; exact hb) (by rw [hLk]; have := hfo.2.2; omega) (by rw [hLk]; exact hfo.1) hmd hv.md (by decide) (by decide) (fun x y hx => md_size hok _ x y hx) (fun x y hx => hMs _ x y hx) (fun gs hg => hfew _ _ gs (fun g hg => (hok.md g hg).2) hg) (fun gs hg => hfew _ _ gs (fun g hg => (hM g hg).2) hg)).mono ?_
    rintro en w' ⟨rfl, g1, g2, f', hg1, hg2, hf', hc', hcs⟩
    have hset := hv.feedSet hk hf' hc'
    refine ⟨rfl, ⟨_, _, L.set k f', hset, by simp [hL], fun i h1 h2 hi => ?_, fun i h1 h2 hi => ?_, fun j hj => ?_⟩, ?_, ?_, ?_⟩
    · by_cases hik : i = k
      · subst hik
        rw [List.getElem_set_self]
        rw [hLk] at hg1 hg2 hcs
        exact .inr ⟨hb, g1, g2, hg1, hg2, hcs⟩
      · rw [List.getElem_set_ne (by omega)]
        exact hd i h1 (by simpa using h2) (by omega)
    · rw [List.getElem_set_ne (by omega)]
      exact hr i h1 (by simpa using h2) (by omega)
    · rcases sSet_sub (fun j hj => (hv.sub k j hj).1) j hj with h1 | h1
      · exact hs j h1
      · exact .inr (Nat.le_trans hc.size h1)
    · refine ⟨hc'.os.trans hc.os, hc'.tape.trans hc.tape, hc'.output.trans hc.output, Nat.le_trans hc.size hc'.size, fun j hj hn => (hc'.block j (Nat.lt_of_lt_of_le hj hc.size) (fun hs' => ?_)).trans (hc.block j hj hn)⟩
      rcases hs j (hv.sub k j hs').1 with h1 | h1
      · exact hn h1
      · omega
    · exact hmd.kept (fun j es c hm => (hc'.block j (Array.getElem?_eq_some_iff.1 hm).1 (fun hs' => WTy.notMap hm (hv.sub k j hs').2.w)).trans hm)
    · refine (hc'.block N (Array.getElem?_eq_some_iff.1 hbx).1 (fun hs' => ?_)).trans hbx
      obtain ⟨c, t, h1, h2⟩ := (hv.sub k N hs').2
      rw [hbx] at h1; cases h1
      rcases h2 with h2 | h2 <;> cases h2

/-- The state is put: no feed is moved yet. -/
theorem mv_start {w W3 W4 : World} {S S2 : Nat → Prop} {be N bm B : Nat} {e : Eg} {l : List (Gd × Int)} {M' : Gd → Option Int} {vr vn vk vf : Value} {rb b45 b87 : Nat} {bfs : List Nat} {Sf : Nat → Nat → Prop} {m : Int}
    (hv : EngV W3 S2 be { e with mark := m, kept := l } vr vn vk vf bm rb b45 b87 bfs Sf) (hsub : ∀ k, S2 k → S k) (hch : Chg w W3 S) (hbx : W3.heap[N]? = some (Obj.cells #[.pointer (some ⟨be, 0, none⟩)] 40 (0, 0))) (hb : Below W3.heap.size W3 W4) (hm : MdAt W4 B 5000 M') :
    W4.cell? ⟨N, 0, none⟩ = some (.pointer (some ⟨be, 0, none⟩)) ∧ W4.cell? ⟨be, 7, none⟩ = some (.map (some bm)) ∧ W4.frozen? ⟨be, 7, none⟩ = false ∧ MvI w S be N bm B e l M' vr vn vk vf rb b45 b87 bfs m 0 (W4.setCell ⟨be, 7, none⟩ (.map (some B))) := by
  have h4 := hv.below hb
  have hN4 := (hb.block N (Array.getElem?_eq_some_iff.1 hbx).1).trans hbx
  have hbk := h4.blk
  have hne : N ≠ be := fun e => by rw [e, h4.blk] at hN4; cases hN4
  have hc : Chg W4 (W4.setCell ⟨be, 7, none⟩ (.map (some B))) (fun k => k = be ∨ vk.ownBlock = some k) := (Chg.refl W4 _).setCell ⟨be, 7, none⟩ _ (fun _ => .inl rfl)
  have hty : ∀ (k : Nat) (o : Obj), W4.heap[k]? = some o → k ≠ be → (W4.setCell ⟨be, 7, none⟩ (.map (some B))).heap[k]? = some o := fun k o hk hne => (Below.heap_setCell _ _ _ _ (by show k ≠ be; exact hne)).trans hk
  have hmap : ∀ j es c, W4.heap[j]? = some (Obj.map es c) → (W4.setCell ⟨be, 7, none⟩ (.map (some B))).heap[j]? = some (Obj.map es c) := fun j es c hj => hty j _ hj (fun e => by rw [e, h4.blk] at hj; cases hj)
  have hput := h4.put (W' := W4.setCell ⟨be, 7, none⟩ (.map (some B))) (e' := { e with mark := m, kept := l, M := M' }) (vn' := vn) (vk' := vk) (bm' := B) hc rfl rfl (heap_set h4.blk 7 (.map (some B)))
    (owns_set h4.names ⟨be, 7, none⟩ _ (owns_ne h4.names h4.blk (by decide))) (owns_set h4.kept ⟨be, 7, none⟩ _ (owns_ne h4.kept h4.blk (by decide))) (hm.kept hmap)
  have hchw : Chg w W4 S := ⟨hb.os.trans hch.os, hb.tape.trans hch.tape, hb.output.trans hch.output, Nat.le_trans hch.size hb.size, fun j hj hs => (hb.block j (Nat.lt_of_lt_of_le hj hch.size)).trans (hch.block j hj hs)⟩
  refine ⟨by simp [World.cell?, hN4], by simp [World.cell?, hbk], by simp [World.frozen?, hbk], ⟨_, Sf, e.fds, hput, rfl, fun i _ _ hi => by omega, fun i _ _ _ => rfl, fun j hj => ?_⟩, hchw.setCell ⟨be, 7, none⟩ _ (fun _ => hsub _ hv.own.1), h4.md.kept hmap, hty N _ hN4 hne⟩
  rcases hj with ⟨h1, _⟩ | h1 | h1
  · exact .inl (hsub j h1)
  · exact .inl (hsub j (hv.own.2.1 j h1))
  · exact .inl (hsub j (hv.own.2.2.2 j h1))

/-- All feeds are moved. -/
theorem MvI.done {w V : World} {S : Nat → Prop} {be N bm B : Nat} {e : Eg} {l : List (Gd × Int)} {M' : Gd → Option Int} {vr vn vk vf : Value} {rb b45 b87 : Nat} {bfs : List Nat} {m : Int} (h : MvI w S be N bm B e l M' vr vn vk vf rb b45 b87 bfs m bfs.length V) (hl : e.kept.filter (fun d => !overB e.win m d.2) = l) (hM : LeastM e.rs (factsF e m ++ givenL e.rs) M') :
    ∃ e', MoveE e m e' ∧ EngPost S be e' w V := by
  obtain ⟨⟨Sk, Sfk, L, hv, hL, hd, hr, hs⟩, hc, hmd, hbx⟩ := h
  have hlen : bfs.length = L.length := hv.len
  refine ⟨{ e with mark := m, kept := l, M := M', fds := L }, ⟨M', L, hM, hL, fun i h1 h2 => hd i h1 h2 (by omega), by rw [hl]⟩, Sk, ⟨_, _, _, _, _, _, _, _, _, _, hv⟩, hs, hc⟩

end Go.Proofs.YtjajnhemgphefaaGreatDoor
