/-
  Package feeds: the next record of a feed that is behind, and of one that has none.
  Package feeds: Poll.
-/
import Derived.Test.YtjajnhemgphefaaGreatDoorJdFd3
namespace Go.Proofs.YtjajnhemgphefaaGreatDoor
open Go.RowKit Go.Shelf Go.Maps
set_option linter.unusedVariables false
set_option linter.unusedSimpArgs false

set_option maxRecDepth 100000 in
set_option maxHeartbeats 4000000 in
theorem next_none (S : Nat → Prop) (bf b87 : Nat) (f : Fs) (mm : Option Nat) (mark : Int) (w : World) (h : FdAt w S bf b87 f) (hS : ∀ k, S k → k < w.heap.size) (hs0 : f.snap = []) (hb : f.behind = false) (hs : f.que = []) :
    Calls Tryz.prog 99 #[.pointer (some ⟨bf, 0, none⟩), .map mm, .int .i64 mark] w fun e w' => e = .returned (.agg #[.int .i64 0, .int .i64 0, .string ⟨#[]⟩, .int .i64 0]) ∧ FdAt w' S bf b87 f ∧ Chg w w' S := by
  have HF : Hid (∀ O, FdAt (w.alloc O) S bf b87 f) := fun O => h.keep (ex := fun _ => False) (fun k hk _ => Below.heap_alloc _ _ _ hk) (fun _ _ e => e) (fun _ _ _ e => e)
  obtain ⟨va, vs, vq, h1, h2, h3, h4, h5, h6, h7⟩ := h
  have hal : ∀ O, Below w.heap.size w (w.alloc O) := fun O => (Below.refl _ w).alloc (Nat.le_refl _) O
  rw [hs0] at h3
  obtain ⟨sa, sc, hsf⟩ := owns_form h3
  subst hsf
  rw [hs] at h4
  obtain ⟨qa, qc, hqf⟩ := owns_form h4
  subst hqf
  rw [hb] at h1
  have c3 : ∀ O, (w.alloc O).cell? ⟨bf, 3, none⟩ = some (.slice sa 0 sc) := fun O => cell_later (hal O) (by simp [World.cell?, h1])
  have c2 : ∀ O, (w.alloc O).cell? ⟨bf, 2, none⟩ = some (.bool false) := fun O => cell_later (hal O) (by simp [World.cell?, h1])
  have c4 : ∀ O, (w.alloc O).cell? ⟨bf, 4, none⟩ = some (.slice qa 0 qc) := fun O => cell_later (hal O) (by simp [World.cell?, h1])
  clear h1 h2 h3 h4 h5 h6 h7 hal
  go_enter Tryz.func99, Tryz.ntmps99
  go_wp2
  refine bodyPost_ret (v := .agg #[.int .i64 0, .int .i64 0, .string ⟨#[]⟩, .int .i64 0]) (by simp [results, Tryz.results99, go_sem]) rfl ?_
  exact ⟨rfl, HF.out _, (Chg.refl w S).alloc _⟩

theorem marker_any (mark : Int) (w : World) : Calls Tryz.prog 149 #[.int .i64 mark] w fun e w' => e = .returned (.agg #[.int .i64 4, .int .i64 0, .string ⟨#[]⟩, .int .i64 mark]) ∧ Below w.heap.size w w' := by
  go_enter Tryz.func149, Tryz.ntmps149
  go_wp2
  refine bodyPost_ret (v := .agg #[.int .i64 4, .int .i64 0, .string ⟨#[]⟩, .int .i64 mark]) (by simp [results, Tryz.results149, go_sem]) rfl ?_
  exact ⟨rfl, (Below.refl _ w).alloc (Nat.le_refl _) _⟩

set_option maxRecDepth 100000 in
set_option maxHeartbeats 4000000 in
theorem next_behind (S : Nat → Prop) (bf b87 : Nat) (f : Fs) (B nn : Nat) (M : Gd → Option Int) (mark : Int) (w : World) (h : FdAt w S bf b87 f) (hS : ∀ k, S k → k < w.heap.size) (hs0 : f.snap = []) (hb : f.behind = true) (hfo : FormOk f.form) (hM : MdAt w B nn M) (hnn : nn ≤ 1000000) (hMs : ∀ x y, (M ⟨f.form.rel, x, y⟩).isSome = true → x.size ≤ 2000 ∧ y.size ≤ 2000) :
    Calls Tryz.prog 99 #[.pointer (some ⟨bf, 0, none⟩), .map (some B), .int .i64 mark] w fun e w' => e = .returned (.agg #[.int .i64 1, .int .i64 0, .string ⟨#[]⟩, .int .i64 0]) ∧ ∃ gs : List Gd, (∃ ks : List (ByteArray × ByteArray), ks.Nodup ∧ (∀ x y, (x, y) ∈ ks ↔ (x.size ≤ maxLen ∧ y.size ≤ maxLen ∧ (M ⟨f.form.rel, x, y⟩).isSome = true)) ∧ gs = (ks.filterMap (fun k => matchA nms0 f.form k.1 k.2)).map (fun p => groundA p f.form)) ∧ FdAt w' (fun k => S k ∨ w.heap.size ≤ k) bf b87 { f with behind := false, snap := recsT 2 (sortT (gs.map (fun g => (textG g).data.toList))) ++ [⟨4, 0, ⟨#[]⟩, mark⟩] } ∧ Chg w w' S := by
  obtain ⟨va, vs, vq, h1, h2, h3, h4, h5, h6, h7⟩ := h
  have hal : ∀ O, Below w.heap.size w (w.alloc O) := fun O => (Below.refl _ w).alloc (Nat.le_refl _) O
  rw [hs0] at h3
  obtain ⟨sa, sc, hsf⟩ := owns_form h3
  subst hsf
  obtain ⟨qa, qc, hqf⟩ := owns_form h4
  subst hqf
  obtain ⟨fa, fc, hfa⟩ := h2.form
  subst hfa
  rw [hb] at h1
  have c3 : ∀ O, (w.alloc O).cell? ⟨bf, 3, none⟩ = some (.slice sa 0 sc) := fun O => cell_later (hal O) (by simp [World.cell?, h1])
  have c2 : ∀ O, (w.alloc O).cell? ⟨bf, 2, none⟩ = some (.bool true) := fun O => cell_later (hal O) (by simp [World.cell?, h1])
  have f2 : ∀ O, (w.alloc O).frozen? ⟨bf, 2, none⟩ = false := fun O => by have := ((hal O).block bf (Array.getElem?_eq_some_iff.1 h1).1).trans h1; simp [World.frozen?, this]
  have hbl := (Array.getElem?_eq_some_iff.1 h1).1
  obtain ⟨N, hN⟩ : ∃ N, w.heap.size = N := ⟨_, rfl⟩
  have hbN : bf < N := by omega
  obtain ⟨i0, hi, hz0, hz1, hz2⟩ := info_parts Tryz.infoRec
  obtain ⟨W0, hW0⟩ : ∃ W0, (w.setCell ⟨bf, 2, none⟩ (.bool false)).alloc (.cells #[.int .i64 0, .int .i64 0, .string ⟨#[]⟩, .int .i64 0] 71) = W0 := ⟨_, rfl⟩
  have hs0' : W0.heap.size = N + 1 := by rw [← hW0, ← hN]; simp
  have hsz1 : (w.setCell ⟨bf, 2, none⟩ (.bool false)).heap.size = N := by simp [hN]
  have hoth : ∀ (k : Nat) (o : Obj), k ≠ bf → w.heap[k]? = some o → W0.heap[k]? = some o := fun k o hk ho => by
    rw [← hW0]
    exact (Below.heap_alloc _ _ _ (by rw [hsz1, ← hN]; exact (Array.getElem?_eq_some_iff.1 ho).1)).trans ((Below.heap_setCell _ _ _ _ (by show k ≠ bf; exact hk)).trans ho)
  have e1 : W0.heap[bf]? = some (Obj.cells #[.string f.form.rel, .slice fa f.form.args.length fc, .bool false, .slice sa 0 sc, .slice qa f.que.length qc, .int .i64 f.told] 198 (0, 0)) := by
    rw [← hW0]
    refine (Below.heap_alloc _ _ _ (by rw [hsz1]; exact hbN)).trans ?_
    have := heap_set h1 2 (.bool false)
    exact this
  have eN : W0.heap[N]? = some (Obj.cells #[.int .i64 0, .int .i64 0, .string ⟨#[]⟩, .int .i64 0] 71 (0, 0)) := by
    rw [← hW0]
    have := World.alloc_heap_new (w.setCell ⟨bf, 2, none⟩ (.bool false)) (.cells #[.int .i64 0, .int .i64 0, .string ⟨#[]⟩, .int .i64 0] 71)
    rw [hsz1] at this; exact this
  have hch0 : Chg w W0 S := by rw [← hW0]; exact ((Chg.refl w S).setCell ⟨bf, 2, none⟩ _ (fun _ => h7)).alloc _
  have hM0 : MdAt W0 B nn M := hM.kept (fun k es c hk => hoth k _ (fun e => by rw [e, h1] at hk; cases hk) hk)
  have hS0 : SealT W0 b87 (.slice fa f.form.args.length fc) f.form.args := h2.kept (fun k c _ hc => hoth k _ (fun e => by rw [e, h1] at hc; cases hc) hc)
  have hq0 : W0.ownsRow 0 71 4 (.slice qa f.que.length qc) f.que.length (f.que.flatMap Rc.c) := own_keep h4 (fun g hg hlt => by
    obtain ⟨_, c, hc⟩ := owns_block h4 hg
    rw [hc]; exact hoth g _ (owns_ne h4 h1 (by decide) g hg) hc)
  have d0 : W0.cell? ⟨bf, 0, none⟩ = some (.string f.form.rel) := by simp [World.cell?, e1]
  have d1 : W0.cell? ⟨bf, 1, none⟩ = some (.slice fa f.form.args.length fc) := by simp [World.cell?, e1]
  have hfit : Hid (Calls Tryz.prog 51 #[.map (some B), .agg #[.string f.form.rel, .slice fa f.form.args.length fc]] W0 fun e w' => e = .returned (.func (.func 93) #[] #[.pointer (some ⟨N + 1, 0, none⟩), .pointer (some ⟨N + 2, 0, none⟩)]) ∧ Below (N + 1) W0 w' ∧ w'.heap[N + 1]? = some (Obj.cells #[.map (some B)] 98 (0, 0)) ∧ w'.heap[N + 2]? = some (Obj.cells #[.string f.form.rel, .slice fa f.form.args.length fc] 92 (0, 0))) := by
    refine (mfits_any B f.form _ W0 _ _ _ rfl).mono ?_
    rintro e w' ⟨rfl, rfl⟩
    refine ⟨by rw [hs0'], ((Below.refl _ W0).alloc (by omega) _).alloc (by simp; omega) _, ?_, ?_⟩
    · have := World.alloc_heap_new W0 (.cells #[.map (some B)] 98)
      rw [hs0'] at this
      exact (Below.heap_alloc _ _ _ (by simp; omega)).trans this
    · have := World.alloc_heap_new (W0.alloc (.cells #[.map (some B)] 98)) (.cells #[.string f.form.rel, .slice fa f.form.args.length fc] 92)
      rw [World.size_alloc, hs0'] at this
      exact this
  have hrec : Hid (∀ W1, Below (N + 1) W0 W1 → W1.heap[N + 1]? = some (Obj.cells #[.map (some B)] 98 (0, 0)) → W1.heap[N + 2]? = some (Obj.cells #[.string f.form.rel, .slice fa f.form.args.length fc] 92 (0, 0)) → Calls Tryz.prog 146 #[.int .i64 2, .func (.func 93) #[] #[.pointer (some ⟨N + 1, 0, none⟩), .pointer (some ⟨N + 2, 0, none⟩)]] W1 fun e w' => ∃ (oa : Option Addr) (oc : Nat) (rs : List Rc), e = .returned (.slice oa rs.length oc) ∧ rs.length ≤ 1000000 ∧ Hid (∃ gs : List Gd, (∃ ks : List (ByteArray × ByteArray), ks.Nodup ∧ (∀ x y, (x, y) ∈ ks ↔ (x.size ≤ maxLen ∧ y.size ≤ maxLen ∧ (M ⟨f.form.rel, x, y⟩).isSome = true)) ∧ gs = (ks.filterMap (fun k => matchA nms0 f.form k.1 k.2)).map (fun p => groundA p f.form)) ∧ rs = recsT 2 (sortT (gs.map (fun g => (textG g).data.toList)))) ∧ w'.ownsRow (N + 1) 71 4 (.slice oa rs.length oc) rs.length (rs.flatMap Rc.c) ∧ Below (N + 1) W0 w') := by
    intro W1 hb1 x1 x2
    have hbW : Below W0.heap.size W0 W1 := by rw [hs0']; exact hb1
    have hsz : N + 1 ≤ W1.heap.size := by have := hb1.size; omega
    refine (records_any (N := nn) 2 W1 hnn (enters_of Tryz.func93 (by kernel_rfl) rfl) (fun m n => fits_seq n (N + 1) (N + 2) B nn b87 M f.form _ W1 x1 x2 (hM0.mk (MKept.ofBelow (m := m) hbW)) (hS0.mk (MKept.ofBelow (m := m) hbW)) hfo.args hfo.nums hfo.rel hfo.names hMs m)).mono ?_
    rintro e w' ⟨v, gs, rfl, ⟨ks, k1, k2, k3, k4⟩, ho, hb⟩
    obtain ⟨oa, oc, hof⟩ := owns_form ho
    subst hof
    have hgl : (gs.map (·.1)).map (fun g => (textG g).data.toList) = gs.map (fun g => (textG g.1).data.toList) := by rw [List.map_map]; rfl
    refine ⟨oa, oc, _, rfl, ?_, ⟨gs.map (·.1), ⟨ks, k1, k2, k4⟩, by rw [hgl]⟩, ownsRow_lower ho hsz, hb1.trans (hb.mono hsz)⟩
    have e1 : gs.length ≤ ks.length := by
      have := congrArg List.length k4
      rw [List.length_map, List.length_map] at this
      rw [this]; exact List.length_filterMap_le _ _
    have e2 : (sortT (gs.map (fun g => (textG g.1).data.toList))).length = gs.length := ((List.mergeSort_perm _ _).length_eq).trans (by simp)
    unfold recsT
    rw [List.length_map, e2]; omega
  have hmk : Hid (∀ W, Calls Tryz.prog 149 #[.int .i64 mark] W fun e w' => e = .returned (.agg #[.int .i64 4, .int .i64 0, .string ⟨#[]⟩, .int .i64 mark]) ∧ Below W.heap.size W w') := fun W => marker_any mark W
  have hfacts : Hid (∀ W, Below (N + 1) W0 W → W.heap[bf]? = some (Obj.cells #[.string f.form.rel, .slice fa f.form.args.length fc, .bool false, .slice sa 0 sc, .slice qa f.que.length qc, .int .i64 f.told] 198 (0, 0)) ∧ W.heap[N]? = some (Obj.cells #[.int .i64 0, .int .i64 0, .string ⟨#[]⟩, .int .i64 0] 71 (0, 0))) := fun W hb => ⟨(hb.block bf (by omega)).trans e1, (hb.block N (by omega)).trans eN⟩
  have HE1 : Hid _ := e1
  have hgrow : Hid (∀ (W3 : World) (oa : Option Addr) (rn oc : Nat) (xs : List Value) (O : Obj) (w1 : World), Below (N + 1) W0 W3 → W3.ownsRow (N + 1) 71 4 (.slice oa rn oc) rn xs → (W3.alloc O).grownBy w1 (Value.slice oa rn oc).ownBlock → Below (N + 1) W0 w1) := fun W3 oa rn oc xs O w1 hb ho hg => (hb.alloc (by have := hb.size; omega) O).grown hg (by have := hb.size; simp; omega) (fun k e => (owns_block ho e).1)
  have hfinal : Hid (∀ (w1 : World) (rs : List Rc) (g' cap' : Nat), Below (N + 1) W0 w1 → w1.ownsRow (N + 1) 71 4 (.slice (some ⟨g', 0, none⟩) (rs.length + 1) cap') (rs.length + 1) (rs.flatMap Rc.c ++ [.int .i64 4, .int .i64 0, .string ⟨#[]⟩, .int .i64 mark]) → FdAt (putRc (w1.setCell ⟨bf, 3, none⟩ (.slice (some ⟨g', 0, none⟩) (rs.length + 1) cap')) N ⟨1, 0, ⟨#[]⟩, 0⟩) (fun k => S k ∨ N ≤ k) bf b87 { f with behind := false, snap := rs ++ [⟨4, 0, ⟨#[]⟩, mark⟩] } ∧ Chg w (putRc (w1.setCell ⟨bf, 3, none⟩ (.slice (some ⟨g', 0, none⟩) (rs.length + 1) cap')) N ⟨1, 0, ⟨#[]⟩, 0⟩) S) := by
    intro w1 rs g' cap' hb1 ho1
    have q1 := (hb1.block bf (by omega)).trans e1
    have qN := (hb1.block N (by omega)).trans eN
    have hg' : N + 1 ≤ g' := (owns_block ho1 (g := g') rfl).1
    have r1 := heap_set q1 3 (.slice (some ⟨g', 0, none⟩) (rs.length + 1) cap')
    have hc1 : Chg w w1 S := ⟨hb1.os.trans hch0.os, hb1.tape.trans hch0.tape, hb1.output.trans hch0.output, Nat.le_trans hch0.size hb1.size, fun k hk hx => (hb1.block k (by omega)).trans (hch0.block k hk hx)⟩
    refine ⟨⟨_, _, _, (putRc_other _ N _ (by omega)).trans r1, ?_, ?_, ?_, fun g hg => ⟨.inr ?_, ?_⟩, fun g hg => .inl (h6 g hg), .inl h7⟩, putRc_chg (hc1.setCell ⟨bf, 3, none⟩ _ (fun _ => h7)) (by omega) _⟩
    · refine (hS0.kept (fun k c _ hc => ?_))
      have hk : k ≠ bf := fun e => by rw [e, e1] at hc; cases hc
      have hkN : k ≠ N := fun e => by rw [e, eN] at hc; cases hc
      have hkl := (Array.getElem?_eq_some_iff.1 hc).1
      exact (putRc_other _ N _ hkN).trans ((Below.heap_setCell _ _ _ _ (by show k ≠ bf; exact hk)).trans ((hb1.block k (by omega)).trans hc))
    · have hl : (rs ++ [(⟨4, 0, ⟨#[]⟩, mark⟩ : Rc)]).length = rs.length + 1 := by simp
      have hf : (rs ++ [(⟨4, 0, ⟨#[]⟩, mark⟩ : Rc)]).flatMap Rc.c = rs.flatMap Rc.c ++ [.int .i64 4, .int .i64 0, .string ⟨#[]⟩, .int .i64 mark] := by rw [List.flatMap_append]; rfl
      show World.ownsRow _ 0 _ 4 _ (rs ++ [(⟨4, 0, ⟨#[]⟩, mark⟩ : Rc)]).length ((rs ++ [(⟨4, 0, ⟨#[]⟩, mark⟩ : Rc)]).flatMap Rc.c)
      rw [hl, hf]
      refine own_keep (ownsRow_lower ho1 (Nat.zero_le _)) (fun g hg hlt => ?_)
      have hgg : g' = g := Option.some.inj hg
      exact (putRc_other _ N _ (by omega)).trans (Below.heap_setCell _ _ _ _ (by show g ≠ bf; omega))
    · refine own_keep hq0 (fun g hg hlt => ?_)
      have hgb : g ≠ bf := owns_ne hq0 e1 (by decide) g hg
      have hgN : g < N := by have := hS g (h6 g hg); omega
      exact (putRc_other _ N _ (by omega)).trans ((Below.heap_setCell _ _ _ _ (by show g ≠ bf; exact hgb)).trans (hb1.block g (by omega)))
    · have hgg : g' = g := Option.some.inj hg
      omega
    · have hgg : g' = g := Option.some.inj hg
      intro e
      have := hS _ (h6 _ e)
      omega
  clear h1 h3 h4 hM h2 hal hoth e1 eN hb hs0
  go_enter Tryz.func99, Tryz.ntmps99
  go_wp2_with (first | (go_at_call 51; refine (hfit.out).mono ?_; rintro e W1 ⟨rfl, hb1, x1, x2⟩) | (go_at_call 146; refine (hrec.out W1 hb1 x1 x2).mono ?_; rintro e W2 ⟨oa, oc, rs, rfl, hrl, hspec, ho2, hb2⟩) | (go_at_call 149; refine (hmk.out _).mono ?_; rintro e W3 ⟨rfl, hb3⟩; have hb03 : Below (N + 1) W0 W3 := hb2.trans (hb3.mono (by have := hb2.size; omega)); have ho3 := own_below ho2 hb3; have hb1' : rs.length + 1 ≤ maxLen := (by unfold maxLen; omega); have hb2' : (rs.length + 1) * 40 ≤ 140737488355328 := (by omega); have hN3 : N + 1 ≤ W3.heap.size := (by have := hb03.size; omega)) | (at_builtin; refine wpList_append_own _ rfl (.tmp 33) (.tmp 36) 196 rfl (N + 1) 71 i0 (.agg #[.int .i64 0, .int .i64 0, .string ⟨#[]⟩, .int .i64 0]) 4 40 Tryz.underlying196 hi hz0 hz1 hz2 rfl (by decide) _ _ _ rfl (World.ownsRow.alloc ho3 _) ⟨W3.heap.size, 0, none⟩ 1 1 [.int .i64 4, .int .i64 0, .string ⟨#[]⟩, .int .i64 mark] rfl rfl (cell_four_new _ _ _ _ _ _) (by simp [Value.oneCell']) hb1' hb2' (by simp; omega) ?_; intro v' w1 hown1 hgrow1 _; obtain ⟨g', cap', hv'⟩ := ownsRow_succ hown1; subst hv'; have hbw1 := hgrow.out W3 oa rs.length oc _ _ w1 hb03 ho3 hgrow1; obtain ⟨p0, p1⟩ := hfacts.out w1 hbw1; have s0 : w1.cell? ⟨bf, 3, none⟩ = some (.slice sa 0 sc) := (by simp [World.cell?, p0]); have s1 : w1.frozen? ⟨bf, 3, none⟩ = false := (by simp [World.frozen?, p0]); have t0 : ∀ v, (w1.setCell ⟨bf, 3, none⟩ v).cell? ⟨N, 0, none⟩ = some (.int .i64 0) := fun v => (cell_other _ _ _ _ _ _ (by omega)).trans (by simp [World.cell?, p1]); have y0 : w1.frozen? ⟨N, 0, none⟩ = false := (by simp [World.frozen?, p1]); have t1 : ∀ v, (w1.setCell ⟨bf, 3, none⟩ v).cell? ⟨N, 1, none⟩ = some (.int .i64 0) := fun v => (cell_other _ _ _ _ _ _ (by omega)).trans (by simp [World.cell?, p1]); have y1 : w1.frozen? ⟨N, 1, none⟩ = false := (by simp [World.frozen?, p1]); have t2 : ∀ v, (w1.setCell ⟨bf, 3, none⟩ v).cell? ⟨N, 2, none⟩ = some (.string ⟨#[]⟩) := fun v => (cell_other _ _ _ _ _ _ (by omega)).trans (by simp [World.cell?, p1]); have y2 : w1.frozen? ⟨N, 2, none⟩ = false := (by simp [World.frozen?, p1]); have t3 : ∀ v, (w1.setCell ⟨bf, 3, none⟩ v).cell? ⟨N, 3, none⟩ = some (.int .i64 0) := fun v => (cell_other _ _ _ _ _ _ (by omega)).trans (by simp [World.cell?, p1]); have y3 : w1.frozen? ⟨N, 3, none⟩ = false := (by simp [World.frozen?, p1]); clear p0 p1))
  refine bodyPost_ret (v := .agg #[.int .i64 1, .int .i64 0, .string ⟨#[]⟩, .int .i64 0]) (by simp [results, Tryz.results99, go_sem, t0, t1, t2, t3]) rfl ?_
  obtain ⟨gs, hks, hrs⟩ := hspec.out
  obtain ⟨k1, k2⟩ := hfinal.out w1 rs g' cap' hbw1 hown1
  rw [hN]
  refine ⟨rfl, gs, hks, ?_, k2⟩
  rw [← hrs]
  exact k1

end Go.Proofs.YtjajnhemgphefaaGreatDoor

namespace Go.Proofs.YtjajnhemgphefaaGreatDoor
open Go.RowKit Go.Shelf Go.Maps
set_option linter.unusedVariables false
set_option linter.unusedSimpArgs false

/-- All that fits a form. -/
def fitP (M : Gd → Option Int) (a : Am) (gs : List Gd) : Prop := ∃ ks : List (ByteArray × ByteArray), ks.Nodup ∧ (∀ x y, (x, y) ∈ ks ↔ (x.size ≤ maxLen ∧ y.size ≤ maxLen ∧ (M ⟨a.rel, x, y⟩).isSome = true)) ∧ gs = (ks.filterMap (fun k => matchA nms0 a k.1 k.2)).map (fun p => groundA p a)
/-- The next record, ahead of its number, and the feed behind it. -/
def NextR (M : Gd → Option Int) (mark : Int) (f : Fs) (r : Rc) (f' : Fs) : Prop :=
  (∃ l, f.snap = r :: l ∧ f' = { f with snap := l }) ∨
  (f.snap = [] ∧ f.behind = true ∧ r = ⟨1, 0, ⟨#[]⟩, 0⟩ ∧ ∃ gs, fitP M f.form gs ∧ f' = { f with behind := false, snap := recsT 2 (sortT (gs.map (fun g => (textG g).data.toList))) ++ [⟨4, 0, ⟨#[]⟩, mark⟩] }) ∨
  (f.snap = [] ∧ f.behind = false ∧ ∃ l, f.que = r :: l ∧ f' = { f with que := l }) ∨
  (f.snap = [] ∧ f.behind = false ∧ f.que = [] ∧ r = ⟨0, 0, ⟨#[]⟩, 0⟩ ∧ f' = f)
theorem FdAt.wider {W : World} {S S' : Nat → Prop} {bf b87 : Nat} {f : Fs} (h : FdAt W S bf b87 f) (hs : ∀ k, S k → S' k) : FdAt W S' bf b87 f := by
  obtain ⟨va, vs, vq, h1, h2, h3, h4, h5, h6, h7⟩ := h
  exact ⟨va, vs, vq, h1, h2, h3, h4, fun g hg => ⟨hs _ (h5 g hg).1, (h5 g hg).2⟩, fun g hg => hs _ (h6 g hg), hs _ h7⟩

theorem next_any (S : Nat → Prop) (bf b87 : Nat) (f : Fs) (B nn : Nat) (M : Gd → Option Int) (mark : Int) (w : World) (h : FdAt w S bf b87 f) (hS : ∀ k, S k → k < w.heap.size) (hl : f.snap.length ≤ 100000 ∧ f.que.length ≤ 100000) (hfo : FormOk f.form) (hM : MdAt w B nn M) (hnn : nn ≤ 1000000) (hMs : ∀ x y, (M ⟨f.form.rel, x, y⟩).isSome = true → x.size ≤ 2000 ∧ y.size ≤ 2000) :
    Calls Tryz.prog 99 #[.pointer (some ⟨bf, 0, none⟩), .map (some B), .int .i64 mark] w fun e w' => ∃ r f', e = .returned (.agg #[.int .i64 r.kind, .int .i64 r.seq, .string r.text, .int .i64 r.time]) ∧ NextR M mark f r f' ∧ FdAt w' (fun k => S k ∨ w.heap.size ≤ k) bf b87 f' ∧ Chg w w' S := by
  cases hs : f.snap with
  | cons x l =>
    refine (next_snap S bf b87 f x l (some B) mark w h hS hs (by have := hl.1; rw [hs] at this; simp at this; omega)).mono ?_
    rintro e w' ⟨rfl, h1, h2⟩
    exact ⟨x, _, rfl, .inl ⟨l, hs, rfl⟩, h1.wider (fun _ => .inl), h2⟩
  | nil =>
    cases hb : f.behind with
    | true =>
      refine (next_behind S bf b87 f B nn M mark w h hS hs hb hfo hM hnn hMs).mono ?_
      rintro e w' ⟨rfl, gs, h0, h1, h2⟩
      exact ⟨⟨1, 0, ⟨#[]⟩, 0⟩, _, rfl, .inr (.inl ⟨hs, hb, rfl, gs, h0, rfl⟩), h1, h2⟩
    | false =>
      cases hq : f.que with
      | cons x l =>
        refine (next_que S bf b87 f x l (some B) mark w h hS hs hb hq (by have := hl.2; rw [hq] at this; simp at this; omega)).mono ?_
        rintro e w' ⟨rfl, h1, h2⟩
        exact ⟨x, _, rfl, .inr (.inr (.inl ⟨hs, hb, l, hq, rfl⟩)), h1.wider (fun _ => .inl), h2⟩
      | nil =>
        refine (next_none S bf b87 f (some B) mark w h hS hs hb hq).mono ?_
        rintro e w' ⟨rfl, h1, h2⟩
        exact ⟨⟨0, 0, ⟨#[]⟩, 0⟩, f, rfl, .inr (.inr (.inr ⟨hs, hb, hq, rfl, rfl⟩)), h1.wider (fun _ => .inl), h2⟩
theorem NextR.told {M : Gd → Option Int} {mark : Int} {f f' : Fs} {r : Rc} (h : NextR M mark f r f') : f'.told = f.told ∧ f'.form = f.form := by
  rcases h with ⟨l, _, rfl⟩ | ⟨_, _, _, gs, _, rfl⟩ | ⟨_, _, l, _, rfl⟩ | ⟨_, _, _, _, rfl⟩ <;> exact ⟨rfl, rfl⟩

/-- A record that is told has its number. -/
def PollR (M : Gd → Option Int) (mark : Int) (f : Fs) (r : Rc) (f' : Fs) : Prop :=
  ∃ r0 f0, NextR M mark f r0 f0 ∧ ((r0.kind = 0 ∧ r = r0 ∧ f' = f0) ∨ (r0.kind ≠ 0 ∧ r = { r0 with seq := f.told } ∧ f' = { f0 with told := f.told + 1 }))

set_option maxRecDepth 100000 in
set_option maxHeartbeats 4000000 in
theorem fpoll_any (S : Nat → Prop) (bf b87 : Nat) (f : Fs) (B nn : Nat) (M : Gd → Option Int) (mark : Int) (w : World) (h : FdAt w S bf b87 f) (hS : ∀ k, S k → k < w.heap.size) (hl : f.snap.length ≤ 100000 ∧ f.que.length ≤ 100000) (hfo : FormOk f.form) (hM : MdAt w B nn M) (hnn : nn ≤ 1000000) (hMs : ∀ x y, (M ⟨f.form.rel, x, y⟩).isSome = true → x.size ≤ 2000 ∧ y.size ≤ 2000) (ht : f.told ≤ 1000000000000) :
    Calls Tryz.prog 59 #[.pointer (some ⟨bf, 0, none⟩), .map (some B), .int .i64 mark] w fun e w' => ∃ r f', e = .returned (.agg #[.int .i64 r.kind, .int .i64 r.seq, .string r.text, .int .i64 r.time]) ∧ PollR M mark f r f' ∧ FdAt w' (fun k => S k ∨ w.heap.size ≤ k) bf b87 f' ∧ Chg w w' S := by
  obtain ⟨N, hN⟩ : ∃ N, w.heap.size = N := ⟨_, rfl⟩
  have hne : Hid (∀ O, Calls Tryz.prog 99 #[.pointer (some ⟨bf, 0, none⟩), .map (some B), .int .i64 mark] (w.alloc O) fun e w' => ∃ r f', e = .returned (.agg #[.int .i64 r.kind, .int .i64 r.seq, .string r.text, .int .i64 r.time]) ∧ NextR M mark f r f' ∧ FdAt w' (fun k => S k ∨ N + 1 ≤ k) bf b87 f' ∧ Chg (w.alloc O) w' S) := fun O => by
    have := next_any S bf b87 f B nn M mark (w.alloc O) (h.keep (ex := fun _ => False) (fun k hk _ => Below.heap_alloc _ _ _ hk) (fun _ _ e => e) (fun _ _ _ e => e)) (fun k hk => by have := hS k hk; simp; omega) hl hfo (hM.below ((Below.refl _ w).alloc (Nat.le_refl _) O)) hnn hMs
    rw [World.size_alloc, hN] at this
    exact this
  go_enter Tryz.func59, Tryz.ntmps59
  go_wp2_with fail
  refine (hne.out _).mono ?_
  rintro e W1 ⟨r, f0, rfl, hnr, hf1, hc1⟩
  have htold := hnr.told.1
  have HNR : Hid _ := hnr
  have HF1 : Hid (FdAt W1 (fun k => S k ∨ N + 1 ≤ k) bf b87 f0) := hf1
  obtain ⟨va, vs, vq, h1, h2, h3, h4, h5, h6, h7⟩ := hf1
  rw [htold] at h1
  have hbl := (Array.getElem?_eq_some_iff.1 h1).1
  have hsz1 : N + 1 ≤ W1.heap.size := by have := hc1.size; simp at this; omega
  have p1 : W1.heap[N]? = some (Obj.cells #[.int .i64 0, .int .i64 0, .string ⟨#[]⟩, .int .i64 0] 71 (0, 0)) := by
    have := World.alloc_heap_new w (.cells #[.int .i64 0, .int .i64 0, .string ⟨#[]⟩, .int .i64 0] 71)
    rw [hN] at this
    exact (hc1.block N (by simp; omega) (fun e => by have := hS N e; omega)).trans this
  have hal : ∀ O, Below W1.heap.size W1 (W1.alloc O) := fun O => (Below.refl _ W1).alloc (Nat.le_refl _) O
  have c5 : ∀ O, (W1.alloc O).cell? ⟨bf, 5, none⟩ = some (.int .i64 f.told) := fun O => cell_later (hal O) (by simp [World.cell?, h1])
  have f5 : ∀ O, (W1.alloc O).frozen? ⟨bf, 5, none⟩ = false := fun O => by have := ((hal O).block bf hbl).trans h1; simp [World.frozen?, this]
  have q0 : ∀ O, (W1.alloc O).cell? ⟨N, 0, none⟩ = some (.int .i64 0) := fun O => cell_later (hal O) (by simp [World.cell?, p1])
  have y0 : ∀ O, (W1.alloc O).frozen? ⟨N, 0, none⟩ = false := fun O => by have := ((hal O).block N (Array.getElem?_eq_some_iff.1 p1).1).trans p1; simp [World.frozen?, this]
  have q1 : ∀ O, (W1.alloc O).cell? ⟨N, 1, none⟩ = some (.int .i64 0) := fun O => cell_later (hal O) (by simp [World.cell?, p1])
  have y1 : ∀ O, (W1.alloc O).frozen? ⟨N, 1, none⟩ = false := fun O => by have := ((hal O).block N (Array.getElem?_eq_some_iff.1 p1).1).trans p1; simp [World.frozen?, this]
  have q2 : ∀ O, (W1.alloc O).cell? ⟨N, 2, none⟩ = some (.string ⟨#[]⟩) := fun O => cell_later (hal O) (by simp [World.cell?, p1])
  have y2 : ∀ O, (W1.alloc O).frozen? ⟨N, 2, none⟩ = false := fun O => by have := ((hal O).block N (Array.getElem?_eq_some_iff.1 p1).1).trans p1; simp [World.frozen?, this]
  have q3 : ∀ O, (W1.alloc O).cell? ⟨N, 3, none⟩ = some (.int .i64 0) := fun O => cell_later (hal O) (by simp [World.cell?, p1])
  have y3 : ∀ O, (W1.alloc O).frozen? ⟨N, 3, none⟩ = false := fun O => by have := ((hal O).block N (Array.getElem?_eq_some_iff.1 p1).1).trans p1; simp [World.frozen?, this]
  have hcw : Chg w W1 S := ⟨hc1.os, hc1.tape, hc1.output, by omega, fun k hk hx => (hc1.block k (by simp; omega) hx).trans (Below.heap_alloc _ _ _ hk)⟩
  have hbS : S bf := by
    obtain ⟨_, _, _, _, _, _, _, _, _, h⟩ := h
    exact h
  have hbN : bf < N := by have := hS bf hbS; omega
  have HC : Hid _ := hcw
  have HA : Hid _ := hal
  have HP1 : Hid _ := p1
  clear h2 h3 h4 h5 h6 h7 hal hcw p1 h
  by_cases hk : r.kind = 0
  · have hk' : (r.kind != 0) = false := by simp [hk]
    have HK : Hid _ := hk
    clear hk
    go_wp2
    refine bodyPost_ret (v := .agg #[.int .i64 r.kind, .int .i64 r.seq, .string r.text, .int .i64 r.time]) (by simp [results, Tryz.results59, go_sem, q0, q1, q2, q3]) rfl ?_
    refine ⟨r, f0, rfl, ⟨r, f0, HNR.out, .inl ⟨HK.out, rfl, rfl⟩⟩, ?_, putRc_chg (HC.out.alloc _) (by omega) r⟩
    rw [hN]
    have hfa := FdAt.keep (W' := W1.alloc (.cells #[.int .i64 r.kind, .int .i64 r.seq, .string r.text, .int .i64 r.time] 71)) HF1.out (ex := fun _ => False) (fun k hk _ => Below.heap_alloc _ _ _ hk) (fun _ _ e => e) (fun _ _ _ e => e)
    have pN := ((HA.out (.cells #[.int .i64 r.kind, .int .i64 r.seq, .string r.text, .int .i64 r.time] 71)).block N (by omega)).trans HP1.out
    exact (hfa.keep (ex := fun k => k = N) (fun k _ hk => putRc_other _ N r hk) (fun k hk e => by rcases hk with hk | hk; (have := hS k hk; omega); omega) (fun k c hc e => by rw [e, pN] at hc; cases hc)).wider (fun k hk => hk.elim .inl (fun h => .inr (by omega)))
  · have hk' : (r.kind != 0) = true := by simp [hk]
    have HK : Hid _ := hk
    clear hk
    obtain ⟨W2, hW2⟩ : ∃ W2, (W1.setCell ⟨bf, 5, none⟩ (.int .i64 ((f.told : Int) + 1))).alloc (.cells #[.int .i64 r.kind, .int .i64 f.told, .string r.text, .int .i64 r.time] 71) = W2 := ⟨_, rfl⟩
    have hsz2 : (W1.setCell ⟨bf, 5, none⟩ (.int .i64 ((f.told : Int) + 1))).heap.size = W1.heap.size := by simp
    have hoth : ∀ (k : Nat), k < W1.heap.size → k ≠ bf → W2.heap[k]? = W1.heap[k]? := fun k hk hne => by
      rw [← hW2]
      exact (Below.heap_alloc _ _ _ (by rw [hsz2]; exact hk)).trans (Below.heap_setCell _ _ _ _ (by show k ≠ bf; exact hne))
    have hbf2 : W2.heap[bf]? = some (Obj.cells #[.string f0.form.rel, va, .bool f0.behind, vs, vq, .int .i64 ((f.told : Int) + 1)] 198 (0, 0)) := by
      rw [← hW2]
      refine (Below.heap_alloc _ _ _ (by rw [hsz2]; exact hbl)).trans ?_
      have := heap_set h1 5 (.int .i64 ((f.told : Int) + 1))
      exact this
    have pN : W2.heap[N]? = some (Obj.cells #[.int .i64 0, .int .i64 0, .string ⟨#[]⟩, .int .i64 0] 71 (0, 0)) := (hoth N (by omega) (by omega)).trans HP1.out
    have pR : W2.heap[W1.heap.size]? = some (Obj.cells #[.int .i64 r.kind, .int .i64 f.told, .string r.text, .int .i64 r.time] 71 (0, 0)) := by
      rw [← hW2]
      have := World.alloc_heap_new (W1.setCell ⟨bf, 5, none⟩ (.int .i64 ((f.told : Int) + 1))) (.cells #[.int .i64 r.kind, .int .i64 f.told, .string r.text, .int .i64 r.time] 71)
      rw [hsz2] at this; exact this
    have u0 : W2.cell? ⟨W1.heap.size, 0, none⟩ = some (.int .i64 r.kind) := by simp [World.cell?, pR]
    have u1 : W2.cell? ⟨W1.heap.size, 1, none⟩ = some (.int .i64 f.told) := by simp [World.cell?, pR]
    have u2 : W2.cell? ⟨W1.heap.size, 2, none⟩ = some (.string r.text) := by simp [World.cell?, pR]
    have u3 : W2.cell? ⟨W1.heap.size, 3, none⟩ = some (.int .i64 r.time) := by simp [World.cell?, pR]
    clear pR
    have hch2 : Chg w W2 S := by rw [← hW2]; exact (HC.out.setCell ⟨bf, 5, none⟩ _ (fun _ => hbS)).alloc _
    have t0 : W2.cell? ⟨N, 0, none⟩ = some (.int .i64 0) := by simp [World.cell?, pN]
    have g0 : W2.frozen? ⟨N, 0, none⟩ = false := by simp [World.frozen?, pN]
    have t1 : W2.cell? ⟨N, 1, none⟩ = some (.int .i64 0) := by simp [World.cell?, pN]
    have g1 : W2.frozen? ⟨N, 1, none⟩ = false := by simp [World.frozen?, pN]
    have t2 : W2.cell? ⟨N, 2, none⟩ = some (.string ⟨#[]⟩) := by simp [World.cell?, pN]
    have g2 : W2.frozen? ⟨N, 2, none⟩ = false := by simp [World.frozen?, pN]
    have t3 : W2.cell? ⟨N, 3, none⟩ = some (.int .i64 0) := by simp [World.cell?, pN]
    have g3 : W2.frozen? ⟨N, 3, none⟩ = false := by simp [World.frozen?, pN]
    have hfd2 : FdAt W2 (fun k => S k ∨ N + 1 ≤ k) bf b87 { f0 with told := f.told + 1 } := by
      obtain ⟨va', vs', vq', k1, k2, k3, k4, k5, k6, k7⟩ := HF1.out
      rw [htold, h1] at k1
      cases k1
      refine ⟨va, vs, vq, hbf2, k2.kept (fun k c _ hc => (hoth k (Array.getElem?_eq_some_iff.1 hc).1 (fun e => by rw [e, h1] at hc; cases hc)).trans hc), own_keep k3 (fun g hg hlt => hoth g hlt (owns_ne k3 h1 (by decide) g hg)), own_keep k4 (fun g hg hlt => hoth g hlt (owns_ne k4 h1 (by decide) g hg)), k5, k6, k7⟩
    have HFD2 : Hid (FdAt W2 (fun k => S k ∨ N + 1 ≤ k) bf b87 { f0 with told := f.told + 1 }) := hfd2
    have HCH2 : Hid _ := hch2
    have HPN : Hid _ := pN
    clear hfd2 hch2 pN hbf2 hoth h1
    go_wp2
    refine bodyPost_ret (v := .agg #[.int .i64 r.kind, .int .i64 f.told, .string r.text, .int .i64 r.time]) (by simp [results, Tryz.results59, go_sem, t0, t1, t2, t3]) rfl ?_
    refine ⟨{ r with seq := f.told }, { f0 with told := f.told + 1 }, rfl, ⟨r, f0, HNR.out, .inr ⟨HK.out, rfl, rfl⟩⟩, ?_, putRc_chg HCH2.out (by omega) { r with seq := f.told }⟩
    rw [hN]
    exact (FdAt.keep (W' := putRc W2 N { r with seq := f.told }) HFD2.out (ex := fun k => k = N) (fun k _ hk => putRc_other _ N _ hk) (fun k hk e => by rcases hk with hk | hk; (have := hS k hk; omega); omega) (fun k c hc e => by rw [e, HPN.out] at hc; cases hc)).wider (fun k hk => hk.elim .inl (fun h => .inr (by omega)))

end Go.Proofs.YtjajnhemgphefaaGreatDoor
