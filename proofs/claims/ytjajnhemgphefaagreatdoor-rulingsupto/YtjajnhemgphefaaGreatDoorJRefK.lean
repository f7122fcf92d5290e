/-
  The document's own answer: an atom, read off tokens.
-/
import Derived.Test.YtjajnhemgphefaaGreatDoorJRefJ
namespace Go.Proofs.YtjajnhemgphefaaGreatDoor
open Go.RowKit Go.Shelf
set_option linter.unusedVariables false
set_option linter.unusedSimpArgs false

theorem drop_two {α : Type} {ts : List α} {j : Nat} {a b : α} {us : List α} (h : ts.drop j = a :: b :: us) : ∃ h1 : j + 1 < ts.length, ts[j] = a ∧ ts[j + 1] = b ∧ ts.drop (j + 2) = us := by
  have hl := congrArg List.length h
  rw [List.length_drop] at hl
  simp only [List.length_cons] at hl
  have h1 : j + 1 < ts.length := by omega
  have e1 := List.drop_eq_getElem_cons (show j < ts.length by omega)
  have e2 := List.drop_eq_getElem_cons h1
  rw [e1, e2] at h
  injection h with h2 h3
  injection h3 with h3 h4
  exact ⟨h1, h2, h3, h4⟩

theorem argVs_len (vs : List ByteArray) (t : RT) : (argVs vs t).length ≤ vs.length + 1 := by
  unfold argVs seenL
  split
  · split <;> simp
  · omega

theorem ArSt.step {vs : List ByteArray} {a b : RT} {us : List RT} {acc L : List Tm} {vsF : List ByteArray} {k M : Nat} (hs : ∃ l n, argsR vs (a :: b :: us) = some (l, vsF, n) ∧ acc ++ l = L ∧ k + n = M) :
    (b.kind = 41 → acc ++ [argT vs a] = L ∧ argVs vs a = vsF ∧ k + 2 = M) ∧ (b.kind ≠ 41 → ∃ l n, argsR (argVs vs a) us = some (l, vsF, n) ∧ (acc ++ [argT vs a]) ++ l = L ∧ (k + 2) + n = M) := by
  obtain ⟨l, n, h1, h2, h3⟩ := hs
  unfold argsR at h1
  refine ⟨fun hb => ?_, fun hb => ?_⟩
  · rw [if_pos hb] at h1
    simp only [Option.some.injEq, Prod.mk.injEq] at h1
    obtain ⟨rfl, rfl, rfl⟩ := h1
    exact ⟨h2, rfl, h3⟩
  · rw [if_neg hb] at h1
    cases hr : argsR (argVs vs a) us with
    | none => rw [hr] at h1; simp at h1
    | some r =>
      obtain ⟨l', v', n'⟩ := r
      rw [hr] at h1
      simp only [Option.some.injEq, Prod.mk.injEq] at h1
      obtain ⟨rfl, rfl, rfl⟩ := h1
      exact ⟨l', n', rfl, by rw [← h2]; simp, by omega⟩

set_option maxRecDepth 100000 in
set_option maxHeartbeats 8000000 in
theorem atom_any (g cap : Nat) (ts : List RT) (at' : Nat) (B : Nat) (v : Value) (vs : List ByteArray) (L : List Tm) (vsF : List ByteArray) (M : Nat) (w : World) (hts : TokAt w g ts) (hl : ts.length ≤ 400) (hat : at' < ts.length) (hB : B ≤ w.heap.size) (hvl : vs.length ≤ 400)
    (hv : w.ownsRow B 9 1 v vs.length (vs.map Value.string)) (hsp : argsR vs (ts.drop (at' + 2)) = some (L, vsF, M)) :
    Calls Tryz.prog 177 #[.slice (some ⟨g, 0, none⟩) ts.length cap, .int .i64 at', v] w fun e w' => ∃ va v', e = .returned (.tuple #[.agg #[.string ts[at'].text, va], .int .i64 (at' + 2 + M : Nat), v']) ∧
      w'.ownsRow w.heap.size 215 2 va L.length (L.flatMap tmC) ∧ w'.ownsRow B 9 1 v' vsF.length (vsF.map Value.string) ∧ StrOnly B w w' := by
  obtain ⟨i0, hi, hz0, hz1, hz2⟩ := info_parts Tryz.infoArg
  obtain ⟨N, hN⟩ : ∃ N, N = w.heap.size := ⟨_, rfl⟩
  have hNr := hN.symm
  have hgN : g < N := by rw [hN]; exact hts.1.1
  obtain ⟨t0, t1, t2, t3⟩ := hts.1.2 at' hat
  have t1' : ∀ O, (w.alloc O).cell? ⟨g, at' * 4 + 1, none⟩ = some (.string ts[at'].text) := fun O => (Below.cell ((Below.refl w.heap.size w).alloc (Nat.le_refl _) O) hts.1.1).trans t1
  rw [← hN] at hB ⊢
  clear hN t0 t2 t3
  have HTS : Hid (TokAt w g ts) := hts
  have HV : Hid (w.ownsRow B 9 1 v vs.length (vs.map Value.string)) := hv
  have HSP : Hid _ := hsp
  clear hts hv hsp
  generalize ts[at'].text = rel at *
  go_enter Tryz.func177, Tryz.ntmps177
  go_wp2
  go_loopw [1, 2] (fun p q wr => ∃ (j k : Nat) (vk va : Value) (vsk : List ByteArray) (acc : List Tm), vk = q ∧ p = .int .i64 j ∧ Hid (j = at' + 2 + k) ∧ ArW B N w wr rel vsk vk va acc ∧ Hid (∃ l n, argsR vsk (ts.drop j) = some (l, vsF, n) ∧ acc ++ l = L ∧ k + n = M) ∧ acc.length ≤ k ∧ vsk.length ≤ 400 + k) (fun p _ _ => ts.length - (intOf p).toNat)
  case atStart =>
    refine ⟨at' + 2, 0, v, _, vs, [], rfl, by go_num, rfl, ⟨((StrOnly.refl B w).alloc _).alloc _, ?_, ?_, World.ownsRow_nil _ _ _ _, (HV.out.alloc _).alloc _⟩, ⟨L, M, HSP.out, rfl, by omega⟩, Nat.le_refl _, by omega⟩
    · rw [Below.heap_alloc _ _ _ (by simp; omega), ← hNr]; exact World.alloc_heap_new w _
    · have := World.alloc_heap_new (w.alloc (.cells #[.string ⟨#[]⟩, .slice none 0 0] 145)) (.cells #[.string rel, .slice none 0 0] 145)
      rw [World.size_alloc, hNr] at this; exact this
  case round =>
    obtain ⟨j, k, vk, va, vsk, acc, rfl, rfl, hjk, hW, hsp, hfew, hvk⟩ := hrel
    obtain ⟨l', n', hr', _⟩ := hsp.out
    obtain ⟨a, b, us, hdr⟩ := argsR_two hr'
    obtain ⟨hj1, ha, hb, hus⟩ := drop_two hdr
    obtain ⟨a0, a1, a2, a3⟩ := (HTS.out.kept hW.str).1.2 j (by omega)
    obtain ⟨b0, b1, b2, b3⟩ := (HTS.out.kept hW.str).1.2 (j + 1) hj1
    rw [hdr] at hsp
    have hst := ArSt.step hsp.out
    rw [ha] at a0 a1
    rw [hb] at b0
    have HST : Hid _ := hst
    have HUS : Hid (ts.drop (j + 2) = us) := hus
    have hjlt : j < ts.length := by omega
    have hc3 : acc.length + 1 ≤ maxLen := by have := hjk.out; unfold maxLen; omega
    have hc4 : (acc.length + 1) * 24 ≤ 140737488355328 := by have := hjk.out; omega
    have hvl2 := argVs_len vsk a
    clear hst hsp hr' hdr ha hb hus a2 a3 b1 b2 b3
    obtain ⟨ak, atx, ap, ar⟩ := a
    obtain ⟨bk, btx, bp, br⟩ := b
    simp only at a0 a1 b0
    have hgne : g ≠ N + 1 := by omega
    have hgne0 : g ≠ N := by omega
    have HF : Hid (∀ (X w1 : World) (vq : Value) (vsq : List ByteArray), ArW B N w X rel vsq vq va acc → X.grownBy w1 va.ownBlock → w1.cell? ⟨N + 1, 0, none⟩ = some (.string rel) ∧ w1.cell? ⟨N + 1, 1, none⟩ = some va ∧ (∀ o, w1.frozen? ⟨N + 1, o, none⟩ = false) ∧ w1.cell? ⟨g, (j + 1) * 4, none⟩ = some (.int .i64 bk) ∧ (∀ o, w1.frozen? ⟨N, o, none⟩ = false) ∧ w1.cell? ⟨N, 0, none⟩ = some (.string ⟨#[]⟩) ∧ w1.cell? ⟨N, 1, none⟩ = some (.slice none 0 0)) := by
      intro X w1 vq vsq hX hg
      have hlo : ∀ k, va.ownBlock = some k → N + 2 ≤ k := fun k e => (own_str hX.own k e).1
      have h1 : w1.heap[N + 1]? = some (Obj.cells #[.string rel, va] 145 (0, 0)) := (hg.block (N + 1) (Array.getElem?_eq_some_iff.1 hX.atm).1 (fun e => by have := hlo _ e.symm; omega)).trans hX.atm
      have h0 : w1.heap[N]? = some (Obj.cells #[.string ⟨#[]⟩, .slice none 0 0] 145 (0, 0)) := (hg.block N (Array.getElem?_eq_some_iff.1 hX.res).1 (fun e => by have := hlo _ e.symm; omega)).trans hX.res
      have ht := HTS.out.kept hX.str
      have h2 : w1.heap[g]? = X.heap[g]? := hg.block g ht.1.1 (fun e => by have := hlo _ e.symm; omega)
      have h3 : w1.cell? ⟨g, (j + 1) * 4, none⟩ = X.cell? ⟨g, (j + 1) * 4, none⟩ := World.cell?_of_block (w := X) h2
      have h4 := (ht.1.2 (j + 1) hj1).1
      have h5 := ((HTS.out.kept hW.str).1.2 (j + 1) hj1).1
      rw [b0] at h5
      rw [← h5] at h4
      exact ⟨by simp [World.cell?, h1], by simp [World.cell?, h1], fun o => by simp [World.frozen?, h1], h3.trans h4, fun o => by simp [World.frozen?, h0], by simp [World.cell?, h0], by simp [World.cell?, h0]⟩
    have hsz : N + 2 ≤ wr.heap.size := (Array.getElem?_eq_some_iff.1 hW.atm).1
    have HW : Hid (ArW B N w wr rel vsk vk va acc) := hW
    have hc5 : Hid (∀ O O', N + 2 ≤ ((wr.alloc O).alloc O').heap.size) := fun O O' => by simp; omega
    have d1 : wr.cell? ⟨N + 1, 1, none⟩ = some va := by simp [World.cell?, hW.atm]
    have hn2 : Hid (∀ (O : Obj) (x y : Value) (t : TypeId) (i : Nat) (q : Value), [x, y][i]? = some q → ((wr.alloc O).alloc (.cells #[x, y] t)).cell? ((⟨wr.heap.size + 1, 0, none⟩ : Addr).add i) = some q) := by
      intro O x y t i q hq
      have := two_new (wr.alloc O) x y t i q hq
      rw [World.size_alloc] at this; exact this
    have hg2 : g < wr.heap.size := by omega
    have dAl : ∀ O, (wr.alloc O).cell? ⟨N + 1, 1, none⟩ = some va := fun O => (Below.cell ((Below.refl wr.heap.size wr).alloc (Nat.le_refl _) O) (by simp; omega)).trans d1
    have dAk : ∀ O, (wr.alloc O).cell? ⟨g, j * 4, none⟩ = some (.int .i64 ak) := fun O => (Below.cell ((Below.refl wr.heap.size wr).alloc (Nat.le_refl _) O) hg2).trans a0
    have dAt : ∀ O, (wr.alloc O).cell? ⟨g, j * 4 + 1, none⟩ = some (.string atx) := fun O => (Below.cell ((Below.refl wr.heap.size wr).alloc (Nat.le_refl _) O) hg2).trans a1
    clear hW
    by_cases k2 : ak = 2
    · subst k2
      have hat : Hid (argT vsk ⟨2, atx, ap, ar⟩ = ⟨⟨#[]⟩, seenN vsk atx⟩ ∧ argVs vsk ⟨2, atx, ap, ar⟩ = seenL vsk atx) := by
        show _ ∧ _; unfold argT argVs; simp
      have hsl : (seenL vsk atx).length ≤ vsk.length + 1 := by unfold seenL; split <;> simp
      have hsn : seenN vsk atx ≤ vsk.length := List.findIdx_le_length
      have hse := fun O => seen_any B vk vsk atx (wr.alloc O) (by simp; omega) (by have := hjk.out; omega) (HW.out.vars.alloc O)
      generalize seenN vsk atx = sn at *
      generalize seenL vsk atx = svs at *
      have h1c : ∀ u ∈ [Value.string ⟨#[]⟩, .int .i64 sn], u.oneCell' = true := by simp [Value.oneCell']
      go_wp2_with fail
      refine (hse _).mono ?_
      rintro e w2 ⟨v2, rfl, hv2, hgr2⟩
      have hA2 := (HW.out.alloc _).grow hgr2 hv2
      have hP2 : w2.heap[wr.heap.size]? = some (Obj.cells #[.string atx, .int .i64 0] 215 (0, 0)) := by
        rw [hgr2.block wr.heap.size (by simp) (fun e => ?_), World.alloc_heap_new]
        have := (own_str HW.out.vars _ e.symm).2.1; omega
      have hvane : va.ownBlock ≠ some wr.heap.size := fun e => by have := (own_str HW.out.own _ e).2.1; omega
      have hP3 := heap_set1 hP2 0 (.string ⟨#[]⟩)
      have hZ := (hA2.setP hNr hsz hP2 hvane 0 (.string ⟨#[]⟩)).setP hNr hsz hP3 hvane 1 (.int .i64 sn)
      have HZ : Hid _ := hZ
      have p0 : w2.cell? ⟨wr.heap.size, 0, none⟩ = some (.string atx) := by simp [World.cell?, hP2]
      have p1 : w2.cell? ⟨wr.heap.size, 1, none⟩ = some (.int .i64 0) := by simp [World.cell?, hP2]
      have pf : ∀ o, w2.frozen? ⟨wr.heap.size, o, none⟩ = false := fun o => by simp [World.frozen?, hP2]
      have dz : w2.cell? ⟨N + 1, 1, none⟩ = some va := by simp [World.cell?, hA2.atm]
      have hPn : wr.heap.size ≠ N + 1 := by omega
      have hws : N + 2 ≤ w2.heap.size := (Array.getElem?_eq_some_iff.1 hA2.atm).1
      have hc6 : Hid (∀ O, N + 2 ≤ (((w2.setCell ⟨wr.heap.size, 0, none⟩ (.string ⟨#[]⟩)).setCell ⟨wr.heap.size, 1, none⟩ (.int .i64 sn)).alloc O).heap.size) := fun O => by simp; omega
      have hn3 : Hid (∀ (x y : Value) (t : TypeId) (i : Nat) (q : Value), [x, y][i]? = some q → (((w2.setCell ⟨wr.heap.size, 0, none⟩ (.string ⟨#[]⟩)).setCell ⟨wr.heap.size, 1, none⟩ (.int .i64 sn)).alloc (.cells #[x, y] t)).cell? ((⟨w2.heap.size, 0, none⟩ : Addr).add i) = some q) := by
        intro x y t i q hq
        have := two_new ((w2.setCell ⟨wr.heap.size, 0, none⟩ (.string ⟨#[]⟩)).setCell ⟨wr.heap.size, 1, none⟩ (.int .i64 sn)) x y t i q hq
        simpa using this
      clear hA2 hP2 hP3 hZ hgr2 hv2 hse
      by_cases kb : bk = 41
      · subst kb
        go_wp2_with (at_builtin; refine wpList_append_own _ rfl (.tmp 49) (.tmp 51) 143 rfl (N + 2) 215 i0 (.agg #[.string ⟨#[]⟩, .int .i64 0]) 2 24 Tryz.underlying143 hi hz0 hz1 hz2 rfl (by decide) _ _ _ rfl (HZ.out.own.alloc _) ⟨w2.heap.size, 0, none⟩ 1 1 [.string ⟨#[]⟩, .int .i64 sn] rfl rfl (hn3.out _ _ _) h1c hc3 hc4 (hc6.out _) ?_; intro va' w1 hown1 hgrow1 _; obtain ⟨g1, g2, g3, g4, g5, g6, g7⟩ := HF.out _ w1 _ _ (HZ.out.alloc _) hgrow1; have HA : Hid (ArW B N w (w1.setCell ⟨N + 1, 1, none⟩ va') rel svs v2 va' (acc ++ [⟨⟨#[]⟩, sn⟩])) := (HZ.out.alloc _).app hNr hgrow1 ⟨⟨#[]⟩, sn⟩ hown1; obtain ⟨ga, ca, hva⟩ := ownsRow_succ hown1; subst hva)
        obtain ⟨e1, e2, e3⟩ := HST.out.1 (by trivial)
        have c00 : ((w1.setCell ⟨N + 1, 1, none⟩ (.slice (some ⟨ga, 0, none⟩) (acc.length + 1) ca)).setCell ⟨N, 0, none⟩ (.string rel)).cell? ⟨N, 0, none⟩ = some (.string rel) := by simp [World.cell?, heap_set1 HA.out.res 0 (.string rel)]
        have c11 : (((w1.setCell ⟨N + 1, 1, none⟩ (.slice (some ⟨ga, 0, none⟩) (acc.length + 1) ca)).setCell ⟨N, 0, none⟩ (.string rel)).setCell ⟨N, 1, none⟩ (.slice (some ⟨ga, 0, none⟩) (acc.length + 1) ca)).cell? ⟨N, 1, none⟩ = some (.slice (some ⟨ga, 0, none⟩) (acc.length + 1) ca) := by simp [World.cell?, heap_set1 (heap_set1 HA.out.res 0 (.string rel)) 1 (.slice (some ⟨ga, 0, none⟩) (acc.length + 1) ca)]
        have hf := HA.out.fin hNr (.string rel) (.slice (some ⟨ga, 0, none⟩) (acc.length + 1) ca)
        refine bodyPost_ret (v := .tuple #[.agg #[.string rel, .slice (some ⟨ga, 0, none⟩) (acc.length + 1) ca], .int .i64 ((j : Int) + 2), v2]) (by simp [results, Tryz.results177, go_sem, c00, c11]) rfl ?_
        have ej : (j : Int) + 2 = ((at' + 2 + M : Nat) : Int) := by have := hjk.out; omega
        rw [hat.out.1] at e1
        rw [hat.out.2] at e2
        rw [ej, ← e1, ← e2]
        exact ⟨_, _, rfl, hf⟩
      · have mb : (bk == 41) = false := by simpa using kb
        go_wp2_with (at_builtin; refine wpList_append_own _ rfl (.tmp 49) (.tmp 51) 143 rfl (N + 2) 215 i0 (.agg #[.string ⟨#[]⟩, .int .i64 0]) 2 24 Tryz.underlying143 hi hz0 hz1 hz2 rfl (by decide) _ _ _ rfl (HZ.out.own.alloc _) ⟨w2.heap.size, 0, none⟩ 1 1 [.string ⟨#[]⟩, .int .i64 sn] rfl rfl (hn3.out _ _ _) h1c hc3 hc4 (hc6.out _) ?_; intro va' w1 hown1 hgrow1 _; obtain ⟨g1, g2, g3, g4, g5, g6, g7⟩ := HF.out _ w1 _ _ (HZ.out.alloc _) hgrow1; have HA : Hid (ArW B N w (w1.setCell ⟨N + 1, 1, none⟩ va') rel svs v2 va' (acc ++ [⟨⟨#[]⟩, sn⟩])) := (HZ.out.alloc _).app hNr hgrow1 ⟨⟨#[]⟩, sn⟩ hown1; obtain ⟨ga, ca, hva⟩ := ownsRow_succ hown1; subst hva)
        go_roundw
        case rel =>
          obtain ⟨l2, n2, q1, q2, q3⟩ := HST.out.2 kb
          rw [hat.out.1] at q2
          rw [hat.out.2] at q1
          refine ⟨j + 2, k + 2, v2, _, svs, _, rfl, by go_num, by show _ = _; have := hjk.out; omega, HA.out, ⟨l2, n2, ?_, q2, q3⟩, by simp; omega, by omega⟩
          rw [HUS.out]; exact q1
        case measure => simp [intOf]; omega
    · have m2 : (ak == 2) = false := by simpa using k2
      have hat : Hid (argT vsk ⟨ak, atx, ap, ar⟩ = ⟨atx, 0⟩ ∧ argVs vsk ⟨ak, atx, ap, ar⟩ = vsk) := by
        show _ ∧ _; unfold argT argVs; simp [k2]
      have h1c : ∀ u ∈ [Value.string atx, .int .i64 0], u.oneCell' = true := by simp [Value.oneCell']
      by_cases kb : bk = 41
      · subst kb
        go_wp2_with (at_builtin; refine wpList_append_own _ rfl (.tmp 49) (.tmp 51) 143 rfl (N + 2) 215 i0 (.agg #[.string ⟨#[]⟩, .int .i64 0]) 2 24 Tryz.underlying143 hi hz0 hz1 hz2 rfl (by decide) _ _ _ rfl ((HW.out.own.alloc _).alloc _) ⟨wr.heap.size + 1, 0, none⟩ 1 1 [.string atx, .int .i64 0] rfl rfl (hn2.out _ _ _ _) h1c hc3 hc4 (hc5.out _ _) ?_; intro va' w1 hown1 hgrow1 _; obtain ⟨g1, g2, g3, g4, g5, g6, g7⟩ := HF.out _ w1 _ _ ((HW.out.alloc _).alloc _) hgrow1; have HA : Hid (ArW B N w (w1.setCell ⟨N + 1, 1, none⟩ va') rel vsk vk va' (acc ++ [⟨atx, 0⟩])) := ((HW.out.alloc _).alloc _).app hNr hgrow1 ⟨atx, 0⟩ hown1; obtain ⟨ga, ca, hva⟩ := ownsRow_succ hown1; subst hva)
        obtain ⟨e1, e2, e3⟩ := HST.out.1 (by trivial)
        have c00 : ((w1.setCell ⟨N + 1, 1, none⟩ (.slice (some ⟨ga, 0, none⟩) (acc.length + 1) ca)).setCell ⟨N, 0, none⟩ (.string rel)).cell? ⟨N, 0, none⟩ = some (.string rel) := by simp [World.cell?, heap_set1 HA.out.res 0 (.string rel)]
        have c11 : (((w1.setCell ⟨N + 1, 1, none⟩ (.slice (some ⟨ga, 0, none⟩) (acc.length + 1) ca)).setCell ⟨N, 0, none⟩ (.string rel)).setCell ⟨N, 1, none⟩ (.slice (some ⟨ga, 0, none⟩) (acc.length + 1) ca)).cell? ⟨N, 1, none⟩ = some (.slice (some ⟨ga, 0, none⟩) (acc.length + 1) ca) := by simp [World.cell?, heap_set1 (heap_set1 HA.out.res 0 (.string rel)) 1 (.slice (some ⟨ga, 0, none⟩) (acc.length + 1) ca)]
        have hf := HA.out.fin hNr (.string rel) (.slice (some ⟨ga, 0, none⟩) (acc.length + 1) ca)
        refine bodyPost_ret (v := .tuple #[.agg #[.string rel, .slice (some ⟨ga, 0, none⟩) (acc.length + 1) ca], .int .i64 ((j : Int) + 2), vk]) (by simp [results, Tryz.results177, go_sem, c00, c11]) rfl ?_
        have ej : (j : Int) + 2 = ((at' + 2 + M : Nat) : Int) := by have := hjk.out; omega
        rw [hat.out.1] at e1
        rw [hat.out.2] at e2
        rw [ej, ← e1, ← e2]
        exact ⟨_, _, rfl, hf⟩
      · have mb : (bk == 41) = false := by simpa using kb
        go_wp2_with (at_builtin; refine wpList_append_own _ rfl (.tmp 49) (.tmp 51) 143 rfl (N + 2) 215 i0 (.agg #[.string ⟨#[]⟩, .int .i64 0]) 2 24 Tryz.underlying143 hi hz0 hz1 hz2 rfl (by decide) _ _ _ rfl ((HW.out.own.alloc _).alloc _) ⟨wr.heap.size + 1, 0, none⟩ 1 1 [.string atx, .int .i64 0] rfl rfl (hn2.out _ _ _ _) h1c hc3 hc4 (hc5.out _ _) ?_; intro va' w1 hown1 hgrow1 _; obtain ⟨g1, g2, g3, g4, g5, g6, g7⟩ := HF.out _ w1 _ _ ((HW.out.alloc _).alloc _) hgrow1; have HA : Hid (ArW B N w (w1.setCell ⟨N + 1, 1, none⟩ va') rel vsk vk va' (acc ++ [⟨atx, 0⟩])) := ((HW.out.alloc _).alloc _).app hNr hgrow1 ⟨atx, 0⟩ hown1; obtain ⟨ga, ca, hva⟩ := ownsRow_succ hown1; subst hva)
        go_roundw
        case rel =>
          obtain ⟨l2, n2, q1, q2, q3⟩ := HST.out.2 kb
          rw [hat.out.1] at q2
          rw [hat.out.2] at q1
          refine ⟨j + 2, k + 2, vk, _, vsk, _, rfl, by go_num, by show _ = _; have := hjk.out; omega, HA.out, ⟨l2, n2, ?_, q2, q3⟩, by simp; omega, by omega⟩
          rw [HUS.out]; exact q1
        case measure => simp [intOf]; omega

end Go.Proofs.YtjajnhemgphefaaGreatDoor
