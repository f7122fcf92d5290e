/-
  The document's own answer: the least model.
-/
import Derived.Test.YtjajnhemgphefaaGreatDoorJMdR
import Derived.Test.YtjajnhemgphefaaGreatDoorJIdx
import Derived.Deep.CutRange
import Derived.Deep.RegionHeld3
namespace Go.Proofs.YtjajnhemgphefaaGreatDoor
open Go.RowKit Go.Shelf
set_option linter.unusedVariables false
set_option linter.unusedSimpArgs false

theorem Tryz.infoGround : (Tryz.prog.info? 226).map (fun i => (i.zero, i.size, i.bytes)) = some (some (.agg #[.string ⟨#[]⟩, .slice none 0 0]), 2, 40) := by kernel_rfl
/-- What holds so far, in memory. -/
structure LwSt (fv : List Value) (N : Nat) (w X : World) (vh : Value) (hs : List (Gr × Value)) : Prop where
  below : Below N w X
  size : N ≤ X.heap.size
  row : X.ownsRow N 226 2 vh hs.length (hs.flatMap gdC)
  each : ∀ p ∈ hs, StrsIn X p.2 p.1.args
  loc : ∀ p ∈ hs, p.2 ∈ fv ∨ ∀ g, p.2.ownBlock = some g → N ≤ g
section
variable {fv : List Value} {N : Nat} {w X Y : World} {vh v' : Value} {hs : List (Gr × Value)}
theorem LwSt.gds (h : LwSt fv N w X vh hs) : GdsIn X vh hs := ⟨own_down h.row (Nat.zero_le _), h.each⟩
theorem LwSt.grows (h : LwSt fv N w X vh hs) (hb : Below X.heap.size X Y) : LwSt fv N w Y vh hs := by
  have := hb.size
  have := h.size
  exact ⟨h.below.trans (hb.mono h.size), by omega, own_below h.row hb, fun p hp => (h.each p hp).below hb, h.loc⟩
theorem LwSt.app (h : LwSt fv N w X vh hs) (p : Gr × Value) (hp : StrsIn X p.2 p.1.args) (hl : p.2 ∈ fv ∨ ∀ g, p.2.ownBlock = some g → N ≤ g) {o : Obj} (hg : (X.alloc o).grownBy Y vh.ownBlock) (ho : Y.ownsRow N 226 2 v' (hs.length + 1) (hs.flatMap gdC ++ gdC p)) : LwSt fv N w Y v' (hs ++ [p]) := by
  have hz := hg.size
  simp at hz
  have hsz := h.size
  have hlo : ∀ k, vh.ownBlock = some k → N ≤ k := fun k e => (own_str h.row k e).1
  have hk : ∀ g, g < X.heap.size → vh.ownBlock ≠ some g → Y.heap[g]? = X.heap[g]? := fun g hlt hne => (hg.block g (by simp; omega) (fun e => hne e.symm)).trans (Below.heap_alloc _ _ _ hlt)
  have hown : ∀ {B T m n : Nat} {v : Value} {xs : List Value}, T ≠ 226 → X.ownsRow B T m v n xs → Y.ownsRow B T m v n xs := by
    intro B T m n v xs hT ho'
    refine own_keep ho' (fun g hg' hlt => hk g hlt (fun e => ?_))
    obtain ⟨c1, hc1⟩ := own_cells ho' hg'
    obtain ⟨c2, hc2⟩ := own_cells h.row e
    rw [hc1] at hc2; cases hc2; exact hT rfl
  refine ⟨(h.below.alloc (by omega) o).grown hg (by simp; omega) (fun k e => hlo k e), by omega, ?_, fun q hq => ?_, fun q hq => ?_⟩
  · rw [List.flatMap_append]; simpa using ho
  · rcases List.mem_append.1 hq with hq | hq
    · exact hown (by decide) (h.each q hq)
    · simp at hq; subst hq; exact hown (by decide) hp
  · rcases List.mem_append.1 hq with hq | hq
    · exact h.loc q hq
    · simp at hq; subst hq; exact hl
end
/-- Rows of another kind abide. -/
theorem LwSt.keep {fv : List Value} {N : Nat} {w X Y : World} {vh : Value} {hs : List (Gr × Value)} (h : LwSt fv N w X vh hs) {o : Obj} (hg : (X.alloc o).grownBy Y vh.ownBlock) {B T m n : Nat} {v : Value} {xs : List Value} (hT : T ≠ 226) (ho' : X.ownsRow B T m v n xs) : Y.ownsRow B T m v n xs := by
  refine own_keep ho' (fun g hg' hlt => (hg.block g (by simp; omega) (fun e => ?_)).trans (Below.heap_alloc _ _ _ hlt))
  obtain ⟨c1, hc1⟩ := own_cells ho' hg'
  obtain ⟨c2, hc2⟩ := own_cells h.row e.symm
  rw [hc1] at hc2; cases hc2; exact hT rfl
theorem box_two {W : World} {B T : Nat} {x y : Value} (h : W.heap[B]? = some (Obj.cells #[x, y] T (0, 0))) (a b : Value) : ((W.setCell ⟨B, 0, none⟩ a).setCell ⟨B, 1, none⟩ b).heap[B]? = some (Obj.cells #[a, b] T (0, 0)) := by
  have h1 := heap_set1 h 0 a
  have h2 := heap_set1 h1 1 b
  rw [h2]; rfl
theorem strs_set {W : World} {B : Nat} {c : Array Value} {v : Value} {l : List ByteArray} (h : StrsIn W v l) (hb : W.heap[B]? = some (Obj.cells c 226 (0, 0))) (j : Nat) (x : Value) : StrsIn (W.setCell ⟨B, j, none⟩ x) v l := by
  refine own_keep h (fun g hg _ => Below.heap_setCell _ _ _ _ (fun e => ?_))
  obtain ⟨c1, hc1⟩ := own_cells h hg
  simp at e; subst e
  rw [hb] at hc1; cases hc1
def lenV : Value → Nat
  | .slice _ n _ => n
  | _ => 0
theorem inGr_mem (l : List Gr) (g : Gr) : inG l g = true ↔ g ∈ l := by
  unfold inG
  rw [List.any_eq_true]
  constructor
  · rintro ⟨x, hx, hs⟩; rw [sameG_iff] at hs; rw [← hs]; exact hx
  · intro h; exact ⟨g, h, (sameG_iff g g).2 rfl⟩

/-- Just what follows. -/
def IsLeast (R : List Rl) (F : List Gr) (Nm : List ByteArray) (hs : List Gr) : Prop := LsI R F Nm hs ∧ ∀ g, g ∈ hs ↔ Dv R F g

set_option maxRecDepth 100000 in
set_option maxHeartbeats 8000000 in
theorem leastD_any (qs : List (Rl × Value × Value)) (fs : List (Gr × Value)) (Nm : List ByteArray) (v vf : Value) (w : World) (hR : RulesIn w v qs) (hF : GdsIn w vf fs) (hql : qs.length ≤ 1000) (hfl : fs.length ≤ 1000)
    (hok : RsFine (qs.map (·.1)) Nm) (hfo : ∀ p ∈ fs, GrOk (qs.map (·.1)) Nm p.1) :
    Calls Tryz.prog 113 #[v, vf] w fun e w' => ∃ v' hs, e = .returned v' ∧ LwSt (fs.map (·.2)) w.heap.size w w' v' hs ∧ IsLeast (qs.map (·.1)) (fs.map (·.1)) Nm (hs.map (·.1)) := by
  obtain ⟨i0, hi, hz0, hz1, hz2⟩ := info_parts Tryz.infoGround
  obtain ⟨fv, hfv⟩ : ∃ fv, fs.map (·.2) = fv := ⟨_, rfl⟩
  rw [hfv]
  have HFV : Hid (∀ f ∈ fs, f.2 ∈ fv) := fun f hf => by rw [← hfv]; exact List.mem_map.2 ⟨f, hf, rfl⟩
  obtain ⟨va, vc, rfl⟩ := own_form hR.row
  obtain ⟨fa, fc, rfl⟩ := own_form hF.row
  obtain ⟨N, hN⟩ : ∃ N, N = w.heap.size := ⟨_, rfl⟩
  have hNr := hN.symm
  rw [← hN]
  have HRN : Hid (∀ X, Below N w X → RulesIn X (.slice va qs.length vc) qs ∧ GdsIn X (.slice fa fs.length fc) fs) := fun X hX => by
    have hX' : Below w.heap.size w X := by rw [hNr]; exact hX
    exact ⟨hR.below hX', hF.below hX'⟩
  have HOK : Hid _ := hok
  have HFO : Hid _ := hfo
  have h0 : Hid (LwSt fv N w w (.slice none 0 0) []) := ⟨Below.refl _ _, by omega, World.ownsRow_nil _ _ _ _, fun p hp => (by cases hp), fun p hp => (by cases hp)⟩
  clear hR hF hok hfo hN hfv
  go_enter Tryz.func113, Tryz.ntmps113
  go_wp2_with fail
  go_loopw [5, 6] (fun o p wr => ∃ (i : Nat) (vh : Value) (hs : List (Gr × Value)), vh = o ∧ p = .int .i64 i ∧ i ≤ fs.length ∧ hs.length ≤ i ∧ Hid (LwSt fv N w wr vh hs) ∧ Hid (LsI (qs.map (·.1)) (fs.map (·.1)) Nm (hs.map (·.1)) ∧ ∀ k, k < i → ∀ f, fs[k]? = some f → f.1 ∈ hs.map (·.1))) (fun _ p _ => fs.length - (intOf p).toNat)
  case atStart => exact ⟨0, _, [], rfl, rfl, Nat.zero_le _, Nat.le_refl _, h0, LsI.start, fun k hk => by omega⟩
  case round =>
    clear h0
    obtain ⟨i, vh, hs, rfl, rfl, hil, hsl, hst, hli⟩ := hrel
    obtain ⟨ha, hc, hvh⟩ := own_form hst.out.row
    subst hvh
    by_cases hlt : i < fs.length
    · have i1 : (i : Int) < (fs.length : Int) := by omega
      obtain ⟨gg, cap', e1, hggz, s0, s1, ⟨t1, t2, ht⟩, hSt⟩ := (HRN.out wr hst.out.below).2.cell i hlt
      cases e1
      have hcl : Hid (∀ X, Below N w X → X.cell? ⟨gg, i * 2, none⟩ = some (.string fs[i].1.rel) ∧ X.cell? ⟨gg, i * 2 + 1, none⟩ = some (.slice t1 fs[i].1.args.length t2) ∧ StrsIn X (.slice t1 fs[i].1.args.length t2) fs[i].1.args) := fun X hX => by
        obtain ⟨gg', cap'', e1, _, s0, s1, _, hSt⟩ := (HRN.out X hX).2.cell i hlt
        cases e1
        rw [ht] at s1 hSt
        exact ⟨s0, s1, hSt⟩
      have hin : Hid (Calls Tryz.prog 122 #[.slice ha hs.length hc, .agg #[.string fs[i].1.rel, .slice t1 fs[i].1.args.length t2]] wr fun e w' => e = .returned (.bool (inG (hs.map (·.1)) fs[i].1)) ∧ Below wr.heap.size wr w') := by
        have h := in_any (.slice ha hs.length hc) hs (fs[i].1, .slice t1 fs[i].1.args.length t2) wr hst.out.gds (hcl.out wr hst.out.below).2.2 (by omega) (fun p hp => ?_)
        · exact h
        · obtain ⟨⟨a, ha', _, hl⟩, _⟩ := hli.out.1.ok p.1 (List.mem_map.2 ⟨p, hp, rfl⟩)
          obtain ⟨r, hr, har⟩ := List.mem_flatMap.1 ha'
          have := ((HOK.out.each r hr).args a har).1
          omega
      have hfl0 : Value.slice t1 fs[i].1.args.length t2 ∈ fv := by rw [← ht]; exact HFV.out _ (List.getElem_mem hlt)
      have HFL : Hid _ := hfl0
      clear hfl0
      have hFi := HFO.out fs[i] (List.getElem_mem hlt)
      have HFi : Hid _ := hFi
      have hfe : fs[i]? = some fs[i] := List.getElem?_eq_getElem hlt
      have HFE : Hid (fs[i]? = some fs[i]) := hfe
      rw [ht] at s1
      clear hFi hSt hggz ht hfe
      have hmem : Hid (fs[i].1 ∈ fs.map (·.1)) := List.mem_map.2 ⟨fs[i], List.getElem_mem hlt, rfl⟩
      generalize fs[i] = f at *
      go_wp2_with fail
      refine Calls.mono hin.out ?_
      rintro e' W1 ⟨rfl, hb1⟩
      have hs1 : Hid (LwSt fv N w W1 (.slice ha hs.length hc) hs) := hst.out.grows hb1
      clear hin hb1 hst s0 s1
      obtain ⟨s0, s1, hS1⟩ := hcl.out W1 hs1.out.below
      have HS1 : Hid (StrsIn W1 (.slice t1 f.1.args.length t2) f.1.args) := hS1
      clear hS1 hcl
      cases hb : inG (hs.map (·.1)) f.1 with
      | true =>
        have hl2 : Hid (LsI (qs.map (·.1)) (fs.map (·.1)) Nm (hs.map (·.1)) ∧ ∀ k, k < i + 1 → ∀ f, fs[k]? = some f → f.1 ∈ hs.map (·.1)) := ⟨hli.out.1, fun k hk f' hf' => by
          by_cases e : k = i
          · subst e
            rw [HFE.out] at hf'; cases hf'
            exact (inGr_mem _ _).1 hb
          · exact hli.out.2 k (by omega) f' hf'⟩
        clear hli
        go_wp2
        refine ⟨⟨i + 1, _, hs, rfl, by go_num, by omega, by omega, hs1, hl2⟩, by simp [intOf]; omega⟩
      | false =>
        have hnm : f.1 ∉ hs.map (·.1) := fun hm => by rw [(inGr_mem _ _).2 hm] at hb; cases hb
        have hl2 : Hid (LsI (qs.map (·.1)) (fs.map (·.1)) Nm ((hs ++ [(f.1, Value.slice t1 f.1.args.length t2)]).map (·.1)) ∧ ∀ k, k < i + 1 → ∀ f', fs[k]? = some f' → f'.1 ∈ (hs ++ [(f.1, Value.slice t1 f.1.args.length t2)]).map (·.1)) := by
          rw [List.map_append]
          refine ⟨hli.out.1.fact hmem.out hnm HFi.out, fun k hk f' hf' => ?_⟩
          by_cases e : k = i
          · subst e
            rw [HFE.out] at hf'; cases hf'
            exact List.mem_append_right _ List.mem_cons_self
          · exact List.mem_append_left _ (hli.out.2 k (by omega) f' hf')
        have hcz : Hid (∀ O, N ≤ (W1.alloc O).heap.size) := fun O => by have := hs1.out.size; simp; omega
        have hkr : Hid (W1.ownsRow N 226 2 (.slice ha hs.length hc) hs.length (hs.flatMap gdC)) := hs1.out.row
        clear hli hnm
        go_wp2_with (at_builtin; refine wpList_append_own _ rfl _ _ 217 rfl N 226 i0 _ 2 40 Tryz.underlying217 hi hz0 hz1 hz2 rfl (by decide) _ hs.length (hs.flatMap gdC) rfl (hkr.out.alloc _) ⟨W1.heap.size, 0, none⟩ 1 _ [.string f.1.rel, .slice t1 f.1.args.length t2] rfl rfl (two_new _ _ _ _) (by simp [Value.oneCell']) (by unfold maxLen; omega) (by omega) (hcz.out _) ?_; intro vx' w1 ho1 hg1 _; have HW1 : Hid _ := hs1.out.app (f.1, .slice t1 f.1.args.length t2) HS1.out (.inl HFL.out) hg1 ho1; clear ho1 hg1)
        refine ⟨⟨i + 1, vx', _, rfl, by go_num, by omega, by simp; omega, HW1, hl2⟩, by simp [intOf]; omega⟩
    · have hie : i = fs.length := by omega
      have hl2 : Hid (LsI (qs.map (·.1)) (fs.map (·.1)) Nm (hs.map (·.1)) ∧ ∀ f ∈ fs.map (·.1), f ∈ hs.map (·.1)) := ⟨hli.out.1, fun f hf => by
        obtain ⟨p, hp, rfl⟩ := List.mem_map.1 hf
        obtain ⟨k, hk, e⟩ := List.mem_iff_getElem.1 hp
        exact hli.out.2 k (by omega) p (by rw [← e]; exact List.getElem?_eq_getElem hk)⟩
      clear hli hie
      have hfew : hs.length ≤ 2048 := by have := hl2.out.1.few HOK.out; rwa [List.length_map] at this
      go_wp2_with fail
      go_loopw [5] (fun o wr => ∃ (vh : Value) (hs : List (Gr × Value)), vh = o ∧ hs.length ≤ 2048 ∧ Hid (LwSt fv N w wr vh hs) ∧ Hid (LsI (qs.map (·.1)) (fs.map (·.1)) Nm (hs.map (·.1)) ∧ ∀ f ∈ fs.map (·.1), f ∈ hs.map (·.1))) (fun o _ => 2049 - lenV o)
      case atStart => exact ⟨_, hs, rfl, hfew, hst, hl2⟩
      case round =>
        clear hst hl2 hfew hsl hil hlt
        obtain ⟨vh, hs0, rfl, h0l, hst, hl0⟩ := hrel
        obtain ⟨ha, hc, hvh⟩ := own_form hst.out.row
        subst hvh
        have HL0 : Hid (∀ f ∈ fs.map (·.1), f ∈ hs0.map (·.1)) := hl0.out.2
        have hls : Hid (LsI (qs.map (·.1)) (fs.map (·.1)) Nm (hs0.map (·.1))) := hl0.out.1
        clear hl0
        go_wp2_with fail
        go_loopw [5, 9] (fun o p wr => ∃ (i : Nat) (vh : Value) (new : List (Gr × Value)), vh = o ∧ p = .int .i64 i ∧ i ≤ qs.length ∧ hs0.length + new.length ≤ 2048 ∧ Hid (LwSt fv N w wr vh (hs0 ++ new)) ∧ Hid (LsI (qs.map (·.1)) (fs.map (·.1)) Nm ((hs0 ++ new).map (·.1)) ∧ (new = [] → ∀ j, j < i → ∀ q, qs[j]? = some q → ∀ b ∈ waysR q.1 (hs0.map (·.1)), putG q.1.head b ∈ hs0.map (·.1)))) (fun _ p _ => qs.length - (intOf p).toNat)
        case atStart => exact ⟨0, _, [], rfl, rfl, Nat.zero_le _, h0l, by rw [List.append_nil]; exact hst, by rw [List.append_nil]; exact hls.out, fun _ j hj => by omega⟩
        case round =>
          clear hst hls
          obtain ⟨i, vh, new, rfl, rfl, hil, hnl, hst, hli⟩ := hrel
          obtain ⟨ha, hc, hvh⟩ := own_form hst.out.row
          rw [List.length_append] at hvh
          subst hvh
          by_cases hlt : i < qs.length
          · have i1 : (i : Int) < (qs.length : Int) := by omega
            obtain ⟨gg, cap', e1, hggz, s0, s1, s2, hAV, ps, hps, hAs⟩ := (HRN.out wr hst.out.below).1.cell i hlt
            cases e1
            obtain ⟨a1, a2, hq1⟩ := own_form hAV
            simp only at hq1
            obtain ⟨b1, b2, hq2⟩ := own_form hAs.row
            have hcl : Hid (∀ X, Below N w X → X.cell? ⟨gg, i * 3, none⟩ = some (.string qs[i].1.head.rel) ∧ X.cell? ⟨gg, i * 3 + 1, none⟩ = some (.slice a1 qs[i].1.head.args.length a2) ∧ X.cell? ⟨gg, i * 3 + 2, none⟩ = some (.slice b1 ps.length b2) ∧ AtomV X (qs[i].1.head, .slice a1 qs[i].1.head.args.length a2)) := fun X hX => by
              obtain ⟨gg', cap'', e1, _, s0, s1, s2, hAV, _⟩ := (HRN.out X hX).1.cell i hlt
              cases e1
              rw [hq1] at s1 hAV
              rw [hq2] at s2
              exact ⟨s0, s1, s2, hAV⟩
            have hqm : qs[i].1 ∈ qs.map (·.1) := List.mem_map.2 ⟨qs[i], List.getElem_mem hlt, rfl⟩
            have hrf := HOK.out.each _ hqm
            obtain ⟨nms, hnms⟩ : ∃ nms, addL [] (wordsOf ((hs0 ++ new).map (·.1))) = nms := ⟨_, rfl⟩
            have hgl2 : (hs0 ++ new).length ≤ 2048 := by rw [List.length_append]; exact hnl
            have hwy : Hid (Calls Tryz.prog 180 #[.agg #[.string qs[i].1.head.rel, .slice a1 qs[i].1.head.args.length a2, .slice b1 ps.length b2], .slice ha (hs0.length + new.length) hc] wr fun e w' => ∃ v' bs, e = .returned v' ∧ BindsIn w' v' bs ∧ Below wr.heap.size wr w' ∧ bs.length ≤ 2048 ^ 3 ∧ Hid (bs.map (·.1) = waysR qs[i].1 ((hs0 ++ new).map (·.1)) ∧ ∀ p ∈ bs, PWay qs[i].1 nms ((hs0 ++ new).map (·.1)) qs[i].1.body.length p.1 ∧ p.1.length = 8)) := by
              have hs2 := names_ok HOK.out hli.out.1.ok
              have hw := ways_any (qs[i].1, .slice a1 qs[i].1.head.args.length a2, .slice b1 ps.length b2) ps (.slice ha (hs0.length + new.length) hc) (hs0 ++ new) (PWay qs[i].1 nms ((hs0 ++ new).map (·.1))) wr (by have := hAV; rw [hq1] at this; exact this) (by rw [← hq2]; exact hAs) hps hst.out.gds (by
                have h3 := hrf.three
                rw [← hps, List.length_map] at h3; exact h3) hgl2 (fun p hp => by
                obtain ⟨⟨a, ha', _, hl⟩, _⟩ := hli.out.1.ok p.1 (List.mem_map.2 ⟨p, hp, rfl⟩)
                obtain ⟨r, hr, har⟩ := List.mem_flatMap.1 ha'
                have := ((HOK.out.each r hr).args a har).1
                omega) (fun p hp => by
                have hpm : p.1 ∈ qs[i].1.head :: qs[i].1.body := by
                  rcases List.mem_cons.1 hp with rfl | hp
                  · exact List.mem_cons_self
                  · rw [← hps]; exact List.mem_cons_of_mem _ (List.mem_map.2 ⟨p, hp, rfl⟩)
                have h4 := hrf.args p.1 hpm
                exact ⟨by have := h4.1; omega, h4.2⟩) hs2.1 hs2.2.1 (by rw [hnms]; have := hli.out.1.inv HOK.out hqm; rw [hnms] at this; exact this)
              refine hw.mono ?_
              rintro e w' ⟨v', bs, k1, k2, k3, k4, k5, k6⟩
              exact ⟨v', bs, k1, k2, k6, k5, k3, k4⟩
            have hway : Hid (∀ b, PWay qs[i].1 nms ((hs0 ++ new).map (·.1)) qs[i].1.body.length b → GrOk (qs.map (·.1)) Nm (putG qs[i].1.head b) ∧ Dv (qs.map (·.1)) (fs.map (·.1)) (putG qs[i].1.head b)) := fun b hb => hli.out.1.way HOK.out hqm hb
            have hqe : Hid (qs[i]? = some qs[i]) := List.getElem?_eq_getElem hlt
            have hnum : Hid (qs[i].1.head.args.length ≤ 2 ∧ ∀ t ∈ qs[i].1.head.args, t.num < 8) := hrf.args _ List.mem_cons_self
            rw [hq1] at s1
            rw [hq2] at s2
            clear hAV hAs hps hqm hrf hggz hq1 hq2
            generalize qs[i] = q at *
            go_wp2_with fail
            refine Calls.mono hwy.out ?_
            rintro e' W2 ⟨vb, bs, rfl, hbs, hb2, hbl, hbw⟩
            obtain ⟨ba, bc, hvb⟩ := own_form hbs.row
            subst hvb
            have hs2 : Hid (LwSt fv N w W2 (.slice ha (hs0.length + new.length) hc) (hs0 ++ new)) := hst.out.grows hb2
            have HBS : Hid (BindsIn W2 (.slice ba bs.length bc) bs) := hbs
            clear hwy hbs hb2 hst s0 s1 s2
            go_wp2_with fail
            go_loopw [5, 11] (fun o p wr => ∃ (k : Nat) (vh : Value) (n2 : List (Gr × Value)), vh = o ∧ p = .int .i64 k ∧ k ≤ bs.length ∧ hs0.length + n2.length ≤ 2048 ∧ Hid (LwSt fv N w wr vh (hs0 ++ n2)) ∧ Hid (BindsIn wr (.slice ba bs.length bc) bs) ∧ Hid (LsI (qs.map (·.1)) (fs.map (·.1)) Nm ((hs0 ++ n2).map (·.1)) ∧ (∃ x, n2 = new ++ x) ∧ ∀ j, j < k → ∀ p, bs[j]? = some p → putG q.1.head p.1 ∈ (hs0 ++ n2).map (·.1))) (fun _ p _ => bs.length - (intOf p).toNat)
            case atStart => exact ⟨0, _, new, rfl, rfl, Nat.zero_le _, hnl, hs2, HBS, hli.out.1, ⟨[], by simp⟩, fun j hj => by omega⟩
            case round =>
              clear hs2 HBS hnl hgl2
              obtain ⟨k, vh, n2, rfl, rfl, hkl, hnl, hst, hbi, hin⟩ := hrel
              obtain ⟨ha, hc, hvh⟩ := own_form hst.out.row
              rw [List.length_append] at hvh
              subst hvh
              by_cases hkt : k < bs.length
              · have k1 : (k : Int) < (bs.length : Int) := by omega
                obtain ⟨gb, cap', e1, hgbz, u0, ⟨u1, u2, hu⟩, hSb⟩ := hbi.out.cell k hkt
                cases e1
                rw [hu] at u0 hSb
                obtain ⟨s0, s1, s2, hAV⟩ := hcl.out wr hst.out.below
                have hPk := hbw.out.2 bs[k] (List.getElem_mem hkt)
                have hgo := hway.out _ hPk.1
                have HGO : Hid _ := hgo
                have hbe : Hid (bs[k]? = some bs[k]) := List.getElem?_eq_getElem hkt
                have hput : Hid (∀ X, Below wr.heap.size wr X → Calls Tryz.prog 181 #[.agg #[.string q.1.head.rel, .slice a1 q.1.head.args.length a2], .slice u1 bs[k].1.length u2] X fun e w' => ∃ ga gc, e = .returned (.agg #[.string q.1.head.rel, .slice ga (putG q.1.head bs[k].1).args.length gc]) ∧ Below X.heap.size X w' ∧ (w'.cell? ⟨gg, i * 3, none⟩ = some (.string q.1.head.rel) ∧ w'.cell? ⟨gg, i * 3 + 1, none⟩ = some (.slice a1 q.1.head.args.length a2) ∧ w'.cell? ⟨gb, k, none⟩ = some (.slice u1 bs[k].1.length u2)) ∧ Hid (Below wr.heap.size wr w' ∧ StrsIn w' (.slice ga (putG q.1.head bs[k].1).args.length gc) (putG q.1.head bs[k].1).args ∧ ∀ g, (Value.slice ga (putG q.1.head bs[k].1).args.length gc).ownBlock = some g → N ≤ g)) := fun X hX => by
                  have hpk8 := hPk.2
                  refine (put_any (q.1.head, .slice a1 q.1.head.args.length a2) (.slice u1 bs[k].1.length u2) bs[k].1 X (hcl.out X (hst.out.below.trans (hX.mono hst.out.size))).2.2.2 (hSb.below hX) (by have := hnum.out.1; show q.1.head.args.length ≤ 1000; omega) (fun t ht _ => by rw [hpk8]; exact hnum.out.2 t ht) (by rw [hpk8]; decide)).mono ?_
                  rintro e w' ⟨vg, k1, k2, k3⟩
                  obtain ⟨ga, gc, hvg⟩ := own_form k2
                  subst hvg
                  have hbw' : Below wr.heap.size wr w' := hX.trans (k3.mono hX.size)
                  obtain ⟨c0, c1, _, _⟩ := hcl.out w' (hst.out.below.trans (hbw'.mono hst.out.size))
                  exact ⟨ga, gc, k1, k3, ⟨c0, c1, (hbw'.cell (p := ⟨gb, k, none⟩) hgbz).trans u0⟩, hbw', own_down k2 (Nat.zero_le _), fun g hg => Nat.le_trans hst.out.size (Nat.le_trans hX.size (own_str k2 g hg).1)⟩
                clear hAV hSb hgbz hgo hPk hu
                generalize bs[k] = bk at *
                have hfin : Hid (∀ X, Below wr.heap.size wr X → LwSt fv N w X (.slice ha (hs0.length + n2.length) hc) (hs0 ++ n2) ∧ BindsIn X (.slice (some ⟨gb, 0, none⟩) bs.length bc) bs) := fun X hX => ⟨hst.out.grows hX, hbi.out.below hX⟩
                have x0 : Hid (∀ X, Below wr.heap.size wr X → X.cell? ⟨gg, i * 3, none⟩ = some (.string q.1.head.rel) ∧ X.cell? ⟨gg, i * 3 + 1, none⟩ = some (.slice a1 q.1.head.args.length a2) ∧ X.cell? ⟨gb, k, none⟩ = some (.slice u1 bk.1.length u2)) := fun X hX => by
                  obtain ⟨c0, c1, _, _⟩ := hcl.out X (hst.out.below.trans (hX.mono hst.out.size))
                  obtain ⟨gb', cap'', e1, hgbz, _⟩ := hbi.out.cell k hkt
                  cases e1
                  exact ⟨c0, c1, (hX.cell (p := ⟨gb, k, none⟩) hgbz).trans u0⟩
                have hbd : Hid (Below wr.heap.size wr wr.drew ∧ ∀ O, Below wr.heap.size wr (wr.alloc O).drew) := ⟨(Below.refl _ wr).drew, fun O => ((Below.refl _ wr).alloc (Nat.le_refl _) O).drew⟩
                clear s0 s1 s2 hst hbi
                go_upto_region 16 with fail
                go_cut [12] from 55 to 64 (fun s12 wx => ∃ Bx ga gc, s12 = .pointer (some ⟨Bx, 0, none⟩) ∧ wx.heap[Bx]? = some (Obj.cells #[.string q.1.head.rel, .slice ga (putG q.1.head bk.1).args.length gc] 226 (0, 0)) ∧ Hid (Below wr.heap.size wr wx ∧ StrsIn wx (.slice ga (putG q.1.head bk.1).args.length gc) (putG q.1.head bk.1).args ∧ ∀ g, (Value.slice ga (putG q.1.head bk.1).args.length gc).ownBlock = some g → N ≤ g))
                case first =>
                  go_region_held3 (fun w' => w'.cell? ⟨gg, i * 3, none⟩ = some (.string q.1.head.rel) ∧ w'.cell? ⟨gg, i * 3 + 1, none⟩ = some (.slice a1 q.1.head.args.length a2) ∧ w'.cell? ⟨gb, k, none⟩ = some (.slice u1 bk.1.length u2)) (first | with_reducible exact x0.out _ hbd.out.1 | with_reducible exact x0.out _ (hbd.out.2 _) | with_reducible assumption | with_reducible exact x0.out _ (hsp.out.1.alloc hsp.out.1.size _) | with_reducible exact x0.out _ ((hsp.out.1.setCell (p := ⟨wr.heap.size, 0, none⟩) (Nat.le_refl _) _).setCell (p := ⟨wr.heap.size, 1, none⟩) (Nat.le_refl _) _) | (trace_state; fail)) (first | (go_at_call 181; refine Calls.mono (hput.out _ (by first | with_reducible exact hbd.out.1 | with_reducible exact hbd.out.2 _)) ?_; rintro e' w' ⟨ga, gc, rfl, hbp, hcs, hsp⟩; first | (have hbx : w'.heap[wr.heap.size]? = some (Obj.cells #[.string ⟨#[]⟩, .slice none 0 0] 226 (0, 0)) := (hbp.block wr.heap.size (by simp)).trans (World.alloc_heap_new wr _); have z0 : w'.cell? ⟨wr.heap.size, 0, none⟩ = some (.string ⟨#[]⟩) := (by simp [World.cell?, hbx]); have z1 : w'.cell? ⟨wr.heap.size, 1, none⟩ = some (.slice none 0 0) := (by simp [World.cell?, hbx]); have y0 : w'.frozen? ⟨wr.heap.size, 0, none⟩ = false := (by simp [World.frozen?, hbx]); have y1 : w'.frozen? ⟨wr.heap.size, 1, none⟩ = false := (by simp [World.frozen?, hbx])) | skip) | go_simp)
                  · go_wp2_with fail
                    go_meet
                    case rel => exact ⟨_, ga, gc, rfl, World.alloc_heap_new w' _, hsp.out.1.alloc hsp.out.1.size _, StrsIn.below hsp.out.2.1 ((Below.refl _ w').alloc (Nat.le_refl _) _), hsp.out.2.2⟩
                  · go_wp2_with fail
                    go_meet
                    case rel => exact ⟨_, ga, gc, rfl, box_two hbx _ _, (hsp.out.1.setCell (p := ⟨wr.heap.size, 0, none⟩) (Nat.le_refl _) _).setCell (p := ⟨wr.heap.size, 1, none⟩) (Nat.le_refl _) _, strs_set (strs_set hsp.out.2.1 hbx 0 _) (heap_set1 hbx 0 _) 1 _, hsp.out.2.2⟩
                case rest =>
                  obtain ⟨Bx, ga, gc, rfl, hbox, hcu⟩ := hcut
                  have hs3 : Hid (LwSt fv N w wc (.slice ha (hs0.length + n2.length) hc) (hs0 ++ n2)) := (hfin.out wc hcu.out.1).1
                  have hb3 : Hid (BindsIn wc (.slice (some ⟨gb, 0, none⟩) bs.length bc) bs) := (hfin.out wc hcu.out.1).2
                  have hst3 : Hid (StrsIn wc (.slice ga (putG q.1.head bk.1).args.length gc) (putG q.1.head bk.1).args) := hcu.out.2.1
                  have hloc3 : Hid (∀ g, (Value.slice ga (putG q.1.head bk.1).args.length gc).ownBlock = some g → N ≤ g) := hcu.out.2.2
                  have HRL : Hid ((putG q.1.head bk.1).rel = q.1.head.rel) := rfl
                  obtain ⟨gx, hgx⟩ : ∃ gx, putG q.1.head bk.1 = gx := ⟨_, rfl⟩
                  have HGX : Hid (putG q.1.head bk.1 = gx) := hgx
                  rw [hgx] at hbox hst3 HRL hloc3
                  have HGO : Hid (GrOk (qs.map (·.1)) Nm gx ∧ Dv (qs.map (·.1)) (fs.map (·.1)) gx) := by rw [← hgx]; exact HGO.out
                  clear hcu hfin x0 hbd hput hgx
                  have y0 : wc.cell? ⟨Bx, 0, none⟩ = some (.string q.1.head.rel) := by simp [World.cell?, hbox]
                  have y1 : wc.cell? ⟨Bx, 1, none⟩ = some (.slice ga gx.args.length gc) := by simp [World.cell?, hbox]
                  have hBz : Bx < wc.heap.size := (Array.getElem?_eq_some_iff.1 hbox).1
                  have hrel : gx.rel = q.1.head.rel := HRL.out
                  have hinn : Hid (Calls Tryz.prog 122 #[.slice ha (hs0.length + n2.length) hc, .agg #[.string q.1.head.rel, .slice ga gx.args.length gc]] wc fun e w' => e = .returned (.bool (inG ((hs0 ++ n2).map (·.1)) gx)) ∧ Below wc.heap.size wc w') := by
                    have h := in_any (.slice ha (hs0.length + n2.length) hc) (hs0 ++ n2) (gx, .slice ga gx.args.length gc) wc hs3.out.gds hst3.out (by rw [List.length_append]; omega) (fun p hp => ?_)
                    · unfold gdV at h
                      simp only at h
                      rw [hrel] at h
                      exact h
                    · obtain ⟨⟨a, ha', _, hl⟩, _⟩ := hin.out.1.ok p.1 (List.mem_map.2 ⟨p, hp, rfl⟩)
                      obtain ⟨r, hr, har⟩ := List.mem_flatMap.1 ha'
                      have := ((HOK.out.each r hr).args a har).1
                      omega
                  have HREL : Hid (gx.rel = q.1.head.rel) := hrel
                  clear hrel hbox HRL
                  go_wp2_with fail
                  refine Calls.mono hinn.out ?_
                  rintro e' W5 ⟨rfl, hb5⟩
                  have hs5 : Hid (LwSt fv N w W5 (.slice ha (hs0.length + n2.length) hc) (hs0 ++ n2)) := hs3.out.grows hb5
                  have hb6 : Hid (BindsIn W5 (.slice (some ⟨gb, 0, none⟩) bs.length bc) bs) := hb3.out.below hb5
                  have hst5 : Hid (StrsIn W5 (.slice ga gx.args.length gc) gx.args) := hst3.out.below hb5
                  have z0 : W5.cell? ⟨Bx, 0, none⟩ = some (.string q.1.head.rel) := (hb5.cell (p := ⟨Bx, 0, none⟩) hBz).trans y0
                  have z1 : W5.cell? ⟨Bx, 1, none⟩ = some (.slice ga gx.args.length gc) := (hb5.cell (p := ⟨Bx, 1, none⟩) hBz).trans y1
                  clear hinn hs3 hb3 hst3 y0 y1 hb5 hBz
                  cases hbb : inG ((hs0 ++ n2).map (·.1)) gx with
                  | true =>
                    have hl3 : Hid (LsI (qs.map (·.1)) (fs.map (·.1)) Nm ((hs0 ++ n2).map (·.1)) ∧ (∃ x, n2 = new ++ x) ∧ ∀ j, j < k + 1 → ∀ p, bs[j]? = some p → putG q.1.head p.1 ∈ (hs0 ++ n2).map (·.1)) := by
                      refine ⟨hin.out.1, hin.out.2.1, fun j hj p hp => ?_⟩
                      by_cases e : j = k
                      · subst e
                        rw [hbe.out] at hp; cases hp
                        rw [HGX.out]; exact (inGr_mem _ _).1 hbb
                      · exact hin.out.2.2 j (by omega) p hp
                    clear hin
                    go_wp2
                    refine ⟨⟨k + 1, _, n2, rfl, by go_num, by omega, hnl, hs5, hb6, hl3⟩, by simp [intOf]; omega⟩
                  | false =>
                    have hnm : gx ∉ (hs0 ++ n2).map (·.1) := fun hm => by rw [(inGr_mem _ _).2 hm] at hbb; cases hbb
                    have hls3 : LsI (qs.map (·.1)) (fs.map (·.1)) Nm ((hs0 ++ (n2 ++ [(gx, Value.slice ga gx.args.length gc)])).map (·.1)) := by
                      rw [← List.append_assoc, List.map_append]
                      exact hin.out.1.add hnm HGO.out.1 HGO.out.2
                    have hl3 : Hid (LsI (qs.map (·.1)) (fs.map (·.1)) Nm ((hs0 ++ (n2 ++ [(gx, Value.slice ga gx.args.length gc)])).map (·.1)) ∧ (∃ x, n2 ++ [(gx, Value.slice ga gx.args.length gc)] = new ++ x) ∧ ∀ j, j < k + 1 → ∀ p, bs[j]? = some p → putG q.1.head p.1 ∈ (hs0 ++ (n2 ++ [(gx, Value.slice ga gx.args.length gc)])).map (·.1)) := by
                      obtain ⟨x1, ⟨x, hx⟩, x3⟩ := hin.out
                      refine ⟨hls3, ⟨x ++ [(gx, Value.slice ga gx.args.length gc)], by rw [hx, List.append_assoc]⟩, fun j hj p hp => ?_⟩
                      rw [← List.append_assoc, List.map_append]
                      by_cases e : j = k
                      · subst e
                        rw [hbe.out] at hp; cases hp
                        rw [HGX.out]; exact List.mem_append_right _ List.mem_cons_self
                      · exact List.mem_append_left _ (x3 j (by omega) p hp)
                    have hnl3 : hs0.length + (n2 ++ [(gx, Value.slice ga gx.args.length gc)]).length ≤ 2048 := by
                      have := hls3.few HOK.out
                      rw [List.length_map, List.length_append] at this
                      exact this
                    have hcz : Hid (∀ O, N ≤ (W5.alloc O).heap.size) := fun O => by have := hs5.out.size; simp; omega
                    have hkr : Hid (W5.ownsRow N 226 2 (.slice ha (hs0.length + n2.length) hc) (hs0.length + n2.length) ((hs0 ++ n2).flatMap gdC)) := by have := hs5.out.row; rw [List.length_append] at this; exact this
                    have hnew : Hid (∀ (Y : World) (v' : Value) (o : Obj), (W5.alloc o).grownBy Y (Value.slice ha (hs0.length + n2.length) hc).ownBlock → Y.ownsRow N 226 2 v' (hs0.length + n2.length + 1) ((hs0 ++ n2).flatMap gdC ++ [.string q.1.head.rel, .slice ga gx.args.length gc]) → LwSt fv N w Y v' (hs0 ++ (n2 ++ [(gx, Value.slice ga gx.args.length gc)])) ∧ BindsIn Y (.slice (some ⟨gb, 0, none⟩) bs.length bc) bs) := fun Y v' o hg ho => by
                      rw [← List.append_assoc]
                      refine ⟨hs5.out.app (gx, .slice ga gx.args.length gc) hst5.out (.inr hloc3.out) hg ?_, ⟨hs5.out.keep hg (by decide) hb6.out.row, fun p hp => hs5.out.keep hg (by decide) (hb6.out.each p hp)⟩⟩
                      rw [List.length_append]
                      unfold gdC
                      simp only
                      rw [HREL.out]
                      exact ho
                    clear hin hnm hls3 hs5 hb6 hst5
                    go_wp2_with (at_builtin; refine wpList_append_own _ rfl _ _ 217 rfl N 226 i0 _ 2 40 Tryz.underlying217 hi hz0 hz1 hz2 rfl (by decide) _ (hs0.length + n2.length) ((hs0 ++ n2).flatMap gdC) rfl (hkr.out.alloc _) ⟨W5.heap.size, 0, none⟩ 1 _ [.string q.1.head.rel, .slice ga gx.args.length gc] rfl rfl (two_new _ _ _ _) (by simp [Value.oneCell']) (by unfold maxLen; omega) (by omega) (hcz.out _) ?_; intro vx' w1 ho1 hg1 _; have HW1 : Hid _ := hnew.out _ _ _ hg1 ho1; clear ho1 hg1)
                    refine ⟨⟨k + 1, vx', n2 ++ [(gx, Value.slice ga gx.args.length gc)], rfl, by go_num, by omega, hnl3, HW1.out.1, HW1.out.2, hl3⟩, by simp [intOf]; omega⟩
              · have k1 : ¬ (k : Int) < (bs.length : Int) := by omega
                have hke : k = bs.length := by omega
                have hl3 : Hid (LsI (qs.map (·.1)) (fs.map (·.1)) Nm ((hs0 ++ n2).map (·.1)) ∧ (n2 = [] → ∀ j, j < i + 1 → ∀ q, qs[j]? = some q → ∀ b ∈ waysR q.1 (hs0.map (·.1)), putG q.1.head b ∈ hs0.map (·.1))) := by
                  obtain ⟨x1, ⟨x, hx⟩, x3⟩ := hin.out
                  refine ⟨x1, fun hn j hj q' hq' b hb => ?_⟩
                  rw [hn] at hx x3
                  have hnn : new = [] := (List.append_eq_nil_iff.1 hx.symm).1
                  by_cases e : j = i
                  · subst e
                    rw [hqe.out] at hq'; cases hq'
                    have h5 := hbw.out.1
                    rw [hnn, List.append_nil] at h5
                    rw [← h5] at hb
                    obtain ⟨p, hp, rfl⟩ := List.mem_map.1 hb
                    obtain ⟨m, hm, e⟩ := List.mem_iff_getElem.1 hp
                    have := x3 m (by omega) p (by rw [← e]; exact List.getElem?_eq_getElem hm)
                    rwa [List.append_nil] at this
                  · exact hli.out.2 hnn j (by omega) q' hq' b hb
                clear hin hli
                go_wp2
                refine ⟨⟨i + 1, _, n2, rfl, by go_num, by omega, hnl, hst, hl3⟩, by simp [intOf]; omega⟩
          · have i1 : ¬ (i : Int) < (qs.length : Int) := by omega
            have hie : i = qs.length := by omega
            by_cases hnew : new = []
            · subst hnew
              have hdone : Hid (LsI (qs.map (·.1)) (fs.map (·.1)) Nm (hs0.map (·.1)) ∧ (∀ g, g ∈ hs0.map (·.1) ↔ Dv (qs.map (·.1)) (fs.map (·.1)) g) ∧ LwSt fv N w wr (.slice ha (hs0.length + 0) hc) hs0) := by
                have h1 := hli.out.1
                have h2 := hst.out
                rw [List.append_nil] at h1 h2
                refine ⟨h1, fun g => h1.done HOK.out HL0.out (fun r hr b hb => ?_) g, h2⟩
                obtain ⟨q, hq, rfl⟩ := List.mem_map.1 hr
                obtain ⟨k, hk, e⟩ := List.mem_iff_getElem.1 hq
                exact hli.out.2 rfl k (by omega) q (by rw [← e]; exact List.getElem?_eq_getElem hk) b hb
              clear hli hst hie
              simp only [List.length_nil] at *
              go_wp2
              go_ret
              exact ⟨_, rfl, hs0, hdone.out.2.2, ⟨hdone.out.1, hdone.out.2.1⟩⟩
            · have hnp : 0 < new.length := List.length_pos_iff.2 hnew
              have hne : (((hs0.length + new.length : Nat) : Int) == (hs0.length : Int)) = false := by simp; omega
              have hl2 : Hid (LsI (qs.map (·.1)) (fs.map (·.1)) Nm ((hs0 ++ new).map (·.1)) ∧ ∀ f ∈ fs.map (·.1), f ∈ (hs0 ++ new).map (·.1)) := ⟨hli.out.1, fun f hf => by rw [List.map_append]; exact List.mem_append_left _ (HL0.out f hf)⟩
              clear hli
              go_wp2
              refine ⟨⟨_, hs0 ++ new, rfl, by rw [List.length_append]; exact hnl, hst, hl2⟩, ?_⟩
              simp only [lenV]
              omega

end Go.Proofs.YtjajnhemgphefaaGreatDoor
