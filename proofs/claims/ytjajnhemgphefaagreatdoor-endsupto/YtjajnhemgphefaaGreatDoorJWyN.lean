/-
  The document's own engine: an atom that is asked for.
  The document's own engine: what a call leaves behind.
-/
import Derived.Test.YtjajnhemgphefaaGreatDoorJWyK
import Derived.Deep.RegionHeld3
namespace Go.Proofs.YtjajnhemgphefaaGreatDoor
open Go.RowKit Go.Shelf
set_option linter.unusedVariables false
set_option linter.unusedSimpArgs false

/-- Why an atom cannot be asked for; 0: it can. -/
def askedE (rs : List Rl) (a : Am) : Int := if arityL (amsR rs) a.rel = 0 then 7 else if arityL (amsR rs) a.rel = a.args.length then 0 else 4
def AskedAns (rs : List Rl) (s : ByteArray) (N : Nat) (e : Ending) (w' : World) : Prop :=
  match oneD s with
  | none => e = .returned (.tuple #[.agg #[.string ⟨#[]⟩, .slice none 0 0], .int .i64 2])
  | some a => ∃ va, e = .returned (.tuple #[.agg #[.string a.rel, va], .int .i64 (askedE rs a)]) ∧ w'.ownsRow N 215 2 va a.args.length (a.args.flatMap tmC) ∧ a.args.length ≤ 2 ∧ 1 ≤ a.args.length ∧ (∀ t ∈ a.args, t.num ≤ 2) ∧ AmSz 1200 a

set_option maxRecDepth 100000 in
set_option maxHeartbeats 2000000 in
theorem askedD_any {W : World} {T : Nat → Prop} {b : Nat} {y : Er} {vr vf vn vs vd : Value} {qs : List (Rl × Value × Value)} {fs : List ((Gr × Int × Bool) × Value)} {ss : List (Gr × Value)} {ds : List (Fr × Value × Value)} (h : ErAt W T b y vr vf vn vs vd qs fs ss ds) (hq : qs.length ≤ 1000) (hb : ∀ q ∈ qs, q.1.body.length ≤ 900) (s : ByteArray) (hs : s.size ≤ 1048576) :
    Calls Tryz.prog 121 #[.pointer (some ⟨b, 0, none⟩), .string s] W fun e w' => AskedAns y.rs s W.heap.size e w' ∧ Below W.heap.size W w' := by
  obtain ⟨va, vc, hvr⟩ := own_form h.rules.row
  have c0 : W.cell? ⟨b, 0, none⟩ = some (.slice va qs.length vc) := by simp [World.cell?, h.box, hvr]
  have hblt : b < W.heap.size := h.lt b h.own
  obtain ⟨N, hN⟩ : ∃ N, N = W.heap.size := ⟨_, rfl⟩
  have hNr := hN.symm
  obtain ⟨W0, hW0⟩ : ∃ W0, W.alloc (.cells #[.string ⟨#[]⟩, .slice none 0 0] 145) = W0 := ⟨_, rfl⟩
  have hb0 : Below W.heap.size W W0 := by rw [← hW0]; exact (Below.refl _ W).alloc (Nat.le_refl _) _
  have hbx0 : W0.heap[N]? = some (Obj.cells #[.string ⟨#[]⟩, .slice none 0 0] 145 (0, 0)) := by rw [← hW0, hN]; exact World.alloc_heap_new W _
  have hs0 : W0.heap.size = N + 1 := by rw [← hW0, hN]; simp
  have hon : Hid (Calls Tryz.prog 114 #[.string s] W0 fun e w' => OneAns s W0.heap.size e w' ∧ Below W0.heap.size W0 w') := one_ref s W0 hs
  have hams : amsR y.rs = amsOf qs := by rw [← h.rsm]; unfold amsR amsOf; rw [List.flatMap_map]
  have HR : Hid (∀ X rel, Below W.heap.size W X → X.cell? ⟨b, 0, none⟩ = some (.slice va qs.length vc) ∧ Calls Tryz.prog 117 #[.slice va qs.length vc, .string rel] X fun e w' => e = .returned (.int .i64 (arityL (amsR y.rs) rel : Int)) ∧ Below X.heap.size X w') := fun X rel hX => ⟨(hX.cell (p := ⟨b, 0, none⟩) hblt).trans c0, by rw [hams, ← hvr]; exact arityD_any vr qs rel X (h.rules.below hX) hq hb⟩
  have hbl : Hid (b < W.heap.size) := hblt
  have HB0 : Hid (Below W.heap.size W W0 ∧ W0.heap[N]? = some (Obj.cells #[.string ⟨#[]⟩, .slice none 0 0] 145 (0, 0)) ∧ W0.heap.size = N + 1) := ⟨hb0, hbx0, hs0⟩
  rw [hNr] at HB0 HR hbl ⊢
  have HNN : Hid (W.heap.size = N) := hNr
  clear h hvr hb hblt hams c0 hb0 hbx0 hs0 hN
  go_enter Tryz.func121, Tryz.ntmps121
  go_wp2_with fail
  refine Calls.mono hon.out ?_
  rintro e' W1 ⟨h1, hb1⟩
  clear hon
  have hbx1 : W1.heap[N]? = some (Obj.cells #[.string ⟨#[]⟩, .slice none 0 0] 145 (0, 0)) := (hb1.block N (by rw [HB0.out.2.2]; omega)).trans HB0.out.2.1
  have hb1' : Below N W W1 := HB0.out.1.trans (hb1.mono (by rw [HB0.out.2.2]; omega))
  have q0 : W1.cell? ⟨N, 0, none⟩ = some (.string ⟨#[]⟩) := by simp [World.cell?, hbx1]
  have q1 : W1.cell? ⟨N, 1, none⟩ = some (.slice none 0 0) := by simp [World.cell?, hbx1]
  have f0 : W1.frozen? ⟨N, 0, none⟩ = false := by simp [World.frozen?, hbx1]
  have f1 : W1.frozen? ⟨N, 1, none⟩ = false := by simp [World.frozen?, hbx1]
  have HX2 : Hid (∀ (r v : Value), Below N W ((W1.setCell ⟨N, 0, none⟩ r).setCell ⟨N, 1, none⟩ v) ∧ ((W1.setCell ⟨N, 0, none⟩ r).setCell ⟨N, 1, none⟩ v).heap[N]? = some (Obj.cells #[r, v] 145 (0, 0))) := fun r v => ⟨(hb1'.setCell (p := ⟨N, 0, none⟩) (Nat.le_refl _) r).setCell (p := ⟨N, 1, none⟩) (Nat.le_refl _) v, box_two hbx1 r v⟩
  have hAns : Hid (OneAns s W0.heap.size e' W1) := h1
  have HBX : Hid (W1.heap[N]? = some (Obj.cells #[.string ⟨#[]⟩, .slice none 0 0] 145 (0, 0))) := hbx1
  have HB1 : Hid (Below N W W1) := hb1'
  clear h1 hbx1 hb1 hb1'
  obtain ⟨rel, oa, al, oc, okb, he, hfin⟩ : ∃ (rel : ByteArray) (oa : Option Addr) (al oc : Nat) (okb : Bool), e' = .returned (.tuple #[.agg #[.string rel, .slice oa al oc], .bool okb]) ∧ Hid (∀ w', Below W1.heap.size W1 w' ∨ True → ∀ (c : Int), (c = if okb = false then 2 else if arityL (amsR y.rs) rel = 0 then 7 else if arityL (amsR y.rs) rel = al then 0 else 4) → (∀ va, (Value.slice oa al oc) = va → ∀ a, oneD s = some a → w'.ownsRow N 215 2 va a.args.length (a.args.flatMap tmC)) → AskedAns y.rs s N (.returned (.tuple #[.agg #[.string rel, .slice oa al oc], .int .i64 c])) w') := by
    have h2 := hAns.out
    unfold OneAns at h2
    cases ho : oneD s with
    | none =>
      rw [ho] at h2
      refine ⟨⟨#[]⟩, none, 0, 0, false, h2, fun w' _ c hc _ => ?_⟩
      unfold AskedAns
      rw [ho, hc]; rfl
    | some a =>
      rw [ho] at h2
      obtain ⟨va, k1, k2, k3, k4, k5, k6⟩ := h2
      obtain ⟨oa, oc, rfl⟩ := own_form k2
      refine ⟨a.rel, oa, a.args.length, oc, true, k1, fun w' _ c hc hr => ?_⟩
      unfold AskedAns
      rw [ho]
      refine ⟨_, ?_, hr _ rfl a rfl, k3, k4, k5, k6⟩
      rw [hc]
      unfold askedE
      simp
  subst he
  have hrow : Hid (∀ a, oneD s = some a → W1.ownsRow W0.heap.size 215 2 (.slice oa al oc) a.args.length (a.args.flatMap tmC)) := fun a ho => by
    have h2 := hAns.out
    unfold OneAns at h2
    rw [ho] at h2
    obtain ⟨va, k1, k2, _⟩ := h2
    simp only [Ending.returned.injEq, Value.tuple.injEq, Array.mk.injEq, List.cons.injEq, Value.agg.injEq, and_true, true_and] at k1
    rw [k1.1.2]; exact k2
  obtain ⟨V, hV⟩ : ∃ V, W1.alloc (.cells #[.string rel, .slice oa al oc] 145) = V := ⟨_, rfl⟩
  have hNz : N ≤ W1.heap.size := by have := HB1.out.size; have := HNN.out; omega
  have hb1v : Below N W V := by rw [← hV]; exact HB1.out.alloc hNz _
  have hNv : N ≤ V.heap.size := by have := hb1v.size; have := HNN.out; omega
  have hVM : V.heap[W1.heap.size]? = some (Obj.cells #[.string rel, .slice oa al oc] 145 (0, 0)) := by rw [← hV]; exact World.alloc_heap_new W1 _
  have hVN : V.heap[N]? = some (Obj.cells #[.string ⟨#[]⟩, .slice none 0 0] 145 (0, 0)) := by rw [← hV]; exact (Below.heap_alloc _ _ _ (Array.getElem?_eq_some_iff.1 HBX.out).1).trans HBX.out
  obtain ⟨c0, hA⟩ := HR.out V.drew rel hb1v.drew
  have hAr : Hid (Calls Tryz.prog 117 #[.slice va qs.length vc, .string rel] V.drew fun e w' => e = .returned (.int .i64 (arityL (amsR y.rs) rel : Int)) ∧ (w'.cell? ⟨b, 0, none⟩ = some (.slice va qs.length vc) ∧ w'.cell? ⟨W1.heap.size, 0, none⟩ = some (.string rel)) ∧ Hid (Below V.heap.size V w')) := by
    refine hA.mono ?_
    rintro e w' ⟨k1, k2⟩
    have k3 : Below V.heap.size V w' := (Below.refl _ V).drew.trans k2
    exact ⟨k1, ⟨(HR.out w' rel (hb1v.trans (k3.mono hNv))).1, by rw [k3.cell (p := ⟨W1.heap.size, 0, none⟩) (Array.getElem?_eq_some_iff.1 hVM).1]; simp [World.cell?, hVM]⟩, k3⟩
  have z0 : V.drew.cell? ⟨W1.heap.size, 0, none⟩ = some (.string rel) := by show V.cell? _ = _; simp [World.cell?, hVM]
  have HV : Hid (Below N W V ∧ V.heap[W1.heap.size]? = some (Obj.cells #[.string rel, .slice oa al oc] 145 (0, 0)) ∧ V.heap[N]? = some (Obj.cells #[.string ⟨#[]⟩, .slice none 0 0] 145 (0, 0))) := ⟨hb1v, hVM, hVN⟩
  clear hA hb1v hVM hVN q0 q1 f0 f1 HX2
  go_wp2_with fail
  first | (go_region_held3 (fun w' => w'.cell? ⟨b, 0, none⟩ = some (.slice va qs.length vc) ∧ w'.cell? ⟨W1.heap.size, 0, none⟩ = some (.string rel)) (first | with_reducible exact ⟨c0, z0⟩ | with_reducible assumption) (first | (go_at_call 117; refine Calls.mono hAr.out ?_; rintro e' W3 ⟨rfl, hcc, hb3⟩) | go_simp)) | fail
  have hbV : Below N W W3 := HV.out.1.trans (hb3.out.mono (by have := HV.out.1.size; have := HNN.out; omega))
  have hM3 : W3.heap[W1.heap.size]? = some (Obj.cells #[.string rel, .slice oa al oc] 145 (0, 0)) := (hb3.out.block _ (Array.getElem?_eq_some_iff.1 HV.out.2.1).1).trans HV.out.2.1
  have hN3 : W3.heap[N]? = some (Obj.cells #[.string ⟨#[]⟩, .slice none 0 0] 145 (0, 0)) := (hb3.out.block _ (Array.getElem?_eq_some_iff.1 HV.out.2.2).1).trans HV.out.2.2
  have m0 : W3.cell? ⟨W1.heap.size, 0, none⟩ = some (.string rel) := by simp [World.cell?, hM3]
  have m1 : W3.cell? ⟨W1.heap.size, 1, none⟩ = some (.slice oa al oc) := by simp [World.cell?, hM3]
  have n0 : W3.cell? ⟨N, 0, none⟩ = some (.string ⟨#[]⟩) := by simp [World.cell?, hN3]
  have n1 : W3.cell? ⟨N, 1, none⟩ = some (.slice none 0 0) := by simp [World.cell?, hN3]
  have g0 : W3.frozen? ⟨N, 0, none⟩ = false := by simp [World.frozen?, hN3]
  have g1 : W3.frozen? ⟨N, 1, none⟩ = false := by simp [World.frozen?, hN3]
  have hWN : W.heap.size = N := HNN.out
  obtain ⟨ar, har⟩ : ∃ ar, arityL (amsR y.rs) rel = ar := ⟨_, rfl⟩
  rw [har] at hfin ⊢
  have hcc4 := cellsN (a := .string rel) (b := .slice oa al oc) hN3
  have HCC : Hid _ := hcc4
  have HE : Hid (∀ c : Int, (c = if okb = false then 2 else if ar = 0 then 7 else if ar = al then 0 else 4) → AskedAns y.rs s N (.returned (.tuple #[.agg #[.string rel, .slice oa al oc], .int .i64 c])) ((W3.setCell ⟨N, 0, none⟩ (.string rel)).setCell ⟨N, 1, none⟩ (.slice oa al oc)) ∧ Below N W ((W3.setCell ⟨N, 0, none⟩ (.string rel)).setCell ⟨N, 1, none⟩ (.slice oa al oc))) := fun c hc => by
    refine ⟨hfin.out _ (.inr trivial) c hc (fun va hva a ho => ?_), (hbV.setCell (p := ⟨N, 0, none⟩) (Nat.le_refl _) _).setCell (p := ⟨N, 1, none⟩) (Nat.le_refl _) _⟩
    subst hva
    have r1 := hrow.out a ho
    have r2 : V.ownsRow W0.heap.size 215 2 (.slice oa al oc) a.args.length (a.args.flatMap tmC) := by rw [← hV]; exact r1.alloc _
    have r3 := own_below r2 hb3.out
    refine own_down (B := W0.heap.size) (own_keep r3 (fun g hg _ => ?_)) (by rw [HB0.out.2.2]; omega)
    obtain ⟨cc, hc'⟩ := own_cells r3 hg
    have hne : g ≠ N := fun e => by subst e; rw [hN3] at hc'; cases hc'
    exact (Below.heap_setCell _ _ _ _ hne).trans (Below.heap_setCell _ _ _ _ hne)
  clear hcc c0 z0 hAr hbV hM3 hN3 har hcc4 hfin hrow
  cases okb with
  | false =>
    go_wp2
    obtain ⟨q1, q2⟩ := HCC.out
    refine bodyPost_ret (v := .tuple #[.agg #[.string rel, .slice oa al oc], .int .i64 2]) (by simp [results, Tryz.results121, go_sem, q1, q2]) rfl ?_
    exact HE.out 2 rfl
  | true =>
    by_cases h0 : ar = 0
    · subst h0
      go_wp2
      obtain ⟨q1, q2⟩ := HCC.out
      refine bodyPost_ret (v := .tuple #[.agg #[.string rel, .slice oa al oc], .int .i64 7]) (by simp [results, Tryz.results121, go_sem, q1, q2]) rfl ?_
      exact HE.out 7 (by simp)
    · have h0' : ((ar : Int) == 0) = false := by simp; omega
      by_cases h1 : ar = al
      · subst h1
        go_wp2
        obtain ⟨q1, q2⟩ := HCC.out
        refine bodyPost_ret (v := .tuple #[.agg #[.string rel, .slice oa ar oc], .int .i64 0]) (by simp [results, Tryz.results121, go_sem, q1, q2]) rfl ?_
        exact HE.out 0 (by simp [h0])
      · have h1' : ((ar : Int) == (al : Int)) = false := by simp; omega
        go_wp2
        obtain ⟨q1, q2⟩ := HCC.out
        refine bodyPost_ret (v := .tuple #[.agg #[.string rel, .slice oa al oc], .int .i64 4]) (by simp [results, Tryz.results121, go_sem, q1, q2]) rfl ?_
        exact HE.out 4 (by simp [h0, h1])

end Go.Proofs.YtjajnhemgphefaaGreatDoor

namespace Go.Proofs.YtjajnhemgphefaaGreatDoor
open Go.RowKit Go.Shelf
set_option linter.unusedVariables false
set_option linter.unusedSimpArgs false

/-- Behind a call the engine at b is y'; only what is its own was written. -/
def ErPost (T : Nat → Prop) (b : Nat) (y' : Er) (W W' : World) : Prop := (∃ T', ErM W' T' b y' ∧ ∀ k, T' k → T k ∨ W.heap.size ≤ k) ∧ Chg W W' T
theorem ErPost.same {T : Nat → Prop} {b : Nat} {y : Er} {W W' : World} (h : ErM W T b y) (hb : Below W.heap.size W W') : ErPost T b y W W' := by
  obtain ⟨vr, vf, vn, vs, vd, qs, fs, ss, ds, hv⟩ := h
  exact ⟨⟨T, ⟨vr, vf, vn, vs, vd, qs, fs, ss, ds, hv.below hb⟩, fun k hk => .inl hk⟩, Chg.ofBelow _ hb⟩
/-- A block of a type that the document's own engine writes. -/
def RTy (W : World) (k : Nat) : Prop := ∃ c t, W.heap[k]? = some (Obj.cells c t (0, 0)) ∧ (t = 222 ∨ t = 233 ∨ t = 9 ∨ t = 226 ∨ t = 246 ∨ t = 71)
theorem RTy.same {W W' : World} {k : Nat} (h : RTy W k) (hk : W'.heap[k]? = W.heap[k]?) : RTy W' k := by
  obtain ⟨c, t, h1, h2⟩ := h
  exact ⟨c, t, hk.trans h1, h2⟩
theorem RTy.row {W : World} {B U m n : Nat} {v : Value} {xs : List Value} (h : W.ownsRow B U m v n xs) (hU : U = 222 ∨ U = 233 ∨ U = 9 ∨ U = 226 ∨ U = 246 ∨ U = 71) {g : Nat} (hg : v.ownBlock = some g) : RTy W g := by
  obtain ⟨c, hc⟩ := own_cells h hg
  exact ⟨c, U, hc, hU⟩
theorem RcIn.ty {W : World} {v : Value} {l : List Rc} (h : RcIn W v l) {g : Nat} (hg : v.ownBlock = some g) : RTy W g := by
  rcases h with ⟨rfl, _⟩ | ⟨g', off, cap, cur, rfl, h2, _⟩
  · cases hg
  · cases hg
    exact ⟨cur, _, h2, by simp⟩
/-- What is its own is of few types. -/
theorem ErAt.narrow {W : World} {T : Nat → Prop} {b : Nat} {y : Er} {vr vf vn vs vd : Value} {qs : List (Rl × Value × Value)} {fs : List ((Gr × Int × Bool) × Value)} {ss : List (Gr × Value)} {ds : List (Fr × Value × Value)} (h : ErAt W T b y vr vf vn vs vd qs fs ss ds) : ErAt W (fun k => T k ∧ RTy W k) b y vr vf vn vs vd qs fs ss ds :=
  ⟨h.box, ⟨h.own, _, _, h.box, by simp⟩, fun k hk => h.lt k hk.1, h.rules, h.rsm, h.facts, fun g hg => ⟨h.factsT g hg, RTy.row h.facts (by simp) hg⟩, h.factsm, fun p hp => ⟨(h.facte p hp).1, fun g hg => ⟨(h.facte p hp).2 g hg, RTy.row (h.facte p hp).1 (by simp) hg⟩⟩, h.names, fun g hg => ⟨h.namesT g hg, RTy.row h.names (by simp) hg⟩, h.state, fun g hg => ⟨h.stateT g hg, RTy.row h.state.row (by simp) hg⟩, h.statem, fun p hp g hg => ⟨h.statee p hp g hg, RTy.row (h.state.each p hp) (by simp) hg⟩, h.feeds, fun g hg => ⟨h.feedsT g hg, RTy.row h.feeds (by simp) hg⟩, h.feedsm, fun p hp => ⟨⟨(h.feede p hp).1.1, fun g hg => ⟨(h.feede p hp).1.2 g hg, (h.feede p hp).1.1.ty hg⟩⟩, (h.feede p hp).2.1, fun g hg => ⟨(h.feede p hp).2.2 g hg, (h.feede p hp).2.1.ty hg⟩⟩, h.sepN, h.sepQ⟩
theorem ErM.narrow {W : World} {T : Nat → Prop} {b : Nat} {y : Er} (h : ErM W T b y) : ErM W (fun k => T k ∧ RTy W k) b y := by
  obtain ⟨vr, vf, vn, vs, vd, qs, fs, ss, ds, hv⟩ := h
  exact ⟨vr, vf, vn, vs, vd, qs, fs, ss, ds, hv.narrow⟩
/-- More may be its own. -/
theorem ErAt.wide {W : World} {T T' : Nat → Prop} {b : Nat} {y : Er} {vr vf vn vs vd : Value} {qs : List (Rl × Value × Value)} {fs : List ((Gr × Int × Bool) × Value)} {ss : List (Gr × Value)} {ds : List (Fr × Value × Value)} (h : ErAt W T b y vr vf vn vs vd qs fs ss ds) (hT : ∀ k, T k → T' k) (hl : ∀ k, T' k → k < W.heap.size) : ErAt W T' b y vr vf vn vs vd qs fs ss ds :=
  ⟨h.box, hT _ h.own, hl, h.rules, h.rsm, h.facts, fun g hg => hT _ (h.factsT g hg), h.factsm, fun p hp => ⟨(h.facte p hp).1, fun g hg => hT _ ((h.facte p hp).2 g hg)⟩, h.names, fun g hg => hT _ (h.namesT g hg), h.state, fun g hg => hT _ (h.stateT g hg), h.statem, fun p hp g hg => hT _ (h.statee p hp g hg), h.feeds, fun g hg => hT _ (h.feedsT g hg), h.feedsm, fun p hp => ⟨⟨(h.feede p hp).1.1, fun g hg => hT _ ((h.feede p hp).1.2 g hg)⟩, (h.feede p hp).2.1, fun g hg => hT _ ((h.feede p hp).2.2 g hg)⟩, h.sepN, h.sepQ⟩
/-- All that is new may be its own. -/
def TNew (T : Nat → Prop) (W W' : World) : Nat → Prop := fun k => T k ∨ (W.heap.size ≤ k ∧ k < W'.heap.size)
theorem TNew.lt {T : Nat → Prop} {W W' : World} (hT : ∀ k, T k → k < W.heap.size) (hz : W.heap.size ≤ W'.heap.size) : ∀ k, TNew T W W' k → k < W'.heap.size := fun k hk => hk.elim (fun h => Nat.lt_of_lt_of_le (hT k h) hz) (·.2)
theorem TNew.post {T : Nat → Prop} {b : Nat} {y' : Er} {W W' : World} (h : ErM W' (TNew T W W') b y') (hc : Chg W W' T) : ErPost T b y' W W' := ⟨⟨_, h, fun k hk => hk.imp id (·.1)⟩, hc⟩
/-- A row's beginning is read where the whole row is. -/
theorem strs_pre {X Y : World} {v v' : Value} {l l2 : List ByteArray} (h : StrsIn X v l) (h' : StrsIn X v' (l ++ l2)) (hs : v'.ownBlock = v.ownBlock) (hY : StrsIn Y v' (l ++ l2)) : StrsIn Y v l := by
  obtain ⟨hl, ⟨rfl, hn⟩ | ⟨g, cap, cur, rfl, h1, h2, h3, h4, h5, h6⟩⟩ := h
  · have : l = [] := List.eq_nil_of_length_eq_zero hn
    subst this
    exact World.ownsRow_nil _ _ _ _
  · obtain ⟨_, ⟨rfl, hn⟩ | ⟨g', cap', cur', rfl, k1, k2, k3, k4, k5, k6⟩⟩ := h'
    · cases hs
    · have hg : g' = g := by simpa [Value.ownBlock] using hs
      subst hg
      rw [h2] at k2
      cases k2
      have hcap : cap' = cap := by omega
      subst hcap
      obtain ⟨_, ⟨hv, hn⟩ | ⟨g2, cap2, cur2, hv, m1, m2, m3, m4, m5, m6⟩⟩ := hY
      · cases hv
      · simp only [Value.slice.injEq, Option.some.injEq, Addr.mk.injEq, and_true, true_and] at hv
        obtain ⟨rfl, _, rfl⟩ := hv
        refine ⟨by simp, .inr ⟨g', cap', cur2, rfl, h1, m2, h3, h4, m5, ?_⟩⟩
        have : (cur2.toList.take ((l ++ l2).length * 1)).take (l.length * 1) = (((l ++ l2).map Value.string)).take (l.length * 1) := by rw [m6]
        rw [List.take_take, List.map_append, Nat.mul_one, Nat.mul_one, List.length_append, Nat.min_eq_left (by omega), List.take_left' (by simp)] at this
        rw [Nat.mul_one]; exact this
/-- The names' row grows in place: what was the engine's is read as it was. -/
theorem ErAt.grownN {W W' : World} {T : Nat → Prop} {b : Nat} {y : Er} {vr vf vn vs vd : Value} {qs : List (Rl × Value × Value)} {fs : List ((Gr × Int × Bool) × Value)} {ss : List (Gr × Value)} {ds : List (Fr × Value × Value)} (h : ErAt W T b y vr vf vn vs vd qs fs ss ds) (hg : W.grownBy W' vn.ownBlock) (hn : StrsIn W' vn y.names) : ErAt W' T b y vr vf vn vs vd qs fs ss ds := by
  have hk : ∀ k, k < W.heap.size → vn.ownBlock ≠ some k → W'.heap[k]? = W.heap[k]? := fun k h1 h2 => hg.block k h1 (fun e => h2 e.symm)
  have hty : ∀ (k : Nat) (c : Array Value) (t : TypeId), t ≠ 9 → W.heap[k]? = some (Obj.cells c t (0, 0)) → W'.heap[k]? = W.heap[k]? := fun k c t ht hc => hk k (Array.getElem?_eq_some_iff.1 hc).1 (fun e => by
    obtain ⟨c', hc'⟩ := own_cells h.names e
    rw [hc] at hc'; cases hc'; exact ht rfl)
  have hrow : ∀ {B U m n : Nat} {v : Value} {xs : List Value}, U ≠ 9 → W.ownsRow B U m v n xs → W'.ownsRow B U m v n xs := fun hU ho => own_keep ho (fun g hg' _ => by
    obtain ⟨c, hc⟩ := own_cells ho hg'
    exact hty g c _ hU hc)
  have hstr : ∀ {v : Value} {l : List ByteArray}, (∀ g, vn.ownBlock = some g → v.ownBlock ≠ some g) → StrsIn W v l → StrsIn W' v l := fun hne ho => own_keep ho (fun g hg' hlt => hk g hlt (fun e => hne g e hg'))
  have hrc : ∀ {v : Value} {l : List Rc}, RcIn W v l → RcIn W' v l := fun {v l} hr => by
    refine hr.keep (fun g hg' => ?_)
    rcases hr with ⟨rfl, _⟩ | ⟨g', off, cap, cur, rfl, h2, _⟩
    · cases hg'
    · cases hg'
      exact hty g' cur _ (by decide) h2
  exact ⟨(hty b _ _ (by decide) h.box).trans h.box, h.own, fun k hk' => Nat.lt_of_lt_of_le (h.lt k hk') hg.size, h.rules.keep (fun k c t ht hc => hty k c t (by rcases ht with rfl | rfl | rfl <;> decide) hc), h.rsm, hrow (by decide) h.facts, h.factsT, h.factsm, fun p hp => ⟨hstr (fun g hg' => (h.sepN g hg').1 p hp) (h.facte p hp).1, (h.facte p hp).2⟩, hn, h.namesT, ⟨hrow (by decide) h.state.row, fun p hp => hstr (fun g hg' => (h.sepN g hg').2 p hp) (h.state.each p hp)⟩, h.stateT, h.statem, h.statee, hrow (by decide) h.feeds, h.feedsT, h.feedsm, fun p hp => ⟨⟨hrc (h.feede p hp).1.1, (h.feede p hp).1.2⟩, hrc (h.feede p hp).2.1, (h.feede p hp).2.2⟩, h.sepN, h.sepQ⟩
/-- Names are added: the engine as it was, and the row that will be its names. -/
structure AdSt (W : World) (T : Nat → Prop) (b : Nat) (y : Er) (vr vf vn vs vd : Value) (qs : List (Rl × Value × Value)) (fs : List ((Gr × Int × Bool) × Value)) (ss : List (Gr × Value)) (ds : List (Fr × Value × Value)) (X : World) (v : Value) (acc : List ByteArray) : Prop where
  chg : Chg W X T
  er : ErAt X T b y vr vf vn vs vd qs fs ss ds
  row : StrsIn X v acc
  pre : ∃ l2, acc = y.names ++ l2
  loc : v.ownBlock = vn.ownBlock ∨ ∀ k, v.ownBlock = some k → W.heap.size ≤ k
theorem AdSt.step {W : World} {T : Nat → Prop} {b : Nat} {y : Er} {vr vf vn vs vd : Value} {qs : List (Rl × Value × Value)} {fs : List ((Gr × Int × Bool) × Value)} {ss : List (Gr × Value)} {ds : List (Fr × Value × Value)} {X X' : World} {v v' : Value} {acc : List ByteArray} (h : AdSt W T b y vr vf vn vs vd qs fs ss ds X v acc) (hT : ∀ k, T k → k < W.heap.size) (x : ByteArray)
    (r1 : X'.ownsRow 0 9 1 v' (seenL acc x).length ((seenL acc x).map Value.string)) (r2 : X'.ownsRow 0 9 1 v acc.length (acc.map Value.string)) (hg : X.grownBy X' v.ownBlock) (hv : v'.ownBlock = v.ownBlock ∨ ∀ g, v'.ownBlock = some g → X.heap.size ≤ g) : AdSt W T b y vr vf vn vs vd qs fs ss ds X' v' (seenL acc x) := by
  obtain ⟨l2, hl2⟩ := h.pre
  refine ⟨h.chg.grown hg (fun k hk hlt => ?_), ?_, r1, ?_, ?_⟩
  · rcases h.loc with hl | hl
    · rw [hl] at hk; exact h.er.namesT k hk
    · have := hl k hk; omega
  · rcases h.loc with hl | hl
    · refine h.er.grownN (hl ▸ hg) ?_
      have h1 := h.row
      rw [hl2] at h1
      have h2 : StrsIn X' v acc := r2
      rw [hl2] at h2
      exact strs_pre h.er.names h1 hl h2
    · refine h.er.keep hg.size (fun k hk => hg.block k (h.er.lt k hk) (fun e => ?_)) (fun k c t ht hc => hg.block k (Array.getElem?_eq_some_iff.1 hc).1 (fun e => ?_))
      · have := hl k e.symm
        have := hT k hk
        omega
      · obtain ⟨c', hc'⟩ := own_cells h.row e.symm
        rw [hc] at hc'; cases hc'
        rcases ht with ht | ht | ht <;> cases ht
  · unfold seenL
    split
    · exact ⟨l2, hl2⟩
    · exact ⟨l2 ++ [x], by rw [hl2, List.append_assoc]⟩
  · have hz := h.chg.size
    rcases hv with hv | hv
    · rw [hv]; exact h.loc
    · right; intro k hk; have := hv k hk; omega
theorem AdSt.keep {W : World} {T : Nat → Prop} {b : Nat} {y : Er} {vr vf vn vs vd : Value} {qs : List (Rl × Value × Value)} {fs : List ((Gr × Int × Bool) × Value)} {ss : List (Gr × Value)} {ds : List (Fr × Value × Value)} {X X' : World} {v : Value} {acc : List ByteArray} (h : AdSt W T b y vr vf vn vs vd qs fs ss ds X v acc) (hb : Below X.heap.size X X') : AdSt W T b y vr vf vn vs vd qs fs ss ds X' v acc :=
  ⟨h.chg.trans (Chg.ofBelow _ hb), h.er.below hb, h.row.below hb, h.pre, h.loc⟩
/-- A fact more. -/
theorem AdSt.inserted {W : World} {T : Nat → Prop} {b : Nat} {y : Er} {vr vf vn vs vd : Value} {qs : List (Rl × Value × Value)} {fs : List ((Gr × Int × Bool) × Value)} {ss : List (Gr × Value)} {ds : List (Fr × Value × Value)} {X X3 : World} {v vg v2 : Value} {acc : List ByteArray} (h : AdSt W T b y vr vf vn vs vd qs fs ss ds X v acc) (hT : ∀ k, T k → k < W.heap.size) (g : Gr) (t : Int) (hvg : StrsIn X vg g.args) (hvgl : ∀ k, vg.ownBlock = some k → W.heap.size ≤ k) (hne : ∀ k, v.ownBlock = some k → vg.ownBlock ≠ some k) (O : Obj)
    (hg : ((X.setCell ⟨b, 7, none⟩ v).alloc O).grownBy X3 vf.ownBlock) (ho : X3.ownsRow 0 233 4 v2 (fs.length + 1) (fs.flatMap fcC ++ fcC ((g, t, false), vg))) (hat : v2.ownBlock = vf.ownBlock ∨ v2.ownBlock = some ((X.setCell ⟨b, 7, none⟩ v).alloc O).heap.size) :
    X3.cell? ⟨b, 6, none⟩ = some vf ∧ X3.frozen? ⟨b, 6, none⟩ = false ∧ ErPost T b { y with names := acc, facts := y.facts ++ [(g, t, false)] } W (X3.setCell ⟨b, 6, none⟩ v2) := by
  have hE := h.er
  have hbX := hE.lt b hE.own
  have hbf : vf.ownBlock ≠ some b := fun e => by
    obtain ⟨c, hc⟩ := own_cells hE.facts e
    rw [hE.box] at hc; cases hc
  have hz1 : (X.setCell ⟨b, 7, none⟩ v).heap.size = X.heap.size := by simp
  have hz2 : ((X.setCell ⟨b, 7, none⟩ v).alloc O).heap.size = X.heap.size + 1 := by simp
  have hz3 := hg.size
  have h1 : (X.setCell ⟨b, 7, none⟩ v).heap[b]? = some (Obj.cells #[vr, .int .i64 y.win, .int .i64 y.lat, .int .i64 y.que, .int .i64 y.clock, .int .i64 y.mark, vf, v, vs, vd] 222 (0, 0)) := heap_set hE.box 7 v
  have h3 : X3.heap[b]? = some (Obj.cells #[vr, .int .i64 y.win, .int .i64 y.lat, .int .i64 y.que, .int .i64 y.clock, .int .i64 y.mark, vf, v, vs, vd] 222 (0, 0)) :=
    ((hg.block b (by omega) (fun e => hbf e.symm)).trans (Below.heap_alloc _ _ b (by omega))).trans h1
  have hk3 : ∀ k, k < X.heap.size → k ≠ b → vf.ownBlock ≠ some k → X3.heap[k]? = X.heap[k]? := fun k hk hb hf =>
    ((hg.block k (by omega) (fun e => hf e.symm)).trans (Below.heap_alloc _ _ k (by omega))).trans (Below.heap_setCell X ⟨b, 7, none⟩ v k hb)
  have hz4 : (X3.setCell ⟨b, 6, none⟩ v2).heap.size = X3.heap.size := by simp
  have hk4 : ∀ k, k < X.heap.size → k ≠ b → vf.ownBlock ≠ some k → (X3.setCell ⟨b, 6, none⟩ v2).heap[k]? = X.heap[k]? := fun k hk hb hf => (Below.heap_setCell X3 ⟨b, 6, none⟩ v2 k hb).trans (hk3 k hk hb hf)
  have hty : ∀ (k : Nat) (c : Array Value) (u : TypeId), u ≠ 233 → u ≠ 222 → X.heap[k]? = some (Obj.cells c u (0, 0)) → (X3.setCell ⟨b, 6, none⟩ v2).heap[k]? = X.heap[k]? := fun k c u hu1 hu2 hc => hk4 k (Array.getElem?_eq_some_iff.1 hc).1 (fun e => by subst e; rw [hE.box] at hc; cases hc; exact hu2 rfl) (fun e => by
    obtain ⟨c', hc'⟩ := own_cells hE.facts e
    rw [hc] at hc'; cases hc'; exact hu1 rfl)
  have hrow : ∀ {B U m n : Nat} {u : Value} {xs : List Value}, U ≠ 233 → U ≠ 222 → X.ownsRow B U m u n xs → (X3.setCell ⟨b, 6, none⟩ v2).ownsRow B U m u n xs := fun hU hU2 ho => own_keep ho (fun g hg' _ => by
    obtain ⟨c, hc⟩ := own_cells ho hg'
    exact hty g c _ hU hU2 hc)
  have hrc : ∀ {v : Value} {l : List Rc}, RcIn X v l → RcIn (X3.setCell ⟨b, 6, none⟩ v2) v l := fun {v l} hr => by
    refine hr.keep (fun g hg' => ?_)
    rcases hr with ⟨rfl, _⟩ | ⟨g', off, cap, cur, rfl, h2, _⟩
    · cases hg'
    · cases hg'
      exact hty g' cur _ (by decide) (by decide) h2
  have hcz := h.chg.size
  have h4 : (X3.setCell ⟨b, 6, none⟩ v2).heap[b]? = some (Obj.cells #[vr, .int .i64 y.win, .int .i64 y.lat, .int .i64 y.que, .int .i64 y.clock, .int .i64 y.mark, v2, v, vs, vd] 222 (0, 0)) := heap_set h3 6 v2
  have hchg : Chg W (X3.setCell ⟨b, 6, none⟩ v2) T := by
    refine Chg.setCell ((((h.chg.setCell ⟨b, 7, none⟩ v (fun _ => hE.own)).alloc O)).grown hg (fun k hk hlt => hE.factsT k hk)) ⟨b, 6, none⟩ v2 (fun _ => hE.own)
  have hnew : ∀ (u : Value) {B U m n : Nat} {xs : List Value}, (X3.setCell ⟨b, 6, none⟩ v2).ownsRow B U m u n xs → (∀ k, u.ownBlock = some k → T k ∨ W.heap.size ≤ k) → ∀ k, u.ownBlock = some k → TNew T W (X3.setCell ⟨b, 6, none⟩ v2) k := fun u _ _ _ _ _ hu hl k hk => by
    rcases hl k hk with h5 | h5
    · exact .inl h5
    · obtain ⟨c, hc⟩ := own_cells hu hk
      exact .inr ⟨h5, (Array.getElem?_eq_some_iff.1 hc).1⟩
  have ho4 : (X3.setCell ⟨b, 6, none⟩ v2).ownsRow 0 233 4 v2 (fs.length + 1) (fs.flatMap fcC ++ fcC ((g, t, false), vg)) := owns_set ho ⟨b, 6, none⟩ v2 (fun g' hg' e => by
    obtain ⟨c, hc⟩ := own_cells ho hg'
    have e' : g' = b := e
    rw [e', h3] at hc; cases hc)
  have hvg4 : StrsIn (X3.setCell ⟨b, 6, none⟩ v2) vg g.args := hrow (by decide) (by decide) hvg
  have hn4 : StrsIn (X3.setCell ⟨b, 6, none⟩ v2) v acc := hrow (by decide) (by decide) h.row
  refine ⟨by simp [World.cell?, h3], by simp [World.frozen?, h3], TNew.post ⟨vr, v2, v, vs, vd, qs, fs ++ [((g, t, false), vg)], ss, ds, ⟨h4, .inl hE.own, TNew.lt hT hchg.size, h.er.rules.keep (fun k c u ht hc => hty k c u (by rcases ht with rfl | rfl | rfl <;> decide) (by rcases ht with rfl | rfl | rfl <;> decide) hc), hE.rsm, ?_, ?_, ?_, ?_, hn4, ?_, ⟨hrow (by decide) (by decide) hE.state.row, fun p hp => hrow (by decide) (by decide) (hE.state.each p hp)⟩, fun g hg => .inl (hE.stateT g hg), hE.statem, fun p hp g hg => .inl (hE.statee p hp g hg), hrow (by decide) (by decide) hE.feeds, fun g hg => .inl (hE.feedsT g hg), hE.feedsm, fun p hp => ⟨⟨hrc (hE.feede p hp).1.1, fun g hg => .inl ((hE.feede p hp).1.2 g hg)⟩, hrc (hE.feede p hp).2.1, fun g hg => .inl ((hE.feede p hp).2.2 g hg)⟩, ?_, hE.sepQ⟩⟩ hchg⟩
  · rw [List.length_append, List.flatMap_append]
    simpa using ho4
  · refine hnew v2 ho4 (fun k hk => ?_)
    rcases hat with e | e
    · rw [e] at hk; exact .inl (hE.factsT k hk)
    · rw [e] at hk; cases hk; right; omega
  · show _ = y.facts ++ _
    rw [List.map_append, hE.factsm]; rfl
  · intro p hp
    rcases List.mem_append.1 hp with hp | hp
    · exact ⟨hrow (by decide) (by decide) (hE.facte p hp).1, fun g hg => .inl ((hE.facte p hp).2 g hg)⟩
    · simp only [List.mem_cons, List.not_mem_nil, or_false] at hp
      subst hp
      exact ⟨hvg4, hnew vg hvg4 (fun k hk => .inr (hvgl k hk))⟩
  · refine hnew v hn4 (fun k hk => ?_)
    rcases h.loc with e | e
    · rw [e] at hk; exact .inl (hE.namesT k hk)
    · exact .inr (e k hk)
  · intro k hk
    have hold : ∀ u : Value, (∀ g, u.ownBlock = some g → T g) → (∀ g, vn.ownBlock = some g → u.ownBlock ≠ some g) → u.ownBlock ≠ some k := fun u h5 h6 e => by
      rcases h.loc with hl | hl
      · rw [hl] at hk; exact h6 k hk e
      · have := hl k hk; have := hT k (h5 k e); omega
    refine ⟨fun p hp => ?_, fun p hp => hold p.2 (hE.statee p hp) (fun g hg => (hE.sepN g hg).2 p hp)⟩
    rcases List.mem_append.1 hp with hp | hp
    · exact hold p.2 (hE.facte p hp).2 (fun g hg => (hE.sepN g hg).1 p hp)
    · simp only [List.mem_cons, List.not_mem_nil, or_false] at hp
      subst hp
      exact hne k hk
/-- What Insert does. -/
def insD (y : Er) (s : ByteArray) (t : Int) : Int × Er :=
  match oneD s with
  | none => (2, y)
  | some a => match fixedG a with
    | none => (2, y)
    | some g =>
      if basicB y.rs a.rel = false then (7, y)
      else if arityL (amsR y.rs) a.rel ≠ a.args.length then (4, y)
      else if ¬ (0 ≤ t ∧ t ≤ 1000000) then (6, y)
      else if t + y.win ≤ y.mark then (8, y)
      else if y.facts.any (fun f => sameG f.1 g && decide (f.2.1 = t)) = true then (9, y)
      else if 24 ≤ y.facts.length ∨ 8 < (addL y.names g.args).length then (10, y)
      else (0, { y with names := addL y.names g.args, facts := y.facts ++ [(g, t, false)] })

end Go.Proofs.YtjajnhemgphefaaGreatDoor
