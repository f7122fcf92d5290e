/-
  The document's own engine: until when something holds.
  An engine is made, or refused: the document's own answer.
  The document's own engine: its box is written.
-/
import Derived.Test.YtjajnhemgphefaaGreatDoorJWyO
import Derived.Test.YtjajnhemgphefaaGreatDoorJRules
import Derived.Test.YtjajnhemgphefaaGreatDoorJWyQ
namespace Go.Proofs.YtjajnhemgphefaaGreatDoor
open Go.RowKit Go.Shelf
set_option linter.unusedVariables false
set_option linter.unusedSimpArgs false

/-- Rules and facts of which Least can be reckoned. -/
structure ErFine (y : Er) : Prop where
  fine : RsFine y.rs y.names
  gr : ∀ f ∈ y.facts, GrOk y.rs y.names f.1
  st : ∀ g ∈ y.state, GrOk y.rs y.names g
theorem gr_two {R : List Rl} {Nm : List ByteArray} (h : RsFine R Nm) {g : Gr} (hg : GrOk R Nm g) : g.args.length ≤ 2 := by
  obtain ⟨a, ha, _, h2⟩ := hg.rel
  obtain ⟨r, hr, ha'⟩ := List.mem_flatMap.1 ha
  have := ((h.each r hr).args a ha').1
  omega
/-- What Until tells. -/
def UntD (y : Er) (s : ByteArray) (r : Int × Int) : Prop :=
  match oneD s with
  | none => r = (0, 2)
  | some a => match fixedG a with
    | none => r = (0, 2)
    | some g => if askedE y.rs a ≠ 0 then r = (0, askedE y.rs a) else if inG y.state g = false then r = (0, 0)
      else ∃ P : Int → Bool, (∀ t, P t = true ↔ Dv y.rs (begG y.win y.facts t) g) ∧ r = (bestR P 2000000 ((y.facts.filter (fun f => f.2.2)).map (fun f => f.2.1 + y.win)), 0)

/-- The facts that last beyond an end, where their rows lie. -/
def leftsF (win en : Int) (l : List ((Gr × Int × Bool) × Value)) : List (Gr × Value) := (l.filter (fun f => f.1.2.2 && decide (en < f.1.2.1 + win))).map (fun f => (f.1.1, f.2))
theorem leftsF_len (win en : Int) (l : List ((Gr × Int × Bool) × Value)) : (leftsF win en l).length ≤ l.length := by unfold leftsF; rw [List.length_map]; exact List.length_filter_le _ _
theorem leftsF_take (win en : Int) (l : List ((Gr × Int × Bool) × Value)) {k : Nat} (h : k < l.length) : leftsF win en (l.take (k + 1)) = leftsF win en (l.take k) ++ (if (l[k].1.2.2 && decide (en < l[k].1.2.1 + win)) = true then [(l[k].1.1, l[k].2)] else []) := by
  unfold leftsF
  rw [List.take_succ_eq_append_getElem h, List.filter_append, List.map_append]
  congr 1
  by_cases hb : (l[k].1.2.2 && decide (en < l[k].1.2.1 + win)) = true
  · rw [if_pos hb, List.filter_cons, if_pos hb]; rfl
  · rw [if_neg hb, List.filter_cons, if_neg hb]; rfl

set_option maxRecDepth 100000 in
set_option maxHeartbeats 4000000 in
theorem untilD_any {W : World} {T : Nat → Prop} {b : Nat} {y : Er} {vr vf vn vs vd : Value} {qs : List (Rl × Value × Value)} {fs : List ((Gr × Int × Bool) × Value)} {ss : List (Gr × Value)} {ds : List (Fr × Value × Value)} (h : ErAt W T b y vr vf vn vs vd qs fs ss ds) (hz : ErSz y) (hfi : ErFine y) (s : ByteArray) (hs : s.size ≤ 1048576) :
    Calls Tryz.prog 69 #[.pointer (some ⟨b, 0, none⟩), .string s] W fun e w' => (∃ r, UntD y s r ∧ e = .returned (.tuple #[.int .i64 r.1, .int .i64 r.2])) ∧ Below W.heap.size W w' := by
  obtain ⟨va, vc, hvr⟩ := own_form h.rules.row
  obtain ⟨fa, fc, hvf⟩ := own_form h.facts
  obtain ⟨sa, sc, hvs⟩ := own_form h.state.row
  subst hvr hvf hvs
  have hblt : b < W.heap.size := h.lt b h.own
  have hq : qs.length ≤ 1000 := by have := hz.r8; rw [← h.rsm, List.length_map] at this; omega
  have hqb : ∀ q ∈ qs, q.1.body.length ≤ 900 := fun q hq => by have := hz.body q.1 (by rw [← h.rsm]; exact List.mem_map.2 ⟨q, hq, rfl⟩); omega
  have hon : Hid _ := askedD_any h hq hqb s hs
  go_enter Tryz.func69, Tryz.ntmps69
  go_wp2_with fail
  refine Calls.mono hon.out ?_
  rintro e' W1 ⟨h1, hb1⟩
  obtain ⟨a, oa, oc, cc, he, hrA, hl2, hok1, hok0⟩ : ∃ (a : Am) (oa : Option Addr) (oc : Nat) (cc : Int), e' = .returned (.tuple #[.agg #[.string a.rel, .slice oa a.args.length oc], .int .i64 cc]) ∧ W1.ownsRow W.heap.size 215 2 (.slice oa a.args.length oc) a.args.length (a.args.flatMap tmC) ∧ a.args.length ≤ 2 ∧ (cc ≠ 2 → oneD s = some a ∧ cc = askedE y.rs a) ∧ (cc = 2 → oneD s = none) := by
    unfold AskedAns at h1
    cases ho : oneD s with
    | none =>
      rw [ho] at h1
      exact ⟨⟨⟨#[]⟩, []⟩, none, 0, 2, h1, World.ownsRow_nil _ _ _ _, by simp, fun h => absurd rfl h, fun _ => rfl⟩
    | some a =>
      rw [ho] at h1
      obtain ⟨va', k1, k2, k3, k4, k5, k6⟩ := h1
      obtain ⟨oa, oc, rfl⟩ := own_form k2
      refine ⟨a, oa, oc, _, k1, k2, k3, fun _ => ⟨rfl, rfl⟩, fun h => ?_⟩
      unfold askedE at h
      split at h
      · cases h
      · split at h <;> cases h
  subst he
  have HB1 : Hid (Below W.heap.size W W1) := hb1
  obtain ⟨N, hN⟩ : ∃ N, W.heap.size = N := ⟨_, rfl⟩
  obtain ⟨V, hV⟩ : ∃ V, W1.alloc (.cells #[.string a.rel, .slice oa a.args.length oc] 145) = V := ⟨_, rfl⟩
  have hbV : Below N W V := by rw [← hV, ← hN]; exact hb1.alloc hb1.size _
  have hVM : V.heap[W1.heap.size]? = some (Obj.cells #[.string a.rel, .slice oa a.args.length oc] 145 (0, 0)) := by rw [← hV]; exact World.alloc_heap_new W1 _
  have hrV : V.ownsRow N 215 2 (.slice oa a.args.length oc) a.args.length (a.args.flatMap tmC) := by rw [← hV, ← hN]; exact hrA.alloc _
  have hfx : Hid _ := fixed_any (a, .slice oa a.args.length oc) V (own_down hrV (Nat.zero_le _)) (by show a.args.length ≤ 1000; omega)
  have HV : Hid (Below N W V) := hbV
  have v0 : V.cell? ⟨W1.heap.size, 0, none⟩ = some (.string a.rel) := by simp [World.cell?, hVM]
  have v1 : V.cell? ⟨W1.heap.size, 1, none⟩ = some (.slice oa a.args.length oc) := by simp [World.cell?, hVM]
  clear hon h1 hb1 hrA hrV hbV hVM
  go_wp2_with fail
  refine Calls.mono hfx.out ?_
  clear hfx v0 v1
  rintro e' W2 ⟨h2, hb2⟩
  obtain ⟨g, ga, gc, fb, he, hrG, hf1, hf0⟩ : ∃ (g : Gr) (ga : Option Addr) (gc : Nat) (fb : Bool), e' = .returned (.tuple #[.agg #[.string g.rel, .slice ga g.args.length gc], .bool fb]) ∧ W2.ownsRow V.heap.size 9 1 (.slice ga g.args.length gc) g.args.length (g.args.map Value.string) ∧ (fb = true → fixedG a = some g) ∧ (fb = false → fixedG a = none) := by
    unfold FixedAns at h2
    cases ho : fixedG a with
    | none =>
      simp only [ho] at h2
      exact ⟨⟨⟨#[]⟩, []⟩, none, 0, false, h2, World.ownsRow_nil _ _ _ _, fun h => (by cases h), fun _ => rfl⟩
    | some g =>
      simp only [ho] at h2
      obtain ⟨vg, k1, k2⟩ := h2
      obtain ⟨ga, gc, rfl⟩ := own_form k2
      exact ⟨g, ga, gc, true, k1, k2, fun _ => rfl, fun h => (by cases h)⟩
  subst he
  clear h2
  obtain ⟨X, hX⟩ : ∃ X, W2.alloc (.cells #[.string g.rel, .slice ga g.args.length gc] 226) = X := ⟨_, rfl⟩
  obtain ⟨NG, hNG⟩ : ∃ NG, W2.heap.size = NG := ⟨_, rfl⟩
  have hbX : Below V.heap.size V X := by rw [← hX]; exact hb2.alloc hb2.size _
  have hXW : Below N W X := HV.out.trans (hbX.mono (by have := HV.out.size; omega))
  have hXG : X.heap[NG]? = some (Obj.cells #[.string g.rel, .slice ga g.args.length gc] 226 (0, 0)) := by rw [← hX, ← hNG]; exact World.alloc_heap_new W2 _
  have hrX : X.ownsRow V.heap.size 9 1 (.slice ga g.args.length gc) g.args.length (g.args.map Value.string) := by rw [← hX]; exact hrG.alloc _
  have HX : Hid (∀ Y, Below X.heap.size X Y → Below N W Y ∧ ErAt Y T b y (.slice va qs.length vc) (.slice fa fs.length fc) vn (.slice sa ss.length sc) vd qs fs ss ds ∧ Y.cell? ⟨NG, 0, none⟩ = some (.string g.rel) ∧ Y.cell? ⟨NG, 1, none⟩ = some (.slice ga g.args.length gc) ∧ StrsIn Y (.slice ga g.args.length gc) g.args) := fun Y hY => by
    have h1 : Below N W Y := hXW.trans (hY.mono (by have := hXW.size; omega))
    have h2 := (hY.block _ (Array.getElem?_eq_some_iff.1 hXG).1).trans hXG
    exact ⟨h1, h.below (hN ▸ h1), by simp [World.cell?, h2], by simp [World.cell?, h2], own_down (own_below hrX hY) (Nat.zero_le _)⟩
  have hst : ss.length ≤ 2048 := by have := hz.st; rw [← h.statem, List.length_map] at this; exact this
  have hsa : ∀ p ∈ ss, p.1.args.length ≤ 1000000 := fun p hp => by
    have := gr_two hfi.fine (hfi.st p.1 (by rw [← h.statem]; exact List.mem_map.2 ⟨p, hp, rfl⟩)); omega
  have hIn : Hid (∀ Y, Below X.heap.size X Y → Calls Tryz.prog 122 #[.slice sa ss.length sc, .agg #[.string g.rel, .slice ga g.args.length gc]] Y fun e w' => e = .returned (.bool (inG y.state g)) ∧ (w'.cell? ⟨b, 8, none⟩ = some (.slice sa ss.length sc) ∧ w'.cell? ⟨NG, 0, none⟩ = some (.string g.rel) ∧ w'.cell? ⟨NG, 1, none⟩ = some (.slice ga g.args.length gc)) ∧ Hid (Below X.heap.size X w')) := fun Y hY => by
    obtain ⟨k1, k2, k3, k4, k5⟩ := HX.out Y hY
    refine (in_any _ ss (g, .slice ga g.args.length gc) Y k2.state k5 (by omega) hsa).mono ?_
    rintro e w' ⟨l1, l2⟩
    have l3 : Below X.heap.size X w' := hY.trans (l2.mono hY.size)
    obtain ⟨m1, m2, m3, m4, m5⟩ := HX.out w' l3
    rw [h.statem] at l1
    exact ⟨l1, ⟨by simp [World.cell?, m2.box], m3, m4⟩, l3⟩
  have HBX : Hid (∀ Y, Below X.heap.size X Y → Below W.heap.size W Y) := fun Y hY => hN ▸ (HX.out Y hY).1
  have HU : Hid (∀ r, (match oneD s with
    | none => r = (0, 2)
    | some a => match fixedG a with
      | none => r = (0, 2)
      | some g => if askedE y.rs a ≠ 0 then r = (0, askedE y.rs a) else if inG y.state g = false then r = (0, 0)
        else ∃ P : Int → Bool, (∀ t, P t = true ↔ Dv y.rs (begG y.win y.facts t) g) ∧ r = (bestR P 2000000 ((y.facts.filter (fun f => f.2.2)).map (fun f => f.2.1 + y.win)), 0)) → UntD y s r) := fun r hr => hr
  have HZ : Hid (ErSz y) := hz
  have HFI : Hid (ErFine y) := hfi
  have HH : Hid (ErAt W T b y (.slice va qs.length vc) (.slice fa fs.length fc) vn (.slice sa ss.length sc) vd qs fs ss ds) := h
  clear hXW hb2 hrG hbX hXG hrX hV HV HB1 h hz hfi hst hsa hqb
  obtain ⟨_, k2, n0, n1, _⟩ := HX.out X (Below.refl _ _)
  obtain ⟨_, k2', m0, m1, _⟩ := HX.out X.drew (Below.refl _ _).drew
  have c8 : X.drew.cell? ⟨b, 8, none⟩ = some (.slice sa ss.length sc) := by simp [World.cell?, k2'.box]
  have hInX := hIn.out X.drew (Below.refl _ _).drew
  clear k2 k2'
  by_cases hc2 : cc = 2
  · have hu : Hid (UntD y s (0, 2)) := HU.out _ (by rw [hok0 hc2])
    subst hc2
    clear HU
    go_wp2
    go_ret2
    exact ⟨⟨_, hu.out, rfl⟩, HBX.out _ (Below.refl _ _)⟩
  · obtain ⟨ho1, hcc⟩ := hok1 hc2
    have hc2' : (cc == 2) = false := by simpa using hc2
    cases fb with
    | false =>
      have hu : Hid (UntD y s (0, 2)) := HU.out _ (by rw [ho1]; simp only [hf0 rfl])
      clear HU
      go_wp2
      go_ret2
      exact ⟨⟨_, hu.out, rfl⟩, HBX.out _ (Below.refl _ _)⟩
    | true =>
      have hg1 := hf1 rfl
      by_cases hc0 : cc = 0
      · have HU2 : Hid (∀ r, (if inG y.state g = false then r = (0, 0) else ∃ P : Int → Bool, (∀ t, P t = true ↔ Dv y.rs (begG y.win y.facts t) g) ∧ r = (bestR P 2000000 ((y.facts.filter (fun f => f.2.2)).map (fun f => f.2.1 + y.win)), 0)) → UntD y s r) := fun r hr => HU.out _ (by rw [ho1]; simp only [hg1]; rw [if_neg (by rw [← hcc, hc0]; decide)]; exact hr)
        subst hc0
        clear HU hok1 hok0 hf1 hf0 ho1 hcc hc2 hc2'
        go_wp2_with fail
        first | (go_region_held3 (fun w' => w'.cell? ⟨b, 8, none⟩ = some (.slice sa ss.length sc) ∧ w'.cell? ⟨NG, 0, none⟩ = some (.string g.rel) ∧ w'.cell? ⟨NG, 1, none⟩ = some (.slice ga g.args.length gc)) (first | with_reducible exact ⟨c8, m0, m1⟩ | with_reducible assumption) (first | (go_at_call 122; refine Calls.mono hInX ?_; rintro e' W3 ⟨rfl, hcc, hb3⟩) | go_simp)) | fail
        clear hcc hInX hIn n0 n1 m0 m1 c8
        obtain ⟨ib, hib⟩ : ∃ ib, inG y.state g = ib := ⟨_, rfl⟩
        rw [hib] at HU2 ⊢
        clear hib
        cases ib with
        | false =>
          have hu : Hid (UntD y s (0, 0)) := HU2.out _ (by rw [if_pos rfl])
          clear HU2
          go_wp2
          go_ret2
          exact ⟨⟨_, hu.out, rfl⟩, HBX.out _ hb3.out⟩
        | true =>
          obtain ⟨P, hP⟩ : ∃ P : Int → Bool, ∀ t, P t = true ↔ Dv y.rs (begG y.win y.facts t) g := ⟨fun t => @decide (Dv y.rs (begG y.win y.facts t) g) (Classical.propDecidable _), fun t => by simp⟩
          have HU3 : Hid (UntD y s (bestR P 2000000 (((fs.drop 0).filter (fun f => f.1.2.2)).map (fun f => f.1.2.1 + y.win)), 0)) := HU2.out _ (by
            rw [if_neg (by decide)]
            refine ⟨P, hP, ?_⟩
            rw [← HH.out.factsm, List.filter_map, List.map_map]; rfl)
          have HP : Hid (∀ t, P t = true ↔ Dv y.rs (begG y.win y.facts t) g) := hP
          have hwin := HZ.out.win
          have hfl24 : fs.length ≤ 24 := by have := HZ.out.f24; rw [← HH.out.factsm, List.length_map] at this; exact this
          have HF : Hid (∀ Y, Below X.heap.size X Y → ∀ (k : Nat) (hk : k < fs.length), ∃ (gf : Nat) (u1 : Option Addr) (u2 : Nat), fa = some ⟨gf, 0, none⟩ ∧ fs[k].2 = .slice u1 fs[k].1.1.args.length u2 ∧ Y.cell? ⟨gf, k * 4, none⟩ = some (.string fs[k].1.1.rel) ∧ Y.cell? ⟨gf, k * 4 + 1, none⟩ = some (.slice u1 fs[k].1.1.args.length u2) ∧ Y.cell? ⟨gf, k * 4 + 2, none⟩ = some (.int .i64 fs[k].1.2.1) ∧ Y.cell? ⟨gf, k * 4 + 3, none⟩ = some (.bool fs[k].1.2.2) ∧ 0 ≤ fs[k].1.2.1 ∧ fs[k].1.2.1 ≤ 1000000) := fun Y hY k hk => by
            obtain ⟨_, h2, _⟩ := HX.out Y hY
            obtain ⟨gf, cap, e1, _, _, _, e2⟩ := own_get h2.facts (fun _ => rfl) (by omega)
            obtain ⟨s1, _⟩ := h2.facte fs[k] (List.getElem_mem hk)
            obtain ⟨u1, u2, e3⟩ := own_form s1
            have hz1 := (HZ.out.facts fs[k].1 (by rw [← h2.factsm]; exact List.mem_map.2 ⟨_, List.getElem_mem hk, rfl⟩)).2
            have e4 := e2 k 1 hk _ (by decide) rfl
            rw [e3] at e4
            simp only [Value.slice.injEq] at e1
            exact ⟨gf, u1, u2, e1.1, e3, e2 k 0 hk _ (by decide) rfl, e4, e2 k 2 hk _ (by decide) rfl, e2 k 3 hk _ (by decide) rfl, hz1⟩
          have HC : Hid (∀ Y, Below X.heap.size X Y → Y.cell? ⟨b, 6, none⟩ = some (.slice fa fs.length fc) ∧ Y.cell? ⟨b, 1, none⟩ = some (.int .i64 y.win)) := fun Y hY => by
            obtain ⟨_, h2, _⟩ := HX.out Y hY
            exact ⟨by simp [World.cell?, h2.box], by simp [World.cell?, h2.box]⟩
          obtain ⟨R0, hR0⟩ : ∃ R0, bestR P 2000000 (((fs.drop 0).filter (fun f => f.1.2.2)).map (fun f => f.1.2.1 + y.win)) = R0 := ⟨_, rfl⟩
          rw [hR0] at HU3
          have h0 : Hid (bestR P 2000000 (((fs.drop 0).filter (fun f => f.1.2.2)).map (fun f => f.1.2.1 + y.win)) = R0) := hR0
          clear hR0 HU2 hP
          go_wp2_with fail
          go_loopw [11, 12] (fun o p wr => ∃ (i : Nat) (bst : Int), o = .int .i64 bst ∧ p = .int .i64 i ∧ i ≤ fs.length ∧ 0 ≤ bst ∧ bst ≤ 2000000 ∧ Hid (Below X.heap.size X wr) ∧ Hid (bestR P bst (((fs.drop i).filter (fun f => f.1.2.2)).map (fun f => f.1.2.1 + y.win)) = R0)) (fun _ p _ => fs.length - (intOf p).toNat)
          case atStart => exact ⟨0, 2000000, rfl, rfl, Nat.zero_le _, by decide, by decide, hb3, h0⟩
          case round =>
            clear h0 hb3
            obtain ⟨i, bst, rfl, rfl, hle, hbl, hbh, hbw, hbest⟩ := hrel
            obtain ⟨c6, c1⟩ := HC.out wr hbw.out
            by_cases hlt : i < fs.length
            · have i1 : (i : Int) < (fs.length : Int) := by omega
              obtain ⟨gf, u1, u2, hfa, e3, f0, f1, f2, f3, ht0, ht1⟩ := HF.out wr hbw.out i hlt
              rw [List.drop_eq_getElem_cons hlt] at hbest
              obtain ⟨tm, htm⟩ : ∃ tm, fs[i].1.2.1 = tm := ⟨_, rfl⟩
              obtain ⟨bg, hbg⟩ : ∃ bg, fs[i].1.2.2 = bg := ⟨_, rfl⟩
              rw [htm] at f2 ht0 ht1
              rw [hbg] at f3
              rw [List.filter_cons, hbg] at hbest
              have hTM : Hid (fs[i].1.2.1 = tm) := htm
              clear htm hbg e3 f0 f1
              subst hfa
              go_wp2_with fail
              go_quiet (fail)
              have hbq : Hid (Below X.heap.size X (wr.drewN nq)) := below_drewN hbw.out
              have c6q : (wr.drewN nq).cell? ⟨b, 6, none⟩ = some (.slice (some ⟨gf, 0, none⟩) fs.length fc) := c6
              have f3q : (wr.drewN nq).cell? ⟨gf, i * 4 + 3, none⟩ = some (.bool bg) := f3
              generalize wr.drewN nq = wq at *
              clear c6 f2 f3 hbw c1
              by_cases hsk : bg = true ∧ tm + y.win < bst
              · obtain ⟨rfl, hlt2⟩ := hsk
                have hge : ¬ bst ≤ tm + y.win := by omega
                rw [if_pos rfl, List.map_cons] at hbest
                obtain ⟨en, hen⟩ : ∃ en, tm + y.win = en := ⟨_, rfl⟩
                have hbest2 : Hid (bestR P (if P en = true then bst else en) (((fs.drop (i + 1)).filter (fun f => f.1.2.2)).map (fun f => f.1.2.1 + y.win)) = R0) := by
                  have h5 := hbest.out
                  unfold bestR at h5
                  rw [hTM.out, if_neg hge, hen] at h5
                  exact h5
                have HEN : Hid (tm + y.win = en) := hen
                have hen0 : 0 ≤ en ∧ en ≤ 1001000 := by omega
                obtain ⟨M, hM⟩ : ∃ M, wq.heap.size = M := ⟨_, rfl⟩
                have h00 : Hid (Below X.heap.size X wq ∧ M ≤ wq.heap.size ∧ wq.ownsRow M 226 2 (.slice none 0 0) (leftsF y.win en (fs.take 0)).length ((leftsF y.win en (fs.take 0)).flatMap gdC)) := ⟨hbq.out, by omega, World.ownsRow_nil _ _ _ _⟩
                obtain ⟨i0, hi, hz0, hz1, hz2⟩ := info_parts Tryz.infoGround
                have HXM : Hid (X.heap.size ≤ M) := by have := hbq.out.size; show _ ≤ _; omega
                clear hM hbest
                go_wp2_with fail
                go_loopw [14, 15] (fun o p wr => ∃ (k : Nat) (vl : Value), vl = o ∧ p = .int .i64 k ∧ k ≤ fs.length ∧ Hid (Below X.heap.size X wr ∧ M ≤ wr.heap.size ∧ wr.ownsRow M 226 2 vl (leftsF y.win en (fs.take k)).length ((leftsF y.win en (fs.take k)).flatMap gdC))) (fun _ p _ => fs.length - (intOf p).toNat)
                case atStart => exact ⟨0, _, rfl, rfl, Nat.zero_le _, h00⟩
                case round =>
                  clear h00 c6q f3q hlt2 hge hbq
                  obtain ⟨k, vl, rfl, rfl, hkle, hLf⟩ := hrel
                  obtain ⟨la, lc, hvl⟩ := owns_form hLf.out.2.2
                  subst hvl
                  obtain ⟨d6, d1⟩ := HC.out wr hLf.out.1
                  have hll := leftsF_len y.win en (fs.take k)
                  rw [List.length_take] at hll
                  by_cases hkl : k < fs.length
                  · have k1 : (k : Int) < (fs.length : Int) := by omega
                    obtain ⟨gf', v1, v2, hfa', e3, f0, f1, f2, f3, ht0', ht1'⟩ := HF.out wr hLf.out.1 k hkl
                    cases hfa'
                    have htk := leftsF_take y.win en fs hkl
                    rw [e3] at htk
                    obtain ⟨gk, hgk⟩ : ∃ gk, fs[k].1.1 = gk := ⟨_, rfl⟩
                    obtain ⟨tk, htk'⟩ : ∃ tk, fs[k].1.2.1 = tk := ⟨_, rfl⟩
                    obtain ⟨bk, hbk⟩ : ∃ bk, fs[k].1.2.2 = bk := ⟨_, rfl⟩
                    rw [hgk, htk', hbk] at htk
                    rw [hgk] at f0 f1
                    rw [htk'] at f2 ht0' ht1'
                    rw [hbk] at f3
                    have HTK : Hid _ := htk
                    clear htk hgk htk' hbk e3
                    generalize leftsF y.win en (fs.take k) = acc at *
                    have hup : Hid (∀ q, Below X.heap.size X (wr.drewN q) ∧ M ≤ (wr.drewN q).heap.size ∧ (wr.drewN q).ownsRow M 226 2 (.slice la acc.length lc) acc.length (acc.flatMap gdC)) := fun q => ⟨below_drewN hLf.out.1, hLf.out.2.1, hLf.out.2.2⟩
                    by_cases hin : bk = true ∧ en < tk + y.win
                    · obtain ⟨rfl, hin2⟩ := hin
                      go_wp2_with fail
                      go_quiet (fail)
                      have hq2 : Hid _ := hup.out nq
                      have c6q : (wr.drewN nq).cell? ⟨b, 6, none⟩ = some (.slice (some ⟨gf, 0, none⟩) fs.length fc) := d6
                      have f0q : (wr.drewN nq).cell? ⟨gf, k * 4, none⟩ = some (.string gk.rel) := f0
                      have f1q : (wr.drewN nq).cell? ⟨gf, k * 4 + 1, none⟩ = some (.slice v1 gk.args.length v2) := f1
                      have hin3 : (true && decide (en < tk + y.win)) = true := by simp [hin2]
                      rw [if_pos hin3] at HTK
                      generalize wr.drewN nq = wd at *
                      clear hup hLf d6 d1 f0 f1 f2 f3
                      have hkr : Hid (wd.ownsRow M 226 2 (.slice la acc.length lc) acc.length (acc.flatMap gdC)) := hq2.out.2.2
                      have hcz : Hid (∀ O, M ≤ (wd.alloc O).heap.size) := fun O => by have := hq2.out.2.1; simp; omega
                      have hnew : Hid (∀ (Y : World) (v' : Value) (O : Obj), (wd.alloc O).grownBy Y (Value.slice la acc.length lc).ownBlock → Y.ownsRow M 226 2 v' (acc.length + 1) (acc.flatMap gdC ++ [.string gk.rel, .slice v1 gk.args.length v2]) → Below X.heap.size X Y ∧ M ≤ Y.heap.size ∧ Y.ownsRow M 226 2 v' (leftsF y.win en (fs.take (k + 1))).length ((leftsF y.win en (fs.take (k + 1))).flatMap gdC)) := fun Y v' O hg ho => by
                        have hz4 : M ≤ (wd.alloc O).heap.size := hcz.out O
                        refine ⟨(hq2.out.1.alloc hq2.out.1.size O).grown hg (by have := hq2.out.1.size; simp; omega) (fun q e => by have h5 := (owns_block hq2.out.2.2 e).1; have := HXM.out; omega), Nat.le_trans hz4 hg.size, ?_⟩
                        rw [HTK.out, List.length_append, List.flatMap_append]
                        exact ho
                      clear hq2
                      go_wp2_with (at_builtin; refine wpList_append_own _ rfl _ _ 217 rfl M 226 i0 _ 2 40 Tryz.underlying217 hi hz0 hz1 hz2 rfl (by decide) _ acc.length (acc.flatMap gdC) rfl (hkr.out.alloc _) ⟨wd.heap.size, 0, none⟩ 1 _ [.string gk.rel, .slice v1 gk.args.length v2] rfl rfl (two_new _ _ _ _) (by simp [Value.oneCell']) (by unfold maxLen; omega) (by omega) (hcz.out _) ?_; intro vx' w1 ho1 hg1 _; have HW1 : Hid _ := hnew.out _ _ _ hg1 ho1; clear ho1 hg1)
                      refine ⟨⟨k + 1, vx', rfl, by go_num, by omega, HW1⟩, by simp [intOf]; omega⟩
                    · have hno : (bk && decide (en < tk + y.win)) = false := by
                        cases bk with
                        | false => rfl
                        | true => simpa using hin
                      have hnx : Hid (∀ q, Below X.heap.size X (wr.drewN q) ∧ M ≤ (wr.drewN q).heap.size ∧ (wr.drewN q).ownsRow M 226 2 (.slice la acc.length lc) (leftsF y.win en (fs.take (k + 1))).length ((leftsF y.win en (fs.take (k + 1))).flatMap gdC)) := fun q => by
                        have h5 := HTK.out
                        rw [hno, if_neg (by decide), List.append_nil] at h5
                        rw [h5]; exact hup.out q
                      cases bk with
                      | false =>
                        clear hno hin HTK hup hLf
                        go_wp2_with fail
                        go_quiet (fail)
                        have HW1 : Hid _ := hnx.out nq
                        go_wp2
                        refine ⟨⟨k + 1, _, rfl, by go_num, by omega, HW1⟩, by simp [intOf]; omega⟩
                      | true =>
                        have hin2 : ¬ en < tk + y.win := by simpa using hin
                        clear hno hin HTK hup hLf
                        go_wp2_with fail
                        go_quiet (fail)
                        have HW1 : Hid _ := hnx.out nq
                        go_wp2
                        refine ⟨⟨k + 1, _, rfl, by go_num, by omega, HW1⟩, by simp [intOf]; omega⟩
                  · have k1 : ¬ (k : Int) < (fs.length : Int) := by omega
                    rw [List.take_of_length_le (by omega)] at hLf hll ⊢
                    obtain ⟨_, hEw, _, _, _⟩ := HX.out wr hLf.out.1
                    have d0 : wr.cell? ⟨b, 0, none⟩ = some (.slice va qs.length vc) := by simp [World.cell?, hEw.box]
                    have hgds : GdsIn wr (.slice la (leftsF y.win en fs).length lc) (leftsF y.win en fs) := ⟨own_down hLf.out.2.2 (Nat.zero_le _), fun p hp => by
                      unfold leftsF at hp
                      obtain ⟨f, hf, rfl⟩ := List.mem_map.1 hp
                      exact (hEw.facte f (List.mem_filter.1 hf).1).1⟩
                    have hbeg : (leftsF y.win en fs).map (·.1) = begG y.win y.facts en := by
                      unfold leftsF begG
                      rw [← hEw.factsm, List.filter_map, List.map_map, List.map_map]; rfl
                    have hLe : Hid _ := leastD_any qs (leftsF y.win en fs) y.names (.slice va qs.length vc) (.slice la (leftsF y.win en fs).length lc) wr hEw.rules hgds hq (by omega) (by rw [hEw.rsm]; exact HFI.out.fine) (fun p hp => by
                      rw [hEw.rsm]
                      unfold leftsF at hp
                      obtain ⟨f, hf, rfl⟩ := List.mem_map.1 hp
                      exact HFI.out.gr f.1 (by rw [← hEw.factsm]; exact List.mem_map.2 ⟨f, (List.mem_filter.1 hf).1, rfl⟩))
                    have HBG : Hid _ := hbeg
                    have HRS : Hid (qs.map (·.1) = y.rs) := hEw.rsm
                    have HBW : Hid (Below X.heap.size X wr) := hLf.out.1
                    clear hgds hbeg hEw hLf
                    go_wp2_with fail
                    refine Calls.mono hLe.out ?_
                    clear hLe
                    rintro e' W5 ⟨vm, hs2, rfl, hL5, hI5⟩
                    obtain ⟨ma, mc, hvm⟩ := owns_form hL5.row
                    subst hvm
                    have hb5 : Below X.heap.size X W5 := HBW.out.trans (hL5.below.mono HBW.out.size)
                    obtain ⟨_, _, n0, n1, hSg⟩ := HX.out W5 hb5
                    rw [HRS.out, HBG.out] at hI5
                    have hin5 : Hid _ := in_any (.slice ma hs2.length mc) hs2 (g, .slice ga g.args.length gc) W5 hL5.gds hSg (by have := hI5.1.few HFI.out.fine; rw [List.length_map] at this; omega) (fun p hp => by
                      have := gr_two HFI.out.fine (hI5.1.ok p.1 (List.mem_map.2 ⟨p, hp, rfl⟩)); omega)
                    have hsb : Hid (inG (hs2.map (·.1)) g = P en) := by
                      show _ = _
                      rw [Bool.eq_iff_iff, inG_iff, HP.out, hI5.2]
                    have HB5 : Hid (Below X.heap.size X W5) := hb5
                    clear hL5 hI5 hb5 hSg
                    go_wp2_with fail
                    refine Calls.mono hin5.out ?_
                    clear hin5
                    rintro e' W6 ⟨rfl, hb6⟩
                    have hb6' : Hid (Below X.heap.size X W6) := HB5.out.trans (hb6.mono HB5.out.size)
                    simp only [hsb.out]
                    clear hsb hb6 n0 n1
                    cases hpe : P en with
                    | true =>
                      rw [hpe, if_pos rfl] at hbest2
                      clear hpe
                      go_wp2
                      refine ⟨⟨i + 1, bst, rfl, by go_num, by omega, hbl, hbh, hb6', hbest2⟩, by simp [intOf]; omega⟩
                    | false =>
                      rw [hpe, if_neg (by decide)] at hbest2
                      clear hpe
                      go_wp2
                      refine ⟨⟨i + 1, en, rfl, by go_num, by omega, by omega, by omega, hb6', hbest2⟩, by simp [intOf]; omega⟩
              · have hbest2 : Hid (bestR P bst (((fs.drop (i + 1)).filter (fun f => f.1.2.2)).map (fun f => f.1.2.1 + y.win)) = R0) := by
                  have h5 := hbest.out
                  show _ = _
                  cases bg with
                  | false => simpa using h5
                  | true =>
                    rw [if_pos rfl, List.map_cons] at h5
                    unfold bestR at h5
                    rw [hTM.out, if_pos (by simp at hsk; omega)] at h5
                    exact h5
                clear hbest
                cases bg with
                | false =>
                  clear hsk
                  go_wp2_with fail
                  try go_quiet (fail)
                  go_wp2
                  refine ⟨⟨i + 1, bst, rfl, by go_num, by omega, hbl, hbh, by first | exact hbq | exact below_drewN hbq.out, hbest2⟩, by simp [intOf]; omega⟩
                | true =>
                  have hge : bst ≤ tm + y.win := by simp at hsk; omega
                  clear hsk
                  go_wp2_with fail
                  try go_quiet (fail)
                  go_wp2
                  refine ⟨⟨i + 1, bst, rfl, by go_num, by omega, hbl, hbh, by first | exact hbq | exact below_drewN hbq.out, hbest2⟩, by simp [intOf]; omega⟩
            · have i1 : ¬ (i : Int) < (fs.length : Int) := by omega
              rw [List.drop_eq_nil_of_le (by omega)] at hbest
              have hb' : Hid (bst = R0) := hbest
              clear hbest
              go_wp2
              go_ret2
              refine ⟨⟨R0, 0, HU3.out, ?_⟩, by have := HBX.out _ hbw.out; rw [hN] at this; exact this⟩
              rw [← hb'.out]; rfl
      · have hu : Hid (UntD y s (0, cc)) := HU.out _ (by rw [ho1]; simp only [hg1]; rw [if_pos (by rw [← hcc]; exact hc0), hcc])
        have hc0' : (cc == 0) = false := by simpa using hc0
        clear HU hcc
        go_wp2
        go_ret2
        exact ⟨⟨_, hu.out, rfl⟩, HBX.out _ (Below.refl _ _)⟩

end Go.Proofs.YtjajnhemgphefaaGreatDoor

namespace Go.Proofs.YtjajnhemgphefaaGreatDoor
open Go.RowKit Go.Shelf
set_option linter.unusedVariables false
set_option linter.unusedSimpArgs false

def newEr (rs : List Rl) (win lat que : Int) (st : List Gr) : Er := ⟨rs, win, lat, que, 0, 0, [], nmL [] (tmsOf (amsR rs)), st, []⟩
def NewR (s : ByteArray) (win lat que : Int) (w : World) (e : Ending) (w' : World) : Prop :=
  Below w.heap.size w w' ∧ match parseD s with
  | .error (c, _) => e = .returned (.tuple #[.pointer none, .int .i64 c])
  | .ok rs => (argsOk win lat que ∧ ∃ (b : Nat) (T : Nat → Prop) (st : List Gr), e = .returned (.tuple #[.pointer (some ⟨b, 0, none⟩), .int .i64 0]) ∧ IsLeast rs [] (nmL [] (tmsOf (amsR rs))) st ∧ ErM w' T b (newEr rs win lat que st) ∧ ∀ k, T k → w.heap.size ≤ k) ∨ (¬ argsOk win lat que ∧ e = .returned (.tuple #[.pointer none, .int .i64 6]))

set_option maxRecDepth 100000 in
set_option maxHeartbeats 2000000 in
theorem newD_any (s : ByteArray) (win lat que : Int) (w : World) (hs : s.size ≤ 1048576) :
    Calls Tryz.prog 66 #[.string s, .int .i64 win, .int .i64 lat, .int .i64 que] w (NewR s win lat que w) := by
  have hpa : Hid _ := parse_ref s w hs
  cases hp : parseD s with
  | error cp =>
    obtain ⟨c, p⟩ := cp
    have hc0 : c ≠ 0 := parseD_err s c p hp
    have hu : NewR s win lat que w = fun e w' => Below w.heap.size w w' ∧ e = .returned (.tuple #[.pointer none, .int .i64 c]) := by
      funext e w'; unfold NewR; rw [hp]
    rw [hu]
    have hcb : (c == 0) = false := by simpa using hc0
    have HP : Hid _ := hp
    clear hu hp
    go_enter Tryz.func66, Tryz.ntmps66
    go_wp2_with fail
    refine Calls.mono hpa.out ?_
    rintro e' W1 ⟨h1, hb1⟩
    unfold ParseAns at h1
    rw [HP.out] at h1
    subst h1
    go_wp2
    go_ret2
    exact ⟨hb1, rfl⟩
  | ok rs =>
    have hgood := parse_good s rs hp
    have hu : NewR s win lat que w = fun e w' => Below w.heap.size w w' ∧ ((argsOk win lat que ∧ ∃ (b : Nat) (T : Nat → Prop) (st : List Gr), e = .returned (.tuple #[.pointer (some ⟨b, 0, none⟩), .int .i64 0]) ∧ IsLeast rs [] (nmL [] (tmsOf (amsR rs))) st ∧ ErM w' T b (newEr rs win lat que st) ∧ ∀ k, T k → w.heap.size ≤ k) ∨ (¬ argsOk win lat que ∧ e = .returned (.tuple #[.pointer none, .int .i64 6]))) := by
      funext e w'; unfold NewR; rw [hp]
    rw [hu]
    have hfine : RsFine rs (nmL [] (tmsOf (amsR rs))) := by
      have h8 := hgood.new.n8 rs.length
      rw [List.take_length, hgood.names] at h8
      refine hgood.fine _ h8 ?_ (fun x hx => by rw [← hgood.names]; exact hx)
      have := hgood.ne
      rw [hgood.names] at this
      exact this
    have HFI : Hid _ := hfine
    have HP : Hid _ := hp
    clear hu hp hfine hgood
    go_enter Tryz.func66, Tryz.ntmps66
    go_wp2_with fail
    refine Calls.mono hpa.out ?_
    rintro e' W1 ⟨h1, hb1⟩
    unfold ParseAns at h1
    rw [HP.out] at h1
    obtain ⟨v, qs, rfl, hR, hqm, hqo, h8, hsm⟩ := h1
    obtain ⟨va, vc, rfl⟩ := own_form hR.row
    have HB1 : Hid (Below w.heap.size w W1) := hb1
    by_cases ha : argsOk win lat que
    · have HA : Hid (argsOk win lat que) := ha
      obtain ⟨⟨a1, a2⟩, ⟨a3, a4⟩, a5, a6⟩ := ha
      have hql : qs.length ≤ 1000 := hqo.few
      have hnm : Hid _ := names_any (.slice va qs.length vc) qs W1 hR hqo.few hqo.body hqo.tms (fun a ha => (hqo.args a ha).1)
      have HR : Hid (RulesIn W1 (.slice va qs.length vc) qs) := hR
      have HQ : Hid (qs.map (·.1) = rs) := hqm
      have hamo : amsOf qs = amsR rs := by rw [amsOf_map, hqm]
      rw [hamo] at hnm
      have HQO : Hid (RlOkD qs) := hqo
      clear hR hqm hqo hsm hb1 hpa
      go_wp2_with fail
      refine Calls.mono hnm.out ?_
      rintro e' W2 ⟨vn, rfl, hN2⟩
      obtain ⟨na, nc, hvn⟩ := own_form hN2.own
      subst hvn
      have hb2 : Below W1.heap.size W1 W2 := hN2.below
      have hLe : Hid _ := leastD_any qs [] (nmL [] (tmsOf (amsR rs))) (.slice va qs.length vc) (.slice none 0 0) W2 (HR.out.below hb2) ⟨World.ownsRow_nil _ _ _ _, fun p hp => by cases hp⟩ hql (by simp) (by rw [HQ.out]; exact HFI.out) (fun p hp => by cases hp)
      have HN2 : Hid (NmSt W1.heap.size W1 W2 (.slice na (nmL [] (tmsOf (amsR rs))).length nc) (nmL [] (tmsOf (amsR rs)))) := hN2
      clear hN2 hnm
      go_wp2_with fail
      refine Calls.mono hLe.out ?_
      rintro e' W3 ⟨vs, hs2, rfl, hL3, hI3⟩
      obtain ⟨sa, sc, hvs⟩ := owns_form hL3.row
      subst hvs
      have HL3 : Hid (LwSt [] W2.heap.size W2 W3 (.slice sa hs2.length sc) hs2) := hL3
      have HI3 : Hid (IsLeast rs [] (nmL [] (tmsOf (amsR rs))) (hs2.map (·.1))) := by rw [HQ.out] at hI3; exact hI3
      clear hL3 hI3 hLe hb2
      go_wp2
      go_ret2
      have hb2 : Below W1.heap.size W1 W2 := HN2.out.below
      have hb3 : Below W2.heap.size W2 W3 := HL3.out.below
      have hz1 := HB1.out.size
      have hz2 := hb2.size
      have hz3 := hb3.size
      have hbw3 : Below w.heap.size w W3 := (HB1.out.trans (hb2.mono hz1)).trans (hb3.mono (by omega))
      refine ⟨hbw3.alloc hbw3.size _, .inl ⟨HA.out, W3.heap.size, fun k => w.heap.size ≤ k ∧ k < W3.heap.size + 1, hs2.map (·.1), rfl, HI3.out, ⟨.slice va qs.length vc, .slice none 0 0, .slice na (nmL [] (tmsOf (amsR rs))).length nc, .slice sa hs2.length sc, .slice none 0 0, qs, [], hs2, [], ?_⟩, fun k hk => hk.1⟩⟩
      have hbA : ∀ O, Below W3.heap.size W3 (W3.alloc O) := fun O => (Below.refl _ W3).alloc (Nat.le_refl _) O
      have hn3 : W3.ownsRow W1.heap.size 9 1 (.slice na (nmL [] (tmsOf (amsR rs))).length nc) (nmL [] (tmsOf (amsR rs))).length ((nmL [] (tmsOf (amsR rs))).map Value.string) := own_below HN2.out.own hb3
      refine ⟨World.alloc_heap_new W3 _, ⟨by omega, by omega⟩, fun k hk => by simp; omega, (((HR.out.below hb2).below hb3).below (hbA _)), HQ.out, World.ownsRow_nil _ _ _ _, fun g hg => (by cases hg), rfl, fun p hp => (by cases hp), own_down (own_below hn3 (hbA _)) (Nat.zero_le _), fun g hg => ?_, ⟨own_down (own_below HL3.out.row (hbA _)) (Nat.zero_le _), fun p hp => (HL3.out.each p hp).below (hbA _)⟩, fun g hg => ?_, rfl, fun p hp g hg => ?_, World.ownsRow_nil _ _ _ _, fun g hg => (by cases hg), rfl, fun p hp => (by cases hp), fun g hg => ⟨fun p hp => (by cases hp), fun p hp e => ?_⟩, fun i j p q g hi => by simp at hi⟩
      · obtain ⟨h5, c, hc⟩ := owns_block hn3 hg
        have := (Array.getElem?_eq_some_iff.1 hc).1
        exact ⟨by omega, by omega⟩
      · obtain ⟨h5, c, hc⟩ := owns_block HL3.out.row hg
        have := (Array.getElem?_eq_some_iff.1 hc).1
        exact ⟨by omega, by omega⟩
      · obtain ⟨c, hc⟩ := own_cells (HL3.out.each p hp) hg
        have := (Array.getElem?_eq_some_iff.1 hc).1
        rcases HL3.out.loc p hp with h5 | h5
        · cases h5
        · have := h5 g hg
          exact ⟨by omega, by omega⟩
      · obtain ⟨h5, c, hc⟩ := owns_block HN2.out.own hg
        have := (Array.getElem?_eq_some_iff.1 hc).1
        rcases HL3.out.loc p hp with h6 | h6
        · cases h6
        · have := h6 g e
          omega
    · have HA : Hid (¬ argsOk win lat que) := ha
      have hfin : Hid (Below w.heap.size w W1) := hb1
      clear hR hqm hqo hsm hb1 hpa HFI HP
      have hW : ¬ 1 ≤ win ∨ (1 ≤ win ∧ ¬ win ≤ 1000) ∨ (1 ≤ win ∧ win ≤ 1000) := by omega
      have hL : ¬ 0 ≤ lat ∨ (0 ≤ lat ∧ ¬ lat ≤ 1000) ∨ (0 ≤ lat ∧ lat ≤ 1000) := by omega
      have hQ : ¬ 1 ≤ que ∨ (1 ≤ que ∧ ¬ que ≤ 50) ∨ (1 ≤ que ∧ que ≤ 50) := by omega
      rcases hW with x1 | ⟨x1, x2⟩ | ⟨x1, x2⟩ <;> rcases hL with y1 | ⟨y1, y2⟩ | ⟨y1, y2⟩ <;> rcases hQ with z1 | ⟨z1, z2⟩ | ⟨z1, z2⟩
      case inr.inr.inr.inr.inr.inr => exact absurd ⟨⟨x1, x2⟩, ⟨y1, y2⟩, z1, z2⟩ ha
      case inr.inr.inr.inr.inr.inl =>
        clear ha
        have d3 : decide (que ≤ 50) = false := by simp; omega
        go_wp2
        go_ret2
        exact ⟨hfin.out, .inr ⟨HA.out, rfl⟩⟩
      all_goals (clear ha; go_wp2; go_ret2; exact ⟨hfin.out, .inr ⟨HA.out, rfl⟩⟩)

end Go.Proofs.YtjajnhemgphefaaGreatDoor

namespace Go.Proofs.YtjajnhemgphefaaGreatDoor
open Go.RowKit Go.Shelf
set_option linter.unusedVariables false
set_option linter.unusedSimpArgs false

theorem ErAt.put {W W' : World} {T T' : Nat → Prop} {b : Nat} {y y' : Er} {vr vf vn vs vd vf' vs' : Value} {qs : List (Rl × Value × Value)} {fs fs' : List ((Gr × Int × Bool) × Value)} {ss ss' : List (Gr × Value)} {ds : List (Fr × Value × Value)} (h : ErAt W T b y vr vf vn vs vd qs fs ss ds)
    (hT : ∀ k, T k → T' k) (hlt : ∀ k, T' k → k < W'.heap.size) (hk : ∀ k, k < W.heap.size → k ≠ b → W'.heap[k]? = W.heap[k]?) (hrs : y'.rs = y.rs) (hnm : y'.names = y.names) (hfd : y'.feeds = y.feeds)
    (box : W'.heap[b]? = some (Obj.cells #[vr, .int .i64 y'.win, .int .i64 y'.lat, .int .i64 y'.que, .int .i64 y'.clock, .int .i64 y'.mark, vf', vn, vs', vd] 222 (0, 0)))
    (facts : W'.ownsRow 0 233 4 vf' fs'.length (fs'.flatMap fcC)) (factsT : ∀ g, vf'.ownBlock = some g → T' g) (factsm : fs'.map (·.1) = y'.facts) (facte : ∀ p ∈ fs', StrsIn W' p.2 p.1.1.args ∧ ∀ g, p.2.ownBlock = some g → T' g)
    (state : GdsIn W' vs' ss') (stateT : ∀ g, vs'.ownBlock = some g → T' g) (statem : ss'.map (·.1) = y'.state) (statee : ∀ p ∈ ss', ∀ g, p.2.ownBlock = some g → T' g)
    (sepN : ∀ g, vn.ownBlock = some g → (∀ p ∈ fs', p.2.ownBlock ≠ some g) ∧ ∀ p ∈ ss', p.2.ownBlock ≠ some g) : ErAt W' T' b y' vr vf' vn vs' vd qs fs' ss' ds := by
  have hty : ∀ (k : Nat) (c : Array Value) (u : TypeId), u ≠ 222 → W.heap[k]? = some (Obj.cells c u (0, 0)) → W'.heap[k]? = W.heap[k]? := fun k c u hu hc => hk k (Array.getElem?_eq_some_iff.1 hc).1 (fun e => by subst e; rw [h.box] at hc; cases hc; exact hu rfl)
  have hrow : ∀ {B U m n : Nat} {u : Value} {xs : List Value}, U ≠ 222 → W.ownsRow B U m u n xs → W'.ownsRow B U m u n xs := fun hU ho => own_keep ho (fun g hg' _ => by
    obtain ⟨c, hc⟩ := own_cells ho hg'
    exact hty g c _ hU hc)
  have hrc : ∀ {v : Value} {l : List Rc}, RcIn W v l → RcIn W' v l := fun {v l} hr => by
    refine hr.keep (fun g hg' => ?_)
    rcases hr with ⟨rfl, _⟩ | ⟨g', off, cap, cur, rfl, h2, _⟩
    · cases hg'
    · cases hg'
      exact hty g' cur _ (by decide) h2
  exact ⟨box, hT _ h.own, hlt, h.rules.keep (fun k c u ht hc => hty k c u (by rcases ht with rfl | rfl | rfl <;> decide) hc), by rw [hrs]; exact h.rsm, facts, factsT, factsm, facte, by rw [hnm]; exact hrow (by decide) h.names, fun g hg => hT _ (h.namesT g hg), state, stateT, statem, statee, hrow (by decide) h.feeds, fun g hg => hT _ (h.feedsT g hg), by rw [hfd]; exact h.feedsm, fun p hp => ⟨⟨hrc (h.feede p hp).1.1, fun g hg => hT _ ((h.feede p hp).1.2 g hg)⟩, hrc (h.feede p hp).2.1, fun g hg => hT _ ((h.feede p hp).2.2 g hg)⟩, sepN, h.sepQ⟩
theorem ErAt.row {W W' : World} {T : Nat → Prop} {b : Nat} {y : Er} {vr vf vn vs vd : Value} {qs : List (Rl × Value × Value)} {fs : List ((Gr × Int × Bool) × Value)} {ss : List (Gr × Value)} {ds : List (Fr × Value × Value)} (h : ErAt W T b y vr vf vn vs vd qs fs ss ds) (hk : ∀ k, k < W.heap.size → k ≠ b → W'.heap[k]? = W.heap[k]?) {B U m n : Nat} {u : Value} {xs : List Value} (hU : U ≠ 222) (ho : W.ownsRow B U m u n xs) : W'.ownsRow B U m u n xs :=
  own_keep ho (fun g hg' hlt => by
    obtain ⟨c, hc⟩ := own_cells ho hg'
    exact hk g hlt (fun e => by subst e; rw [h.box] at hc; cases hc; exact hU rfl))
/-- Numbers of the box are written. -/
theorem ErAt.num {W W' : World} {T : Nat → Prop} {b : Nat} {y y' : Er} {vr vf vn vs vd : Value} {qs : List (Rl × Value × Value)} {fs : List ((Gr × Int × Bool) × Value)} {ss : List (Gr × Value)} {ds : List (Fr × Value × Value)} (h : ErAt W T b y vr vf vn vs vd qs fs ss ds) (hz : W'.heap.size = W.heap.size) (hk : ∀ k, k ≠ b → W'.heap[k]? = W.heap[k]?) (hrs : y'.rs = y.rs) (hnm : y'.names = y.names) (hfd : y'.feeds = y.feeds) (hfa : y'.facts = y.facts) (hst : y'.state = y.state)
    (box : W'.heap[b]? = some (Obj.cells #[vr, .int .i64 y'.win, .int .i64 y'.lat, .int .i64 y'.que, .int .i64 y'.clock, .int .i64 y'.mark, vf, vn, vs, vd] 222 (0, 0))) : ErAt W' T b y' vr vf vn vs vd qs fs ss ds :=
  have hk' : ∀ k, k < W.heap.size → k ≠ b → W'.heap[k]? = W.heap[k]? := fun k _ => hk k
  h.put (fun _ => id) (fun k hk' => by rw [hz]; exact h.lt k hk') hk' hrs hnm hfd box (h.row hk' (by decide) h.facts) h.factsT (by rw [hfa]; exact h.factsm) (fun p hp => ⟨h.row hk' (by decide) (h.facte p hp).1, (h.facte p hp).2⟩) ⟨h.row hk' (by decide) h.state.row, fun p hp => h.row hk' (by decide) (h.state.each p hp)⟩ h.stateT (by rw [hst]; exact h.statem) h.statee h.sepN
theorem ErPost.trans {W W1 W2 : World} {T : Nat → Prop} {b : Nat} {y1 y2 : Er} (h : ErPost T b y1 W W1) (k : ∀ T1, ErM W1 T1 b y1 → ErPost T1 b y2 W1 W2) : ErPost T b y2 W W2 := by
  obtain ⟨⟨T1, h1, h2⟩, h3⟩ := h
  obtain ⟨⟨T2, k1, k2⟩, k3⟩ := k T1 h1
  have hz := h3.size
  refine ⟨⟨T2, k1, fun j hj => ?_⟩, ⟨k3.os.trans h3.os, k3.tape.trans h3.tape, k3.output.trans h3.output, Nat.le_trans h3.size k3.size, fun i hi hn => (k3.block i (Nat.lt_of_lt_of_le hi h3.size) (fun e => ?_)).trans (h3.block i hi hn)⟩⟩
  · rcases k2 j hj with h4 | h4
    · exact h2 j h4
    · right; omega
  · rcases h2 i e with h4 | h4
    · exact hn h4
    · omega
/-- Nothing but feeds and records is written. -/
def KeepF (W W' : World) : Prop := ∀ (k : Nat) (c : Array Value) (t : TypeId), t ≠ 246 → t ≠ 71 → W.heap[k]? = some (Obj.cells c t (0, 0)) → W'.heap[k]? = W.heap[k]?
/-- What is asked of move, for a feed. -/
def MoveAt (b i : Nat) (was : List Gr) (que m : Int) (st : List Gr) : Prop := ∀ (W : World) (T : Nat → Prop) (y : Er) (f : Fr) (vw : Value) (sw : List (Gr × Value)), ErM W T b y → y.feeds[i]? = some f → GdsIn W vw sw → sw.map (·.1) = was → y.que = que → y.mark = m → y.state = st →
    Calls Tryz.prog 120 #[.pointer (some ⟨b, 0, none⟩), .int .i64 (i : Int), vw] W fun e w' => e = .returned (.tuple #[]) ∧ ErPost T b { y with feeds := y.feeds.set i (moveD que m was st f) } W w' ∧ KeepF W w'

end Go.Proofs.YtjajnhemgphefaaGreatDoor
