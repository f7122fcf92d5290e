/-
  The document's own answer: the names that stand as arguments in some rules.
  The document's own answer: are rules sound?
-/
import Derived.Test.YtjajnhemgphefaaGreatDoorJRefP
namespace Go.Proofs.YtjajnhemgphefaaGreatDoor
open Go.RowKit Go.Shelf
set_option linter.unusedVariables false
set_option linter.unusedSimpArgs false

theorem nmStep_len (vs : List ByteArray) (t : Tm) : vs.length ≤ (nmStep vs t).length ∧ (nmStep vs t).length ≤ vs.length + 1 := by
  unfold nmStep seenL
  split
  · omega
  · split <;> simp
theorem nmL_len (l : List Tm) : ∀ vs, vs.length ≤ (nmL vs l).length ∧ (nmL vs l).length ≤ vs.length + l.length := by
  induction l with
  | nil => intro vs; simp [nmL]
  | cons t l ih =>
    intro vs
    have h1 := nmStep_len vs t
    have h2 := ih (nmStep vs t)
    simp only [nmL, List.foldl_cons, List.length_cons] at h2 ⊢
    omega

theorem Kp.grownStr {S B n : Nat} {X Y : World} {v : Value} {xs : List Value} (ho : X.ownsRow B 9 1 v n xs) (hg : X.grownBy Y v.ownBlock) : Kp S X Y := by
  refine ⟨fun k c hc => hg.block k (Array.getElem?_eq_some_iff.1 hc).1 (fun e => ?_), fun k c hk hc => hg.block k (Array.getElem?_eq_some_iff.1 hc).1 (fun e => ?_)⟩
  · obtain ⟨c', hc'⟩ := own_cells ho e.symm; rw [hc] at hc'; cases hc'
  · obtain ⟨c', hc'⟩ := own_cells ho e.symm; rw [hc] at hc'; cases hc'
theorem AtomsIn.grownStr {B n : Nat} {X Y : World} {v va : Value} {xs : List Value} {ps : List (Am × Value)} (h : AtomsIn X va ps) (ho : X.ownsRow B 9 1 v n xs) (hg : X.grownBy Y v.ownBlock) : AtomsIn Y va ps := by
  refine ⟨own_keep h.row (fun g hg' hlt => ?_), fun p hp => (h.each p hp).kept (Kp.grownStr (S := 0) ho hg)⟩
  obtain ⟨c, hc⟩ := own_cells h.row hg'
  exact (Kp.grownStr (S := X.heap.size) ho hg).atom g c hlt hc

/-- How far the names are told. -/
structure NmSt (N : Nat) (w X : World) (vo : Value) (vs : List ByteArray) : Prop where
  below : Below N w X
  size : N ≤ X.heap.size
  own : X.ownsRow N 9 1 vo vs.length (vs.map Value.string)

set_option maxRecDepth 100000 in
set_option maxHeartbeats 8000000 in
theorem names_any (v : Value) (qs : List (Rl × Value × Value)) (w : World) (hR : RulesIn w v qs) (hl : qs.length ≤ 1000) (hb : ∀ q ∈ qs, q.1.body.length ≤ 900) (ht : (tmsOf (amsOf qs)).length ≤ 100000) (hm : ∀ a ∈ amsOf qs, a.args.length ≤ 1000) :
    Calls Tryz.prog 112 #[v] w fun e w' => ∃ v', e = .returned v' ∧ NmSt w.heap.size w w' v' (nmL [] (tmsOf (amsOf qs))) := by
  obtain ⟨N, hN⟩ : ∃ N, N = w.heap.size := ⟨_, rfl⟩
  have hNr := hN.symm
  obtain ⟨va, vc, hv⟩ := own_form hR.row
  rw [← hN]
  have hT := (nmL_len (tmsOf (amsOf qs)) []).2
  have HR : Hid (RulesIn w v qs) := hR
  subst hv
  clear hR hN
  generalize hTT : nmL [] (tmsOf (amsOf qs)) = T at *
  have hTl : T.length ≤ 100000 := by simp at hT; omega
  clear hT
  go_enter Tryz.func112, Tryz.ntmps112
  go_wp2
  go_loopw [3, 4] (fun o p wr => ∃ (i : Nat) (vo : Value) (vs : List ByteArray), vo = o ∧ p = .int .i64 i ∧ i ≤ qs.length ∧ NmSt N w wr vo vs ∧ Hid (nmL vs (tmsOf (amsOf (qs.drop i))) = T)) (fun _ p _ => qs.length - (intOf p).toNat)
  case atStart => exact ⟨0, _, [], rfl, rfl, Nat.zero_le _, ⟨Below.refl _ _, by omega, World.ownsRow_nil _ _ _ _⟩, hTT⟩
  case round =>
    obtain ⟨i, vo, vs, rfl, rfl, hle, hNm, hsp⟩ := hrel
    by_cases hlt : i < qs.length
    · have hR2 := HR.out.below (by rw [hNr]; exact hNm.below)
      obtain ⟨g, cap, e1, hg, c0, c1, c2, hA, ps, hps, hAs⟩ := hR2.cell i hlt
      cases e1
      have hNw : N ≤ wr.heap.size := hNm.size
      have hbl := hb qs[i] (List.getElem_mem hlt)
      have hpl : ps.length ≤ 900 := by have := congrArg List.length hps; simp at this; omega
      have hat := atoms_any qs[i] ps wr hA hAs (by omega)
      have hdr := List.drop_eq_getElem_cons hlt
      have hams : amsOf (qs.drop i) = (qs[i].1.head :: ps.map (·.1)) ++ amsOf (qs.drop (i + 1)) := by
        rw [hdr]; unfold amsOf ruleAms; rw [List.flatMap_cons, hps]
      rw [hams] at hsp
      have hqm : ∀ p ∈ (qs[i].1.head, qs[i].2.1) :: ps, p.1.args.length ≤ 1000 := by
        intro p hp
        refine hm p.1 (List.mem_flatMap.2 ⟨qs[i], List.getElem_mem hlt, ?_⟩)
        rcases List.mem_cons.1 hp with rfl | hp
        · exact List.mem_cons_self
        · refine List.mem_cons_of_mem _ ?_
          rw [← hps]; exact List.mem_map.2 ⟨p, hp, rfl⟩
      clear hams hdr hps hR2
      unfold rlV at hat
      obtain ⟨a1, a2, hq1⟩ := own_form hA
      simp only at hq1
      obtain ⟨b1, b2, hq2⟩ := own_form hAs.row
      rw [hq1] at c1 hat hqm
      rw [hq2] at c2 hat
      generalize qs[i] = q at *
      generalize q.1.head.rel = hrl at *
      generalize hq : ((q.1.head, Value.slice a1 q.1.head.args.length a2) :: ps) = qp at *
      have hspq : Hid (nmL vs (tmsOf (qp.map (·.1) ++ amsOf (qs.drop (i + 1)))) = T) := by
        rw [← hq]; exact hsp.out
      have hqpl : qp.length ≤ 901 := by rw [← hq]; simp; omega
      have HNM : Hid (NmSt N w wr vo vs) := hNm
      clear hNm hsp hq hA hAs hq1 hq2
      go_wp2_with fail
      refine hat.mono ?_
      rintro e W1 ⟨vp, rfl, hAp, hbp⟩
      have hN1 : NmSt N w W1 vo vs := ⟨HNM.out.below.trans (hbp.mono hNw), Nat.le_trans hNw hbp.size, own_below HNM.out.own hbp⟩
      obtain ⟨pa, pc, hvp⟩ := own_form hAp.row
      subst hvp
      have HAP : Hid (AtomsIn W1 (.slice pa qp.length pc) qp) := hAp
      have HN1 : Hid (NmSt N w W1 vo vs) := hN1
      clear hAp hbp hN1 hat HNM c0 c1 c2
      go_wp2
      go_loopw [3, 6] (fun o p wr => ∃ (k : Nat) (vo : Value) (vs : List ByteArray), vo = o ∧ p = .int .i64 k ∧ k ≤ qp.length ∧ NmSt N w wr vo vs ∧ AtomsIn wr (.slice pa qp.length pc) qp ∧ Hid (nmL vs (tmsOf ((qp.drop k).map (·.1) ++ amsOf (qs.drop (i + 1)))) = T)) (fun _ p _ => qp.length - (intOf p).toNat)
      case atStart => exact ⟨0, _, vs, rfl, rfl, Nat.zero_le _, HN1.out, HAP.out, hspq⟩
      case round =>
        clear HN1 HAP hspq
        obtain ⟨k, vo, vs, rfl, rfl, hkle, hNm, hAp, hsk⟩ := hrel
        by_cases hkl : k < qp.length
        · rw [List.drop_eq_getElem_cons hkl] at hsk
          have HSK : Hid (nmL vs (qp[k].1.args ++ tmsOf ((qp.drop (k + 1)).map (·.1) ++ amsOf (qs.drop (i + 1)))) = T) := by
            have := hsk.out
            rw [List.map_cons, List.cons_append] at this
            unfold tmsOf at this ⊢
            rw [List.flatMap_cons] at this
            exact this
          have HNM : Hid (NmSt N w wr vo vs) := hNm
          have HAP : Hid (AtomsIn wr (.slice pa qp.length pc) qp) := hAp
          clear hsk hNm hAp
          go_wp2
          go_loopw [3, 7] (fun o p wr => ∃ (m : Nat) (vo : Value) (vs : List ByteArray), vo = o ∧ p = .int .i64 m ∧ m ≤ qp[k].1.args.length ∧ NmSt N w wr vo vs ∧ AtomsIn wr (.slice pa qp.length pc) qp ∧ Hid (nmL vs (qp[k].1.args.drop m ++ tmsOf ((qp.drop (k + 1)).map (·.1) ++ amsOf (qs.drop (i + 1)))) = T)) (fun _ p _ => qp[k].1.args.length - (intOf p).toNat)
          case atStart => exact ⟨0, _, vs, rfl, rfl, Nat.zero_le _, HNM.out, HAP.out, HSK⟩
          case round =>
            clear HNM HAP HSK
            obtain ⟨m, vo, vs, rfl, rfl, hmle, hNm, hAp, hsm⟩ := hrel
            obtain ⟨g2, cap2, e2, hg2, d0, d1, ⟨x1, x2, hx⟩, hAV⟩ := hAp.cell k hkl
            cases e2
            rw [hx] at d1
            have hal := hqm qp[k] (List.getElem_mem hkl)
            by_cases hml : m < qp[k].1.args.length
            · obtain ⟨g3, cap3, e3, _, f0, f1⟩ := hAV.cell m hml
              rw [hx] at e3
              cases e3
              rw [List.drop_eq_getElem_cons hml] at hsm
              generalize qp[k].1.args[m] = tm at *
              simp only [List.cons_append, nmL, List.foldl_cons] at hsm
              have HSM : Hid (nmL (nmStep vs tm) (qp[k].1.args.drop (m + 1) ++ tmsOf ((qp.drop (k + 1)).map (·.1) ++ amsOf (qs.drop (i + 1)))) = T) := hsm
              have hvl := (nmL_len (qp[k].1.args.drop (m + 1) ++ tmsOf ((qp.drop (k + 1)).map (·.1) ++ amsOf (qs.drop (i + 1)))) (nmStep vs tm)).1
              rw [HSM.out] at hvl
              have hvl2 := (nmStep_len vs tm).1
              have hvs : vs.length ≤ 100000 := by omega
              clear hsm hvl hvl2 hx hAV d0
              obtain ⟨nm, nu⟩ := tm
              simp only at f0 f1
              by_cases h1 : nm.toList.isEmpty = true
              · have hst : nmStep vs ⟨nm, nu⟩ = vs := by unfold nmStep; rw [if_pos h1]
                rw [hst] at HSM
                have HNM : Hid (NmSt N w wr vo vs) := hNm
                have HAP : Hid (AtomsIn wr (.slice (some ⟨g2, 0, none⟩) qp.length pc) qp) := hAp
                clear hNm hAp hst
                go_wp2
                go_roundw
                case rel => exact ⟨m + 1, vo, vs, rfl, by go_num, by omega, HNM.out, HAP.out, HSM⟩
                case measure => simp [intOf]; omega
              · have h1' : nm.toList.isEmpty = false := by simpa using h1
                have hst : nmStep vs ⟨nm, nu⟩ = seenL vs nm := by unfold nmStep; rw [if_neg h1]
                rw [hst] at HSM
                have had := added_any N vo vs nm wr hNm.size (by omega) hNm.own
                have HNM : Hid (NmSt N w wr vo vs) := hNm
                have HAP : Hid (AtomsIn wr (.slice (some ⟨g2, 0, none⟩) qp.length pc) qp) := hAp
                clear hNm hAp hst h1
                go_wp2_with (go_at_call 119; refine had.mono ?_; rintro e w2 ⟨v2, rfl, ho2, hg2'⟩)
                have hN2 : NmSt N w w2 v2 (seenL vs nm) := ⟨HNM.out.below.grown hg2' HNM.out.size (fun k e => (own_str HNM.out.own k e).1), Nat.le_trans HNM.out.size hg2'.size, ho2⟩
                have hA2 := HAP.out.grownStr HNM.out.own hg2'
                clear ho2 hg2'
                go_roundw
                case rel => exact ⟨m + 1, v2, _, rfl, by go_num, by omega, hN2, hA2, HSM⟩
                case measure => simp [intOf]; omega
            · rw [List.drop_eq_nil_of_le (by omega)] at hsm
              simp only [List.nil_append] at hsm
              have HNM : Hid (NmSt N w wr vo vs) := hNm
              have HAP : Hid (AtomsIn wr (.slice (some ⟨g2, 0, none⟩) qp.length pc) qp) := hAp
              clear hNm hAp hAV
              go_wp2
              go_roundw
              case rel => exact ⟨k + 1, vo, vs, rfl, by go_num, by omega, HNM.out, HAP.out, hsm⟩
              case measure => simp [intOf]; omega
        · rw [List.drop_eq_nil_of_le (by omega)] at hsk
          simp only [List.map_nil, List.nil_append] at hsk
          have HNM : Hid (NmSt N w wr vo vs) := hNm
          clear hNm hAp
          go_wp2
          go_roundw
          case rel => exact ⟨i + 1, vo, vs, rfl, by go_num, by omega, HNM.out, hsk⟩
          case measure => simp [intOf]; omega
    · rw [List.drop_eq_nil_of_le (by omega)] at hsp
      have hvT : vs = T := by have := hsp.out; simpa [nmL, tmsOf, amsOf] using this
      subst hvT
      go_wp2
      go_ret
      exact ⟨vo, rfl, hNm⟩

end Go.Proofs.YtjajnhemgphefaaGreatDoor

namespace Go.Proofs.YtjajnhemgphefaaGreatDoor
open Go.RowKit Go.Shelf
set_option linter.unusedVariables false
set_option linter.unusedSimpArgs false

def amsR (rs : List Rl) : List Am := rs.flatMap ruleAms
theorem amsOf_map (qs : List (Rl × Value × Value)) : amsOf qs = amsR (qs.map (·.1)) := by unfold amsOf amsR; rw [List.flatMap_map]

def amBad (all : List Am) (a : Am) : Bool := decide (arityL all a.rel ≠ a.args.length)
def arityBad (all : List Am) (r : Rl) : Bool := (ruleAms r).any (amBad all)
def tmLoose (bd : List Am) (t : Tm) : Bool := t.name.toList.isEmpty && !boundR bd t.num
def looseB (r : Rl) : Bool := r.head.args.any (tmLoose r.body)
def firstR (p : Rl → Bool) : List Rl → Nat → Option Nat
  | [], _ => none
  | r :: l, i => if p r = true then some i else firstR p l (i + 1)
def manyFromR : List ByteArray → List Rl → Nat → Option Nat
  | _, [], _ => none
  | vs, r :: l, i => if 8 < (nmL vs (tmsOf (ruleAms r))).length then some i else manyFromR (nmL vs (tmsOf (ruleAms r))) l (i + 1)
def soundR (rs : List Rl) : Int × Nat :=
  match firstR (arityBad (amsR rs)) rs 0 with
  | some i => (4, i)
  | none => match firstR looseB rs 0 with
    | some i => (5, i)
    | none => match manyFromR [] rs 0 with
      | some i => (3, i)
      | none => (0, 0)

/-- What the rules that are looked at keep to. -/
structure RlOk (qs : List (Rl × Value × Value)) : Prop where
  few : qs.length ≤ 1000
  body : ∀ q ∈ qs, q.1.body.length ≤ 900
  tms : (tmsOf (amsOf qs)).length ≤ 100000
  args : ∀ a ∈ amsOf qs, a.args.length ≤ 1000 ∧ ∀ t ∈ a.args, t.num ≤ 1000000

theorem RlOk.take {qs : List (Rl × Value × Value)} (h : RlOk qs) (k : Nat) : RlOk (qs.take k) := by
  have hsub : ∀ a ∈ amsOf (qs.take k), a ∈ amsOf qs := fun a ha => by
    obtain ⟨q, hq, hqa⟩ := List.mem_flatMap.1 ha
    exact List.mem_flatMap.2 ⟨q, List.mem_of_mem_take hq, hqa⟩
  refine ⟨by rw [List.length_take]; have := h.few; omega, fun q hq => h.body q (List.mem_of_mem_take hq), ?_, fun a ha => h.args a (hsub a ha)⟩
  have e : tmsOf (amsOf qs) = tmsOf (amsOf (qs.take k)) ++ tmsOf (amsOf (qs.drop k)) := by
    unfold tmsOf amsOf
    rw [← List.flatMap_append, ← List.flatMap_append, List.take_append_drop]
  have := h.tms
  rw [e, List.length_append] at this
  omega

/-- The first rules of a row, as a shorter slice of it. -/
theorem RulesIn.take {W : World} {g n c : Nat} {qs : List (Rl × Value × Value)} (h : RulesIn W (.slice (some ⟨g, 0, none⟩) qs.length c) qs) (k : Nat) (hk : k ≤ qs.length) : RulesIn W (.slice (some ⟨g, 0, none⟩) k c) (qs.take k) := by
  refine ⟨?_, fun q hq => h.each q (List.mem_of_mem_take hq)⟩
  have hlen : (qs.take k).length = k := by rw [List.length_take]; omega
  obtain ⟨h0, ⟨hv, hn⟩ | ⟨g', cap, cur, hv, hb, hw, h1, h2, h3, h4⟩⟩ := h.row
  · cases hv
  · cases hv
    refine ⟨by rw [flat_len rlC 3 rlC_len], .inr ⟨g, c, cur, by rw [hlen], Nat.zero_le _, hw, by omega, h2, h3, ?_⟩⟩
    rw [hlen]
    have e : cur.toList.take (k * 3) = (cur.toList.take (qs.length * 3)).take (k * 3) := by rw [List.take_take]; congr 1; omega
    rw [e, h4]
    have e2 : qs.flatMap rlC = (qs.take k).flatMap rlC ++ (qs.drop k).flatMap rlC := by rw [← List.flatMap_append, List.take_append_drop]
    rw [e2, List.take_left' (by rw [flat_len rlC 3 rlC_len, hlen])]

theorem nmL_append (vs : List ByteArray) (a b : List Tm) : nmL vs (a ++ b) = nmL (nmL vs a) b := by unfold nmL; rw [List.foldl_append]

theorem many_step {qs : List (Rl × Value × Value)} {i : Nat} (hi : i < qs.length) : tmsOf (amsOf (qs.take (i + 1))) = tmsOf (amsOf (qs.take i)) ++ tmsOf (ruleAms qs[i].1) := by
  rw [List.take_succ_eq_append_getElem hi]
  unfold tmsOf amsOf
  simp only [List.flatMap_append, List.flatMap_cons, List.flatMap_nil, List.append_nil]

theorem rl_start {W : World} {va : Option Addr} {vc : Nat} {qs : List (Rl × Value × Value)} (h : RulesIn W (.slice va qs.length vc) qs) (i : Nat) (hi : i < qs.length) (hok : RlOk qs) :
    ∃ g ps, va = some ⟨g, 0, none⟩ ∧ g < W.heap.size ∧ W.cell? ⟨g, i * 3, none⟩ = some (.string qs[i].1.head.rel) ∧ W.cell? ⟨g, i * 3 + 1, none⟩ = some qs[i].2.1 ∧ W.cell? ⟨g, i * 3 + 2, none⟩ = some qs[i].2.2 ∧
      AtomV W (qs[i].1.head, qs[i].2.1) ∧ ps.map (·.1) = qs[i].1.body ∧ AtomsIn W qs[i].2.2 ps ∧ ps.length ≤ 900 ∧ (∃ a c, qs[i].2.1 = .slice a qs[i].1.head.args.length c) ∧ (∃ a c, qs[i].2.2 = .slice a ps.length c) ∧
      ∀ p ∈ (qs[i].1.head, qs[i].2.1) :: ps, p.1 ∈ amsOf qs ∧ p.1.args.length ≤ 1000 ∧ ∀ t ∈ p.1.args, t.num ≤ 1000000 := by
  obtain ⟨g, cap, e1, hg, c0, c1, c2, hA, ps, hps, hAs⟩ := h.cell i hi
  cases e1
  have hbl := hok.body qs[i] (List.getElem_mem hi)
  refine ⟨g, ps, rfl, hg, c0, c1, c2, hA, hps, hAs, by have := congrArg List.length hps; simp at this; omega, own_form hA, own_form hAs.row, fun p hp => ?_⟩
  have hm : p.1 ∈ amsOf qs := by
    refine List.mem_flatMap.2 ⟨qs[i], List.getElem_mem hi, ?_⟩
    rcases List.mem_cons.1 hp with rfl | hp
    · exact List.mem_cons_self
    · refine List.mem_cons_of_mem _ ?_
      rw [← hps]; exact List.mem_map.2 ⟨p, hp, rfl⟩
  exact ⟨hm, hok.args p.1 hm⟩

end Go.Proofs.YtjajnhemgphefaaGreatDoor
