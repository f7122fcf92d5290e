/-
  The document's own answer: are rules sound?
-/
import Derived.Test.YtjajnhemgphefaaGreatDoorJRefR
namespace Go.Proofs.YtjajnhemgphefaaGreatDoor
open Go.RowKit Go.Shelf
set_option linter.unusedVariables false
set_option linter.unusedSimpArgs false

set_option maxRecDepth 100000 in
set_option maxHeartbeats 16000000 in
theorem sound_any (v : Value) (qs : List (Rl × Value × Value)) (w : World) (hR : RulesIn w v qs) (hok : RlOk qs) :
    Calls Tryz.prog 110 #[v] w fun e w' => e = .returned (.tuple #[.int .i64 (soundR (qs.map (·.1))).1, .int .i64 (soundR (qs.map (·.1))).2]) ∧ Below w.heap.size w w' := by
  obtain ⟨N, hN⟩ : ∃ N, N = w.heap.size := ⟨_, rfl⟩
  have hNr := hN.symm
  obtain ⟨va, vc, hv⟩ := own_form hR.row
  rw [← hN]
  have HR : Hid (RulesIn w v qs) := hR
  subst hv
  clear hR hN
  have hfew := hok.few
  have HOK : Hid (RlOk qs) := hok
  clear hok
  obtain ⟨A, hA⟩ : ∃ A, A = amsR (qs.map (·.1)) := ⟨_, rfl⟩
  have HAR : Hid (∀ (rel : ByteArray) (W : World), Below N w W → Calls Tryz.prog 117 #[.slice va qs.length vc, .string rel] W fun e w' => e = .returned (.int .i64 (arityL A rel)) ∧ Below N w w' ∧ Below W.heap.size W w') := by
    intro rel W hW
    refine (arity_any (.slice va qs.length vc) qs rel W (HR.out.below (by rw [hNr]; exact hW)) hfew HOK.out.body).mono ?_
    rintro e w' ⟨rfl, hb⟩
    rw [amsOf_map, ← hA]
    exact ⟨rfl, hW.trans (hb.mono (by have := hW.size; omega)), hb⟩
  generalize hS : soundR (qs.map (·.1)) = S at *
  have HS0 : Hid (match firstR (arityBad A) (qs.map (·.1)) 0 with
    | some i => S = (4, i)
    | none => match firstR looseB (qs.map (·.1)) 0 with
      | some i => S = (5, i)
      | none => match manyFromR [] (qs.map (·.1)) 0 with
        | some i => S = (3, i)
        | none => S = (0, 0)) := by
    rw [hA, ← hS]; unfold soundR
    cases firstR (arityBad (amsR (qs.map (·.1)))) (qs.map (·.1)) 0 with
    | some i => rfl
    | none =>
      cases firstR looseB (qs.map (·.1)) 0 with
      | some i => rfl
      | none => cases manyFromR [] (qs.map (·.1)) 0 <;> rfl
  clear hS hA
  go_enter Tryz.func110, Tryz.ntmps110
  go_wp2
  go_loopw [4] (fun p wr => ∃ i : Nat, p = .int .i64 i ∧ i ≤ qs.length ∧ Below N w wr ∧ Hid (firstR (arityBad A) ((qs.drop i).map (·.1)) i = firstR (arityBad A) (qs.map (·.1)) 0)) (fun p _ => qs.length - (intOf p).toNat)
  case atStart => exact ⟨0, rfl, Nat.zero_le _, Below.refl _ _, rfl⟩
  case round =>
    obtain ⟨i, rfl, hle, hbe, hsp⟩ := hrel
    by_cases hlt : i < qs.length
    · obtain ⟨g, ps, rfl, hg, c0, c1, c2, hA, hps, hAs, hpl, ⟨a1, a2, hq1⟩, ⟨b1, b2, hq2⟩, hqm⟩ := rl_start (HR.out.below (by rw [hNr]; exact hbe)) i hlt HOK.out
      have hNw : N ≤ wr.heap.size := by have := hbe.size; omega
      have hat := atoms_any qs[i] ps wr hA hAs (by omega)
      rw [List.drop_eq_getElem_cons hlt, List.map_cons] at hsp
      simp only [firstR] at hsp
      have har : arityBad A qs[i].1 = ((qs[i].1.head, qs[i].2.1) :: ps).any (fun p => amBad A p.1) := by
        unfold arityBad ruleAms; rw [← hps, List.any_cons, List.any_cons, List.any_map]; rfl
      rw [har] at hsp
      unfold rlV at hat
      rw [hq1] at c1 hat hqm hsp
      rw [hq2] at c2 hat
      clear har hps
      generalize qs[i] = q at *
      generalize q.1.head.rel = hrl at *
      generalize hq : ((q.1.head, Value.slice a1 q.1.head.args.length a2) :: ps) = qp at *
      have hqpl : qp.length ≤ 901 := by rw [← hq]; simp; omega
      have HBE : Hid (Below N w wr) := hbe
      clear hbe hq hA hAs hq1 hq2
      go_wp2_with fail
      refine hat.mono ?_
      rintro e W1 ⟨vp, rfl, hAp, hbp⟩
      have hbN : Below N w W1 := HBE.out.trans (hbp.mono hNw)
      obtain ⟨pa, pc, hvp⟩ := own_form hAp.row
      subst hvp
      have HAP : Hid (AtomsIn W1 (.slice pa qp.length pc) qp) := hAp
      have HBN : Hid (Below N w W1) := hbN
      clear hAp hbp hbN hat c0 c1 c2
      go_wp2
      go_loopw [6] (fun p wr => ∃ k : Nat, p = .int .i64 k ∧ k ≤ qp.length ∧ Below N w wr ∧ AtomsIn wr (.slice pa qp.length pc) qp ∧ Hid ((qp.drop k).any (fun p => amBad A p.1) = qp.any (fun p => amBad A p.1))) (fun p _ => qp.length - (intOf p).toNat)
      case atStart => exact ⟨0, rfl, Nat.zero_le _, HBN.out, HAP.out, rfl⟩
      case round =>
        clear HAP HBN HBE
        obtain ⟨k, rfl, hkle, hbe, hAp, hsk⟩ := hrel
        by_cases hkl : k < qp.length
        · obtain ⟨g2, cap2, e2, hg2, d0, d1, ⟨x1, x2, hx⟩, _⟩ := hAp.cell k hkl
          cases e2
          rw [hx] at d1
          have hpm := (hqm qp[k] (List.getElem_mem hkl)).2.1
          rw [List.drop_eq_getElem_cons hkl] at hsk
          simp only [List.any_cons] at hsk
          have hcl := HAR.out qp[k].1.rel wr hbe
          generalize qp[k] = pk at *
          have hamb : amBad A pk.1 = decide (arityL A pk.1.rel ≠ pk.1.args.length) := rfl
          generalize arityL A pk.1.rel = ar at *
          generalize amBad A pk.1 = ab at *
          generalize pk.1.rel = pr at *
          generalize pk.1.args.length = al at *
          have HAP : Hid (AtomsIn wr (.slice (some ⟨g2, 0, none⟩) qp.length pc) qp) := hAp
          clear hAp hx
          have HBE : Hid (Below N w wr) := hbe
          clear hbe
          go_wp2_with fail
          refine hcl.mono ?_
          rintro e w2 ⟨rfl, hb2, hb3⟩
          have d1' : w2.cell? ⟨g2, k * 2 + 1, none⟩ = some (.slice x1 al x2) := (Below.cell hb3 hg2).trans d1
          have hA2 := HAP.out.below hb3
          clear hcl hb3 d0 d1
          by_cases hne : ar = al
          · subst hne
            have hab : ab = false := by rw [hamb]; simp
            rw [hab] at hsk
            go_wp2
            go_roundw
            case rel => exact ⟨k + 1, by go_num, by omega, hb2, hA2, by simpa using hsk⟩
            case measure => simp [intOf]; omega
          · have hab : ab = true := by rw [hamb]; simpa using hne
            rw [hab] at hsk
            have hany : qp.any (fun p => amBad A p.1) = true := by rw [← hsk.out]; simp
            rw [hany, if_pos rfl] at hsp
            have hfin : Hid (S = (4, i)) := by
              have h := HS0.out
              rw [← hsp.out] at h
              exact h
            have m1 : ((ar : Int) == (al : Int)) = false := by simp; omega
            have m2 : ((ar : Int) != (al : Int)) = true := by simp; omega
            go_wp2
            go_ret2
            rw [hfin.out]
            exact ⟨rfl, hb2⟩
        · rw [List.drop_eq_nil_of_le (by omega)] at hsk
          simp only [List.any_nil] at hsk
          rw [← hsk.out, if_neg (by simp)] at hsp
          have HBE : Hid (Below N w wr) := hbe
          clear hAp hbe
          go_wp2
          go_roundw
          case rel => exact ⟨i + 1, by go_num, by omega, HBE.out, hsp⟩
          case measure => simp [intOf]; omega
    · rw [List.drop_eq_nil_of_le (by omega)] at hsp
      have h1 : firstR (arityBad A) (qs.map (·.1)) 0 = none := by rw [← hsp.out]; rfl
      have HS1 : Hid (match firstR looseB (qs.map (·.1)) 0 with
          | some i => S = (5, i)
          | none => match manyFromR [] (qs.map (·.1)) 0 with
            | some i => S = (3, i)
            | none => S = (0, 0)) := by
        have h := HS0.out
        rw [h1] at h
        exact h
      have HBE : Hid (Below N w wr) := hbe
      clear HS0 h1 hbe hsp HAR
      go_wp2
      go_loopw [8] (fun p wr => ∃ i : Nat, p = .int .i64 i ∧ i ≤ qs.length ∧ Below N w wr ∧ Hid (firstR looseB ((qs.drop i).map (·.1)) i = firstR looseB (qs.map (·.1)) 0)) (fun p _ => qs.length - (intOf p).toNat)
      case atStart => exact ⟨0, rfl, Nat.zero_le _, HBE.out, rfl⟩
      case round =>
        clear HBE
        obtain ⟨i, rfl, hle, hbe, hsp⟩ := hrel
        by_cases hlt : i < qs.length
        · obtain ⟨g, ps, rfl, hg, c0, c1, c2, hA, hps, hAs, hpl, ⟨a1, a2, hq1⟩, ⟨b1, b2, hq2⟩, hqm⟩ := rl_start (HR.out.below (by rw [hNr]; exact hbe)) i hlt HOK.out
          rw [List.drop_eq_getElem_cons hlt, List.map_cons] at hsp
          simp only [firstR] at hsp
          have hlb : looseB qs[i].1 = qs[i].1.head.args.any (tmLoose qs[i].1.body) := rfl
          rw [hlb] at hsp
          have hhl := (hqm _ List.mem_cons_self).2.1
          simp only at hhl
          rw [hq1] at c1
          have HSP : Hid _ := hsp
          have HBE : Hid (Below N w wr) := hbe
          clear hlb hsp hbe hA hAs hqm hps hq1 hq2 c0 c2 hpl
          go_wp2
          go_loopw [9] (fun p wr => ∃ k : Nat, p = .int .i64 k ∧ k ≤ qs[i].1.head.args.length ∧ Below N w wr ∧ Hid ((qs[i].1.head.args.drop k).any (tmLoose qs[i].1.body) = qs[i].1.head.args.any (tmLoose qs[i].1.body))) (fun p _ => qs[i].1.head.args.length - (intOf p).toNat)
          case atStart => exact ⟨0, rfl, Nat.zero_le _, HBE.out, rfl⟩
          case round =>
            clear HBE c1
            obtain ⟨k, rfl, hkle, hbe, hsk⟩ := hrel
            obtain ⟨g', ps, e', hg, c0, c1, c2, hA, hps, hAs, hpl, ⟨a1, a2, hq1⟩, ⟨b1, b2, hq2⟩, hqm⟩ := rl_start (HR.out.below (by rw [hNr]; exact hbe)) i hlt HOK.out
            cases e'
            have hNw : N ≤ wr.heap.size := by have := hbe.size; omega
            by_cases hkl : k < qs[i].1.head.args.length
            · obtain ⟨g3, cap3, e3, hg3, f0, f1⟩ := hA.cell k hkl
              simp only at e3 f0 f1
              have hnum := (hqm _ List.mem_cons_self).2.2 _ (List.getElem_mem hkl)
              rw [List.drop_eq_getElem_cons hkl] at hsk
              simp only [List.any_cons] at hsk
              rw [e3] at c1
              rw [hq2] at c2
              have hbo : Hid (∀ X, Below wr.heap.size wr X → Calls Tryz.prog 179 #[.agg #[.string qs[i].1.head.rel, .slice (some ⟨g3, 0, none⟩) qs[i].1.head.args.length cap3, .slice b1 ps.length b2], .int .i64 qs[i].1.head.args[k].num] X fun e w' => e = .returned (.bool (boundR qs[i].1.body qs[i].1.head.args[k].num)) ∧ Below N w w' ∧ Below X.heap.size X w') := by
                intro X hbw
                have hb := bound_any qs[i] ps qs[i].1.head.args[k].num X (hAs.below hbw) (hA.kept (Kp.ofBelow (S := 0) hbw)) hps (by omega) hnum (fun p hp => ⟨by have := (hqm p (List.mem_cons_of_mem _ hp)).2.1; omega, (hqm p (List.mem_cons_of_mem _ hp)).2.2⟩)
                unfold rlV at hb
                rw [e3, hq2] at hb
                refine hb.mono ?_
                rintro e w' ⟨rfl, hb'⟩
                refine ⟨rfl, ?_, hb'⟩
                exact (hbe.trans (hbw.mono hNw)).trans (hb'.mono (by have := hbw.size; omega))
              have hgne : g ≠ wr.heap.size := by omega
              have hg3e : g3 ≠ wr.heap.size := by omega
              have c0' : ∀ O, (wr.alloc O).cell? ⟨g, i * 3, none⟩ = some (.string qs[i].1.head.rel) := fun O => (Below.cell ((Below.refl wr.heap.size wr).alloc (Nat.le_refl _) O) hg).trans c0
              have c1' : ∀ O, (wr.alloc O).cell? ⟨g, i * 3 + 1, none⟩ = some (.slice (some ⟨g3, 0, none⟩) qs[i].1.head.args.length cap3) := fun O => (Below.cell ((Below.refl wr.heap.size wr).alloc (Nat.le_refl _) O) hg).trans c1
              have c2' : ∀ O, (wr.alloc O).cell? ⟨g, i * 3 + 2, none⟩ = some (.slice b1 ps.length b2) := fun O => (Below.cell ((Below.refl wr.heap.size wr).alloc (Nat.le_refl _) O) hg).trans c2
              have HBE : Hid (Below N w wr) := hbe
              clear hbe hA hAs hqm hq1 hq2 e3 hps
              have htl : tmLoose qs[i].1.body qs[i].1.head.args[k] = (qs[i].1.head.args[k].name.toList.isEmpty && !boundR qs[i].1.body qs[i].1.head.args[k].num) := rfl
              rw [htl] at hsk
              clear htl
              generalize boundR qs[i].1.body qs[i].1.head.args[k].num = bb at *
              generalize qs[i].1.head.args[k].num = nu at *
              generalize qs[i].1.head.args[k].name = nm at *
              generalize qs[i].1.head.rel = rl at *
              have hX : Hid (∀ (O : Obj), Below wr.heap.size wr (wr.alloc O).drew) := fun O => ((Below.refl _ wr).alloc (Nat.le_refl _) O).drew
              go_wp2
              go_region_with (go_at_call 179; refine (hbo.out _ (hX.out _)).mono ?_; rintro e w2 ⟨rfl, hb2, hb3⟩)
              all_goals
                have f0' : w2.cell? ⟨wr.heap.size, 0, none⟩ = some (.string nm) := by
                  rw [Below.cell hb3 (by show wr.heap.size < (wr.alloc _).heap.size; simp)]
                  show (wr.alloc (.cells #[.string nm, .int .i64 nu] 215)).cell? ⟨wr.heap.size, 0, none⟩ = _
                  simp
                clear hbo hb3
                cases h1 : nm.toList.isEmpty with
                | false =>
                  rw [h1] at hsk
                  go_wp2
                  go_roundw
                  case rel => exact ⟨k + 1, by go_num, by omega, hb2, by simpa using hsk⟩
                  case measure => simp [intOf]; omega
                | true =>
                  rw [h1] at hsk
                  cases bb with
                  | true =>
                    go_wp2
                    go_roundw
                    case rel => exact ⟨k + 1, by go_num, by omega, hb2, by simpa using hsk⟩
                    case measure => simp [intOf]; omega
                  | false =>
                    have hany : qs[i].1.head.args.any (tmLoose qs[i].1.body) = true := by rw [← hsk.out]; simp
                    have hfin : Hid (S = (5, i)) := by
                      have h := HS1.out
                      have h2 := HSP.out
                      rw [hany, if_pos rfl] at h2
                      rw [← h2] at h
                      exact h
                    go_wp2
                    go_ret2
                    rw [hfin.out]
                    exact ⟨rfl, hb2⟩
            · rw [List.drop_eq_nil_of_le (by omega)] at hsk
              simp only [List.any_nil] at hsk
              have hsp2 := HSP.out
              rw [← hsk.out, if_neg (by simp)] at hsp2
              have HS2 : Hid _ := hsp2
              have HBE : Hid (Below N w wr) := hbe
              rw [hq1] at c1
              clear hbe hA hAs hqm hq1 hq2 hsk hsp2 c0 c2
              go_wp2
              go_roundw
              case rel => exact ⟨i + 1, by go_num, by omega, HBE.out, HS2⟩
              case measure => simp [intOf]; omega
        · rw [List.drop_eq_nil_of_le (by omega)] at hsp
          have h1 : firstR looseB (qs.map (·.1)) 0 = none := by rw [← hsp.out]; rfl
          have HS2 : Hid (match manyFromR [] (qs.map (·.1)) 0 with
                | some i => S = (3, i)
                | none => S = (0, 0)) := by
            have h := HS1.out
            rw [h1] at h
            exact h
          have HBE : Hid (Below N w wr) := hbe
          clear HS1 h1 hbe hsp
          go_wp2
          go_loopw [12] (fun p wr => ∃ i : Nat, p = .int .i64 i ∧ i ≤ qs.length ∧ Below N w wr ∧ Hid (manyFromR (nmL [] (tmsOf (amsOf (qs.take i)))) ((qs.drop i).map (·.1)) i = manyFromR [] (qs.map (·.1)) 0)) (fun p _ => qs.length - (intOf p).toNat)
          case atStart => exact ⟨0, rfl, Nat.zero_le _, HBE.out, rfl⟩
          case round =>
            clear HBE
            obtain ⟨i, rfl, hle, hbe, hsp⟩ := hrel
            by_cases hlt : i < qs.length
            · have hRw := HR.out.below (by rw [hNr]; exact hbe)
              obtain ⟨g, cap, e1, hg, _⟩ := hRw.cell i hlt
              cases e1
              have hcap : qs.length ≤ vc := by
                obtain ⟨_, ⟨hv, hn⟩ | ⟨g', cap', cur, hv, hb, hw, h1, _⟩⟩ := hRw.row
                · cases hv
                · cases hv; exact h1
              have hlen : (qs.take (i + 1)).length = i + 1 := by rw [List.length_take]; omega
              have hok1 := HOK.out.take (i + 1)
              have hnm := names_any (.slice (some ⟨g, 0, none⟩) (i + 1) vc) (qs.take (i + 1)) wr (RulesIn.take (n := 0) hRw (i + 1) (by omega)) hok1.few hok1.body hok1.tms (fun a ha => (hok1.args a ha).1)
              have hNw : N ≤ wr.heap.size := by have := hbe.size; omega
              rw [List.drop_eq_getElem_cons hlt, List.map_cons] at hsp
              simp only [manyFromR] at hsp
              rw [← nmL_append, ← many_step hlt] at hsp
              have hnl := (nmL_len (tmsOf (amsOf (qs.take (i + 1)))) []).2
              have htm := hok1.tms
              generalize hnle : nmL [] (tmsOf (amsOf (qs.take (i + 1)))) = nl at *
              have HNL : Hid (nmL [] (tmsOf (amsOf (qs.take (i + 1)))) = nl) := hnle
              clear hnle
              have hnl2 : nl.length ≤ 100000 := by simp at hnl; omega
              have hic : (i : Int) + 1 ≤ (vc : Int) := by omega
              have hic2 : i + 1 ≤ vc := by omega
              have HBE : Hid (Below N w wr) := hbe
              clear hbe hRw hok1 hlen hnl htm
              by_cases h8 : 8 < nl.length
              · rw [if_pos h8] at hsp
                have hfin : Hid (S = (3, i)) := by
                  have h := HS2.out
                  rw [← hsp.out] at h
                  exact h
                go_wp2_with fail
                refine hnm.mono ?_
                rintro e w2 ⟨v2, rfl, hN2⟩
                obtain ⟨na, nc, rfl⟩ := own_form hN2.own
                have hb2 : Below N w w2 := HBE.out.trans (hN2.below.mono hNw)
                clear hN2 hnm
                go_wp2
                go_ret2
                rw [hfin.out]
                exact ⟨rfl, hb2⟩
              · rw [if_neg h8] at hsp
                go_wp2_with fail
                refine hnm.mono ?_
                rintro e w2 ⟨v2, rfl, hN2⟩
                obtain ⟨na, nc, rfl⟩ := own_form hN2.own
                have hb2 : Below N w w2 := HBE.out.trans (hN2.below.mono hNw)
                clear hN2 hnm
                go_wp2
                go_roundw
                case rel => exact ⟨i + 1, by go_num, by omega, hb2, by rw [HNL.out]; exact hsp⟩
                case measure => simp [intOf]; omega
            · rw [List.drop_eq_nil_of_le (by omega)] at hsp
              have h1 : manyFromR [] (qs.map (·.1)) 0 = none := by rw [← hsp.out]; rfl
              have hfin : Hid (S = (0, 0)) := by
                have h := HS2.out
                rw [h1] at h
                exact h
              go_wp2
              go_ret2
              rw [hfin.out]
              exact ⟨rfl, hbe⟩

end Go.Proofs.YtjajnhemgphefaaGreatDoor
