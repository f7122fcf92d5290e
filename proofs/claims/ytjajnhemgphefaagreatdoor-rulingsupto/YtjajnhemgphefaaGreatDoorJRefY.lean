/-
  The document's own answer: Rules answers, for every text, the plain function refRules.
-/
import Derived.Test.YtjajnhemgphefaaGreatDoorJPaths
namespace Go.Proofs.YtjajnhemgphefaaGreatDoor
open Go.RowKit Go.Shelf
set_option linter.unusedVariables false
set_option linter.unusedSimpArgs false

theorem parseD_err (s : ByteArray) (c : Int) (p : Nat) (h : parseD s = .error (c, p)) : c ≠ 0 := by
  unfold parseD at h
  split at h
  · injection h with h; injection h with h1 h2; omega
  · split at h
    · rename_i ho
      injection h with h
      rw [h] at ho; exact ho
    · rename_i ho
      obtain ⟨rs, hr1, _, _⟩ := rules_read ((refToks s).length + 1) (refToks s) (lk0 false) (by omega) rfl rfl rfl (refToks_end s) (by unfold okO; simpa using ho) (by decide)
      rw [hr1] at h
      simp only at h
      split at h
      · rename_i hs
        injection h with h
        rw [h] at hs; exact hs
      · cases h

theorem fine_of {qs : List (Rl × Value × Value)} {rs : List Rl} (hq : qs.map (·.1) = rs) (h1 : ∀ r ∈ rs, RlSmall r) (h2 : ∀ r ∈ rs, RlSz 1200 r) : ∀ q ∈ qs, AmFine q.1.head ∧ q.1.body.length ≤ 3 ∧ ∀ a ∈ q.1.body, AmFine a := by
  intro q hq'
  have hm : q.1 ∈ rs := by rw [← hq]; exact List.mem_map.2 ⟨q, hq', rfl⟩
  have s1 := h1 q.1 hm
  have s2 := h2 q.1 hm
  refine ⟨⟨by have := s2.1.1; omega, s1.head.1, fun t ht => ⟨by have := s2.1.2 t ht; omega, by have := s1.head.2 t ht; omega⟩⟩, s1.few, fun a ha => ⟨by have := (s2.2 a ha).1; omega, (s1.body a ha).1, fun t ht => ⟨by have := (s2.2 a ha).2 t ht; omega, by have := (s1.body a ha).2 t ht; omega⟩⟩⟩

set_option maxRecDepth 100000 in
set_option maxHeartbeats 8000000 in
theorem rules_ref (s : ByteArray) (w : World) (hs : s.size ≤ 1048576) :
    Calls Tryz.prog 32 #[.string s] w fun e w' => e = .returned (.tuple #[.string (refRules s).1, .int .i64 (refRules s).2.1, .int .i64 (refRules s).2.2]) ∧ Below w.heap.size w w' := by
  obtain ⟨N, hN⟩ : ∃ N, N = w.heap.size := ⟨_, rfl⟩
  have hNr := hN.symm
  have hpa := parse_ref s w hs
  rw [← hN] at hpa ⊢
  cases hD : parseD s with
  | error ep =>
    obtain ⟨c, p⟩ := ep
    have hc := parseD_err s c p hD
    have hans : Hid (refRules s = (⟨#[]⟩, c, p)) := by show _ = _; unfold refRules; rw [hD]
    have hpa2 : Calls Tryz.prog 64 #[.string s] w fun e w' => e = .returned (.tuple #[.slice none 0 0, .int .i64 c, .int .i64 p]) ∧ Below N w w' := by
      refine hpa.mono ?_
      rintro e w' ⟨h1, h2⟩
      unfold ParseAns at h1
      rw [hD] at h1
      exact ⟨h1, h2⟩
    have m0 : (c == 0) = false := by simpa using hc
    have m1 : (c != 0) = true := by simpa using hc
    clear hpa hD
    go_enter Tryz.func32, Tryz.ntmps32
    go_wp2_with fail
    refine hpa2.mono ?_
    rintro e W1 ⟨rfl, hb1⟩
    go_wp2
    go_ret3
    rw [hans.out]
    exact ⟨rfl, hb1⟩
  | ok rs =>
    have hsz := parseD_sz s rs hD
    have hans : Hid (refRules s = (rulesW rs, 0, 0)) := by show _ = _; unfold refRules; rw [hD]
    have hpa2 : Calls Tryz.prog 64 #[.string s] w fun e w' => (∃ v qs, e = .returned (.tuple #[v, .int .i64 0, .int .i64 0]) ∧ RulesIn w' v qs ∧ qs.map (·.1) = rs ∧ RlOk qs ∧ rs.length ≤ 8 ∧ ∀ r ∈ rs, RlSmall r) ∧ Below N w w' := by
      refine hpa.mono ?_
      rintro e w' ⟨h1, h2⟩
      unfold ParseAns at h1
      rw [hD] at h1
      exact ⟨h1, h2⟩
    clear hpa hD
    go_enter Tryz.func32, Tryz.ntmps32
    go_wp2_with fail
    refine hpa2.mono ?_
    rintro e W1 ⟨⟨v, qs, rfl, hR, hq, hok, h8, hsm⟩, hb1⟩
    have hfine := fine_of hq hsm hsz
    have hqs8 : qs.length ≤ 8 := by rw [← hq] at h8; simpa using h8
    have HSM : Hid _ := hsm
    have hT : Hid (refRules s = (rulesW (qs.map (·.1)), 0, 0)) := by rw [hq]; exact hans
    have HOK : Hid (RlOk qs) := hok
    obtain ⟨va, vc, hv⟩ := own_form hR.row
    subst hv
    have HR : Hid (RulesIn W1 (.slice va qs.length vc) qs) := hR
    have HB1 : Hid (Below N w W1) := hb1
    clear hsm hsz hq hok hans hpa2 hR hb1
    generalize hTT : rulesW (qs.map (·.1)) = T at *
    have HTT : Hid (T = ⟨#[]⟩ ++ rulesW ((qs.drop 0).map (·.1))) := by show _ = _; rw [empty_app, List.drop_zero]; exact hTT.symm
    clear hTT
    have hz1 : (⟨#[32, 58, 45, 32]⟩ : ByteArray).size = 4 := rfl
    have hz2 : (⟨#[44, 32]⟩ : ByteArray).size = 2 := rfl
    have hz3 : (⟨#[46, 10]⟩ : ByteArray).size = 2 := rfl
    go_wp2
    go_loopw [8, 9] (fun x p wr => ∃ (i : Nat) (out : ByteArray), x = .string out ∧ p = .int .i64 i ∧ i ≤ qs.length ∧ Below N w wr ∧ RulesIn wr (.slice va qs.length vc) qs ∧ out.size ≤ i * 200000 ∧ Hid (T = out ++ rulesW ((qs.drop i).map (·.1)))) (fun _ p _ => qs.length - (intOf p).toNat)
    case atStart => exact ⟨0, _, rfl, rfl, Nat.zero_le _, HB1.out, HR.out, Nat.zero_le _, HTT⟩
    case round =>
      clear HB1 HR HTT
      obtain ⟨i, out, rfl, rfl, hle, hbe, hR, hosz, hsp⟩ := hrel
      by_cases hlt : i < qs.length
      · obtain ⟨g, ps, rfl, hg, c0, c1, c2, hA, hps, hAs, hpl, ⟨a1, a2, hq1⟩, ⟨b1, b2, hq2⟩, hqm⟩ := rl_start hR i hlt HOK.out
        have hNw : N ≤ wr.heap.size := by have := hbe.size; omega
        obtain ⟨hf1, hf2, hf3⟩ := hfine qs[i] (List.getElem_mem hlt)
        have hwr := written_any (qs[i].1.head, qs[i].2.1) wr hA hf1.1 (by have := hf1.2.1; show qs[i].1.head.args.length ≤ 1000; omega) hf1.2.2
        have hws := atomW_size qs[i].1.head hf1
        simp only at hwr
        rw [List.drop_eq_getElem_cons hlt, List.map_cons] at hsp
        simp only [rulesW, ruleW] at hsp
        rw [hq1] at c1 hwr
        rw [← hps] at hsp
        have HBE : Hid (Below N w wr) := hbe
        have HR : Hid (RulesIn wr (.slice (some ⟨g, 0, none⟩) qs.length vc) qs) := hR
        have hf4 : ∀ p ∈ ps, AmFine p.1 := fun p hp => hf3 p.1 (by rw [← hps]; exact List.mem_map.2 ⟨p, hp, rfl⟩)
        have hpl3 : ps.length ≤ 3 := by have := congrArg List.length hps; simp at this; omega
        have HPS : Hid (ps.map (·.1) = qs[i].1.body) := hps
        clear hA hAs hqm hq1 hq2 hbe hR hf3 hps hf1
        generalize atomW qs[i].1.head = hw at *
        generalize qs[i].1.head.rel = hrl at *
        have hsum : out.size + hw.size ≤ 100000000 := by omega
        go_wp2_with fail
        refine hwr.mono ?_
        rintro e W2 ⟨rfl, hb2⟩
        have hBE2 : Below N w W2 := HBE.out.trans (hb2.mono hNw)
        have hR2 := HR.out.below hb2
        have HBE2 : Hid (Below N w W2) := hBE2
        have HR2 : Hid (RulesIn W2 (.slice (some ⟨g, 0, none⟩) qs.length vc) qs) := hR2
        have hT2 : Hid (T = (out ++ hw) ++ bodyW 0 ((ps.drop 0).map (·.1)) ++ ⟨#[46, 10]⟩ ++ rulesW ((qs.drop (i + 1)).map (·.1))) := by
          show _ = _; rw [hsp.out, List.drop_zero]; simp only [ByteArray.append_assoc]
        have hos2 : Hid ((out ++ hw).size ≤ i * 200000 + 20000 + 0 * 30000) := by show _ ≤ _; rw [ByteArray.size_append]; omega
        clear hwr hb2 hBE2 hR2 HBE HR hsp c0 c1 c2
        go_wp2
        go_loopw [8, 11] (fun x p wr => ∃ (k : Nat) (o2 : ByteArray), x = .string o2 ∧ p = .int .i64 k ∧ k ≤ ps.length ∧ Below N w wr ∧ RulesIn wr (.slice (some ⟨g, 0, none⟩) qs.length vc) qs ∧ o2.size ≤ i * 200000 + 20000 + k * 30000 ∧ Hid (T = o2 ++ bodyW k ((ps.drop k).map (·.1)) ++ ⟨#[46, 10]⟩ ++ rulesW ((qs.drop (i + 1)).map (·.1)))) (fun _ p _ => ps.length - (intOf p).toNat)
        case atStart => exact ⟨0, _, rfl, rfl, Nat.zero_le _, HBE2.out, HR2.out, hos2.out, hT2⟩
        case round =>
          clear HBE2 HR2 hT2 hos2
          obtain ⟨k, o2, rfl, rfl, hkle, hbe, hR, ho2, hsk⟩ := hrel
          obtain ⟨g', ps', e', hg', c0, c1, c2, hA, hps', hAs, hpl', ⟨a1', a2', hq1⟩, ⟨b1', b2', hq2⟩, hqm⟩ := rl_start hR i hlt HOK.out
          cases e'
          have hpe : ps'.map (·.1) = ps.map (·.1) := hps'.trans HPS.out.symm
          have hple : ps'.length = ps.length := by have := congrArg List.length hpe; simpa using this
          have hNw : N ≤ wr.heap.size := by have := hbe.size; omega
          by_cases hkl : k < ps.length
          · obtain ⟨g2, cap2, e2, hg2, d0, d1, ⟨x1, x2, hx⟩, hAV⟩ := hAs.cell k (by omega)
            have hpk : ps'[k].1 = ps[k].1 := by
              have h1 : (ps'.map (·.1))[k]? = (ps.map (·.1))[k]? := by rw [hpe]
              rw [List.getElem?_map, List.getElem?_map, List.getElem?_eq_getElem (by omega), List.getElem?_eq_getElem hkl] at h1
              simpa using h1
            have hfk := hf4 ps[k] (List.getElem_mem hkl)
            have hwr := written_any ps'[k] wr hAV (by rw [hpk]; exact hfk.1) (by rw [hpk]; have := hfk.2.1; omega) (by rw [hpk]; exact hfk.2.2)
            have hws := atomW_size ps[k].1 hfk
            rw [hx] at d1 hwr
            rw [hpk] at d0 d1 hwr
            rw [e2] at c2
            rw [List.drop_eq_getElem_cons hkl, List.map_cons] at hsk
            simp only [bodyW] at hsk
            rw [hple] at c2
            have HBE : Hid (Below N w wr) := hbe
            have HR : Hid (RulesIn wr (.slice (some ⟨g, 0, none⟩) qs.length vc) qs) := hR
            clear hA hAs hqm hq1 hq2 hbe hR hAV hps' hpe hpk hx e2 hfk c0 c1
            generalize atomW ps[k].1 = aw at *
            generalize ps[k].1.rel = arl at *
            generalize ps[k].1.args.length = aal at *
            by_cases h0 : k = 0
            · subst h0
              rw [if_pos rfl] at hsk
              have hT3 : Hid (T = (o2 ++ ⟨#[32, 58, 45, 32]⟩ ++ aw) ++ bodyW 1 ((ps.drop 1).map (·.1)) ++ ⟨#[46, 10]⟩ ++ rulesW ((qs.drop (i + 1)).map (·.1))) := by
                show _ = _; rw [hsk.out]; simp only [ByteArray.append_assoc]
              have hs1 : o2.size + 4 ≤ 100000000 := by omega
              have hs2 : (o2 ++ ⟨#[32, 58, 45, 32]⟩).size + aw.size ≤ 100000000 := by rw [ByteArray.size_append]; omega
              have hs3 : Hid ((o2 ++ ⟨#[32, 58, 45, 32]⟩ ++ aw).size ≤ i * 200000 + 20000 + (0 + 1) * 30000) := by show _ ≤ _; rw [ByteArray.size_append, ByteArray.size_append]; omega
              clear hsk
              go_wp2_with fail
              refine hwr.mono ?_
              rintro e W3 ⟨rfl, hb3⟩
              have hBE3 : Below N w W3 := HBE.out.trans (hb3.mono hNw)
              have hR3 := HR.out.below hb3
              clear hwr hb3
              go_wp2
              go_roundw
              case rel => exact ⟨0 + 1, _, rfl, by go_num, by omega, hBE3, hR3, hs3.out, hT3⟩
              case measure => simp [intOf]; omega
            · rw [if_neg h0] at hsk
              have hT3 : Hid (T = (o2 ++ ⟨#[44, 32]⟩ ++ aw) ++ bodyW (k + 1) ((ps.drop (k + 1)).map (·.1)) ++ ⟨#[46, 10]⟩ ++ rulesW ((qs.drop (i + 1)).map (·.1))) := by
                show _ = _; rw [hsk.out]; simp only [ByteArray.append_assoc]
              have m0 : ((k : Int) == 0) = false := by simp; omega
              have hs1 : o2.size + 2 ≤ 100000000 := by omega
              have hs2 : (o2 ++ ⟨#[44, 32]⟩).size + aw.size ≤ 100000000 := by rw [ByteArray.size_append]; omega
              have hs3 : Hid ((o2 ++ ⟨#[44, 32]⟩ ++ aw).size ≤ i * 200000 + 20000 + (k + 1) * 30000) := by show _ ≤ _; rw [ByteArray.size_append, ByteArray.size_append]; omega
              clear hsk
              go_wp2_with fail
              refine hwr.mono ?_
              rintro e W3 ⟨rfl, hb3⟩
              have hBE3 : Below N w W3 := HBE.out.trans (hb3.mono hNw)
              have hR3 := HR.out.below hb3
              clear hwr hb3
              go_wp2
              go_roundw
              case rel => exact ⟨k + 1, _, rfl, by go_num, by omega, hBE3, hR3, hs3.out, hT3⟩
              case measure => simp [intOf]; omega
          · rw [List.drop_eq_nil_of_le (by omega)] at hsk
            simp only [List.map_nil, bodyW, app_empty] at hsk
            rw [hq2] at c2
            rw [hple] at c2
            have hs1 : o2.size + 2 ≤ 100000000 := by omega
            have hs2 : Hid ((o2 ++ ⟨#[46, 10]⟩).size ≤ (i + 1) * 200000) := by show _ ≤ _; rw [ByteArray.size_append]; omega
            have HBE : Hid (Below N w wr) := hbe
            have HR : Hid (RulesIn wr (.slice (some ⟨g, 0, none⟩) qs.length vc) qs) := hR
            clear hA hAs hqm hq1 hq2 hbe hR hps' hpe c0 c1
            go_wp2
            go_roundw
            case rel => exact ⟨i + 1, _, rfl, by go_num, by omega, HBE.out, HR.out, hs2.out, hsk⟩
            case measure => simp [intOf]; omega
      · rw [List.drop_eq_nil_of_le (by omega)] at hsp
        simp only [List.map_nil, rulesW, app_empty] at hsp
        have hT2 : Hid (refRules s = (out, 0, 0)) := by rw [← hsp.out]; exact hT
        clear hR hT
        go_wp2
        go_ret3
        rw [hT2.out]
        exact ⟨rfl, hbe⟩

end Go.Proofs.YtjajnhemgphefaaGreatDoor
