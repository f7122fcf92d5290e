/-
  The document's own answer: the atoms of a rule, the head first.
  The document's own answer: how many arguments a relation has.
-/
import Derived.Test.YtjajnhemgphefaaGreatDoorJRefM
namespace Go.Proofs.YtjajnhemgphefaaGreatDoor
open Go.RowKit Go.Shelf
set_option linter.unusedVariables false
set_option linter.unusedSimpArgs false

theorem Kp.ofBelow {S : Nat} {X Y : World} (h : Below X.heap.size X Y) : Kp S X Y :=
  ⟨fun k c hc => h.block k (Array.getElem?_eq_some_iff.1 hc).1, fun k c _ hc => h.block k (Array.getElem?_eq_some_iff.1 hc).1⟩

/-- A row of atoms. -/
structure AtomsIn (W : World) (v : Value) (ps : List (Am × Value)) : Prop where
  row : W.ownsRow 0 145 2 v ps.length (ps.flatMap amC)
  each : ∀ p ∈ ps, AtomV W p
/-- A row of rules. -/
structure RulesIn (W : World) (v : Value) (qs : List (Rl × Value × Value)) : Prop where
  row : W.ownsRow 0 148 3 v qs.length (qs.flatMap rlC)
  each : ∀ q ∈ qs, AtomV W (q.1.head, q.2.1) ∧ ∃ ps, ps.map (·.1) = q.1.body ∧ AtomsIn W q.2.2 ps

theorem AtomsIn.below {W W' : World} {v : Value} {ps : List (Am × Value)} (h : AtomsIn W v ps) (hb : Below W.heap.size W W') : AtomsIn W' v ps :=
  ⟨own_below h.row hb, fun p hp => (h.each p hp).kept (Kp.ofBelow (S := 0) hb)⟩
theorem RulesIn.below {W W' : World} {v : Value} {qs : List (Rl × Value × Value)} (h : RulesIn W v qs) (hb : Below W.heap.size W W') : RulesIn W' v qs :=
  ⟨own_below h.row hb, fun q hq => by
    obtain ⟨h1, ps, h2, h3⟩ := h.each q hq
    exact ⟨h1.kept (Kp.ofBelow (S := 0) hb), ps, h2, h3.below hb⟩⟩
theorem OutSt.rules {N : Nat} {w X : World} {vl : Value} {qs : List (Rl × Value × Value)} (h : OutSt N w X vl qs) : RulesIn X vl qs :=
  ⟨own_down h.rows (Nat.zero_le _), fun q hq => by
    obtain ⟨h1, ps, h2, h3, h4, h5⟩ := h.each q hq
    exact ⟨h1, ps, h2, h3, h5⟩⟩

def rlV (q : Rl × Value × Value) : Value := .agg #[.string q.1.head.rel, q.2.1, q.2.2]

set_option maxRecDepth 100000 in
set_option maxHeartbeats 4000000 in
theorem atoms_any (q : Rl × Value × Value) (ps : List (Am × Value)) (w : World) (hh : AtomV w (q.1.head, q.2.1)) (hp : AtomsIn w q.2.2 ps) (hl : ps.length ≤ 1000) :
    Calls Tryz.prog 178 #[rlV q] w fun e w' => ∃ v, e = .returned v ∧ AtomsIn w' v ((q.1.head, q.2.1) :: ps) ∧ Below w.heap.size w w' := by
  obtain ⟨i0, hi, hz0, hz1, hz2⟩ := info_parts Tryz.infoAm
  obtain ⟨⟨hd, bd⟩, va, vb⟩ := q
  obtain ⟨rel, args⟩ := hd
  simp only at hh hp
  unfold rlV
  simp only
  obtain ⟨aa, ac, hva⟩ := own_form hh
  simp only at hva
  subst hva
  have hown0 : Hid (((w.alloc (.cells #[.string rel, .slice aa args.length ac, vb] 148)).alloc (.cells #[.string rel, .slice aa args.length ac] 145)).ownsRow w.heap.size 145 2 (.slice (some ⟨w.heap.size + 1, 0, none⟩) 1 1) 1 [.string rel, .slice aa args.length ac]) := by
    refine ⟨rfl, .inr ⟨w.heap.size + 1, 1, #[.string rel, .slice aa args.length ac], rfl, by omega, ?_, Nat.le_refl _, by unfold maxLen; decide, rfl, rfl⟩⟩
    have := World.alloc_heap_new (w.alloc (.cells #[.string rel, .slice aa args.length ac, vb] 148)) (.cells #[.string rel, .slice aa args.length ac] 145)
    rw [World.size_alloc] at this; exact this
  have hb2 : Hid (Below w.heap.size w ((w.alloc (.cells #[.string rel, .slice aa args.length ac, vb] 148)).alloc (.cells #[.string rel, .slice aa args.length ac] 145))) := ((Below.refl _ w).alloc (Nat.le_refl _) _).alloc (by simp) _
  have HH : Hid (AtomV w (⟨rel, args⟩, .slice aa args.length ac)) := hh
  have HP : Hid (AtomsIn w vb ps) := hp
  have hrow := hp.row
  clear hh hp
  have hrow2 := hrow
  have hvb : vb = .slice none 0 0 ∧ ps = [] ∨ ∃ g c, vb = .slice (some ⟨g, 0, none⟩) ps.length c ∧ g < w.heap.size ∧ ∀ j u, (ps.flatMap amC)[j]? = some u → w.cell? ((⟨g, 0, none⟩ : Addr).add j) = some u := by
    obtain ⟨h0, ⟨hv, hn⟩ | ⟨g, cap, cur, hv, hb, hw, h1, h2, h3, h4⟩⟩ := hrow
    · exact .inl ⟨hv, List.eq_nil_of_length_eq_zero hn⟩
    · refine .inr ⟨g, cap, hv, (Array.getElem?_eq_some_iff.1 hw).1, ?_⟩
      have := World.ownsRow.cells hrow2 (g := g) (by rw [hv]; rfl)
      exact this
  rcases hvb with ⟨rfl, rfl⟩ | ⟨g, c, rfl, hg, hcl⟩
  · go_enter Tryz.func178, Tryz.ntmps178
    go_wp2
    go_ret
    refine ⟨_, rfl, ⟨own_down (by simpa [amC] using hown0.out) (Nat.zero_le _), fun p hp => ?_⟩, hb2.out⟩
    simp at hp; subst hp
    exact HH.out.kept (Kp.ofBelow (S := 0) hb2.out)
  · have HCL : Hid (∀ j u, (ps.flatMap amC)[j]? = some u → ((w.alloc (.cells #[.string rel, .slice aa args.length ac, .slice (some ⟨g, 0, none⟩) ps.length c] 148)).alloc (.cells #[.string rel, .slice aa args.length ac] 145)).cell? ((⟨g, 0, none⟩ : Addr).add j) = some u) := by
      intro j u hu
      have hblk : ((⟨g, 0, none⟩ : Addr).add j).block = g := by simp [Addr.add]; split <;> rfl
      exact (Below.cell hb2.out (by rw [hblk]; exact hg)).trans (hcl j u hu)
    have h1c : ∀ u ∈ ps.flatMap amC, u.oneCell' = true := by
      intro u hu
      obtain ⟨p, hp, hup⟩ := List.mem_flatMap.1 hu
      obtain ⟨a', c', hf⟩ := own_form (HP.out.each p hp)
      simp only [amC, List.mem_cons, List.not_mem_nil, or_false] at hup
      rcases hup with rfl | rfl
      · rfl
      · rw [hf]; rfl
    have hc3 : 1 + ps.length ≤ maxLen := by unfold maxLen; omega
    have hc4 : (1 + ps.length) * 40 ≤ 140737488355328 := by omega
    have hc5 : Hid (∀ O O', w.heap.size ≤ ((w.alloc O).alloc O').heap.size) := fun O O' => by simp; omega
    have hlen : (ps.flatMap amC).length = ps.length * 2 := flat_len amC 2 amC_len ps
    clear hcl hrow hrow2
    go_enter Tryz.func178, Tryz.ntmps178
    go_wp2_with (at_builtin; refine wpList_append_own _ rfl (.tmp 7) (.tmp 9) 146 rfl w.heap.size 145 i0 (.agg #[.string ⟨#[]⟩, .slice none 0 0]) 2 40 Tryz.underlying146 hi hz0 hz1 hz2 rfl (by decide) _ _ _ rfl hown0.out ⟨g, 0, none⟩ ps.length c (ps.flatMap amC) rfl hlen HCL.out h1c hc3 hc4 (hc5.out _ _) ?_; intro v' w1 hown1 hgrow1 _)
    have hb3 : Below w.heap.size w w1 := hb2.out.grown hgrow1 (hc5.out _ _) (fun k hk => by have := (own_str hown0.out k hk).1; omega)
    go_ret
    refine ⟨_, rfl, ⟨?_, fun p hp => ?_⟩, hb3⟩
    · have e : ((⟨rel, args⟩, Value.slice aa args.length ac) :: ps).length = 1 + ps.length := by simp; omega
      rw [e]
      refine own_down (B := w.heap.size) ?_ (Nat.zero_le _)
      simpa [amC] using hown1
    · rcases List.mem_cons.1 hp with rfl | hp
      · exact HH.out.kept (Kp.ofBelow (S := 0) hb3)
      · exact (HP.out.each p hp).kept (Kp.ofBelow (S := 0) hb3)

end Go.Proofs.YtjajnhemgphefaaGreatDoor

namespace Go.Proofs.YtjajnhemgphefaaGreatDoor
open Go.RowKit Go.Shelf
set_option linter.unusedVariables false
set_option linter.unusedSimpArgs false

theorem AtomsIn.cell {W : World} {v : Value} {ps : List (Am × Value)} (h : AtomsIn W v ps) (k : Nat) (hk : k < ps.length) :
    ∃ g cap, v = .slice (some ⟨g, 0, none⟩) ps.length cap ∧ g < W.heap.size ∧ W.cell? ⟨g, k * 2, none⟩ = some (.string ps[k].1.rel) ∧ W.cell? ⟨g, k * 2 + 1, none⟩ = some ps[k].2 ∧ (∃ a c, ps[k].2 = .slice a ps[k].1.args.length c) ∧ AtomV W ps[k] := by
  obtain ⟨g, cap, e1, e2, e3, e4, e5⟩ := own_get h.row amC_len (by omega)
  have hA := h.each ps[k] (List.getElem_mem hk)
  exact ⟨g, cap, e1, e3, e5 k 0 hk _ (by decide) rfl, e5 k 1 hk _ (by decide) rfl, own_form hA, hA⟩

theorem RulesIn.cell {W : World} {v : Value} {qs : List (Rl × Value × Value)} (h : RulesIn W v qs) (k : Nat) (hk : k < qs.length) :
    ∃ g cap, v = .slice (some ⟨g, 0, none⟩) qs.length cap ∧ g < W.heap.size ∧ W.cell? ⟨g, k * 3, none⟩ = some (.string qs[k].1.head.rel) ∧ W.cell? ⟨g, k * 3 + 1, none⟩ = some qs[k].2.1 ∧ W.cell? ⟨g, k * 3 + 2, none⟩ = some qs[k].2.2 ∧
      AtomV W (qs[k].1.head, qs[k].2.1) ∧ ∃ ps, ps.map (·.1) = qs[k].1.body ∧ AtomsIn W qs[k].2.2 ps := by
  obtain ⟨g, cap, e1, e2, e3, e4, e5⟩ := own_get h.row rlC_len (by omega)
  have hA := h.each qs[k] (List.getElem_mem hk)
  exact ⟨g, cap, e1, e3, e5 k 0 hk _ (by decide) rfl, e5 k 1 hk _ (by decide) rfl, e5 k 2 hk _ (by decide) rfl, hA⟩

theorem AtomV.cell {W : World} {p : Am × Value} (h : AtomV W p) (j : Nat) (hj : j < p.1.args.length) :
    ∃ g cap, p.2 = .slice (some ⟨g, 0, none⟩) p.1.args.length cap ∧ g < W.heap.size ∧ W.cell? ⟨g, j * 2, none⟩ = some (.string p.1.args[j].name) ∧ W.cell? ⟨g, j * 2 + 1, none⟩ = some (.int .i64 p.1.args[j].num) := by
  obtain ⟨g, cap, e1, e2, e3, e4, e5⟩ := own_get h tmC_len (by omega)
  exact ⟨g, cap, e1, e3, e5 j 0 hj _ (by decide) rfl, e5 j 1 hj _ (by decide) rfl⟩

def arityL : List Am → ByteArray → Nat
  | [], _ => 0
  | a :: l, rel => if sameB rel a.rel = true then a.args.length else arityL l rel
def amsOf (qs : List (Rl × Value × Value)) : List Am := qs.flatMap (fun q => ruleAms q.1)

set_option maxRecDepth 100000 in
set_option maxHeartbeats 8000000 in
theorem arity_any (v : Value) (qs : List (Rl × Value × Value)) (rel : ByteArray) (w : World) (hR : RulesIn w v qs) (hl : qs.length ≤ 1000) (hb : ∀ q ∈ qs, q.1.body.length ≤ 900) :
    Calls Tryz.prog 117 #[v, .string rel] w fun e w' => e = .returned (.int .i64 (arityL (amsOf qs) rel)) ∧ Below w.heap.size w w' := by
  obtain ⟨N, hN⟩ : ∃ N, N = w.heap.size := ⟨_, rfl⟩
  have hNr := hN.symm
  obtain ⟨va, vc, hv⟩ := own_form hR.row
  rw [← hN]
  have HR : Hid (RulesIn w v qs) := hR
  subst hv
  clear hR hN
  go_enter Tryz.func117, Tryz.ntmps117
  go_wp2
  go_loopw [5] (fun p wr => ∃ i : Nat, p = .int .i64 i ∧ i ≤ qs.length ∧ Below N w wr ∧ Hid (arityL (amsOf (qs.drop i)) rel = arityL (amsOf qs) rel)) (fun p _ => qs.length - (intOf p).toNat)
  case atStart => exact ⟨0, rfl, Nat.zero_le _, Below.refl _ _, rfl⟩
  case round =>
    obtain ⟨i, rfl, hle, hbe, hsp⟩ := hrel
    by_cases hlt : i < qs.length
    · have hR2 := HR.out.below (by rw [hNr]; exact hbe)
      obtain ⟨g, cap, e1, hg, c0, c1, c2, hA, ps, hps, hAs⟩ := hR2.cell i hlt
      cases e1
      have hNw : N ≤ wr.heap.size := by have := hbe.size; omega
      have hbl := hb qs[i] (List.getElem_mem hlt)
      have hpl : ps.length ≤ 900 := by have := congrArg List.length hps; simp at this; omega
      have hat := atoms_any qs[i] ps wr hA hAs (by omega)
      have hdr := List.drop_eq_getElem_cons hlt
      have hams : amsOf (qs.drop i) = (qs[i].1.head :: ps.map (·.1)) ++ amsOf (qs.drop (i + 1)) := by
        rw [hdr]; unfold amsOf ruleAms; rw [List.flatMap_cons, hps]
      rw [hams] at hsp
      clear hams hdr hps hR2
      unfold rlV at hat
      obtain ⟨a1, a2, hq1⟩ := own_form hA
      simp only at hq1
      obtain ⟨b1, b2, hq2⟩ := own_form hAs.row
      rw [hq1] at c1 hat
      rw [hq2] at c2 hat
      generalize qs[i] = q at *
      generalize q.1.head.rel = hrl at *
      generalize hq : ((q.1.head, Value.slice a1 q.1.head.args.length a2) :: ps) = qp at *
      have hspq : Hid (arityL (qp.map (·.1) ++ amsOf (qs.drop (i + 1))) rel = arityL (amsOf qs) rel) := by
        rw [← hq]; exact hsp.out
      have hqpl : qp.length ≤ 901 := by rw [← hq]; simp; omega
      have HBE : Hid (Below N w wr) := hbe
      clear hbe hsp hq hA hAs hq1 hq2
      go_wp2_with fail
      refine hat.mono ?_
      rintro e W1 ⟨vp, rfl, hAp, hbp⟩
      have hbN : Below N w W1 := HBE.out.trans (hbp.mono hNw)
      obtain ⟨pa, pc, hvp⟩ := own_form hAp.row
      subst hvp
      have HAP : Hid (AtomsIn W1 (.slice pa qp.length pc) qp) := hAp
      have HBN : Hid (Below N w W1) := hbN
      clear hAp hbp hbN hat
      go_wp2
      go_loopw [7] (fun p wr => ∃ k : Nat, p = .int .i64 k ∧ k ≤ qp.length ∧ wr = W1 ∧ Hid (arityL ((qp.drop k).map (·.1) ++ amsOf (qs.drop (i + 1))) rel = arityL (amsOf qs) rel)) (fun p _ => qp.length - (intOf p).toNat)
      case atStart => exact ⟨0, rfl, Nat.zero_le _, rfl, hspq⟩
      case round =>
        obtain ⟨k, rfl, hkle, hWW, hsk⟩ := hrel
        obtain rfl : W1 = wr := hWW.symm
        by_cases hkl : k < qp.length
        · obtain ⟨g2, cap2, e2, hg2, d0, d1, ⟨x1, x2, hx⟩, _⟩ := HAP.out.cell k hkl
          cases e2
          rw [hx] at d1
          have hdr := List.drop_eq_getElem_cons hkl
          rw [hdr] at hsk
          generalize qp[k] = pk at *
          simp only [List.map_cons, List.cons_append, arityL] at hsk
          by_cases hs : sameB rel pk.1.rel = true
          · rw [if_pos hs] at hsk
            unfold sameB at hs
            generalize pk.1.rel = pr at *
            go_wp2
            go_ret
            rw [← hsk.out]
            exact ⟨rfl, HBN.out⟩
          · have hs' : sameB rel pk.1.rel = false := by simpa using hs
            rw [if_neg hs] at hsk
            unfold sameB at hs'
            generalize pk.1.rel = pr at *
            clear hs
            go_wp2
            go_roundw
            case rel => exact ⟨k + 1, by go_num, by omega, by trivial, hsk⟩
            case measure => simp [intOf]; omega
        · rw [List.drop_eq_nil_of_le (by omega)] at hsk
          simp only [List.map_nil, List.nil_append] at hsk
          go_wp2
          go_roundw
          case rel => exact ⟨i + 1, by go_num, by omega, HBN.out, hsk⟩
          case measure => simp [intOf]; omega
    · rw [List.drop_eq_nil_of_le (by omega)] at hsp
      go_wp2
      go_ret
      rw [← hsp.out]
      exact ⟨rfl, hbe⟩

end Go.Proofs.YtjajnhemgphefaaGreatDoor
