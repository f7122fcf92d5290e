/-
  The document's own answer: what the variables of a rule's head may be.
-/
import Derived.Test.YtjajnhemgphefaaGreatDoorJWyA
import Derived.Deep.CutRange
namespace Go.Proofs.YtjajnhemgphefaaGreatDoor
open Go.RowKit Go.Shelf
set_option linter.unusedVariables false
set_option linter.unusedSimpArgs false

theorem Tryz.infoBind : (Tryz.prog.info? 239).map (fun i => (i.zero, i.size, i.bytes)) = some (some (.slice none 0 0), 1, 24) := by kernel_rfl

theorem pairs_cons (b : List ByteArray) (l : List (List ByteArray)) (gs : List Gr) : pairsOf (b :: l) gs = gs.map (fun g => (b, g)) ++ pairsOf l gs := by unfold pairsOf; rw [List.flatMap_cons]

/-- The bindings so far. -/
structure OwSt (N : Nat) (w X : World) (box : Array Value) (lv : Value) (lps : List (List ByteArray × Value)) (nv : Value) (names : List ByteArray) : Prop where
  below : Below N w X
  bx : X.heap[N]? = some (Obj.cells box 148 (0, 0))
  l : BindsIn X lv lps
  nm : StrsIn X nv names
  size : N < X.heap.size

set_option maxRecDepth 100000 in
set_option maxHeartbeats 16000000 in
theorem ways_any (q : Rl × Value × Value) (ps : List (Am × Value)) (v : Value) (gs : List (Gr × Value)) (P : Nat → List ByteArray → Prop) (w : World)
    (hA : AtomV w (q.1.head, q.2.1)) (hAs : AtomsIn w q.2.2 ps) (hps : ps.map (·.1) = q.1.body) (hG : GdsIn w v gs) (hpl : ps.length ≤ 3) (hgl : gs.length ≤ 2048) (hga : ∀ p ∈ gs, p.1.args.length ≤ 1000)
    (hm : ∀ p ∈ (q.1.head, q.2.1) :: ps, p.1.args.length ≤ 1000 ∧ ∀ t ∈ p.1.args, t.num < 8) (hn8 : (addL [] (wordsOf (gs.map (·.1)))).length ≤ 8) (hd : Distinct (addL [] (wordsOf (gs.map (·.1)))))
    (hP : WayInv q.1 (addL [] (wordsOf (gs.map (·.1)))) (gs.map (·.1)) P) :
    Calls Tryz.prog 180 #[rlV q, v] w fun e w' => ∃ v' bs, e = .returned v' ∧ BindsIn w' v' bs ∧ bs.map (·.1) = waysR q.1 (gs.map (·.1)) ∧ (∀ p ∈ bs, P q.1.body.length p.1 ∧ p.1.length = 8) ∧ bs.length ≤ 2048 ^ 3 ∧ Below w.heap.size w w' := by
  obtain ⟨i0, hi, hz0, hz1, hz2⟩ := info_parts Tryz.infoBind
  unfold rlV
  obtain ⟨a1, a2, hq1⟩ := own_form hA
  simp only at hq1
  obtain ⟨b1, b2, hq2⟩ := own_form hAs.row
  rw [hq1, hq2]
  obtain ⟨va, vc, rfl⟩ := own_form hG.row
  obtain ⟨N, hN⟩ : ∃ N, N = w.heap.size := ⟨_, rfl⟩
  have hNr := hN.symm
  obtain ⟨names, hnames⟩ : ∃ names, names = addL [] (wordsOf (gs.map (·.1))) := ⟨_, rfl⟩
  rw [← hnames] at hn8 hd hP
  obtain ⟨box, hbox⟩ : ∃ box : Array Value, box = #[.string q.1.head.rel, .slice a1 q.1.head.args.length a2, .slice b1 ps.length b2] := ⟨_, rfl⟩
  obtain ⟨W0, hW0⟩ : ∃ W0, w.alloc (.cells #[.string q.1.head.rel, .slice a1 q.1.head.args.length a2, .slice b1 ps.length b2] 148) = W0 := ⟨_, rfl⟩
  have hs0 : W0.heap.size = N + 1 := by rw [← hW0]; simp [hNr]
  have hb0 : Below N w W0 := by rw [← hW0]; exact (Below.refl _ w).alloc (by omega) _
  have hbx0 : W0.heap[N]? = some (Obj.cells #[.string q.1.head.rel, .slice a1 q.1.head.args.length a2, .slice b1 ps.length b2] 148 (0, 0)) := by rw [← hW0, ← hNr]; exact World.alloc_heap_new w _
  -- what lies ahead of the call can be read in every later world
  have HX : Hid (∀ X, Below N w X → AtomV X (q.1.head, .slice a1 q.1.head.args.length a2) ∧ AtomsIn X (.slice b1 ps.length b2) ps ∧ GdsIn X (.slice va gs.length vc) gs) := by
    intro X hX
    have hX' : Below w.heap.size w X := by rw [hNr]; exact hX
    refine ⟨by have := hA.kept (Kp.ofBelow (S := 0) hX'); rw [hq1] at this; exact this, by have := hAs.below hX'; rw [hq2] at this; exact this, hG.below hX'⟩
  have hT : Hid (waysR q.1 (gs.map (·.1)) = (List.range ps.length).foldl (wayRound q.1 names (gs.map (·.1))) [blank8]) := by
    show _ = _; unfold waysR; rw [← hnames, ← hps]; simp
  have hBl : q.1.body.length = ps.length := by rw [← hps]; simp
  rw [hBl]
  have hpl0 := places_any W0
  have hnm0 : Hid (∀ X, Below N w X → N ≤ X.heap.size → Calls Tryz.prog 222 #[.slice va gs.length vc] X fun e w' => ∃ v', e = .returned v' ∧ NmSt X.heap.size X w' v' names) := by
    intro X hX hNX
    have h := named_any (.slice va gs.length vc) gs X (HX.out X hX).2.2 (by omega) hga (by rw [← hnames]; omega)
    rw [← hnames] at h; exact h
  generalize waysR q.1 (gs.map (·.1)) = T at *
  rw [← hN]
  have HB0 : Hid (Below N w W0) := hb0
  have HBX0 : Hid _ := hbx0
  have HS0 : Hid (W0.heap.size = N + 1) := hs0
  have HMq : Hid _ := hm
  have HPi : Hid _ := hP
  have HPS : Hid (ps.map (·.1) = q.1.body) := hps
  clear hA hAs hG hN hb0 hbx0 hnames hbox
  go_enter Tryz.func180, Tryz.ntmps180
  go_wp2_with fail
  refine hpl0.mono ?_
  rintro e W1 ⟨vp, rfl, hop, hbp⟩
  obtain ⟨pa, pc, rfl⟩ := own_form hop
  have hb1 : Below N w W1 := HB0.out.trans (hbp.mono (by rw [HS0.out]; omega))
  have hN1 : N < W1.heap.size := by have := hbp.size; rw [HS0.out] at this; omega
  obtain ⟨W2, hW2⟩ : ∃ W2, W1.alloc (.cells #[.slice pa 8 pc] 239) = W2 := ⟨_, rfl⟩
  have hb2 : Below N w W2 := by rw [← hW2]; exact hb1.alloc (by omega) _
  have hb12 : Below W1.heap.size W1 W2 := by rw [← hW2]; exact (Below.refl _ _).alloc (Nat.le_refl _) _
  have hN2 : N < W2.heap.size := Nat.lt_of_lt_of_le hN1 hb12.size
  have hbx2 : W2.heap[N]? = some (Obj.cells #[.string q.1.head.rel, .slice a1 q.1.head.args.length a2, .slice b1 ps.length b2] 148 (0, 0)) := (hb12.block N hN1).trans ((hbp.block N (by rw [HS0.out]; omega)).trans HBX0.out)
  have hl2 : BindsIn W2 (.slice (some ⟨W1.heap.size, 0, none⟩) 1 1) [(blank8, .slice pa 8 pc)] := by
    refine ⟨⟨rfl, .inr ⟨W1.heap.size, 1, #[.slice pa 8 pc], rfl, Nat.zero_le _, ?_, Nat.le_refl _, by unfold maxLen; decide, rfl, rfl⟩⟩, fun p hp => ?_⟩
    · rw [← hW2]; exact World.alloc_heap_new W1 _
    · simp at hp; subst hp
      exact StrsIn.below (W := W1) (own_down hop (Nat.zero_le _)) hb12
  have hnm2 := hnm0.out W2 hb2 (by omega)
  have HL2 : Hid (BindsIn W2 (.slice (some ⟨W1.heap.size, 0, none⟩) 1 1) [(blank8, .slice pa 8 pc)]) := hl2
  have HB2 : Hid (Below N w W2) := hb2
  have HBX2 : Hid _ := hbx2
  clear hpl0 hop hbp hb1 hb12 hl2 hb2 hbx2 hs0
  go_wp2_with fail
  refine hnm2.mono ?_
  rintro e W3 ⟨nv, rfl, hN3⟩
  have hz3 := hN3.below.size
  have hb3 : Below N w W3 := HB2.out.trans (hN3.below.mono (by omega))
  have hst0 : OwSt N w W3 #[.string q.1.head.rel, .slice a1 q.1.head.args.length a2, .slice b1 ps.length b2] (.slice (some ⟨W1.heap.size, 0, none⟩) 1 1) [(blank8, .slice pa 8 pc)] nv names := ⟨hb3, (hN3.below.block N hN2).trans HBX2.out, HL2.out.below hN3.below, own_down hN3.own (Nat.zero_le _), by omega⟩
  have HST0 : Hid _ := hst0
  obtain ⟨na, nc, hnv⟩ := own_form hN3.own
  subst hnv
  clear hN3 hb3 hst0 hnm2 HL2 HB2 HBX2 hW2
  go_wp2
  go_loopw [5, 7] (fun o p wr => ∃ (i : Nat) (lv : Value) (lps : List (List ByteArray × Value)), lv = o ∧ p = .int .i64 i ∧ i ≤ ps.length ∧ OwSt N w wr #[.string q.1.head.rel, .slice a1 q.1.head.args.length a2, .slice b1 ps.length b2] lv lps (.slice na names.length nc) names ∧ lps.length ≤ 2048 ^ i ∧ Hid (∀ p ∈ lps, P i p.1 ∧ p.1.length = 8) ∧ Hid (((List.range ps.length).drop i).foldl (wayRound q.1 names (gs.map (·.1))) (lps.map (·.1)) = T)) (fun _ p _ => ps.length - (intOf p).toNat)
  case atStart =>
    refine ⟨0, _, _, rfl, rfl, Nat.zero_le _, HST0.out, by simp, fun p hp => ?_, hT.out.symm⟩
    simp at hp; subst hp; exact ⟨HPi.out.start, rfl⟩
  case round =>
    clear HST0
    obtain ⟨i, lv, lps, rfl, rfl, hle, hO, hll, hPl, hsp⟩ := hrel
    obtain ⟨la, lc, hlv⟩ := own_form hO.l.row
    subst hlv
    have x2 : wr.cell? ⟨N, 2, none⟩ = some (.slice b1 ps.length b2) := by simp [World.cell?, hO.bx]
    by_cases hlt : i < ps.length
    · obtain ⟨g, cap', e1, hgl', d0, d1, ⟨y1, y2, hy⟩, hAV⟩ := (HX.out wr hO.below).2.1.cell i hlt
      cases e1
      have hcapb : ps.length ≤ b2 := by
        obtain ⟨_, ⟨hv, hn⟩ | ⟨g', cap'', cur, hv, _, _, h1, _⟩⟩ := (HX.out wr hO.below).2.1.row
        · cases hv
        · cases hv; exact h1
      have HRA : Hid (∀ X, Below N w X → RuleAt X (q.1, .slice a1 q.1.head.args.length a2, .slice (some ⟨g, 0, none⟩) ps.length b2) g b2 ps) := by
        intro X hX
        obtain ⟨h1, h2, _⟩ := HX.out X hX
        exact ⟨h1, h2.at, HPS.out, rfl, hcapb⟩
      have hmq : ∀ p ∈ (q.1.head, Value.slice a1 q.1.head.args.length a2) :: ps, p.1.args.length ≤ 1000000 ∧ ∀ t ∈ p.1.args, t.num ≤ 1000000 := by
        intro p hp
        rcases List.mem_cons.1 hp with rfl | hp
        · have := HMq.out (q.1.head, q.2.1) List.mem_cons_self
          exact ⟨by have := this.1; simp only at this ⊢; omega, fun t ht => by have := this.2 t ht; omega⟩
        · have := HMq.out p (List.mem_cons_of_mem _ hp)
          exact ⟨by have := this.1; omega, fun t ht => by have := this.2 t ht; omega⟩
      have HLo : Hid (∀ X, Below N w X → Calls Tryz.prog 223 #[.agg #[.string q.1.head.rel, .slice a1 q.1.head.args.length a2, .slice (some ⟨g, 0, none⟩) ps.length b2], .int .i64 i] X fun e w' => e = .returned (.bool (lostB q.1 i)) ∧ Below X.heap.size X w') := by
        intro X hX
        exact lost_any (q.1, .slice a1 q.1.head.args.length a2, .slice (some ⟨g, 0, none⟩) ps.length b2) g b2 ps i X (HRA.out X hX) hlt (by omega) hmq
      have HLe : Hid (∀ X (vb : Value) (b : List ByteArray), Below N w X → StrsIn X vb b → b.length = 8 → Calls Tryz.prog 225 #[vb, .agg #[.string q.1.head.rel, .slice a1 q.1.head.args.length a2, .slice (some ⟨g, 0, none⟩) ps.length b2], .int .i64 i] X fun e w' => ∃ v', e = .returned v' ∧ w'.ownsRow X.heap.size 9 1 v' (lessL q.1 i b).length ((lessL q.1 i b).map Value.string) ∧ Below X.heap.size X w') := by
        intro X vb b hX hb hb8
        exact less_any (q.1, .slice a1 q.1.head.args.length a2, .slice (some ⟨g, 0, none⟩) ps.length b2) g b2 ps i vb b X (HRA.out X hX) hb (by omega) (by omega) hlt (by omega) hmq
      have hbi : q.1.body[i]? = some ps[i].1 := by
        rw [← HPS.out, List.getElem?_map, List.getElem?_eq_getElem hlt]; rfl
      have hPs := fun (gd : Gr) (b c : List ByteArray) => HPi.out.step i ps[i].1 gd b c hbi
      have hmi := HMq.out ps[i] (List.mem_cons_of_mem _ (List.getElem_mem hlt))
      have hrd : ((List.range ps.length).drop i) = i :: ((List.range ps.length).drop (i + 1)) := by
        rw [List.drop_eq_getElem_cons (by simpa using hlt)]; simp
      rw [hrd, List.foldl_cons] at hsp
      have hwr : wayRound q.1 names (gs.map (·.1)) (lps.map (·.1)) i = ((pairsOf (lps.map (·.1)) (gs.map (·.1))).foldl (wayStep q.1 i names ps[i].1) (List.replicate 4096 false, [])).2 := by
        unfold wayRound; rw [hbi]
      rw [hwr] at hsp
      generalize hFF : (pairsOf (lps.map (·.1)) (gs.map (·.1))).foldl (wayStep q.1 i names ps[i].1) (List.replicate 4096 false, []) = FF at *
      have HFF : Hid ((pairsOf ((lps.drop 0).map (·.1)) (gs.map (·.1))).foldl (wayStep q.1 i names ps[i].1) (List.replicate 4096 false, []) = FF) := hFF
      have HAi : Hid (∀ X, Below N w X → AtomV X ps[i] ∧ X.cell? ⟨g, i * 2, none⟩ = some (.string ps[i].1.rel) ∧ X.cell? ⟨g, i * 2 + 1, none⟩ = some ps[i].2) := by
        intro X hX
        obtain ⟨g', cap', e1, _, d0, d1, _, hAV⟩ := (HX.out X hX).2.1.cell i hlt
        cases e1
        exact ⟨hAV, d0, d1⟩
      rw [hy] at HAi
      have HY : Hid (ps[i] = (ps[i].1, .slice y1 ps[i].1.args.length y2)) := by
        show _ = _; rw [← hy]
      have x0 : wr.cell? ⟨N, 0, none⟩ = some (.string q.1.head.rel) := by simp [World.cell?, hO.bx]
      have x1 : wr.cell? ⟨N, 1, none⟩ = some (.slice a1 q.1.head.args.length a2) := by simp [World.cell?, hO.bx]
      have hlo := HLo.out wr hO.below
      have hli : i ≤ 2 := by omega
      have hll2 : lps.length ≤ 4194304 := Nat.le_trans hll (Nat.le_trans (Nat.pow_le_pow_right (by decide) hli) (by decide))
      have HLL : Hid (lps.length ≤ 2048 ^ i) := hll
      have HO : Hid (OwSt N w wr #[.string q.1.head.rel, .slice a1 q.1.head.args.length a2, .slice (some ⟨g, 0, none⟩) ps.length b2] (.slice la lps.length lc) lps (.slice na names.length nc) names) := hO
      have HPst : Hid _ := hPs
      have HMi : Hid _ := hmi
      clear hrd hwr hFF hmq hAV hbi hPs hmi d0 d1 hy hO hll hgl'
      go_wp2_with fail
      refine hlo.mono ?_
      rintro e W5 ⟨rfl, hb5⟩
      have hk5 := keys_any W5
      clear hlo
      go_wp2_with fail
      refine hk5.mono ?_
      rintro e W6 ⟨rfl, ho6, hb6⟩
      have hN5 : N < W5.heap.size := Nat.lt_of_lt_of_le HO.out.size hb5.size
      have hz6 := hb6.size
      have hwy : WySt N W6.heap.size W5.heap.size w W6 #[.string q.1.head.rel, .slice a1 q.1.head.args.length a2, .slice (some ⟨g, 0, none⟩) ps.length b2] (.slice la lps.length lc) lps (.slice na names.length nc) names (List.replicate 4096 false) (.slice none 0 0) [] := by
        have hb56 : Below wr.heap.size wr W6 := hb5.trans (hb6.mono hb5.size)
        have hsz := HO.out.size
        have hsn : W6.heap[W5.heap.size]? = some (Obj.cells ((List.replicate 4096 false).map Value.bool).toArray 4 (0, 0)) := by
          obtain ⟨_, ⟨hv, _⟩ | ⟨g', cap', cur, hv, _, hh, h1, h2, h3, h4⟩⟩ := ho6
          · cases hv
          · cases hv
            rw [hh]
            congr 2
            rw [← Array.toList_inj]
            simp only [Nat.mul_one] at h3 h4
            have e : (List.replicate 4096 false).map Value.bool = List.replicate 4096 (.bool false) := by rw [List.map_replicate]
            rw [e, ← h4, List.take_of_length_le (by simp [h3])]
        exact ⟨HO.out.below.trans (hb56.mono (by omega)), (hb56.block N hsz).trans HO.out.bx, HO.out.l.below hb56, fun g' hg' => by have := (own_str HO.out.l.row g' hg').2.1; have := hb56.size; omega, StrsIn.below HO.out.nm hb56, hsn, ⟨hN5, (Array.getElem?_eq_some_iff.1 hsn).1, Nat.le_refl _⟩, World.ownsRow_nil _ _ _ _, fun p hp => by cases hp⟩
      obtain ⟨S, hS⟩ : ∃ S, W6.heap.size = S := ⟨_, rfl⟩
      obtain ⟨sb, hsb⟩ : ∃ sb, W5.heap.size = sb := ⟨_, rfl⟩
      rw [hS, hsb] at hwy
      have HWY : Hid (WySt N S sb w W6 #[.string q.1.head.rel, .slice a1 q.1.head.args.length a2, .slice (some ⟨g, 0, none⟩) ps.length b2] (.slice la lps.length lc) lps (.slice na names.length nc) names (List.replicate 4096 false) (.slice none 0 0) []) := hwy
      obtain ⟨once, honce⟩ : ∃ once, lostB q.1 i = once := ⟨_, rfl⟩
      rw [honce]
      have HON : Hid (lostB q.1 i = once) := honce
      clear hwy hk5 ho6 hb6 hb5 HO hN5 hz6 hS honce
      go_wp2
      go_loopw [10, 11] (fun o p wr => ∃ (k : Nat) (vx : Value) (nx : List (List ByteArray × Value)) (seen : List Bool), vx = o ∧ p = .int .i64 k ∧ k ≤ lps.length ∧ WySt N S sb w wr #[.string q.1.head.rel, .slice a1 q.1.head.args.length a2, .slice (some ⟨g, 0, none⟩) ps.length b2] (.slice la lps.length lc) lps (.slice na names.length nc) names seen vx nx ∧ Hid (seen.length = 4096) ∧ nx.length ≤ k * gs.length ∧ Hid (∀ p ∈ nx, P (i + 1) p.1 ∧ p.1.length = 8) ∧ Hid ((pairsOf ((lps.drop k).map (·.1)) (gs.map (·.1))).foldl (wayStep q.1 i names ps[i].1) (seen, nx.map (·.1)) = FF)) (fun _ p _ => lps.length - (intOf p).toNat)
      case atStart => exact ⟨0, _, [], List.replicate 4096 false, rfl, rfl, Nat.zero_le _, HWY.out, by show _ = _; simp, by simp, fun p hp => by (cases hp), HFF⟩
      case round =>
        clear HWY
        obtain ⟨k, vx, nx, seen, rfl, rfl, hkle, hW, hsl, hnl, hPn, hsk⟩ := hrel
        by_cases hkl : k < lps.length
        · obtain ⟨gl, cap', e1, hglz, _, ⟨u1, u2, hu⟩, _⟩ := hW.l.cell k hkl
          cases e1
          have hPb := hPl.out lps[k] (List.getElem_mem hkl)
          have HLk : Hid (∀ (X : World) (sn : List Bool) (vy : Value) (ny : List (List ByteArray × Value)), WySt N S sb w X #[.string q.1.head.rel, .slice a1 q.1.head.args.length a2, .slice (some ⟨g, 0, none⟩) ps.length b2] (.slice (some ⟨gl, 0, none⟩) lps.length lc) lps (.slice na names.length nc) names sn vy ny → X.cell? ⟨gl, k, none⟩ = some lps[k].2 ∧ StrsIn X lps[k].2 lps[k].1) := by
            intro X sn vy ny hX
            obtain ⟨g', c', e', _, h1, _, h2⟩ := hX.l.cell k hkl
            cases e'
            exact ⟨h1, h2⟩
          rw [List.drop_eq_getElem_cons hkl, List.map_cons, pairs_cons, List.map_map] at hsk
          have hsk2 : Hid (((gs.drop 0).map (fun p => (lps[k].1, p.1)) ++ pairsOf ((lps.drop (k + 1)).map (·.1)) (gs.map (·.1))).foldl (wayStep q.1 i names ps[i].1) (seen, nx.map (·.1)) = FF) := hsk
          rw [hu] at HLk
          have HPb : Hid (P i lps[k].1 ∧ lps[k].1.length = 8) := hPb
          generalize lps[k].1 = b at *
          have HW : Hid (WySt N S sb w wr #[.string q.1.head.rel, .slice a1 q.1.head.args.length a2, .slice (some ⟨g, 0, none⟩) ps.length b2] (.slice (some ⟨gl, 0, none⟩) lps.length lc) lps (.slice na names.length nc) names seen vx nx) := hW
          clear hW hsk hu hPb hglz
          go_wp2
          go_loopw [10, 12] (fun o p wr => ∃ (j : Nat) (vx : Value) (nx : List (List ByteArray × Value)) (seen : List Bool), vx = o ∧ p = .int .i64 j ∧ j ≤ gs.length ∧ WySt N S sb w wr #[.string q.1.head.rel, .slice a1 q.1.head.args.length a2, .slice (some ⟨g, 0, none⟩) ps.length b2] (.slice (some ⟨gl, 0, none⟩) lps.length lc) lps (.slice na names.length nc) names seen vx nx ∧ Hid (seen.length = 4096) ∧ nx.length ≤ k * gs.length + j ∧ Hid (∀ p ∈ nx, P (i + 1) p.1 ∧ p.1.length = 8) ∧ Hid (((gs.drop j).map (fun p => (b, p.1)) ++ pairsOf ((lps.drop (k + 1)).map (·.1)) (gs.map (·.1))).foldl (wayStep q.1 i names ps[i].1) (seen, nx.map (·.1)) = FF)) (fun _ p _ => gs.length - (intOf p).toNat)
          case atStart => exact ⟨0, _, nx, seen, rfl, rfl, Nat.zero_le _, HW.out, hsl, by omega, hPn, hsk2⟩
          case round =>
            clear HW hsk2 hsl hnl hPn
            obtain ⟨j, vx, nx, seen, rfl, rfl, hjle, hW, hsl, hnl, hPn, hsj⟩ := hrel
            by_cases hjl : j < gs.length
            · obtain ⟨gg, cap', e1, hggz, s0, s1, ⟨t1, t2, ht⟩, hSt⟩ := (HX.out wr hW.below).2.2.cell j hjl
              cases e1
              obtain ⟨lk0, hlkS⟩ := HLk.out wr seen vx nx hW
              obtain ⟨hAVi, c0, c1⟩ := HAi.out wr hW.below
              have x2 : wr.cell? ⟨N, 2, none⟩ = some (.slice (some ⟨g, 0, none⟩) ps.length b2) := by simp [World.cell?, hW.bx]
              have hfit : Hid (∀ d, Calls Tryz.prog 123 #[.agg #[.string ps[i].1.rel, .slice y1 ps[i].1.args.length y2], .agg #[.string gs[j].1.rel, .slice t1 gs[j].1.args.length t2], .slice u1 b.length u2] (wr.drewN d) fun e w' => FitAns ps[i].1 gs[j].1 b (.slice u1 b.length u2) wr.heap.size e w' ∧ Below wr.heap.size wr w') := by
                intro d
                have hbd : Below wr.heap.size wr (wr.drewN d) := below_drewN (Below.refl _ wr)
                have hAV2 : AtomV (wr.drewN d) (ps[i].1, .slice y1 ps[i].1.args.length y2) := AtomV.kept (S := 0) (p := (ps[i].1, .slice y1 ps[i].1.args.length y2)) (by rw [← HY.out]; exact hAVi) (Kp.ofBelow hbd)
                have h := fit_any (ps[i].1, .slice y1 ps[i].1.args.length y2) gs[j] (.slice u1 b.length u2) b (wr.drewN d) hAV2 (hSt.below hbd) (StrsIn.below hlkS hbd) (HMi.out.1) (by rw [HPb.out.2]; decide) (by rw [HPb.out.2]; decide) (fun t ht' => by rw [HPb.out.2]; exact HMi.out.2 t ht')
                unfold gdV at h
                rw [ht] at h
                refine h.mono ?_
                rintro e w' ⟨h1, h2⟩
                exact ⟨h1, hbd.trans h2⟩
              rw [List.drop_eq_getElem_cons hjl, List.map_cons, List.cons_append, List.foldl_cons] at hsj
              have hPj := fun c => HPst.out gs[j].1 b c (List.mem_map.2 ⟨gs[j], List.getElem_mem hjl, rfl⟩) HPb.out.1
              rw [ht] at s1
              have HW : Hid (WySt N S sb w wr #[.string q.1.head.rel, .slice a1 q.1.head.args.length a2, .slice (some ⟨g, 0, none⟩) ps.length b2] (.slice (some ⟨gl, 0, none⟩) lps.length lc) lps (.slice na names.length nc) names seen vx nx) := hW
              have HPj : Hid _ := hPj
              have hNw : N < wr.heap.size := by have := hW.nS; omega
              clear hW hSt ht hAVi hlkS hPj
              obtain ⟨fg, hfg⟩ : ∃ fg, fitG ps[i].1 gs[j].1 b = fg := ⟨_, rfl⟩
              have HFG : Hid (fitG ps[i].1 gs[j].1 b = fg) := hfg
              clear hfg
              have hfit3 : Hid (∀ d, Calls Tryz.prog 123 #[.agg #[.string ps[i].1.rel, .slice y1 ps[i].1.args.length y2], .agg #[.string gs[j].1.rel, .slice t1 gs[j].1.args.length t2], .slice u1 b.length u2] (wr.drewN d) fun e w' => ∃ v' ok, e = .returned (.tuple #[v', .bool ok]) ∧ (fg = none → ok = false) ∧ (∀ c, fg = some c → ok = true ∧ w'.ownsRow wr.heap.size 9 1 v' c.length (c.map Value.string)) ∧ Below wr.heap.size wr w') := by
                intro d
                refine (hfit.out d).mono ?_
                rintro e w' ⟨h1, h2⟩
                unfold FitAns at h1
                rw [HFG.out] at h1
                cases fg with
                | none => exact ⟨_, _, h1, fun _ => rfl, (fun c hc => by cases hc), h2⟩
                | some c =>
                  obtain ⟨v', h3, h4⟩ := h1
                  exact ⟨v', true, h3, (fun hc => by cases hc), (fun c' hc => by cases hc; exact ⟨rfl, h4⟩), h2⟩
              clear hfit
              generalize ps[i].1.rel = pr at *
              generalize ps[i].1.args.length = pal at *
              generalize gs[j].1.rel = gr at *
              generalize gs[j].1.args.length = gal at *
              go_upto_region 15 with fail
              go_cut [13, 14] from 37 to 80 (fun s13 s14 wx => Below wr.heap.size wr wx ∧ (fg = none → s14 = .bool false) ∧ (∀ c, fg = some c → s14 = .bool true ∧ wx.ownsRow wr.heap.size 9 1 s13 c.length (c.map Value.string)))
              case first =>
                go_region_with (go_at_call 123; refine (hfit3.out 1).mono ?_; rintro e w2 ⟨vf, ok, rfl, hf1, hf2, hb2⟩)
                all_goals
                  go_wp2_with fail
                  go_meet
                  case rel => exact ⟨hb2, fun h => by rw [hf1 h], fun c hc => ⟨by rw [(hf2 c hc).1], (hf2 c hc).2⟩⟩
              case rest =>
                obtain ⟨hbc, hc1, hc2⟩ := hcut
                have hWc := HW.out.grows hbc
                have HWc : Hid (WySt N S sb w wc #[.string q.1.head.rel, .slice a1 q.1.head.args.length a2, .slice (some ⟨g, 0, none⟩) ps.length b2] (.slice (some ⟨gl, 0, none⟩) lps.length lc) lps (.slice na names.length nc) names seen vx nx) := hWc
                have hzc := hbc.size
                have hnb : nx.length ≤ 4194304 * 2048 := by
                  have h1 : k * gs.length ≤ 4194303 * 2048 := Nat.mul_le_mul (by omega) hgl
                  omega
                have hc3 : nx.length + 1 ≤ maxLen := by unfold maxLen; omega
                have hc4 : (nx.length + 1) * 24 ≤ 140737488355328 := by omega
                have hc5 : Hid (∀ O, S ≤ (wc.alloc O).heap.size) := fun O => by have := hWc.nS; simp; omega
                clear hfit3 HW
                cases hfgc : fg with
                | none =>
                  have hs14 := hc1 hfgc
                  have hws : wayStep q.1 i names ps[i].1 (seen, nx.map (·.1)) (b, gs[j].1) = (seen, nx.map (·.1)) := by unfold wayStep; simp only [HFG.out, hfgc]
                  rw [hws] at hsj
                  subst hs14
                  clear hc1 hc2 hws hbc hWc
                  go_wp2
                  go_roundw
                  case rel => exact ⟨j + 1, vx, nx, seen, rfl, by go_num, by omega, HWc.out, hsl, by omega, hPn, hsj⟩
                  case measure => simp [intOf]; omega
                | some c =>
                  obtain ⟨hs14, hown⟩ := hc2 c hfgc
                  subst hs14
                  have hfg2 : fitG ps[i].1 gs[j].1 b = some c := HFG.out.trans hfgc
                  have hc8 : Hid (c.length = 8) := (fitG_len _ _ _ _ hfg2).trans HPb.out.2
                  obtain ⟨hp1, hp2⟩ := HPj.out c hfg2
                  cases once with
                  | false =>
                    have hws : wayStep q.1 i names ps[i].1 (seen, nx.map (·.1)) (b, gs[j].1) = (seen, nx.map (·.1) ++ [c]) := by
                      unfold wayStep; simp only [hfg2, HON.out]; simp
                    rw [hws] at hsj
                    have hPc := hp2 HON.out
                    have hcS := own_down hown (Nat.zero_le _)
                    obtain ⟨ca, cc, hcv⟩ := own_form hown
                    subst hcv
                    have HCS : Hid (StrsIn wc (.slice ca c.length cc) c) := hcS
                    have h1c : ∀ u ∈ [Value.slice ca c.length cc], u.oneCell' = true := by simp [Value.oneCell']
                    have hPn2 : Hid (∀ p ∈ nx ++ [(c, Value.slice ca c.length cc)], P (i + 1) p.1 ∧ p.1.length = 8) := by
                      intro p hp
                      rcases List.mem_append.1 hp with hp | hp
                      · exact hPn.out p hp
                      · simp at hp; subst hp; exact ⟨hPc, hc8.out⟩
                    have hsj2 : Hid (((gs.drop (j + 1)).map (fun p => (b, p.1)) ++ pairsOf ((lps.drop (k + 1)).map (·.1)) (gs.map (·.1))).foldl (wayStep q.1 i names ps[i].1) (seen, (nx ++ [(c, Value.slice ca c.length cc)]).map (·.1)) = FF) := by
                      show _ = _; rw [← hsj.out]; simp
                    clear hc1 hc2 hws hbc hWc hown hcS hfg2 hp1 hp2 hPc hsj hPn
                    go_wp2_with (at_builtin; refine wpList_append_own _ rfl (.tmp 77) (.tmp 79) 304 rfl S 239 i0 (.slice none 0 0) 1 24 Tryz.underlying304 hi hz0 hz1 hz2 rfl (by decide) _ _ _ rfl (HWc.out.xown.alloc _) ⟨wc.heap.size, 0, none⟩ 1 1 [.slice ca c.length cc] rfl rfl (one_new _ _ _) h1c hc3 hc4 (hc5.out _) ?_; intro vx' w1 ho1 hg1 _; have HW1 : Hid _ := HWc.out.app c (.slice ca c.length cc) HCS.out hg1 ho1)
                    go_roundw
                    case rel => exact ⟨j + 1, vx', _, seen, rfl, by go_num, by omega, HW1.out, hsl, by simp; omega, hPn2, hsj2⟩
                    case measure => simp [intOf]; omega
                  | true =>
                    obtain ⟨hPc, hkey⟩ := hp1 HON.out
                    have hcS := own_down hown (Nat.zero_le _)
                    have hle2 := HLe.out wc _ c HWc.out.below hcS hc8.out
                    obtain ⟨ca, cc, hcv⟩ := own_form hown
                    subst hcv
                    have hws : wayStep q.1 i names ps[i].1 (seen, nx.map (·.1)) (b, gs[j].1) = if seen.getD (keyN names (lessL q.1 i c)) false = true then (seen, nx.map (·.1)) else (seen.set (keyN names (lessL q.1 i c)) true, nx.map (·.1) ++ [lessL q.1 i c]) := by
                      unfold wayStep; simp only [hfg2, HON.out]; simp
                    rw [hws] at hsj
                    have hl8 : Hid ((lessL q.1 i c).length = 8) := (lessL_len _ _ _).trans hc8.out
                    generalize lessL q.1 i c = c' at *
                    have x0c : wc.cell? ⟨N, 0, none⟩ = some (.string q.1.head.rel) := by simp [World.cell?, hWc.bx]
                    have x1c : wc.cell? ⟨N, 1, none⟩ = some (.slice a1 q.1.head.args.length a2) := by simp [World.cell?, hWc.bx]
                    have x2c : wc.cell? ⟨N, 2, none⟩ = some (.slice (some ⟨g, 0, none⟩) ps.length b2) := by simp [World.cell?, hWc.bx]
                    clear hc1 hc2 hws hbc hWc hown hcS hfg2 hp1 hp2 hc5
                    go_wp2_with fail
                    refine hle2.mono ?_
                    rintro e W7 ⟨v7, rfl, ho7, hb7⟩
                    have hW7 := HWc.out.grows hb7
                    have hc7 : StrsIn W7 v7 c' := own_down ho7 (Nat.zero_le _)
                    have hk7 := key_any v7 (.slice na names.length nc) c' names W7 hc7 hW7.nm (by have := hl8.out; omega) hn8 hd
                    obtain ⟨ca7, cc7, hv7⟩ := own_form ho7
                    subst hv7
                    have HW7 : Hid (WySt N S sb w W7 #[.string q.1.head.rel, .slice a1 q.1.head.args.length a2, .slice (some ⟨g, 0, none⟩) ps.length b2] (.slice (some ⟨gl, 0, none⟩) lps.length lc) lps (.slice na names.length nc) names seen vx nx) := hW7
                    have HC7 : Hid (StrsIn W7 (.slice ca7 c'.length cc7) c') := hc7
                    generalize keyN names c' = kn at *
                    clear hle2 ho7 hb7 hW7 hc7
                    go_wp2_with fail
                    refine hk7.mono ?_
                    rintro e W8 ⟨rfl, hb8⟩
                    have hW8 := HW7.out.grows hb8
                    have HC8 : Hid (StrsIn W8 (.slice ca7 c'.length cc7) c') := StrsIn.below HC7.out hb8
                    have HW8 : Hid (WySt N S sb w W8 #[.string q.1.head.rel, .slice a1 q.1.head.args.length a2, .slice (some ⟨g, 0, none⟩) ps.length b2] (.slice (some ⟨gl, 0, none⟩) lps.length lc) lps (.slice na names.length nc) names seen vx nx) := hW8
                    have hsl' : seen.length = 4096 := hsl.out
                    have k8 : W8.cell? ⟨sb, kn, none⟩ = some (.bool (seen.getD kn false)) := by simp [World.cell?, hW8.sn, List.getElem?_eq_getElem (show kn < seen.length by omega)]
                    have f8 : W8.frozen? ⟨sb, kn, none⟩ = false := by simp [World.frozen?, hW8.sn]
                    clear hk7 hb8 hW8 hsl'
                    cases hsd : seen.getD kn false with
                    | true =>
                      rw [hsd] at k8 hsj
                      simp only [if_true] at hsj
                      go_wp2
                      go_roundw
                      case rel => exact ⟨j + 1, vx, nx, seen, rfl, by go_num, by omega, HW8.out, hsl, by omega, hPn, hsj⟩
                      case measure => simp [intOf]; omega
                    | false =>
                      rw [hsd] at k8 hsj
                      simp only [Bool.false_eq_true, if_false] at hsj
                      have hM := HW8.out.mark kn
                      have HM : Hid (WySt N S sb w (W8.setCell ⟨sb, kn, none⟩ (.bool true)) #[.string q.1.head.rel, .slice a1 q.1.head.args.length a2, .slice (some ⟨g, 0, none⟩) ps.length b2] (.slice (some ⟨gl, 0, none⟩) lps.length lc) lps (.slice na names.length nc) names (seen.set kn true) vx nx) := hM
                      have hsl2 : Hid ((seen.set kn true).length = 4096) := by show _ = _; rw [List.length_set]; exact hsl.out
                      have hc5 : Hid (∀ O, S ≤ ((W8.setCell ⟨sb, kn, none⟩ (.bool true)).alloc O).heap.size) := fun O => by have := hM.nS.2.2; simp at this ⊢; omega
                      have h1c : ∀ u ∈ [Value.slice ca7 c'.length cc7], u.oneCell' = true := by simp [Value.oneCell']
                      have hCM : Hid (StrsIn (W8.setCell ⟨sb, kn, none⟩ (.bool true)) (.slice ca7 c'.length cc7) c') := by
                        refine own_keep HC8.out (fun g' hg' _ => Below.heap_setCell _ _ _ _ (fun e => ?_))
                        obtain ⟨cx, hcx⟩ := own_cells HC8.out hg'
                        simp at e; subst e
                        rw [HW8.out.sn] at hcx; cases hcx
                      have hNw8 : Hid (∀ (x : Value) (t : TypeId) (i : Nat) (u : Value), [x][i]? = some u → ((W8.setCell ⟨sb, kn, none⟩ (.bool true)).alloc (.cells #[x] t)).cell? ((⟨W8.heap.size, 0, none⟩ : Addr).add i) = some u) := by
                        intro x t i u hu
                        have := one_new (W8.setCell ⟨sb, kn, none⟩ (.bool true)) x t i u hu
                        simpa using this
                      have hPn2 : Hid (∀ p ∈ nx ++ [(c', Value.slice ca7 c'.length cc7)], P (i + 1) p.1 ∧ p.1.length = 8) := by
                        intro p hp
                        rcases List.mem_append.1 hp with hp | hp
                        · exact hPn.out p hp
                        · simp at hp; subst hp; exact ⟨hPc, hl8.out⟩
                      have hsj2 : Hid (((gs.drop (j + 1)).map (fun p => (b, p.1)) ++ pairsOf ((lps.drop (k + 1)).map (·.1)) (gs.map (·.1))).foldl (wayStep q.1 i names ps[i].1) (seen.set kn true, (nx ++ [(c', Value.slice ca7 c'.length cc7)]).map (·.1)) = FF) := by
                        show _ = _; rw [← hsj.out]; simp
                      clear hM hsj hPn hPc
                      go_wp2_with (at_builtin; refine wpList_append_own _ rfl (.tmp 77) (.tmp 79) 304 rfl S 239 i0 (.slice none 0 0) 1 24 Tryz.underlying304 hi hz0 hz1 hz2 rfl (by decide) _ _ _ rfl (HM.out.xown.alloc _) ⟨W8.heap.size, 0, none⟩ 1 1 [.slice ca7 c'.length cc7] rfl rfl (hNw8.out _ _) h1c hc3 hc4 (hc5.out _) ?_; intro vx' w1 ho1 hg1 _; have HW1 : Hid _ := HM.out.app c' (.slice ca7 c'.length cc7) hCM.out hg1 ho1)
                      go_roundw
                      case rel => exact ⟨j + 1, vx', _, seen.set kn true, rfl, by go_num, by omega, HW1.out, hsl2, by simp; omega, hPn2, hsj2⟩
                      case measure => simp [intOf]; omega
            · rw [List.drop_eq_nil_of_le (by omega)] at hsj
              simp only [List.map_nil, List.nil_append] at hsj
              have hjj : j = gs.length := by omega
              have hnl2 : nx.length ≤ (k + 1) * gs.length := by rw [Nat.succ_mul]; omega
              have HW : Hid (WySt N S sb w wr #[.string q.1.head.rel, .slice a1 q.1.head.args.length a2, .slice (some ⟨g, 0, none⟩) ps.length b2] (.slice (some ⟨gl, 0, none⟩) lps.length lc) lps (.slice na names.length nc) names seen vx nx) := hW
              clear hW hjj hnl
              go_wp2
              go_roundw
              case rel => exact ⟨k + 1, vx, nx, seen, rfl, by go_num, by omega, HW.out, hsl, hnl2, hPn, hsj⟩
              case measure => simp [intOf]; omega
        · rw [List.drop_eq_nil_of_le (by omega)] at hsk
          have hF2 : FF = (seen, nx.map (·.1)) := by rw [← hsk.out]; rfl
          have HF2 : Hid (((List.range ps.length).drop (i + 1)).foldl (wayRound q.1 names (gs.map (·.1))) (nx.map (·.1)) = T) := by
            have := hsp.out; rw [hF2] at this; exact this
          have hkk : k = lps.length := by omega
          have hnl2 : nx.length ≤ 2048 ^ (i + 1) := by
            rw [Nat.pow_succ]
            refine Nat.le_trans hnl ?_
            rw [hkk]
            exact Nat.mul_le_mul HLL.out hgl
          have HNL : Hid _ := hnl2
          have HW : Hid (WySt N S sb w wr #[.string q.1.head.rel, .slice a1 q.1.head.args.length a2, .slice (some ⟨g, 0, none⟩) ps.length b2] (.slice la lps.length lc) lps (.slice na names.length nc) names seen vx nx) := hW
          clear hF2 hkk hnl2 hsk hW hnl
          go_wp2
          go_roundw
          case rel => exact ⟨i + 1, vx, nx, rfl, by go_num, by omega, ⟨HW.out.below, HW.out.bx, ⟨own_down HW.out.xown (Nat.zero_le _), HW.out.each⟩, HW.out.nm, by have := HW.out.nS; omega⟩, HNL.out, hPn, HF2⟩
          case measure => simp [intOf]; omega
    · have hip : i = ps.length := by omega
      have hfin : lps.map (·.1) = T := by
        have := hsp.out
        rw [List.drop_eq_nil_of_le (by simp; omega)] at this
        exact this
      have HR : Hid (lps.map (·.1) = T ∧ (∀ p ∈ lps, P ps.length p.1 ∧ p.1.length = 8) ∧ lps.length ≤ 2048 ^ 3) := by
        refine ⟨hfin, by rw [← hip]; exact hPl.out, Nat.le_trans hll (Nat.pow_le_pow_right (by decide) (by omega))⟩
      have HO : Hid _ := hO
      clear hfin hip hO hsp hPl hll
      go_wp2
      go_ret
      exact ⟨_, lps, rfl, HO.out.l, HR.out.1, HR.out.2.1, HR.out.2.2, HO.out.below⟩

end Go.Proofs.YtjajnhemgphefaaGreatDoor
