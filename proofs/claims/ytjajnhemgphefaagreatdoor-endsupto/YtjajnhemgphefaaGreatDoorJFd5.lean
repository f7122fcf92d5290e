/-
  Package model: what one model has beyond another.
  Package feeds: records of ground atoms.
  slices.Delete at records: the first one goes.
  Package feeds: a feed in memory; its next record.
  Package feeds: a feed in memory; its next record.
  Package feeds: the next record of a feed that is behind, and of one that has none.
  Package feeds: Poll.
-/
import Derived.Test.YtjajnhemgphefaaGreatDoorJApI
import Derived.Test.YtjajnhemgphefaaGreatDoorJIdxRules
import Derived.Test.YtjajnhemgphefaaGreatDoorJAddN
import Derived.Test.YtjajnhemgphefaaGreatDoorJGr
import Derived.Lib.SliceRun
namespace Go.Proofs.YtjajnhemgphefaaGreatDoor
open Go.RowKit Go.Shelf Go.Maps
set_option linter.unusedVariables false
set_option linter.unusedSimpArgs false
attribute [local go_sem] Oper.semAt_some

theorem beyond_any (B B2 : Nat) (a : Am) (va : Value) (w : World) (ta : Option Addr) (tn tc : Nat) (hva : va = .slice ta tn tc) :
    Calls Tryz.prog 147 #[.map (some B), .map (some B2), .agg #[.string a.rel, va]] w fun e w' => e = .returned (.func (.func 193) #[] #[.pointer (some ⟨w.heap.size, 0, none⟩), .pointer (some ⟨w.heap.size + 2, 0, none⟩), .pointer (some ⟨w.heap.size + 1, 0, none⟩)]) ∧
      w' = ((w.alloc (.cells #[.map (some B)] 98)).alloc (.cells #[.map (some B2)] 98)).alloc (.cells #[.string a.rel, va] 92) := by
  subst hva
  go_enter Tryz.func147, Tryz.ntmps147
  go_wp2
  go_ret
  exact ⟨rfl, rfl⟩

/-- The boxes that the iterator of Beyond has captured. -/
structure BySt (Bm Ba Bo B B2 nn n2 b87 : Nat) (M M2 : Gd → Option Int) (a : Am) (va : Value) (W : World) : Prop where
  bm : W.heap[Bm]? = some (Obj.cells #[.map (some B)] 98 (0, 0))
  ba : W.heap[Ba]? = some (Obj.cells #[.string a.rel, va] 92 (0, 0))
  bo : W.heap[Bo]? = some (Obj.cells #[.map (some B2)] 98 (0, 0))
  args : SealT W b87 va a.args
  md : MdAt W B nn M
  md2 : MdAt W B2 n2 M2
theorem BySt.mk' {m Bm Ba Bo B B2 nn n2 b87 : Nat} {M M2 : Gd → Option Int} {a : Am} {va : Value} {W W' : World} (h : BySt Bm Ba Bo B B2 nn n2 b87 M M2 a va W) (hk : MKept m W W') : BySt Bm Ba Bo B B2 nn n2 b87 M M2 a va W' :=
  ⟨hk.cells _ _ _ (by unfold MFix; decide) h.bm, hk.cells _ _ _ (by unfold MFix; decide) h.ba, hk.cells _ _ _ (by unfold MFix; decide) h.bo, h.args.mk hk, h.md.mk hk, h.md2.mk hk⟩

set_option maxRecDepth 100000 in
set_option maxHeartbeats 16000000 in
theorem beyond_seq (n0 Bm Ba Bo B B2 nn n2 b87 : Nat) (M M2 : Gd → Option Int) (a : Am) (va : Value) (w : World) (hst : BySt Bm Ba Bo B B2 nn n2 b87 M M2 a va w)
    (hal : a.args.length ≤ 2) (hnum : ∀ t ∈ a.args, t.num < 6) (hrel : a.rel.size ≤ 2000) (hnm : ∀ t ∈ a.args, t.name.size ≤ 2000) (hMs : ∀ x y, (M ⟨a.rel, x, y⟩).isSome = true → x.size ≤ 2000 ∧ y.size ≤ 2000) (m : Nat) :
    SeqM m n0 193 #[.pointer (some ⟨Bm, 0, none⟩), .pointer (some ⟨Ba, 0, none⟩), .pointer (some ⟨Bo, 0, none⟩)] (fun g : GdY => #[g.1.v]) (MKept m)
      (fun gs => ∃ ks : List (ByteArray × ByteArray), ks.Nodup ∧ (∀ x y, (x, y) ∈ ks ↔ (x.size ≤ maxLen ∧ y.size ≤ maxLen ∧ (M ⟨a.rel, x, y⟩).isSome = true)) ∧ ks.length ≤ nn ∧ gs.map (·.1) = ((ks.filterMap (fun k => matchA nms0 a k.1 k.2)).map (fun p => groundA p a)).filter (fun g => (M2 g).isNone)) (fun _ => True) nn w := by
  obtain ⟨n, hn⟩ : ∃ n, 12 ≤ n := ⟨12, Nat.le_refl _⟩
  refine SeqM.any (n := n) ?_ n0
  have n1 : 1 ≤ n := by omega
  have n2' : 1 ≤ n - 1 := by omega
  have n3 : 1 ≤ n - 1 - 1 := by omega
  intro l J Jx W hW hsz hJ hJx hY h0
  have hst' := hst.mk' (MKept.ofBelow (m := m) hW)
  clear hst hW
  obtain ⟨fa, fc, hva⟩ := hst'.args.form
  subst hva
  have hal' : ∀ O, Below W.heap.size W (W.alloc O) := fun O => (Below.refl _ W).alloc (Nat.le_refl _) O
  have c0 : ∀ O, (W.alloc O).cell? ⟨Bm, 0, none⟩ = some (.map (some B)) := fun O => cell_later (hal' O) (by have := hst'.bm; simp [World.cell?, this])
  have c1 : ∀ O, (W.alloc O).cell? ⟨Ba, 0, none⟩ = some (.string a.rel) := fun O => cell_later (hal' O) (by have := hst'.ba; simp [World.cell?, this])
  have c2 : ∀ O, (W.alloc O).cell? ⟨Ba, 1, none⟩ = some (.slice fa a.args.length fc) := fun O => cell_later (hal' O) (by have := hst'.ba; simp [World.cell?, this])
  have hfi : Hid (∀ W, Calls Tryz.prog 51 #[.map (some B), .agg #[.string a.rel, .slice fa a.args.length fc]] W fun e w' => e = .returned (.func (.func 93) #[] #[.pointer (some ⟨W.heap.size, 0, none⟩), .pointer (some ⟨W.heap.size + 1, 0, none⟩)]) ∧
      w' = (W.alloc (.cells #[.map (some B)] 98)).alloc (.cells #[.string a.rel, .slice fa a.args.length fc] 92)) := fun W => mfits_any B a _ W _ _ _ rfl
  have HST : Hid _ := hst'
  have HY : Hid _ := hY
  have HJ : Hid (OwnFrom W.heap.size J) := hJ
  have HJx : Hid (OwnFrom W.heap.size Jx) := hJx
  have H0 : Hid _ := h0
  clear hY hJ hJx h0 hal' hst'
  refine callsIn_of_wp_marks Tryz.func193 rfl trivial ?_ rfl
  simp only [Tryz.ntmps193, List.size_toArray, List.length_cons, List.length_nil, Nat.reduceAdd, Nat.reduceSub, Array.replicate_succ, Array.replicate_zero, List.push_toArray, List.append_toArray, List.nil_append, List.cons_append]
  gi_wp2_with (refine ⟨trivial, ?_⟩; gi_at_call 51; refine (callsIn_wide.2 (hfi.out _)).mono ?_; rintro e w' ⟨rfl, rfl⟩)
  obtain ⟨NB, hNB⟩ : ∃ NB, W.heap.size = NB := ⟨_, rfl⟩
  obtain ⟨W0, hW0⟩ : ∃ W0, ((W.alloc (.cells #[.func (.yield l) #[] #[]] 181)).alloc (.cells #[.map (some B)] 98)).alloc (.cells #[.string a.rel, .slice fa a.args.length fc] 92) = W0 := ⟨_, rfl⟩
  have hb0 : Below W.heap.size W W0 := by rw [← hW0]; exact (((Below.refl _ W).alloc (Nat.le_refl _) _).alloc (by simp) _).alloc (by simp; omega) _
  have hs0 : W0.heap.size = NB + 3 := by rw [← hW0, ← hNB]; simp
  have bY : W0.heap[NB]? = some (Obj.cells #[.func (.yield l) #[] #[]] 181 (0, 0)) := by
    rw [← hW0, ← hNB]
    exact (Below.heap_alloc _ _ _ (by simp; omega)).trans ((Below.heap_alloc _ _ _ (by simp)).trans (World.alloc_heap_new W _))
  have bM : W0.heap[NB + 1]? = some (Obj.cells #[.map (some B)] 98 (0, 0)) := by
    rw [← hW0, ← hNB]
    refine (Below.heap_alloc _ _ _ (by simp)).trans ?_
    have := World.alloc_heap_new (W.alloc (.cells #[.func (.yield l) #[] #[]] 181)) (.cells #[.map (some B)] 98)
    rw [World.size_alloc] at this; exact this
  have bA : W0.heap[NB + 1 + 1]? = some (Obj.cells #[.string a.rel, .slice fa a.args.length fc] 92 (0, 0)) := by
    rw [← hW0, ← hNB]
    have := World.alloc_heap_new ((W.alloc (.cells #[.func (.yield l) #[] #[]] 181)).alloc (.cells #[.map (some B)] 98)) (.cells #[.string a.rel, .slice fa a.args.length fc] 92)
    rw [World.size_alloc, World.size_alloc] at this; exact this
  have hst0 := (HST.out).mk' (MKept.ofBelow (m := m) hb0)
  have hJ0 : J [] W0 := HJ.out _ _ _ none H0.out (below_grownBy hb0) (fun r e => by cases e)
  have hm0 : m ≤ W0.heap.size := by have := hb0.size; omega
  have ih := fits_seq (n - 1) (NB + 1) (NB + 1 + 1) B nn b87 M a (.slice fa a.args.length fc) W0 bM bA hst0.md hst0.args hal hnum hrel hnm hMs (W0.heap.size + 2)
  simp only [hNB]
  rw [hW0]
  clear hW0 c0 c1 c2 hfi
  have HST0 : Hid _ := hst0
  clear hst0
  refine range_outM (n := n) (gf := 93) (lb := #[.pointer (some ⟨NB + 1, 0, none⟩), .pointer (some ⟨NB + 1 + 1, 0, none⟩)]) rfl (enters_of Tryz.func93 (by kernel_rfl) rfl)
    ih MKept.tr (fun V rc o' ho => MKept.put V _ _ o' (by omega) ho rfl (fun _ _ h => by cases h)) (fun _ => rfl)
    (fun pre V => ∃ gs : List GdY, J gs V ∧ gs.map (·.1) = (pre.map (·.1)).filter (fun g => (M2 g).isNone) ∧ MKept m W0 V)
    (fun c pre V => c = .ret ∧ ∃ gs, Jx gs V)
    ?hI ?hIx ⟨[], hJ0, rfl, MKept.ofBelow (Below.refl _ _)⟩
    (fun x a' V => ∃ Bx, V.heap[Bx]? = some (Obj.cells x.1.c 111 (0, 0)) ∧ a' = { tmps := #[.func (.yield l) #[] #[], .pointer (some ⟨Bm, 0, none⟩), .pointer (some ⟨Ba, 0, none⟩), .pointer (some ⟨Bo, 0, none⟩), .pointer (some ⟨NB, 0, none⟩), .pointer (some ⟨Bx, 0, none⟩), .map (some B), .agg #[.string a.rel, .slice fa a.args.length fc], .func (.func 93) #[] #[.pointer (some ⟨NB + 1, 0, none⟩), .pointer (some ⟨NB + 1 + 1, 0, none⟩)], .agg #[.string x.1.rel, .string x.1.x, .string x.1.y], undef, undef, undef, undef, undef, undef, undef, undef, undef, undef], defers := [] })
    ?hAx ?assign ?body ?done ?stop
  case hI =>
    rintro pre V V' row ⟨gs, h1, h2, h4⟩ hg hr
    exact ⟨gs, HJ.out _ _ _ row h1 hg (fun r e => ⟨by have := (hr r e).1; omega, (hr r e).2⟩), h2, h4.own hg (fun r e => (hr r e).1)⟩
  case hIx =>
    rintro c pre V V' row ⟨rfl, gs, h1⟩ hg hr
    exact ⟨rfl, gs, HJx.out _ _ _ row h1 hg (fun r e => ⟨by have := (hr r e).1; omega, (hr r e).2⟩)⟩
  case hAx =>
    rintro x a' _ V V' row ⟨Bx, h2, h3⟩ hg hr
    exact ⟨Bx, kept_of_grown hg (fun r e => (hr r e).2) _ _ _ _ h2, h3⟩
  case assign =>
    rintro l' pre x V K hl hlr ⟨gs, h1, h2, h4⟩ hK
    have HK : Hid _ := hK
    clear hK
    unfold Gd.v Gd.c
    gi_wp2
    have hbl : Below V.heap.size V (V.alloc (.cells #[.string x.1.rel, .string x.1.x, .string x.1.y] 111)) := (Below.refl _ V).alloc (Nat.le_refl _) _
    exact HK.out _ _ (KeepsFrom.ofBelow hbl) (MKept.ofBelow hbl) ⟨gs, HJ.out _ _ _ none h1 (below_grownBy hbl) (fun r e => by cases e), h2, h4.tr (MKept.ofBelow hbl)⟩ ⟨V.heap.size, World.alloc_heap_new V _, rfl⟩
  case done =>
    rintro D xs V hD ⟨ks, k1, k2, k3, k4⟩ ⟨gs, h1, h2, h4⟩ hK
    have hfin : Hid (∃ ks : List (ByteArray × ByteArray), ks.Nodup ∧ (∀ x y, (x, y) ∈ ks ↔ (x.size ≤ maxLen ∧ y.size ≤ maxLen ∧ (M ⟨a.rel, x, y⟩).isSome = true)) ∧ ks.length ≤ nn ∧ gs.map (·.1) = ((ks.filterMap (fun k => matchA nms0 a k.1 k.2)).map (fun p => groundA p a)).filter (fun g => (M2 g).isNone)) :=
      ⟨ks, k1, k2, k3, by rw [h2, k4]⟩
    clear h2 k2 k4
    gi_wp2
    refine ⟨by simp, .inl ⟨_, _, rfl, run_takeDeferred hK, ?_⟩⟩
    refine ⟨_, results_none rfl _ _ _, ⟨_, rfl⟩, .inl ⟨gs, hfin.out, ?_⟩⟩
    exact HJ.out _ _ _ (some D) h1 (grownBy_putObj' V D (.deferred none)) (fun r e => by cases e; exact ⟨by omega, _, hK, rfl⟩)
  case stop =>
    rintro D c pre V hD _ ⟨rfl, gs, h1⟩ hK
    gi_wp2
    refine ⟨by simp, .inl ⟨_, _, rfl, run_takeDeferred hK, ?_⟩⟩
    refine ⟨_, results_none rfl _ _ _, ⟨_, rfl⟩, .inr ⟨gs, trivial, ?_⟩⟩
    exact HJx.out _ _ _ (some D) h1 (grownBy_putObj' V D (.deferred none)) (fun r e => by cases e; exact ⟨by omega, _, hK, rfl⟩)
  case body =>
    rintro l2 pre x a' X hl2 ⟨rc2, hrc2⟩ ⟨gs, j1, j0, j2⟩ ⟨Bx, hbx, rfl⟩ hlt2
    have hstX := (HST0.out).mk' j2
    have hyb := j2.cells _ _ _ (by unfold MFix; decide) bY
    have hbx' := hbx
    unfold Gd.c at hbx'
    have q0 : X.cell? ⟨Bx, 0, none⟩ = some (.string x.1.rel) := by simp [World.cell?, hbx']
    have q1 : X.cell? ⟨Bx, 1, none⟩ = some (.string x.1.x) := by simp [World.cell?, hbx']
    have q2 : X.cell? ⟨Bx, 2, none⟩ = some (.string x.1.y) := by simp [World.cell?, hbx']
    have qo : X.cell? ⟨Bo, 0, none⟩ = some (.map (some B2)) := by have := hstX.bo; simp [World.cell?, this]
    have cy : X.cell? ⟨NB, 0, none⟩ = some (.func (.yield l) #[] #[]) := by simp [World.cell?, hyb]
    have hhas : Hid (Calls Tryz.prog 136 #[.map (some B2), .agg #[.string x.1.rel, .string x.1.x, .string x.1.y]] X fun e w' => e = .returned (.bool (M2 x.1).isSome) ∧ Below X.heap.size X w') := has_any B2 n2 M2 x.1 x.2.ok X hstX.md2
    have hlen : gs.length < nn := by
      have e1 := congrArg List.length j0
      rw [List.length_map] at e1
      have e2 := List.length_filter_le (fun g => (M2 g).isNone) (pre.map (·.1))
      have e3 : (pre.map (·.1)).length = pre.length := List.length_map _
      omega
    have hfl : Hid (((pre ++ [x]).map (·.1)).filter (fun g => (M2 g).isNone) = gs.map (·.1) ++ (if (M2 x.1).isNone = true then [x.1] else [])) := by
      show _ = _
      rw [List.map_append, List.filter_append, j0]
      congr 1
      show List.filter _ [x.1] = _
      rw [List.filter_cons, List.filter_nil]
    have hyl : Hid (∀ X3, Below X.heap.size X X3 → YieldAt Fence.wide (n - 1) Tryz.prog l #[.agg #[.string x.1.rel, .string x.1.x, .string x.1.y]] X3 fun e W' => ∃ b : Bool, e = .returned (.bool b) ∧ ((b = true ∧ J (gs ++ [x]) W' ∧ MKept m X W') ∨ (b = false ∧ Jx (gs ++ [x]) W' ∧ KeepsFrom m X W'))) := by
      intro X3 hb
      obtain ⟨fn, tmps, assign, body, hy, hR⟩ := HY.out gs x X3 (HJ.out _ _ _ none j1 (below_grownBy hb) (fun r e => by cases e)) hlen
      refine ⟨fn, tmps, assign, body, hy, hR.mono ?_⟩
      rintro e W' (⟨rfl, k1, k2⟩ | ⟨rfl, k1, k2⟩)
      · exact ⟨true, rfl, .inl ⟨rfl, k1, (MKept.ofBelow hb).tr k2⟩⟩
      · exact ⟨false, rfl, .inr ⟨rfl, k1, KeepsFrom.tr (KeepsFrom.ofBelow hb) k2⟩⟩
    have hcs : Hid (∀ X3, Below X.heap.size X X3 → X3.cell? ⟨NB, 0, none⟩ = some (.func (.yield l) #[] #[]) ∧ X3.cell? ⟨Bx, 0, none⟩ = some (.string x.1.rel) ∧ X3.cell? ⟨Bx, 1, none⟩ = some (.string x.1.x) ∧ X3.cell? ⟨Bx, 2, none⟩ = some (.string x.1.y)) := fun X3 hb => ⟨cell_later hb cy, cell_later hb q0, cell_later hb q1, cell_later hb q2⟩
    clear hbx' hstX hyb
    cases hMh : M2 x.1 with
    | some t =>
      have hfl2 : Hid (((pre ++ [x]).map (·.1)).filter (fun g => (M2 g).isNone) = gs.map (·.1)) := by show _ = _; rw [hfl.out, hMh]; simp
      rw [hMh] at hhas
      clear hMh hfl hyl hcs hlen j0
      gi_wp2_with (refine ⟨trivial, ?_⟩; gi_at_call 136; refine (CallsIn.inRound l2 (callsIn_wide.2 hhas.out)).mono ?_; rintro e X3 ⟨rfl, hbx3⟩)
      refine ⟨fun f h => (by cases h), ?_⟩
      gi_wp2
      exact ⟨KeepsFrom.ofBelow hbx3, MKept.ofBelow hbx3, gs, HJ.out _ _ _ none j1 (below_grownBy hbx3) (fun r e => by cases e), hfl2.out.symm, j2.tr (MKept.ofBelow hbx3)⟩
    | none =>
      have hfl2 : Hid (((pre ++ [x]).map (·.1)).filter (fun g => (M2 g).isNone) = (gs ++ [x]).map (·.1)) := by
        show _ = _
        rw [hfl.out, hMh, List.map_append]
        rfl
      rw [hMh] at hhas
      clear hMh hfl hlen j0
      gi_wp2_with (refine ⟨trivial, ?_⟩; gi_at_call 136; refine (CallsIn.inRound l2 (callsIn_wide.2 hhas.out)).mono ?_; rintro e X3 ⟨rfl, hbx3⟩; obtain ⟨cyy, g0, g1, g2⟩ := hcs.out X3 hbx3; obtain ⟨fn, tmps, assign, body, hy, hR⟩ := hyl.out X3 hbx3)
      refine (roundIn_any hR).mono ?_
      rintro e X' ⟨b, rfl, ⟨rfl, hJ', hk'⟩ | ⟨rfl, hJx', hk'⟩⟩
      · clear hy hR
        gi_wp2
        exact ⟨KeepsFrom.up hk'.from' (by omega), hk'.up (by omega), gs ++ [x], hJ', hfl2.out.symm, j2.tr hk'⟩
      · clear hy hR
        gi_wp2
        exact ⟨KeepsFrom.up hk' (by omega), rfl, ⟨_, hJx'⟩⟩

end Go.Proofs.YtjajnhemgphefaaGreatDoor

namespace Go.Proofs.YtjajnhemgphefaaGreatDoor
open Go.RowKit Go.Shelf Go.Maps
set_option linter.unusedVariables false
set_option linter.unusedSimpArgs false

/-- A record of a feed. -/
structure Rc where
  kind : Int
  seq : Int
  text : ByteArray
  time : Int
def Rc.c (r : Rc) : List Value := [.int .i64 r.kind, .int .i64 r.seq, .string r.text, .int .i64 r.time]
def Rc.v (r : Rc) : Value := .agg r.c.toArray
/-- The records of texts. -/
def recsT (kind : Int) (l : List (List UInt8)) : List Rc := l.map (fun t => ⟨kind, 0, ⟨t.toArray⟩, 0⟩)

theorem row_str {W : World} {b : Nat} {v : Value} {l : List (List UInt8)} (h : W.ownsRow b 9 1 v l.length (l.map strV)) {k : Nat} (hk : k < l.length) :
    ∃ (g c : Nat), v = .slice (some ⟨g, 0, none⟩) l.length c ∧ W.cell? ⟨g, k, none⟩ = some (.string ⟨(l[k]).toArray⟩) := by
  obtain ⟨_, ⟨_, hz⟩ | ⟨g, c, cur, hv, _, hw, _, _, _, htk⟩⟩ := h
  · omega
  refine ⟨g, c, hv, ?_⟩
  have e1 : (l.map strV)[k]? = some (strV l[k]) := by rw [List.getElem?_map, List.getElem?_eq_getElem hk]; rfl
  rw [← htk, List.getElem?_take, if_pos (by omega)] at e1
  simp only [World.cell?, hw]
  have e2 : cur[k]? = some (strV l[k]) := by simpa using e1
  exact e2

set_option maxHeartbeats 4000000 in
theorem records_any {gf : Nat} {lb : Array Value} {S Sp : List GdY → Prop} {N : Nat} (kind : Int) (w : World) (hNl : N ≤ 1000000)
    (eg : ∀ args w, (callFunc gf args).run Tryz.prog w = .ok (.enter gf args) w) (hseq : ∀ m n, SeqM m n gf lb (fun g : GdY => #[g.1.v]) (MKept m) S Sp N w) :
    Calls Tryz.prog 146 #[.int .i64 kind, .func (.func gf) #[] lb] w fun e w' => ∃ (v : Value) (gs : List GdY), e = .returned v ∧ S gs ∧ w'.ownsRow w.heap.size 71 4 v (recsT kind (sortT (gs.map (fun g => (textG g.1).data.toList)))).length ((recsT kind (sortT (gs.map (fun g => (textG g.1).data.toList)))).flatMap Rc.c) ∧ Below w.heap.size w w' := by
  have HTX : Hid (Calls Tryz.prog 50 #[.func (.func gf) #[] lb] w fun e w' => ∃ (oa : Option Addr) (oc : Nat) (ts : List (List UInt8)) (gs : List GdY), e = .returned (.slice oa ts.length oc) ∧ S gs ∧ ts = sortT (gs.map (fun g => (textG g.1).data.toList)) ∧ ts.length ≤ 1000000 ∧ w'.ownsRow w.heap.size 9 1 (.slice oa ts.length oc) ts.length (ts.map strV) ∧ Below w.heap.size w w') := by
    refine (texts_any w hNl eg hseq).mono ?_
    rintro e w' ⟨v, gs, rfl, hS, ho, hb, hl⟩
    have hlen : (sortT (gs.map (fun g => (textG g.1).data.toList))).length = gs.length := ((List.mergeSort_perm _ _).length_eq).trans (by simp)
    obtain ⟨oa, oc, hof⟩ := owns_form ho
    subst hof
    rw [← hlen] at ho
    exact ⟨oa, oc, _, gs, by rw [hlen], hS, rfl, by omega, ho, hb⟩
  clear hseq
  go_enter Tryz.func146, Tryz.ntmps146
  go_wp2_with (go_at_call 50; refine (HTX.out).mono ?_; rintro e W1 ⟨oa, oc, ts, gs, rfl, hS, hts, htl, ho, hb⟩; have HTS : Hid _ := hts; clear hts)
  obtain ⟨i0, hi, hz0, hz1, hz2⟩ := info_parts Tryz.infoRec
  have HB : Hid _ := hb
  have hNW : w.heap.size ≤ W1.heap.size := hb.size
  have HO : Hid _ := ho
  clear ho hb HTX
  refine wp_loop (fun A V => ∃ (k : Nat) (qa : Option Addr) (qc : Nat) (u7 u12 u13 u14 u15 u16 u17 u18 u19 u20 u21 : Value), A = { tmps := #[.int .i64 kind, .func (.func gf) #[] lb, undef, undef, .slice none 0 0, .slice qa k qc, undef, u7, .func (.func gf) #[] lb, .slice oa ts.length oc, .int .i64 ts.length, .int .i64 k, u12, u13, u14, u15, u16, u17, u18, u19, u20, u21, undef], defers := [] } ∧ k ≤ ts.length ∧ V.ownsRow W1.heap.size 71 4 (.slice qa k qc) k ((recsT kind (ts.take k)).flatMap Rc.c) ∧ Below W1.heap.size W1 V) (fun A _ => ts.length - (intOf (A.tmps.getD 11 undef)).toNat) ⟨0, none, 0, _, _, _, _, _, _, _, _, _, _, _, rfl, Nat.zero_le _, ⟨rfl, .inl ⟨rfl, rfl⟩⟩, Below.refl _ _⟩ ?_
  rintro A V ⟨k, qa, qc, u7, u12, u13, u14, u15, u16, u17, u18, u19, u20, u21, rfl, hk, hown, hch⟩
  have hoV : V.ownsRow w.heap.size 9 1 (.slice oa ts.length oc) ts.length (ts.map strV) := own_below HO.out hch
  have hNV : W1.heap.size ≤ V.heap.size := hch.size
  by_cases hlt : k < ts.length
  · obtain ⟨g, c, e0, x0⟩ := row_str hoV hlt
    cases e0
    have hb1' : k + 1 ≤ maxLen := by unfold maxLen; omega
    have hb2' : (k + 1) * 40 ≤ 140737488355328 := by omega
    have hspec : Hid ((recsT kind (ts.take (k + 1))).flatMap Rc.c = (recsT kind (ts.take k)).flatMap Rc.c ++ [.int .i64 kind, .int .i64 0, .string ⟨(ts[k]).toArray⟩, .int .i64 0]) := by
      show _ = _
      rw [List.take_succ_eq_append_getElem hlt]
      unfold recsT
      rw [List.map_append, List.flatMap_append]
      rfl
    generalize hxk : (⟨(ts[k]).toArray⟩ : ByteArray) = tx at *
    generalize hub : (recsT kind (ts.take k)).flatMap Rc.c = uc at *
    clear hxk hub hoV
    go_wp2_with (at_builtin; refine wpList_append_own _ rfl (.tmp 15) (.tmp 19) 196 rfl W1.heap.size 71 i0 (.agg #[.int .i64 0, .int .i64 0, .string ⟨#[]⟩, .int .i64 0]) 4 40 Tryz.underlying196 hi hz0 hz1 hz2 rfl (by decide) _ _ _ rfl (World.ownsRow.alloc hown _) ⟨V.heap.size, 0, none⟩ 1 1 [.int .i64 kind, .int .i64 0, .string tx, .int .i64 0] rfl rfl (cell_four_new _ _ _ _ _ _) (by simp [Value.oneCell']) hb1' hb2' (by simp; omega) ?_; intro v' w1 hown1 hgrow1 _; obtain ⟨g', cap', hv'⟩ := ownsRow_succ hown1; subst hv')
    have hown2 : w1.ownsRow W1.heap.size 71 4 (.slice (some ⟨g', 0, none⟩) (k + 1) cap') (k + 1) ((recsT kind (ts.take (k + 1))).flatMap Rc.c) := by rw [hspec.out]; exact hown1
    have hb2 : Below W1.heap.size W1 w1 := (hch.alloc hNV _).grown hgrow1 (by simp; omega) (fun j e => (owns_block hown e).1)
    refine ⟨⟨k + 1, _, _, _, _, _, _, _, _, _, _, _, _, _, rfl, by omega, hown2, hb2⟩, ?_⟩
    simp [intOf]; omega
  · have hkl : k = ts.length := by omega
    subst hkl
    rw [List.take_length] at hown
    go_wp2
    go_ret
    have hrl : (recsT kind ts).length = ts.length := by unfold recsT; simp
    refine ⟨_, gs, rfl, hS, ?_, HB.out.trans (hch.mono hNW)⟩
    rw [← HTS.out, hrl]
    exact ownsRow_lower hown hNW

end Go.Proofs.YtjajnhemgphefaaGreatDoor

namespace Go.Proofs.YtjajnhemgphefaaGreatDoor
open Go.RowKit Go.Shelf Go.Maps
set_option linter.unusedVariables false
set_option linter.unusedSimpArgs false

theorem setCells_heap {b : Nat} {t : TypeId} {fz : Nat × Nat} : ∀ (vs : List Value) (o : Nat) (w : World) (cur : Array Value), w.heap[b]? = some (Obj.cells cur t fz) → o + vs.length ≤ cur.size →
    ∃ cur' : Array Value, (w.setCells b o vs).heap[b]? = some (Obj.cells cur' t fz) ∧ cur'.size = cur.size ∧ (∀ j, j < vs.length → cur'[o + j]? = vs[j]?) ∧ ∀ j, (j < o ∨ o + vs.length ≤ j) → cur'[j]? = cur[j]?
  | [], o, w, cur, h, _ => ⟨cur, h, rfl, fun j hj => by simp at hj, fun _ _ => rfl⟩
  | v :: vs, o, w, cur, h, hl => by
    have h1 := heap_set h o v
    obtain ⟨cur', k1, k2, k3, k4⟩ := setCells_heap vs (o + 1) (w.setCell ⟨b, o, none⟩ v) _ h1 (by simp at hl ⊢; omega)
    refine ⟨cur', k1, by simpa using k2, fun j hj => ?_, fun j hj => ?_⟩
    · cases j with
      | zero =>
        rw [k4 (o + 0) (.inl (by omega))]
        have ho : o < cur.size := by simp at hl; omega
        simp [ho]
      | succ j =>
        have := k3 j (by simpa using hj)
        rw [show o + (j + 1) = o + 1 + j by omega, this]
        simp
    · simp only [List.length_cons] at hj
      rw [k4 j (by omega)]
      have : o ≠ j := by omega
      simp [Array.getElem?_setIfInBounds, this]

theorem setCells_chg {w0 : World} {b : Nat} : ∀ (vs : List Value) (o : Nat) (w : World), Chg w0 w (fun k => k = b) → Chg w0 (w.setCells b o vs) (fun k => k = b)
  | [], _, _, h => h
  | v :: vs, o, w, h => setCells_chg vs (o + 1) _ (h.setCell ⟨b, o, none⟩ v (fun _ => rfl))

end Go.Proofs.YtjajnhemgphefaaGreatDoor

namespace Go.Proofs.YtjajnhemgphefaaGreatDoor
open Go.RowKit Go.Shelf Go.Maps
set_option linter.unusedVariables false
set_option linter.unusedSimpArgs false

end Go.Proofs.YtjajnhemgphefaaGreatDoor

namespace Go.Proofs.YtjajnhemgphefaaGreatDoor
open Go.RowKit Go.Shelf Go.Maps
set_option linter.unusedVariables false
set_option linter.unusedSimpArgs false

/-- A feed. -/
structure Fs where
  form : Am
  behind : Bool
  snap : List Rc
  que : List Rc
  told : Nat
/-- Block bf is a feed; S: the blocks that are its own. -/
def FdAt (W : World) (S : Nat → Prop) (bf b87 : Nat) (f : Fs) : Prop :=
  ∃ va vs vq, W.heap[bf]? = some (Obj.cells #[.string f.form.rel, va, .bool f.behind, vs, vq, .int .i64 f.told] 198 (0, 0)) ∧ SealT W b87 va f.form.args ∧
    W.ownsRow 0 71 4 vs f.snap.length (f.snap.flatMap Rc.c) ∧ W.ownsRow 0 71 4 vq f.que.length (f.que.flatMap Rc.c) ∧
    (∀ g, vs.ownBlock = some g → S g ∧ vq.ownBlock ≠ some g) ∧ (∀ g, vq.ownBlock = some g → S g) ∧ S bf
/-- What is asked of a feed's form. -/
structure FormOk (a : Am) : Prop where
  args : a.args.length ≤ 2
  nums : ∀ t ∈ a.args, t.num < 6
  rel : a.rel.size ≤ 2000
  names : ∀ t ∈ a.args, t.name.size ≤ 2000

/-- A feed abides where only blocks are changed that are not its own. -/
theorem FdAt.keep {W W' : World} {S : Nat → Prop} {bf b87 : Nat} {f : Fs} (h : FdAt W S bf b87 f) {ex : Nat → Prop} (hk : ∀ k, k < W.heap.size → ¬ ex k → W'.heap[k]? = W.heap[k]?) (hS : ∀ k, S k → ¬ ex k) (hT : ∀ k c, W.heap[k]? = some (Obj.cells c 166 (0, 0)) → ¬ ex k) : FdAt W' S bf b87 f := by
  obtain ⟨va, vs, vq, h1, h2, h3, h4, h5, h6, h7⟩ := h
  exact ⟨va, vs, vq, (hk bf (Array.getElem?_eq_some_iff.1 h1).1 (hS bf h7)).trans h1, h2.kept (fun k c _ hc => (hk k (Array.getElem?_eq_some_iff.1 hc).1 (hT k c hc)).trans hc), own_keep h3 (fun g hg hlt => hk g hlt (hS g (h5 g hg).1)), own_keep h4 (fun g hg hlt => hk g hlt (hS g (h6 g hg))), h5, h6, h7⟩

end Go.Proofs.YtjajnhemgphefaaGreatDoor

namespace Go.Proofs.YtjajnhemgphefaaGreatDoor
open Go.RowKit Go.Shelf Go.Maps
set_option linter.unusedVariables false
set_option linter.unusedSimpArgs false

theorem marker_any (mark : Int) (w : World) : Calls Tryz.prog 149 #[.int .i64 mark] w fun e w' => e = .returned (.agg #[.int .i64 4, .int .i64 0, .string ⟨#[]⟩, .int .i64 mark]) ∧ Below w.heap.size w w' := by
  go_enter Tryz.func149, Tryz.ntmps149
  go_wp2
  refine bodyPost_ret (v := .agg #[.int .i64 4, .int .i64 0, .string ⟨#[]⟩, .int .i64 mark]) (by simp [results, Tryz.results149, go_sem]) rfl ?_
  exact ⟨rfl, (Below.refl _ w).alloc (Nat.le_refl _) _⟩

end Go.Proofs.YtjajnhemgphefaaGreatDoor

namespace Go.Proofs.YtjajnhemgphefaaGreatDoor
open Go.RowKit Go.Shelf Go.Maps
set_option linter.unusedVariables false
set_option linter.unusedSimpArgs false

/-- All that fits a form. -/
def fitP (M : Gd → Option Int) (a : Am) (gs : List Gd) : Prop := ∃ ks : List (ByteArray × ByteArray), ks.Nodup ∧ (∀ x y, (x, y) ∈ ks ↔ (x.size ≤ maxLen ∧ y.size ≤ maxLen ∧ (M ⟨a.rel, x, y⟩).isSome = true)) ∧ gs = (ks.filterMap (fun k => matchA nms0 a k.1 k.2)).map (fun p => groundA p a)
/-- The next record, ahead of its number, and the feed behind it. -/
def NextR (M : Gd → Option Int) (mark : Int) (f : Fs) (r : Rc) (f' : Fs) : Prop :=
  (∃ l, f.snap = r :: l ∧ f' = { f with snap := l }) ∨
  (f.snap = [] ∧ f.behind = true ∧ r = ⟨1, 0, ⟨#[]⟩, 0⟩ ∧ ∃ gs, fitP M f.form gs ∧ f' = { f with behind := false, snap := recsT 2 (sortT (gs.map (fun g => (textG g).data.toList))) ++ [⟨4, 0, ⟨#[]⟩, mark⟩] }) ∨
  (f.snap = [] ∧ f.behind = false ∧ ∃ l, f.que = r :: l ∧ f' = { f with que := l }) ∨
  (f.snap = [] ∧ f.behind = false ∧ f.que = [] ∧ r = ⟨0, 0, ⟨#[]⟩, 0⟩ ∧ f' = f)
theorem FdAt.wider {W : World} {S S' : Nat → Prop} {bf b87 : Nat} {f : Fs} (h : FdAt W S bf b87 f) (hs : ∀ k, S k → S' k) : FdAt W S' bf b87 f := by
  obtain ⟨va, vs, vq, h1, h2, h3, h4, h5, h6, h7⟩ := h
  exact ⟨va, vs, vq, h1, h2, h3, h4, fun g hg => ⟨hs _ (h5 g hg).1, (h5 g hg).2⟩, fun g hg => hs _ (h6 g hg), hs _ h7⟩

theorem NextR.told {M : Gd → Option Int} {mark : Int} {f f' : Fs} {r : Rc} (h : NextR M mark f r f') : f'.told = f.told ∧ f'.form = f.form := by
  rcases h with ⟨l, _, rfl⟩ | ⟨_, _, _, gs, _, rfl⟩ | ⟨_, _, l, _, rfl⟩ | ⟨_, _, _, _, rfl⟩ <;> exact ⟨rfl, rfl⟩

end Go.Proofs.YtjajnhemgphefaaGreatDoor
