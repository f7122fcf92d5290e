/-
  What Folded and Ebbed call beside the program: drawn, round by round.
  What Folded and Ebbed call beside the program: drawn.
  The statement Ebbed in plain data: behind the last Tick nothing is left but what is said.
  The statement Ebbed: its engine, step by step.
  The statement Folded in plain data: two who follow the feeds of one engine.
  Ask, the row of its answer being the caller's.
-/
import Derived.Test.YtjajnhemgphefaaGreatDoorJdKqE
import Derived.Test.YtjajnhemgphefaaGreatDoorJdKpI
namespace Go.Proofs.YtjajnhemgphefaaGreatDoor
open Go.RowKit Go.Shelf Go.Maps
set_option linter.unusedVariables false
set_option linter.unusedSimpArgs false

/-- What stays as it is while a feed is drawn. -/
structure DrC (k : Nat) (S : List (Int × List ByteArray)) (e : Eg) : Prop where
  lt : k < e.fds.length
  on : OnPts e.M
  fnd : ∃ l, findS S e.mark = some l ∧ Like l (HoldM e.M)
  told : ∀ f ∈ e.fds, f.told ≤ 1000000000
  mark : 0 ≤ e.mark ∧ e.mark ≤ 1000000
  few : S.length ≤ 1000000000
  rows : ∀ d ∈ S, d.2.length ≤ 100000
/-- Behind i records; f' is what f comes to, once what was polled is taken. -/
def DX (w : World) (be B k : Nat) (bs : List Nat) (vs : Value) (S : List (Int × List ByteArray)) (e : Eg) (W0 : World) (lf i : Nat) (f f' : Fo) (W : World) : Prop :=
  ∃ F, DrI w be bs B { e with fds := e.fds.set k F } f W ∧ Flw f' F e.M e.mark S ∧ SeenK bs W vs S ∧ Kept bs W0 W ∧ leftF F + i ≤ lf
section
variable {w W W0 : World} {be B k lf i : Nat} {bs : List Nat} {vs : Value} {S : List (Int × List ByteArray)} {e : Eg} {f f' : Fo}
theorem DX.later {W' : World} (h : DX w be B k bs vs S e W0 lf i f f' W) (hb : Below W.heap.size W W') : DX w be B k bs vs S e W0 lf i f f' W' := by
  obtain ⟨F, h1, h2, h3, h4, h5⟩ := h
  obtain ⟨k1, k2⟩ := h1.later hb
  exact ⟨F, k1, h2, h3.next k2, h4.trans k2, h5⟩
theorem dx_poll (hc : DrC k S e) (h : DX w be B k bs vs S e W0 lf i f f W) :
    Calls Tryz.prog 29 #[.pointer (some ⟨be, 0, none⟩), .int .i64 (k : Int)] W fun en W' => ∃ r : Rc, en = .returned (.tuple #[.agg #[.int .i64 r.kind, .int .i64 r.seq, .string r.text, .int .i64 r.time], .int .i64 0]) ∧
      ((r = ⟨0, 0, ⟨#[]⟩, 0⟩ ∧ Hid (DX w be B k bs vs S e W0 lf i f f W' ∧ f.any = true ∧ Like f.L (HoldM e.M))) ∨
        ∃ f', Hid (DX w be B k bs vs S e W0 lf (i + 1) f f' W' ∧ f.next ≤ 1000000000 ∧ f.L.length ≤ 100000) ∧
          ((r = ⟨1, f.next, ⟨#[]⟩, 0⟩ ∧ f' = ⟨[], f.next + 1, true⟩) ∨ (f.any = true ∧ ((∃ x, r = ⟨2, f.next, x, 0⟩ ∧ x ∉ f.L ∧ f' = ⟨f.L ++ [x], f.next + 1, true⟩) ∨ (∃ x, r = ⟨3, f.next, x, 0⟩ ∧ x ∈ f.L ∧ f' = ⟨delR f.L x, f.next + 1, true⟩) ∨
            ∃ t l, r = ⟨4, f.next, ⟨#[]⟩, t⟩ ∧ findS S t = some l ∧ likeR f.L l = true ∧ f' = { f with next := f.next + 1 })))) := by
  obtain ⟨F, h1, h2, h3, h4, h5⟩ := h
  obtain ⟨lm, hlm, hLm⟩ := hc.fnd
  have htold : F.told ≤ 1000000000 := by have := h2.few; have := hc.mark; omega
  have hk : k < ({ e with fds := e.fds.set k F } : Eg).fds.length := by show k < (e.fds.set k F).length; rw [List.length_set]; exact hc.lt
  refine (dr_poll h1 hk (fun g hg => ?_)).mono ?_
  · rcases List.mem_or_eq_of_mem_set hg with hm | rfl
    · have := hc.told g hm; omega
    · omega
  rintro en W' ⟨r, F', k1, k2, k3, k4⟩
  have e1 : ({ e with fds := e.fds.set k F } : Eg).fds[k] = F := List.getElem_set_self _
  rw [e1] at k1
  have e2 : (e.fds.set k F).set k F' = e.fds.set k F' := List.set_set _
  have k3' : DrI w be bs B { e with fds := e.fds.set k F' } f W' := by rw [← e2]; exact k3
  have h3' := h3.next k4
  have h4' := h4.trans k4
  have hb : f.next ≤ 1000000000 ∧ f.L.length ≤ 100000 := ⟨by rw [h2.next]; exact htold, Nat.le_trans (pts_few h2.nodup h2.pts) (by decide)⟩
  refine ⟨r, k2, ?_⟩
  rcases flw_poll h2 hc.on hlm hLm k1 with ⟨g1, rfl, g3, g4⟩ | ⟨g0, ⟨g1, g2⟩ | ⟨ga, ⟨x, g1, g2, g3⟩ | ⟨x, g1, g2, g3⟩ | ⟨t, l, g1, g2, g3, g4⟩⟩⟩
  · exact .inl ⟨g1, ⟨F', k3', h2, h3', h4', h5⟩, g3, g4⟩
  · exact .inr ⟨_, ⟨⟨F', k3', g2, h3', h4', by omega⟩, hb⟩, .inl ⟨g1, rfl⟩⟩
  · exact .inr ⟨_, ⟨⟨F', k3', g3, h3', h4', by omega⟩, hb⟩, .inr ⟨ga, .inl ⟨x, g1, g2, rfl⟩⟩⟩
  · exact .inr ⟨_, ⟨⟨F', k3', g3, h3', h4', by omega⟩, hb⟩, .inr ⟨ga, .inr (.inl ⟨x, g1, g2, rfl⟩)⟩⟩
  · exact .inr ⟨_, ⟨⟨F', k3', g4, h3', h4', by omega⟩, hb⟩, .inr ⟨ga, .inr (.inr ⟨t, l, g1, g2, g3, rfl⟩)⟩⟩
/-- What was polled is taken; the box that it lies in abides. -/
theorem dx_take {rv : Value} {c : Array Value} {t : TypeId} (h : DX w be B k bs vs S e W0 lf i f f' W) (hT : ∀ V bs' e', DrI w be bs' B e' f V → Calls Tryz.prog 56 #[.pointer (some ⟨B, 0, none⟩), rv] V fun en V' => en = .returned (.bool true) ∧ DrI w be bs' B e' f' V' ∧ Kept bs' V V')
    {V : World} (hV : Below (W.alloc (.cells c t)).heap.size (W.alloc (.cells c t)) V) :
    Calls Tryz.prog 56 #[.pointer (some ⟨B, 0, none⟩), rv] V fun en V' => en = .returned (.bool true) ∧ V'.heap[W.heap.size]? = some (Obj.cells c t (0, 0)) ∧ Hid (DX w be B k bs vs S e W0 lf i f' f' V') := by
  obtain ⟨F, h1, h2, h3, h4, h5⟩ := h
  obtain ⟨a1, a2⟩ := h1.alloc (.cells c t)
  obtain ⟨b1, b2⟩ := a1.later hV
  refine (hT V _ _ b1).mono ?_
  rintro en V' ⟨k1, k2, k3⟩
  have hs : ∀ b ∈ bs, b ∈ W.heap.size :: bs := fun b hb => List.mem_cons_of_mem _ hb
  have hk : Kept bs W V' := (a2.trans (b2.fewer hs)).trans (k3.fewer hs)
  exact ⟨k1, ((b2.trans k3) _ List.mem_cons_self).trans (World.alloc_heap_new W _), F, k2.fewer hs, h2, h3.next hk, h4.trans hk, h5⟩
theorem dx_find {t : Int} {l : List ByteArray} (hc : DrC k S e) (h : DX w be B k bs vs S e W0 lf i f f W) (hf : findS S t = some l) :
    Calls Tryz.prog 57 #[vs, .int .i64 t] W fun en W' => ∃ (xa : Option Addr) (xn xc : Nat), en = .returned (.tuple #[.slice xa xn xc, .bool true]) ∧ W = W' ∧ Hid (StrRd W (.slice xa xn xc) l) := by
  obtain ⟨F, h1, h2, h3, h4, h5⟩ := h
  obtain ⟨vals, s1, s2, s3⟩ := h3 W (fun _ _ => rfl)
  obtain ⟨v, g1, g2⟩ := find_zip vals S W t s2 s3 l hf
  obtain ⟨xa, xc, rfl, hx⟩ := g2
  refine (find_any vs vals t W s1 (by rw [s2]; exact hc.few)).mono ?_
  rintro en W' ⟨k1, k2⟩
  rw [g1] at k1
  exact ⟨xa, l.length, xc, k1, k2.symm, xa, xc, rfl, hx⟩
theorem dx_like {v : Value} {t : Int} {l : List ByteArray} (hc : DrC k S e) (h : DX w be B k bs vs S e W0 lf i f f W) (hf : findS S t = some l) (hv : StrRd W v l) (hl : likeR f.L l = true) :
    Calls Tryz.prog 28 #[.pointer (some ⟨B, 0, none⟩), v] W fun en W' => en = .returned (.bool true) ∧ Hid (DX w be B k bs vs S e W0 lf i f f W') := by
  obtain ⟨F, h1, h2, h3, h4, h5⟩ := h
  have hll : l.length ≤ 100000 := by
    unfold findS at hf
    cases hfd : S.find? (fun d => d.1 == t) with
    | none => rw [hfd] at hf; cases hf
    | some d =>
      rw [hfd] at hf
      simp only [Option.map_some, Option.some.injEq] at hf
      rw [← hf]; exact hc.rows d (List.mem_of_find?_eq_some hfd)
  refine (dr_like h1 v l hv hll (Nat.le_trans (pts_few h2.nodup h2.pts) (by decide))).mono ?_
  rintro en W' ⟨k1, k2, k3⟩
  rw [hl] at k1
  exact ⟨k1, F, k2, h2, h3.next k3, h4.trans k3, h5⟩
end
/-- What drawn leaves. -/
def DrPost (w : World) (be B k : Nat) (bs : List Nat) (S : List (Int × List ByteArray)) (e : Eg) (W0 : World) (b : Bool) (W : World) : Prop :=
  ∃ f F, DrI w be bs B { e with fds := e.fds.set k F } f W ∧ Flw f F e.M e.mark S ∧ Kept bs W0 W ∧ (b = true → f.any = true ∧ Like f.L (HoldM e.M))

end Go.Proofs.YtjajnhemgphefaaGreatDoor

namespace Go.Proofs.YtjajnhemgphefaaGreatDoor
open Go.RowKit Go.Shelf Go.Maps
set_option linter.unusedVariables false
set_option linter.unusedSimpArgs false

set_option maxRecDepth 100000 in
set_option maxHeartbeats 4000000 in
theorem drawn_any {w W0 : World} {be B k : Nat} {bs : List Nat} {va : Option Addr} {vn vc : Nat} {S : List (Int × List ByteArray)} {e : Eg} {f : Fo} {F : Fs} (most : Nat) (hc : DrC k S e) (h : DrI w be bs B e f W0) (hF : e.fds[k]? = some F) (hfl : Flw f F e.M e.mark S) (hs : SeenK bs W0 (.slice va vn vc) S) (hm : most ≤ 1000000) :
    Calls Tryz.prog 27 #[.pointer (some ⟨be, 0, none⟩), .int .i64 (k : Int), .pointer (some ⟨B, 0, none⟩), .slice va vn vc, .int .i64 (most : Int)] W0 fun en W' => ∃ b, en = .returned (.tuple #[.bool true, .bool b]) ∧ DrPost w be B k bs S e W0 b W' ∧ (leftF F < most → b = true) := by
  obtain ⟨lf, hlf⟩ : ∃ lf, leftF F = lf := ⟨_, rfl⟩
  have h0 : Hid (∃ f, DX w be B k bs (.slice va vn vc) S e W0 lf 0 f f W0) := by
    have e1 : e.fds.set k F = e.fds := by
      apply List.ext_getElem?
      intro n
      rw [List.getElem?_set]
      split
      · rename_i hkn
        subst hkn
        rw [if_pos hc.lt, hF]
      · rfl
    exact ⟨f, F, by rw [e1]; exact h, hfl, hs, fun _ _ => rfl, by omega⟩
  have HC : Hid (DrC k S e) := hc
  rw [hlf]
  clear hc h hF hfl hs hlf
  go_enter Tryz.func27, Tryz.ntmps27
  go_wp2_with fail
  go_loopw [12] (fun vi wr => ∃ i : Nat, vi = .int .i64 i ∧ i ≤ most ∧ Hid (∃ f, DX w be B k bs (.slice va vn vc) S e W0 lf i f f wr)) (fun vi _ => most - (intOf vi).toNat)
  case atStart => exact ⟨0, rfl, Nat.zero_le _, h0⟩
  case round =>
    clear h0
    obtain ⟨i, rfl, hi, hst⟩ := hrel
    by_cases hlt : i < most
    · have i1 : (i : Int) < (most : Int) := by omega
      obtain ⟨f, hx⟩ := hst.out
      have hp : Hid _ := dx_poll HC.out hx
      clear hst hx
      go_wp2_with fail
      refine Calls.mono hp.out ?_
      rintro en W1 ⟨r, rfl, ⟨rfl, hend⟩ | ⟨f', hx1, hr⟩⟩
      · clear hp
        have q2 := eqRec 0 0 0 0 ⟨#[]⟩ ⟨#[]⟩ 0 0
        have hfin : Hid (∀ O, DrPost w be B k bs S e W0 true (W1.alloc O)) := fun O => by
          obtain ⟨⟨F, g1, g2, g3, g4, _⟩, g5, g6⟩ := hend.out
          obtain ⟨k1, k2⟩ := g1.later ((Below.refl _ W1).alloc (Nat.le_refl _) O)
          exact ⟨f, F, k1, g2, g4.trans k2, fun _ => ⟨g5, g6⟩⟩
        clear hend
        go_wp2
        go_ret2
        exact ⟨true, rfl, hfin.out _, fun _ => rfl⟩
      · clear hp
        rcases hr with ⟨rfl, rfl⟩ | ⟨hany, ⟨x, rfl, hxx, rfl⟩ | ⟨x, rfl, hxx, rfl⟩ | ⟨t, l, rfl, hfd, hlk, rfl⟩⟩
        · have hT : Hid _ := dx_take (c := #[.int .i64 1, .int .i64 f.next, .string ⟨#[]⟩, .int .i64 0]) (t := 71) hx1.out.1 (fun V bs' e' hd => dr_reset hd hx1.out.2.1 hx1.out.2.2) (Below.refl _ _)
          clear hx1
          go_wp2_with fail
          refine Calls.mono hT.out ?_
          rintro en V' ⟨rfl, hbx, hst⟩
          have b0 : V'.cell? ⟨W1.heap.size, 0, none⟩ = some (.int .i64 1) := by simp [World.cell?, hbx]
          clear hT hbx
          go_wp2
          refine ⟨⟨i + 1, by go_num, by omega, _, hst.out⟩, by simp [intOf]; omega⟩
        · have hT : Hid _ := dx_take (c := #[.int .i64 2, .int .i64 f.next, .string x, .int .i64 0]) (t := 71) hx1.out.1 (fun V bs' e' hd => dr_add hd x hany hx1.out.2.1 hx1.out.2.2 hxx) (Below.refl _ _)
          clear hx1
          go_wp2_with fail
          refine Calls.mono hT.out ?_
          rintro en V' ⟨rfl, hbx, hst⟩
          have b0 : V'.cell? ⟨W1.heap.size, 0, none⟩ = some (.int .i64 2) := by simp [World.cell?, hbx]
          clear hT hbx
          go_wp2
          refine ⟨⟨i + 1, by go_num, by omega, _, hst.out⟩, by simp [intOf]; omega⟩
        · have hT : Hid _ := dx_take (c := #[.int .i64 3, .int .i64 f.next, .string x, .int .i64 0]) (t := 71) hx1.out.1 (fun V bs' e' hd => dr_remove hd x hany hx1.out.2.1 hx1.out.2.2 hxx) (Below.refl _ _)
          clear hx1
          go_wp2_with fail
          refine Calls.mono hT.out ?_
          rintro en V' ⟨rfl, hbx, hst⟩
          have b0 : V'.cell? ⟨W1.heap.size, 0, none⟩ = some (.int .i64 3) := by simp [World.cell?, hbx]
          clear hT hbx
          go_wp2
          refine ⟨⟨i + 1, by go_num, by omega, _, hst.out⟩, by simp [intOf]; omega⟩
        · have hT : Hid _ := dx_take (c := #[.int .i64 4, .int .i64 f.next, .string ⟨#[]⟩, .int .i64 t]) (t := 71) hx1.out.1 (fun V bs' e' hd => dr_mark hd t hany hx1.out.2.1 hx1.out.2.2) (Below.refl _ _)
          have HF : Hid (findS S t = some l ∧ likeR f.L l = true) := ⟨hfd, hlk⟩
          clear hx1 hfd hlk
          go_wp2_with fail
          refine Calls.mono hT.out ?_
          rintro en V' ⟨rfl, hbx, hst⟩
          have b0 : V'.cell? ⟨W1.heap.size, 0, none⟩ = some (.int .i64 4) := by simp [World.cell?, hbx]
          have b3 : V'.cell? ⟨W1.heap.size, 3, none⟩ = some (.int .i64 t) := by simp [World.cell?, hbx]
          clear hT hbx
          have hfi : Hid _ := dx_find HC.out hst.out HF.out.1
          go_wp2_with fail
          refine Calls.mono hfi.out ?_
          rintro en V2 ⟨xa, xn, xc, rfl, hw', hrd⟩
          subst hw'
          clear hfi
          have hli : Hid _ := dx_like HC.out hst.out HF.out.1 hrd.out HF.out.2
          go_wp2_with fail
          refine Calls.mono hli.out ?_
          rintro en V3 ⟨rfl, hst3⟩
          clear hli hrd hst
          go_wp2
          refine ⟨⟨i + 1, by go_num, by omega, _, hst3.out⟩, by simp [intOf]; omega⟩
    · obtain rfl : i = most := by omega
      have hfin : Hid (DrPost w be B k bs S e W0 false wr ∧ ¬ lf < i) := by
        obtain ⟨f, F, g1, g2, g3, g4, g5⟩ := hst.out
        exact ⟨⟨f, F, g1, g2, g4, fun h => by cases h⟩, by omega⟩
      clear hst
      go_wp2
      go_ret2
      exact ⟨false, rfl, hfin.out.1, fun h => absurd h hfin.out.2⟩

end Go.Proofs.YtjajnhemgphefaaGreatDoor

namespace Go.Proofs.YtjajnhemgphefaaGreatDoor
open Go.RowKit Go.Shelf Go.Maps
set_option linter.unusedVariables false
set_option linter.unusedSimpArgs false

end Go.Proofs.YtjajnhemgphefaaGreatDoor

namespace Go.Proofs.YtjajnhemgphefaaGreatDoor
open Go.RowKit Go.Shelf Go.Maps
set_option linter.unusedVariables false
set_option linter.unusedSimpArgs false

theorem pa_name : nameB bPa = true := by kernel_rfl
def F0 : Fs := ⟨aPX, true, [], [], 0⟩
end Go.Proofs.YtjajnhemgphefaaGreatDoor

namespace Go.Proofs.YtjajnhemgphefaaGreatDoor
open Go.RowKit Go.Shelf Go.Maps
set_option linter.unusedVariables false
set_option linter.unusedSimpArgs false

/-- The engine of Folded: f1 and f2 follow its two feeds; S: what was seen so far. -/
structure FoE (f1 f2 : Fo) (S : List (Int × List ByteArray)) (e : Eg) : Prop where
  pe : PeE rsP 1000000 e
  on : OnPts e.M
  two : ∃ F1 F2, e.fds = [F1, F2] ∧ Flw f1 F1 e.M e.mark S ∧ Flw f2 F2 e.M e.mark S
  fnd : ∃ l, findS S e.mark = some l ∧ Like l (HoldM e.M)
  marks : ∀ d ∈ S, d.1 ≤ e.mark
  few : (S.length : Int) ≤ e.mark + 1
  rows : ∀ d ∈ S, d.2.length ≤ 100000
def f0 : Fo := ⟨[], 0, false⟩
theorem like_few {l : List ByteArray} {M : Gd → Option Int} (h : Like l (HoldM M)) : l.length ≤ 100000 :=
  Nat.le_trans (pts_few h.1 (fun x hx => ((h.2 x).1 hx).pt)) (by decide)
def eF (q : Int) (M : Gd → Option Int) : Eg := { newE rsP 20 3 q M with fds := [F0] }
def eFF (q : Int) (M : Gd → Option Int) : Eg := { newE rsP 20 3 q M with fds := [F0, F0] }
theorem p_sub {q : Int} {M : Gd → Option Int} : subR (newE rsP 20 3 q M) bPa = (0, 0, eF q M) := by
  unfold subR
  rw [pa_name, if_neg (by decide)]
  show (if arR rsP bPa = 0 then _ else if (0 : Nat) = 3 then _ else _) = _
  rw [p_arP, if_neg (by decide), if_neg (by decide)]
  rfl
theorem p_sub2 {q : Int} {M : Gd → Option Int} : subR (eF q M) bPa = (1, 0, eFF q M) := by
  unfold subR
  rw [pa_name, if_neg (by decide)]
  show (if arR rsP bPa = 0 then _ else if (1 : Nat) = 3 then _ else _) = _
  rw [p_arP, if_neg (by decide), if_neg (by decide)]
  rfl
theorem fo_on {q : Int} {M : Gd → Option Int} (hM : LeastM rsP (givenL rsP) M) : OnPts (eFF q M).M := by
  rw [p_given] at hM
  intro x y hs
  have h1 : (M ⟨bPa, x, y⟩).isSome = true := hs
  rw [none_model hM] at h1; cases h1
theorem fo_new {q : Int} {M : Gd → Option Int} (hM : LeastM rsP (givenL rsP) M) {l : List ByteArray} (hl : Like l (HoldM (eFF q M).M)) : FoE f0 f0 [(0, l)] (eFF q M) := by
  have hF : Flw f0 F0 (eFF q M).M 0 [(0, l)] := ⟨rfl, rfl, List.nodup_nil, fun x hx => (by cases hx), by decide, by decide, by decide, .inl ⟨rfl, rfl, rfl⟩⟩
  refine ⟨⟨rfl, rfl, rfl, ?_, fun d hd => (by cases hd)⟩, fo_on hM, ⟨F0, F0, rfl, hF, hF⟩, ⟨l, rfl, hl⟩, fun d hd => ?_, by show ((1 : Nat) : Int) ≤ 0 + 1; decide, fun d hd => ?_⟩
  · show PtsOk (namesR [] rsP); rw [p_names]; exact pts_nil
  · rw [List.mem_singleton] at hd; subst hd; exact Int.le_refl _
  · rw [List.mem_singleton] at hd; subst hd; exact like_few hl
section
variable {f1 f2 : Fo} {S : List (Int × List ByteArray)} {e e' : Eg}
theorem fo_ins (h : FoE f1 f2 S e) {a b : Nat} (ha : a < 6) (hb : b < 6) {t : Int} (ht : 0 ≤ t ∧ t ≤ 1000000) : FoE f1 f2 S (insR e (ofB bEd a b) t).2 ∧ (insR e (ofB bEd a b) t).2.mark = e.mark := by
  have hpk := pe_kept p_der p_arE h.pe ha hb ht (by decide)
  rcases pe_ins p_der p_arE h.pe ha hb (t := t) ht with ⟨h1, _⟩ | ⟨_, _, _, _, h1⟩
  · rw [h1]; exact ⟨h, rfl⟩
  · rw [h1] at hpk ⊢
    exact ⟨⟨hpk, h.on, h.two, h.fnd, h.marks, h.few, h.rows⟩, rfl⟩
theorem fo_tick (h : FoE f1 f2 S e) (hok : EgOk e) (hok' : EgOk e') {c : Int} {r : Int × Int} (hc : 0 ≤ c ∧ c ≤ 1000000) (ht : TickE e c e' r) :
    r.2 = 0 ∧ r.1 = e'.mark ∧ ((e'.mark = e.mark ∧ e' = e) ∨ (e.mark < e'.mark ∧ e'.rs = rsP ∧ OnPts e'.M ∧ ∀ l, Like l (HoldM e'.M) → FoE f1 f2 (S ++ [(e'.mark, l)]) e')) := by
  rcases ht with ⟨hn, _⟩ | ⟨_, hr, ⟨hle, rfl⟩ | ⟨hlt, hmv⟩⟩
  · exact absurd hc hn
  · rw [hr]
    exact ⟨rfl, rfl, .inl ⟨rfl, rfl⟩⟩
  · rw [hr]
    obtain ⟨M', fds', hM, hl, hmf, rfl⟩ := hmv
    have hon : OnPts M' := on_pts hok' h.pe.names (by show arR e.rs bPa = 2; rw [h.pe.rs]; exact p_arP)
    refine ⟨rfl, rfl, .inr ⟨hlt, h.pe.rs, hon, fun l hL => ?_⟩⟩
    obtain ⟨F1, F2, hfd, g1, g2⟩ := h.two
    have hl2 : fds'.length = 2 := by rw [hl, hfd]; rfl
    obtain ⟨F1', F2', hfd'⟩ : ∃ F1' F2', fds' = [F1', F2'] := by
      match fds', hl2 with
      | [a, b], _ => exact ⟨a, b, rfl⟩
    subst hfd'
    have hq := hok.que.2
    have hnew : ∀ d ∈ S, d.1 ≠ c - e.lat := fun d hd he => by have := h.marks d hd; omega
    have m1 := hmf 0 (by rw [hfd]; simp) (by simp)
    have m2 := hmf 1 (by rw [hfd]; simp) (by simp)
    simp only [hfd, List.getElem_cons_zero, List.getElem_cons_succ] at m1 m2
    refine ⟨⟨h.pe.rs, h.pe.win, h.pe.lat, h.pe.names, fun d hd => h.pe.kept d (List.mem_filter.1 hd).1⟩, hon, ⟨F1', F2', rfl, flw_move g1 hlt h.on hon m1 hq hL hnew, flw_move g2 hlt h.on hon m2 hq hL hnew⟩, ⟨l, findS_new hnew, hL⟩, fun d hd => ?_, ?_, fun d hd => ?_⟩
    · show d.1 ≤ c - e.lat
      rcases List.mem_append.1 hd with hd | hd
      · have := h.marks d hd; omega
      · rw [List.mem_singleton] at hd; subst hd; exact Int.le_refl _
    · show ((S ++ [_]).length : Int) ≤ c - e.lat + 1
      have := h.few
      rw [List.length_append]
      simp only [List.length_cons, List.length_nil]
      omega
    · rcases List.mem_append.1 hd with hd | hd
      · exact h.rows d hd
      · rw [List.mem_singleton] at hd; subst hd; exact like_few hL
theorem fo_drc (h : FoE f1 f2 S e) (hok : EgOk e) {k : Nat} (hk : k < 2) : DrC k S e := by
  obtain ⟨F1, F2, hfd, g1, g2⟩ := h.two
  have hm := hok.mark
  have hf := h.few
  refine ⟨by rw [hfd]; exact hk, h.on, h.fnd, fun F hF => ?_, hm, by omega, h.rows⟩
  rw [hfd] at hF
  simp only [List.mem_cons, List.not_mem_nil, or_false] at hF
  have h1 := g1.few
  have h2 := g2.few
  rcases hF with rfl | rfl <;> omega
theorem fo_left {f : Fo} {F : Fs} {M : Gd → Option Int} {m : Int} (h : Flw f F M m S) : leftF F < 1000 := by
  have h1 := h.snap
  have h2 := h.que
  unfold leftF
  split <;> omega
theorem fo_set0 (h : FoE f1 f2 S e) {f : Fo} {F : Fs} (hF : Flw f F e.M e.mark S) : FoE f f2 S { e with fds := e.fds.set 0 F } := by
  obtain ⟨F1, F2, hfd, g1, g2⟩ := h.two
  exact ⟨⟨h.pe.rs, h.pe.win, h.pe.lat, h.pe.names, h.pe.kept⟩, h.on, ⟨F, F2, by show e.fds.set 0 F = _; rw [hfd]; rfl, hF, g2⟩, h.fnd, h.marks, h.few, h.rows⟩
theorem fo_set1 (h : FoE f1 f2 S e) {f : Fo} {F : Fs} (hF : Flw f F e.M e.mark S) : FoE f1 f S { e with fds := e.fds.set 1 F } := by
  obtain ⟨F1, F2, hfd, g1, g2⟩ := h.two
  exact ⟨⟨h.pe.rs, h.pe.win, h.pe.lat, h.pe.names, h.pe.kept⟩, h.on, ⟨F1, F, by show e.fds.set 1 F = _; rw [hfd]; rfl, g1, hF⟩, h.fnd, h.marks, h.few, h.rows⟩
end

end Go.Proofs.YtjajnhemgphefaaGreatDoor

namespace Go.Proofs.YtjajnhemgphefaaGreatDoor
open Go.RowKit Go.Shelf Go.Maps
set_option linter.unusedVariables false
set_option linter.unusedSimpArgs false

theorem kask2 {w W : World} {be : Nat} {bs : List Nat} {e : Eg} (h : KSt w be bs e W) (hT : Lib.Utf8Tabs 0 1 w) (s : ByteArray) (hs : s.size ≤ 4611686018427387904) (a : Am) (ha : atomR s = some a) (hn : ∀ t ∈ a.args, t.num < 6) (hck : ckR e.rs a = 0) :
    Calls Tryz.prog 25 #[.pointer (some ⟨be, 0, none⟩), .string s] W fun en W' => ∃ (oa : Option Addr) (oc : Nat) (gs : List Gd), en = .returned (.tuple #[.slice oa gs.length oc, .int .i64 0]) ∧ fitP e.M a gs ∧ W'.ownsRow W.heap.size 9 1 (.slice oa gs.length oc) gs.length ((textsOf gs).map strV) ∧ KSt w be ((Value.slice oa gs.length oc).ownBlock.toList ++ bs) e W' ∧ Kept bs W W' := by
  obtain ⟨S, h1, h2⟩ := h.eng
  refine (ask_any S be e s W h1 h.ok hs (Utf8Tabs_below hT h.below) (fun b hb => by rw [ha] at hb; cases hb; exact hn)).mono ?_
  rintro en W' ⟨k1, k2⟩
  rw [ha] at k2
  rcases k2 with ⟨k2, _⟩ | ⟨_, v, gs, k3, k4, k5⟩
  · exact absurd hck k2
  · obtain ⟨oa, oc, hof⟩ := owns_form k5
    subst hof
    rw [textsOf_len] at k4 k5
    refine ⟨oa, oc, gs, k4, k3, k5, h.put (Chg.ofBelow (fun _ => False) k1) (fun _ _ h => h.elim) (fun b hb => ?_), (h.same k1).2⟩
    rcases List.mem_append.1 hb with hb | hb
    · have hv : (Value.slice oa gs.length oc).ownBlock = some b := by simpa using hb
      obtain ⟨g1, c, g2⟩ := owns_block k5 hv
      exact ⟨.inr g1, (Array.getElem?_eq_some_iff.1 g2).1⟩
    · exact ⟨.inl hb, Nat.lt_of_lt_of_le (h.lt b hb) k1.size⟩
end Go.Proofs.YtjajnhemgphefaaGreatDoor
