/-
  What Folded and Ebbed call beside the program: drawn, round by round.
  What Folded and Ebbed call beside the program: drawn.
  The statement Lasts in plain data: what holds as the watermark goes on and nothing more comes.
  Ask and Until as the statements of ebbkeep use them.
  The rules of Ebbed: the paths', and one path that is said.
  The statement Ebbed in plain data: behind the last Tick nothing is left but what is said.
  The statement Ebbed: its engine, step by step.
  A row of edges in memory.
-/
import Derived.Test.YtjajnhemgphefaaGreatDoorJbKqE
import Derived.Test.YtjajnhemgphefaaGreatDoorJbKqD
import Derived.Test.YtjajnhemgphefaaGreatDoorJbKpQ
import Derived.Test.YtjajnhemgphefaaGreatDoorJbTerm
namespace Go.Proofs.YtjajnhemgphefaaGreatDoor
open Go.RowKit Go.Shelf Go.Maps
set_option linter.unusedVariables false
set_option linter.unusedSimpArgs false

/-- What stays as it is while a feed is drawn. -/
structure DrC (k : Nat) (S : List (Int × List ByteArray)) (e : Eg) : Prop where
  lt : k < e.fds.length
  on : OnPts e.M
  fnd : ∃ l, findS S e.mark = some l ∧ Like l (HoldM e.M)
  told : ∀ f ∈ e.fds, f.told ≤ 1000000000
  mark : 0 ≤ e.mark ∧ e.mark ≤ 1000000
  few : S.length ≤ 1000000000
  rows : ∀ d ∈ S, d.2.length ≤ 100000
/-- Behind i records; f' is what f comes to, once what was polled is taken. -/
def DX (w : World) (be B k : Nat) (bs : List Nat) (vs : Value) (S : List (Int × List ByteArray)) (e : Eg) (W0 : World) (lf i : Nat) (f f' : Fo) (W : World) : Prop :=
  ∃ F, DrI w be bs B { e with fds := e.fds.set k F } f W ∧ Flw f' F e.M e.mark S ∧ SeenK bs W vs S ∧ Kept bs W0 W ∧ leftF F + i ≤ lf
section
variable {w W W0 : World} {be B k lf i : Nat} {bs : List Nat} {vs : Value} {S : List (Int × List ByteArray)} {e : Eg} {f f' : Fo}
theorem DX.later {W' : World} (h : DX w be B k bs vs S e W0 lf i f f' W) (hb : Below W.heap.size W W') : DX w be B k bs vs S e W0 lf i f f' W' := by
  obtain ⟨F, h1, h2, h3, h4, h5⟩ := h
  obtain ⟨k1, k2⟩ := h1.later hb
  exact ⟨F, k1, h2, h3.next k2, h4.trans k2, h5⟩
theorem dx_poll (hc : DrC k S e) (h : DX w be B k bs vs S e W0 lf i f f W) :
    Calls Tryz.prog 29 #[.pointer (some ⟨be, 0, none⟩), .int .i64 (k : Int)] W fun en W' => ∃ r : Rc, en = .returned (.tuple #[.agg #[.int .i64 r.kind, .int .i64 r.seq, .string r.text, .int .i64 r.time], .int .i64 0]) ∧
      ((r = ⟨0, 0, ⟨#[]⟩, 0⟩ ∧ Hid (DX w be B k bs vs S e W0 lf i f f W' ∧ f.any = true ∧ Like f.L (HoldM e.M))) ∨
        ∃ f', Hid (DX w be B k bs vs S e W0 lf (i + 1) f f' W' ∧ f.next ≤ 1000000000 ∧ f.L.length ≤ 100000) ∧
          ((r = ⟨1, f.next, ⟨#[]⟩, 0⟩ ∧ f' = ⟨[], f.next + 1, true⟩) ∨ (f.any = true ∧ ((∃ x, r = ⟨2, f.next, x, 0⟩ ∧ x ∉ f.L ∧ f' = ⟨f.L ++ [x], f.next + 1, true⟩) ∨ (∃ x, r = ⟨3, f.next, x, 0⟩ ∧ x ∈ f.L ∧ f' = ⟨delR f.L x, f.next + 1, true⟩) ∨
            ∃ t l, r = ⟨4, f.next, ⟨#[]⟩, t⟩ ∧ findS S t = some l ∧ likeR f.L l = true ∧ f' = { f with next := f.next + 1 })))) := by
  obtain ⟨F, h1, h2, h3, h4, h5⟩ := h
  obtain ⟨lm, hlm, hLm⟩ := hc.fnd
  have htold : F.told ≤ 1000000000 := by have := h2.few; have := hc.mark; omega
  have hk : k < ({ e with fds := e.fds.set k F } : Eg).fds.length := by show k < (e.fds.set k F).length; rw [List.length_set]; exact hc.lt
  refine (dr_poll h1 hk (fun g hg => ?_)).mono ?_
  · rcases List.mem_or_eq_of_mem_set hg with hm | rfl
    · have := hc.told g hm; omega
    · omega
  rintro en W' ⟨r, F', k1, k2, k3, k4⟩
  have e1 : ({ e with fds := e.fds.set k F } : Eg).fds[k] = F := List.getElem_set_self _
  rw [e1] at k1
  have e2 : (e.fds.set k F).set k F' = e.fds.set k F' := List.set_set _
  have k3' : DrI w be bs B { e with fds := e.fds.set k F' } f W' := by rw [← e2]; exact k3
  have h3' := h3.next k4
  have h4' := h4.trans k4
  have hb : f.next ≤ 1000000000 ∧ f.L.length ≤ 100000 := ⟨by rw [h2.next]; exact htold, Nat.le_trans (pts_few h2.nodup h2.pts) (by decide)⟩
  refine ⟨r, k2, ?_⟩
  rcases flw_poll h2 hc.on hlm hLm k1 with ⟨g1, rfl, g3, g4⟩ | ⟨g0, ⟨g1, g2⟩ | ⟨ga, ⟨x, g1, g2, g3⟩ | ⟨x, g1, g2, g3⟩ | ⟨t, l, g1, g2, g3, g4⟩⟩⟩
  · exact .inl ⟨g1, ⟨F', k3', h2, h3', h4', h5⟩, g3, g4⟩
  · exact .inr ⟨_, ⟨⟨F', k3', g2, h3', h4', by omega⟩, hb⟩, .inl ⟨g1, rfl⟩⟩
  · exact .inr ⟨_, ⟨⟨F', k3', g3, h3', h4', by omega⟩, hb⟩, .inr ⟨ga, .inl ⟨x, g1, g2, rfl⟩⟩⟩
  · exact .inr ⟨_, ⟨⟨F', k3', g3, h3', h4', by omega⟩, hb⟩, .inr ⟨ga, .inr (.inl ⟨x, g1, g2, rfl⟩)⟩⟩
  · exact .inr ⟨_, ⟨⟨F', k3', g4, h3', h4', by omega⟩, hb⟩, .inr ⟨ga, .inr (.inr ⟨t, l, g1, g2, g3, rfl⟩)⟩⟩
/-- What was polled is taken; the box that it lies in abides. -/
theorem dx_take {rv : Value} {c : Array Value} {t : TypeId} (h : DX w be B k bs vs S e W0 lf i f f' W) (hT : ∀ V bs' e', DrI w be bs' B e' f V → Calls Tryz.prog 56 #[.pointer (some ⟨B, 0, none⟩), rv] V fun en V' => en = .returned (.bool true) ∧ DrI w be bs' B e' f' V' ∧ Kept bs' V V')
    {V : World} (hV : Below (W.alloc (.cells c t)).heap.size (W.alloc (.cells c t)) V) :
    Calls Tryz.prog 56 #[.pointer (some ⟨B, 0, none⟩), rv] V fun en V' => en = .returned (.bool true) ∧ V'.heap[W.heap.size]? = some (Obj.cells c t (0, 0)) ∧ Hid (DX w be B k bs vs S e W0 lf i f' f' V') := by
  obtain ⟨F, h1, h2, h3, h4, h5⟩ := h
  obtain ⟨a1, a2⟩ := h1.alloc (.cells c t)
  obtain ⟨b1, b2⟩ := a1.later hV
  refine (hT V _ _ b1).mono ?_
  rintro en V' ⟨k1, k2, k3⟩
  have hs : ∀ b ∈ bs, b ∈ W.heap.size :: bs := fun b hb => List.mem_cons_of_mem _ hb
  have hk : Kept bs W V' := (a2.trans (b2.fewer hs)).trans (k3.fewer hs)
  exact ⟨k1, ((b2.trans k3) _ List.mem_cons_self).trans (World.alloc_heap_new W _), F, k2.fewer hs, h2, h3.next hk, h4.trans hk, h5⟩
theorem dx_find {t : Int} {l : List ByteArray} (hc : DrC k S e) (h : DX w be B k bs vs S e W0 lf i f f W) (hf : findS S t = some l) :
    Calls Tryz.prog 57 #[vs, .int .i64 t] W fun en W' => ∃ (xa : Option Addr) (xn xc : Nat), en = .returned (.tuple #[.slice xa xn xc, .bool true]) ∧ W = W' ∧ Hid (StrRd W (.slice xa xn xc) l) := by
  obtain ⟨F, h1, h2, h3, h4, h5⟩ := h
  obtain ⟨vals, s1, s2, s3⟩ := h3 W (fun _ _ => rfl)
  obtain ⟨v, g1, g2⟩ := find_zip vals S W t s2 s3 l hf
  obtain ⟨xa, xc, rfl, hx⟩ := g2
  refine (find_any vs vals t W s1 (by rw [s2]; exact hc.few)).mono ?_
  rintro en W' ⟨k1, k2⟩
  rw [g1] at k1
  exact ⟨xa, l.length, xc, k1, k2.symm, xa, xc, rfl, hx⟩
theorem dx_like {v : Value} {t : Int} {l : List ByteArray} (hc : DrC k S e) (h : DX w be B k bs vs S e W0 lf i f f W) (hf : findS S t = some l) (hv : StrRd W v l) (hl : likeR f.L l = true) :
    Calls Tryz.prog 28 #[.pointer (some ⟨B, 0, none⟩), v] W fun en W' => en = .returned (.bool true) ∧ Hid (DX w be B k bs vs S e W0 lf i f f W') := by
  obtain ⟨F, h1, h2, h3, h4, h5⟩ := h
  have hll : l.length ≤ 100000 := by
    unfold findS at hf
    cases hfd : S.find? (fun d => d.1 == t) with
    | none => rw [hfd] at hf; cases hf
    | some d =>
      rw [hfd] at hf
      simp only [Option.map_some, Option.some.injEq] at hf
      rw [← hf]; exact hc.rows d (List.mem_of_find?_eq_some hfd)
  refine (dr_like h1 v l hv hll (Nat.le_trans (pts_few h2.nodup h2.pts) (by decide))).mono ?_
  rintro en W' ⟨k1, k2, k3⟩
  rw [hl] at k1
  exact ⟨k1, F, k2, h2, h3.next k3, h4.trans k3, h5⟩
end
/-- What drawn leaves. -/
def DrPost (w : World) (be B k : Nat) (bs : List Nat) (S : List (Int × List ByteArray)) (e : Eg) (W0 : World) (b : Bool) (W : World) : Prop :=
  ∃ f F, DrI w be bs B { e with fds := e.fds.set k F } f W ∧ Flw f F e.M e.mark S ∧ Kept bs W0 W ∧ (b = true → f.any = true ∧ Like f.L (HoldM e.M))

end Go.Proofs.YtjajnhemgphefaaGreatDoor

namespace Go.Proofs.YtjajnhemgphefaaGreatDoor
open Go.RowKit Go.Shelf Go.Maps
set_option linter.unusedVariables false
set_option linter.unusedSimpArgs false

set_option maxRecDepth 100000 in
set_option maxHeartbeats 4000000 in
theorem drawn_any {w W0 : World} {be B k : Nat} {bs : List Nat} {va : Option Addr} {vn vc : Nat} {S : List (Int × List ByteArray)} {e : Eg} {f : Fo} {F : Fs} (most : Nat) (hc : DrC k S e) (h : DrI w be bs B e f W0) (hF : e.fds[k]? = some F) (hfl : Flw f F e.M e.mark S) (hs : SeenK bs W0 (.slice va vn vc) S) (hm : most ≤ 1000000) :
    Calls Tryz.prog 27 #[.pointer (some ⟨be, 0, none⟩), .int .i64 (k : Int), .pointer (some ⟨B, 0, none⟩), .slice va vn vc, .int .i64 (most : Int)] W0 fun en W' => ∃ b, en = .returned (.tuple #[.bool true, .bool b]) ∧ DrPost w be B k bs S e W0 b W' ∧ (leftF F < most → b = true) := by
  obtain ⟨lf, hlf⟩ : ∃ lf, leftF F = lf := ⟨_, rfl⟩
  have h0 : Hid (∃ f, DX w be B k bs (.slice va vn vc) S e W0 lf 0 f f W0) := by
    have e1 : e.fds.set k F = e.fds := by
      apply List.ext_getElem?
      intro n
      rw [List.getElem?_set]
      split
      · rename_i hkn
        subst hkn
        rw [if_pos hc.lt, hF]
      · rfl
    exact ⟨f, F, by rw [e1]; exact h, hfl, hs, fun _ _ => rfl, by omega⟩
  have HC : Hid (DrC k S e) := hc
  rw [hlf]
  clear hc h hF hfl hs hlf
  go_enter Tryz.func27, Tryz.ntmps27
  go_wp2_with fail
  go_loopw [12] (fun vi wr => ∃ i : Nat, vi = .int .i64 i ∧ i ≤ most ∧ Hid (∃ f, DX w be B k bs (.slice va vn vc) S e W0 lf i f f wr)) (fun vi _ => most - (intOf vi).toNat)
  case atStart => exact ⟨0, rfl, Nat.zero_le _, h0⟩
  case round =>
    clear h0
    obtain ⟨i, rfl, hi, hst⟩ := hrel
    by_cases hlt : i < most
    · have i1 : (i : Int) < (most : Int) := by omega
      obtain ⟨f, hx⟩ := hst.out
      have hp : Hid _ := dx_poll HC.out hx
      clear hst hx
      go_wp2_with fail
      refine Calls.mono hp.out ?_
      rintro en W1 ⟨r, rfl, ⟨rfl, hend⟩ | ⟨f', hx1, hr⟩⟩
      · clear hp
        have q2 := eqRec 0 0 0 0 ⟨#[]⟩ ⟨#[]⟩ 0 0
        have hfin : Hid (∀ O, DrPost w be B k bs S e W0 true (W1.alloc O)) := fun O => by
          obtain ⟨⟨F, g1, g2, g3, g4, _⟩, g5, g6⟩ := hend.out
          obtain ⟨k1, k2⟩ := g1.later ((Below.refl _ W1).alloc (Nat.le_refl _) O)
          exact ⟨f, F, k1, g2, g4.trans k2, fun _ => ⟨g5, g6⟩⟩
        clear hend
        go_wp2
        go_ret2
        exact ⟨true, rfl, hfin.out _, fun _ => rfl⟩
      · clear hp
        rcases hr with ⟨rfl, rfl⟩ | ⟨hany, ⟨x, rfl, hxx, rfl⟩ | ⟨x, rfl, hxx, rfl⟩ | ⟨t, l, rfl, hfd, hlk, rfl⟩⟩
        · have hT : Hid _ := dx_take (c := #[.int .i64 1, .int .i64 f.next, .string ⟨#[]⟩, .int .i64 0]) (t := 71) hx1.out.1 (fun V bs' e' hd => dr_reset hd hx1.out.2.1 hx1.out.2.2) (Below.refl _ _)
          clear hx1
          go_wp2_with fail
          refine Calls.mono hT.out ?_
          rintro en V' ⟨rfl, hbx, hst⟩
          have b0 : V'.cell? ⟨W1.heap.size, 0, none⟩ = some (.int .i64 1) := by simp [World.cell?, hbx]
          clear hT hbx
          go_wp2
          refine ⟨⟨i + 1, by go_num, by omega, _, hst.out⟩, by simp [intOf]; omega⟩
        · have hT : Hid _ := dx_take (c := #[.int .i64 2, .int .i64 f.next, .string x, .int .i64 0]) (t := 71) hx1.out.1 (fun V bs' e' hd => dr_add hd x hany hx1.out.2.1 hx1.out.2.2 hxx) (Below.refl _ _)
          clear hx1
          go_wp2_with fail
          refine Calls.mono hT.out ?_
          rintro en V' ⟨rfl, hbx, hst⟩
          have b0 : V'.cell? ⟨W1.heap.size, 0, none⟩ = some (.int .i64 2) := by simp [World.cell?, hbx]
          clear hT hbx
          go_wp2
          refine ⟨⟨i + 1, by go_num, by omega, _, hst.out⟩, by simp [intOf]; omega⟩
        · have hT : Hid _ := dx_take (c := #[.int .i64 3, .int .i64 f.next, .string x, .int .i64 0]) (t := 71) hx1.out.1 (fun V bs' e' hd => dr_remove hd x hany hx1.out.2.1 hx1.out.2.2 hxx) (Below.refl _ _)
          clear hx1
          go_wp2_with fail
          refine Calls.mono hT.out ?_
          rintro en V' ⟨rfl, hbx, hst⟩
          have b0 : V'.cell? ⟨W1.heap.size, 0, none⟩ = some (.int .i64 3) := by simp [World.cell?, hbx]
          clear hT hbx
          go_wp2
          refine ⟨⟨i + 1, by go_num, by omega, _, hst.out⟩, by simp [intOf]; omega⟩
        · have hT : Hid _ := dx_take (c := #[.int .i64 4, .int .i64 f.next, .string ⟨#[]⟩, .int .i64 t]) (t := 71) hx1.out.1 (fun V bs' e' hd => dr_mark hd t hany hx1.out.2.1 hx1.out.2.2) (Below.refl _ _)
          have HF : Hid (findS S t = some l ∧ likeR f.L l = true) := ⟨hfd, hlk⟩
          clear hx1 hfd hlk
          go_wp2_with fail
          refine Calls.mono hT.out ?_
          rintro en V' ⟨rfl, hbx, hst⟩
          have b0 : V'.cell? ⟨W1.heap.size, 0, none⟩ = some (.int .i64 4) := by simp [World.cell?, hbx]
          have b3 : V'.cell? ⟨W1.heap.size, 3, none⟩ = some (.int .i64 t) := by simp [World.cell?, hbx]
          clear hT hbx
          have hfi : Hid _ := dx_find HC.out hst.out HF.out.1
          go_wp2_with fail
          refine Calls.mono hfi.out ?_
          rintro en V2 ⟨xa, xn, xc, rfl, hw', hrd⟩
          subst hw'
          clear hfi
          have hli : Hid _ := dx_like HC.out hst.out HF.out.1 hrd.out HF.out.2
          go_wp2_with fail
          refine Calls.mono hli.out ?_
          rintro en V3 ⟨rfl, hst3⟩
          clear hli hrd hst
          go_wp2
          refine ⟨⟨i + 1, by go_num, by omega, _, hst3.out⟩, by simp [intOf]; omega⟩
    · obtain rfl : i = most := by omega
      have hfin : Hid (DrPost w be B k bs S e W0 false wr ∧ ¬ lf < i) := by
        obtain ⟨f, F, g1, g2, g3, g4, g5⟩ := hst.out
        exact ⟨⟨f, F, g1, g2, g4, fun h => by cases h⟩, by omega⟩
      clear hst
      go_wp2
      go_ret2
      exact ⟨false, rfl, hfin.out.1, fun h => absurd h hfin.out.2⟩

end Go.Proofs.YtjajnhemgphefaaGreatDoor

namespace Go.Proofs.YtjajnhemgphefaaGreatDoor
open Go.RowKit Go.Shelf Go.Maps
set_option linter.unusedVariables false
set_option linter.unusedSimpArgs false

end Go.Proofs.YtjajnhemgphefaaGreatDoor

namespace Go.Proofs.YtjajnhemgphefaaGreatDoor
open Go.RowKit Go.Shelf Go.Maps
set_option linter.unusedVariables false
set_option linter.unusedSimpArgs false

section
variable {w W : World} {be : Nat} {bs : List Nat} {e : Eg}
theorem kuntil (h : KSt w be bs e W) (hT : Lib.Utf8Tabs 0 1 w) (s : ByteArray) (hs : s.size ≤ 4611686018427387904) (hn : ∀ a, atomR s = some a → ∀ t ∈ a.args, t.num < 6) :
    Calls Tryz.prog 24 #[.pointer (some ⟨be, 0, none⟩), .string s] W fun en W' => en = .returned (.tuple #[.int .i64 (untilR e s).1, .int .i64 (untilR e s).2]) ∧ KSt w be bs e W' ∧ Kept bs W W' := by
  obtain ⟨S, h1, h2⟩ := h.eng
  refine (until_any S be e s W h1 h.ok hs (Utf8Tabs_below hT h.below) hn).mono ?_
  rintro en W' ⟨k1, k2⟩
  exact ⟨k1, h.same k2⟩
theorem kask (h : KSt w be bs e W) (hT : Lib.Utf8Tabs 0 1 w) (s : ByteArray) (hs : s.size ≤ 4611686018427387904) (a : Am) (ha : atomR s = some a) (hn : ∀ t ∈ a.args, t.num < 6) (hck : ckR e.rs a = 0) :
    Calls Tryz.prog 25 #[.pointer (some ⟨be, 0, none⟩), .string s] W fun en W' => ∃ (oa : Option Addr) (oc : Nat) (gs : List Gd), en = .returned (.tuple #[.slice oa gs.length oc, .int .i64 0]) ∧ fitP e.M a gs ∧ W'.ownsRow W.heap.size 9 1 (.slice oa gs.length oc) gs.length ((textsOf gs).map strV) ∧ KSt w be bs e W' ∧ Kept bs W W' := by
  obtain ⟨S, h1, h2⟩ := h.eng
  refine (ask_any S be e s W h1 h.ok hs (Utf8Tabs_below hT h.below) (fun b hb => by rw [ha] at hb; cases hb; exact hn)).mono ?_
  rintro en W' ⟨k1, k2⟩
  rw [ha] at k2
  rcases k2 with ⟨k2, _⟩ | ⟨_, v, gs, k3, k4, k5⟩
  · exact absurd hck k2
  · obtain ⟨oa, oc, hof⟩ := owns_form k5
    subst hof
    rw [textsOf_len] at k4 k5
    exact ⟨oa, oc, gs, k4, k3, k5, h.same k1⟩
end
theorem am_nums (r : ByteArray) (a b : Nat) : ∀ t ∈ (amB r a b).args, t.num < 6 := by
  intro t ht
  simp only [amB, List.mem_cons, List.not_mem_nil, or_false] at ht
  rcases ht with rfl | rfl <;> exact Nat.zero_lt_succ 5
end Go.Proofs.YtjajnhemgphefaaGreatDoor

namespace Go.Proofs.YtjajnhemgphefaaGreatDoor
open Go.RowKit Go.Shelf Go.Maps
set_option linter.unusedVariables false
set_option linter.unusedSimpArgs false

def tA : Tm := ⟨ptB 0, 0⟩
/-- path(X,Y):-edge(X,Y). path(X,Z):-path(X,Y),edge(Y,Z). path(a,a). -/
def txtE : ByteArray := ⟨#[112, 97, 116, 104, 40, 88, 44, 89, 41, 58, 45, 101, 100, 103, 101, 40, 88, 44, 89, 41, 46, 32, 112, 97, 116, 104, 40, 88, 44, 90, 41, 58, 45, 112, 97, 116, 104, 40, 88, 44, 89, 41, 44, 101, 100, 103, 101, 40, 89, 44, 90, 41, 46, 32, 112, 97, 116, 104, 40, 97, 44, 97, 41, 46]⟩
def txtEd : ByteArray := ⟨#[101, 100, 103, 101, 40, 88, 44, 89, 41]⟩
def rsE : List Rl := pathR bPa bEd ++ [⟨⟨bPa, [tA, tA]⟩, []⟩]
theorem e_count : Lib.runeCount txtE = 64 := by kernel_rfl
theorem e_parse : parseR txtE = .ok rsE := by kernel_rfl
theorem e_check : checkS rsE = (0, 0) := by kernel_rfl
theorem atom_ed : atomR txtEd = some ⟨bEd, [v0T, v1T]⟩ := by kernel_rfl
theorem e_ams : rsE.flatMap ruleAms = [⟨bPa, [v0T, v1T]⟩, ⟨bEd, [v0T, v1T]⟩, ⟨bPa, [v0T, v1T]⟩, ⟨bPa, [v0T, v2T]⟩, ⟨bEd, [v2T, v1T]⟩, ⟨bPa, [tA, tA]⟩] := rfl
theorem e_arP : arR rsE bPa = 2 := by kernel_rfl
theorem e_arE : arR rsE bEd = 2 := by kernel_rfl
theorem e_der : derB rsE bEd = false := by kernel_rfl
theorem e_given : givenL rsE = [(⟨bPa, ptB 0, ptB 0⟩, 2000000)] := by
  show [(groundA nms0 (⟨bPa, [tA, tA]⟩ : Am), (2000000 : Int))] = _
  have := ground_am bPa 0 0
  unfold amB at this
  rw [show (⟨bPa, [tA, tA]⟩ : Am) = ⟨bPa, [⟨ptB 0, 0⟩, ⟨ptB 0, 0⟩]⟩ from rfl, this]
theorem e_ok : RsOk rsE := by
  have hA : ∀ (x : ByteArray) (t u : Tm), x.size ≤ 1200 → TmOk t → TmOk u → AmOk ⟨x, [t, u]⟩ := fun x t u hx h1 h2 => ⟨hx, Nat.le_refl 2, fun v hv => by
    simp only [List.mem_cons, List.not_mem_nil, or_false] at hv
    rcases hv with rfl | rfl
    · exact h1
    · exact h2⟩
  have h0 : TmOk v0T := ⟨by decide, by decide⟩
  have h1 : TmOk v1T := ⟨by decide, by decide⟩
  have h2 : TmOk v2T := ⟨by decide, by decide⟩
  have h3 : TmOk tA := ⟨by decide, by decide⟩
  refine ⟨by decide, fun r hr => ?_, fun a ha => ?_, fun a ha t ht => ?_, fun r hr t ht hne => ?_⟩
  · simp only [rsE, pathR, List.cons_append, List.nil_append, List.mem_cons, List.not_mem_nil, or_false] at hr
    rcases hr with rfl | rfl | rfl
    · exact ⟨hA _ _ _ (by decide) h0 h1, by decide, fun a ha => by simp only [List.mem_cons, List.not_mem_nil, or_false] at ha; subst ha; exact hA _ _ _ (by decide) h0 h1⟩
    · exact ⟨hA _ _ _ (by decide) h0 h1, by decide, fun a ha => by
        simp only [List.mem_cons, List.not_mem_nil, or_false] at ha
        rcases ha with rfl | rfl
        · exact hA _ _ _ (by decide) h0 h2
        · exact hA _ _ _ (by decide) h2 h1⟩
    · exact ⟨hA _ _ _ (by decide) h3 h3, by decide, fun a ha => by cases ha⟩
  · rw [e_ams] at ha
    simp only [List.mem_cons, List.not_mem_nil, or_false] at ha
    rcases ha with rfl | rfl | rfl | rfl | rfl | rfl
    · exact ⟨e_arP.symm, .inr rfl⟩
    · exact ⟨e_arE.symm, .inr rfl⟩
    · exact ⟨e_arP.symm, .inr rfl⟩
    · exact ⟨e_arP.symm, .inr rfl⟩
    · exact ⟨e_arE.symm, .inr rfl⟩
    · exact ⟨e_arP.symm, .inr rfl⟩
  · rw [e_ams] at ha
    simp only [List.mem_cons, List.not_mem_nil, or_false] at ha
    rcases ha with rfl | rfl | rfl | rfl | rfl | rfl <;> (simp only [List.mem_cons, List.not_mem_nil, or_false] at ht; rcases ht with rfl | rfl <;> decide)
  · simp only [rsE, pathR, List.cons_append, List.nil_append, List.mem_cons, List.not_mem_nil, or_false] at hr
    rcases hr with rfl | rfl | rfl
    · exact ⟨⟨bEd, [v0T, v1T]⟩, List.mem_cons_self, t, ht, hne, rfl⟩
    · simp only [List.mem_cons, List.not_mem_nil, or_false] at ht
      rcases ht with rfl | rfl
      · exact ⟨⟨bPa, [v0T, v2T]⟩, List.mem_cons_self, v0T, List.mem_cons_self, rfl, rfl⟩
      · exact ⟨⟨bEd, [v2T, v1T]⟩, List.mem_cons_of_mem _ List.mem_cons_self, v1T, List.mem_cons_of_mem _ List.mem_cons_self, rfl, rfl⟩
    · simp only [List.mem_cons, List.not_mem_nil, or_false] at ht
      rcases ht with rfl | rfl <;> exact absurd hne (pt_ne 0)
theorem e_names1 : namesR [] (rsE.take 1) = [] := by kernel_rfl
theorem e_names2 : namesR [] (rsE.take 2) = [] := by kernel_rfl
theorem e_names : namesR [] rsE = [ptB 0] := by kernel_rfl
theorem e_new : NewOk txtE rsE := by
  refine ⟨e_parse, ?_, e_ok, fun k => ?_, fun r hr t ht hne => ?_, fun x hx => ?_⟩
  · unfold rulesR
    rw [e_count, if_neg (by decide), e_parse]
    simp only
    rw [e_check, if_pos rfl]
  · match k with
    | 0 => exact Nat.zero_le _
    | 1 => rw [e_names1]; exact Nat.zero_le _
    | 2 => rw [e_names2]; exact Nat.zero_le _
    | k + 3 =>
      have h : rsE.take (k + 3) = rsE := List.take_of_length_le (by show (3 : Nat) ≤ k + 3; omega)
      rw [h, e_names]; exact Nat.le_of_ble_eq_true rfl
  · rw [e_names]
    simp only [rsE, pathR, List.cons_append, List.nil_append, List.mem_cons, List.not_mem_nil, or_false] at hr
    rcases hr with rfl | rfl | rfl <;> (simp only [List.mem_cons, List.not_mem_nil, or_false] at ht; rcases ht with rfl | rfl)
    all_goals first | exact absurd rfl hne | exact List.mem_cons_self
  · rw [e_names] at hx
    simp only [List.mem_cons, List.not_mem_nil, or_false] at hx
    subst hx
    show (1 : Nat) ≤ 1200
    decide

/-- An engine of rules in which edges are given: no more than tb is the time of any fact. -/
structure PeE (rs : List Rl) (tb : Int) (e : Eg) : Prop where
  rs : e.rs = rs
  win : e.win = 20
  lat : e.lat = 3
  names : PtsOk e.names
  kept : ∀ d ∈ e.kept, d.1.rel = bEd ∧ 0 ≤ d.2 ∧ d.2 ≤ tb
/-- An edge is brought: it is kept, or the engine is as it was. -/
theorem pe_ins {rs : List Rl} (hd : derB rs bEd = false) (hA : arR rs bEd = 2) {tb : Int} {e : Eg} (h : PeE rs tb e) {a b : Nat} (ha : a < 6) (hb : b < 6) {t : Int} (ht : 0 ≤ t ∧ t ≤ 1000000) :
    let r := insR e (ofB bEd a b) t
    (r.2 = e ∧ (r.1 = 8 ∨ r.1 = 9 ∨ r.1 = 10) ∧ (r.1 = 8 ↔ t + 20 ≤ e.mark) ∧ (r.1 = 9 → (⟨bEd, ptB a, ptB b⟩, t) ∈ e.kept) ∧ (r.1 = 10 → e.kept.length = 24)) ∨
    (r.1 = 0 ∧ e.mark < t + 20 ∧ (⟨bEd, ptB a, ptB b⟩, t) ∉ e.kept ∧ e.kept.length ≠ 24 ∧ r.2 = { e with names := nmL e.names (amB bEd a b).args, kept := e.kept ++ [(⟨bEd, ptB a, ptB b⟩, t)] }) := by
  intro r
  have hr : r = accR e (amB bEd a b) t := by
    show insR e (ofB bEd a b) t = _
    unfold insR
    rw [atom_e ha hb]
    simp only
    rw [if_neg (by rw [am_ground]; decide), if_neg (by rw [h.rs]; show ¬ derB rs bEd = true; rw [hd]; decide), if_neg (by
      have : ckR e.rs (amB bEd a b) = 0 := by
        unfold ckR
        show (if arR e.rs bEd = 0 then (7 : Int) else if arR e.rs bEd = 2 then 0 else 4) = 0
        rw [h.rs, hA]; rfl
      rw [this]; decide), if_neg (by simp; omega)]
  rw [hr]
  unfold accR
  rw [ground_am, h.win]
  by_cases ho : overB 20 e.mark t = true
  · rw [if_pos ho]
    have ho' : t + 20 ≤ e.mark := by unfold overB at ho; simpa using ho
    exact .inl ⟨rfl, .inl rfl, ⟨fun _ => ho', fun _ => rfl⟩, fun h => by simp at h, fun h => by simp at h⟩
  · rw [if_neg ho]
    have ho' : ¬ t + 20 ≤ e.mark := by unfold overB at ho; simpa using ho
    by_cases hh : hasD e.kept (⟨bEd, ptB a, ptB b⟩, t) = true
    · rw [if_pos hh]
      exact .inl ⟨rfl, .inr (.inl rfl), ⟨fun h => by simp at h, fun h => absurd h ho'⟩, fun _ => (hasD_iff _ _).1 hh, fun h => by simp at h⟩
    · rw [if_neg hh]
      have h6 := pts_six (pts_add h.names bEd ha hb)
      by_cases hf : e.kept.length = 24 ∨ 8 < (nmL e.names (amB bEd a b).args).length
      · rw [if_pos hf]
        exact .inl ⟨rfl, .inr (.inr rfl), ⟨fun h => by simp at h, fun h => absurd h ho'⟩, fun h => by simp at h, fun _ => by omega⟩
      · rw [if_neg hf]
        exact .inr ⟨rfl, by omega, fun hm => hh ((hasD_iff _ _).2 hm), by omega, rfl⟩
theorem pe_kept {rs : List Rl} (hd : derB rs bEd = false) (hA : arR rs bEd = 2) {tb : Int} {e : Eg} (h : PeE rs tb e) {a b : Nat} (ha : a < 6) (hb : b < 6) {t : Int} (ht : 0 ≤ t ∧ t ≤ tb) (hb6 : tb ≤ 1000000) : PeE rs tb (insR e (ofB bEd a b) t).2 := by
  rcases pe_ins hd hA h ha hb (t := t) (by omega) with ⟨h1, _⟩ | ⟨_, _, _, _, h1⟩
  · rw [h1]; exact h
  · rw [h1]
    refine ⟨h.rs, h.win, h.lat, pts_add h.names bEd ha hb, fun d hd => ?_⟩
    rcases List.mem_append.1 hd with hd | hd
    · exact h.kept d hd
    · simp only [List.mem_cons, List.not_mem_nil, or_false] at hd
      subst hd
      exact ⟨rfl, ht⟩

end Go.Proofs.YtjajnhemgphefaaGreatDoor

namespace Go.Proofs.YtjajnhemgphefaaGreatDoor
open Go.RowKit Go.Shelf Go.Maps
set_option linter.unusedVariables false
set_option linter.unusedSimpArgs false

def gAA : Gd := ⟨bPa, ptB 0, ptB 0⟩
/-- Of no edges only the path that is said comes. -/
theorem e_model {M : Gd → Option Int} (h : LeastM rsE [(gAA, 2000000)] M) : M gAA = some 2000000 ∧ ∀ g, g ≠ gAA → M g = none := by
  have hs : ∀ e g, Der rsE [(gAA, 2000000)] e g → g = gAA := fun e g hd => hd (fun g => g = gAA) (fun x hx _ => by
    simp only [List.mem_cons, List.not_mem_nil, or_false] at hx
    rw [hx]) (fun r hr h0 p hb => by
    simp only [rsE, pathR, List.cons_append, List.nil_append, List.mem_cons, List.not_mem_nil, or_false] at hr
    rcases hr with rfl | rfl | rfl
    · have := congrArg Gd.rel (hb ⟨bEd, [v0T, v1T]⟩ List.mem_cons_self)
      exact absurd this.symm pe_ne
    · have := congrArg Gd.rel (hb ⟨bEd, [v2T, v1T]⟩ (List.mem_cons_of_mem _ List.mem_cons_self))
      exact absurd this.symm pe_ne
    · exact absurd rfl h0)
  constructor
  · obtain ⟨t, ht, _⟩ := h.complete 1999999 gAA (Der.fact (x := (gAA, 2000000)) List.mem_cons_self (by decide))
    obtain ⟨x, hx, hxt⟩ := h.end_mem ht
    simp only [List.mem_cons, List.not_mem_nil, or_false] at hx
    rw [ht, ← hxt, hx]
  · intro g hg
    cases hc : M g with
    | none => rfl
    | some t => exact absurd (hs _ g (h.sound g t hc (t - 1) (by omega))) hg

/-- A Tick of an engine whose one feed is behind. -/
theorem eb_tick {tb : Int} {e e' : Eg} {f : Fs} {c : Int} {r : Int × Int} (h : PeE rsE tb e) (hf : e.fds = [f]) (hb : f.behind = true) (hc : 0 ≤ c ∧ c ≤ 1000000) (ht : TickE e c e' r) :
    r = (e'.mark, 0) ∧ PeE rsE tb e' ∧ e'.fds = [f] ∧ ((c - 3 ≤ e.mark ∧ e' = e) ∨ (e.mark < c - 3 ∧ e'.mark = c - 3 ∧ e'.kept = e.kept.filter (fun d => !overB 20 (c - 3) d.2) ∧ LeastM rsE (factsF e (c - 3) ++ givenL rsE) e'.M)) := by
  rcases ht with ⟨hn, _⟩ | ⟨_, hr, ⟨hle, rfl⟩ | ⟨hlt, hmv⟩⟩
  · exact absurd hc hn
  · rw [h.lat] at hle
    exact ⟨hr, h, hf, .inl ⟨hle, rfl⟩⟩
  · rw [h.lat] at hlt hmv
    obtain ⟨M', fds', hM, hl, hmf, rfl⟩ := hmv
    have hl1 : fds'.length = 1 := by rw [hl, hf]; rfl
    obtain ⟨f', rfl⟩ : ∃ f', fds' = [f'] := by
      match fds', hl1 with
      | [f'], _ => exact ⟨f', rfl⟩
    have hm0 := hmf 0 (by rw [hf]; exact Nat.zero_lt_one) (by simp)
    have e0 : e.fds[0]'(by rw [hf]; exact Nat.zero_lt_one) = f := by simp only [hf]; rfl
    rw [e0] at hm0
    simp only [List.getElem_cons_zero] at hm0
    have hff : f' = f := by
      rcases hm0 with ⟨_, e1⟩ | ⟨e1, _⟩
      · exact e1
      · rw [hb] at e1; cases e1
    subst hff
    rw [h.rs] at hM
    refine ⟨hr, ⟨h.rs, h.win, h.lat, h.names, fun d hd => h.kept d (List.mem_filter.1 hd).1⟩, rfl, .inr ⟨hlt, rfl, ?_, hM⟩⟩
    show e.kept.filter _ = _
    rw [h.win]
/-- Beyond all ends nothing is kept. -/
theorem eb_over {tb m : Int} {e : Eg} (h : PeE rsE tb e) (hm : tb + 20 ≤ m) : e.kept.filter (fun d => !overB 20 m d.2) = [] ∧ factsF e m = [] := by
  have h1 : e.kept.filter (fun d => !overB 20 m d.2) = [] := by
    rw [List.filter_eq_nil_iff]
    intro d hd
    have := (h.kept d hd).2.2
    unfold overB
    simp; omega
  refine ⟨h1, ?_⟩
  unfold factsF
  rw [h.win, h1]; rfl

end Go.Proofs.YtjajnhemgphefaaGreatDoor

namespace Go.Proofs.YtjajnhemgphefaaGreatDoor
open Go.RowKit Go.Shelf Go.Maps
set_option linter.unusedVariables false
set_option linter.unusedSimpArgs false

theorem pa_name : nameB bPa = true := by kernel_rfl
def F0 : Fs := ⟨aPX, true, [], [], 0⟩
theorem e_sub {q : Int} {M : Gd → Option Int} : subR (newE rsE 20 3 q M) bPa = (0, 0, { newE rsE 20 3 q M with fds := [F0] }) := by
  unfold subR
  rw [pa_name, if_neg (by decide)]
  show (if arR rsE bPa = 0 then _ else if (0 : Nat) = 3 then _ else _) = _
  rw [e_arP, if_neg (by decide), if_neg (by decide)]
  rfl
/-- Ahead of the Ticks. -/
structure EbE (e : Eg) : Prop where
  pe : PeE rsE 39 e
  mark : e.mark = 0
  fds : e.fds = [F0]
theorem eb_new {q : Int} {M : Gd → Option Int} : EbE { newE rsE 20 3 q M with fds := [F0] } := by
  refine ⟨⟨rfl, rfl, rfl, ?_, fun d hd => (by cases hd)⟩, rfl, rfl⟩
  show PtsOk (namesR [] rsE)
  rw [e_names]
  exact ⟨by simp, fun x hx => ⟨0, by decide, by simpa using hx⟩⟩
theorem eb_ins {e : Eg} (h : EbE e) {a b : Nat} (ha : a < 6) (hb : b < 6) {t : Int} (ht : 0 ≤ t ∧ t ≤ 39) : EbE (insR e (ofB bEd a b) t).2 := by
  have hpk := pe_kept e_der e_arE h.pe ha hb ht (by decide)
  rcases pe_ins e_der e_arE h.pe ha hb (t := t) (by omega) with ⟨h1, _⟩ | ⟨_, _, _, _, h1⟩
  · rw [h1]; exact h
  · rw [h1] at hpk ⊢
    exact ⟨hpk, h.mark, h.fds⟩
/-- At the Ticks: once the watermark is beyond all ends, nothing is kept. -/
structure EbT (m : Int) (e : Eg) : Prop where
  pe : PeE rsE 39 e
  mark : e.mark = m
  fds : e.fds = [F0]
  over : 59 ≤ m → e.kept = [] ∧ LeastM rsE (givenL rsE) e.M
theorem eb_start {e : Eg} (h : EbE e) : EbT 0 e := ⟨h.pe, h.mark, h.fds, fun h => by omega⟩
theorem ebt_tick {m c : Int} {e e' : Eg} {r : Int × Int} (h : EbT m e) (hm : 0 ≤ m) (hc : 0 ≤ c ∧ c ≤ 1000000) (ht : TickE e c e' r) : r.2 = 0 ∧ EbT (max m (c - 3)) e' := by
  obtain ⟨h1, h2, h3, h4⟩ := eb_tick h.pe h.fds rfl hc ht
  rw [h1]
  refine ⟨rfl, ?_⟩
  rcases h4 with ⟨h5, rfl⟩ | ⟨h5, h6, h7, h8⟩
  · rw [h.mark] at h5
    have : max m (c - 3) = m := by omega
    rw [this]; exact h
  · rw [h.mark] at h5
    have hmx : max m (c - 3) = c - 3 := by omega
    rw [hmx]
    refine ⟨h2, h6, h3, fun h59 => ?_⟩
    obtain ⟨o1, o2⟩ := eb_over h.pe (m := c - 3) (by omega)
    rw [o1] at h7
    rw [o2] at h8
    exact ⟨h7, h8⟩
/-- At the end of the Ticks. -/
structure EbO (e : Eg) : Prop where
  pe : PeE rsE 39 e
  mark : e.mark = 95
  kept : e.kept = []
  aa : e.M gAA = some 2000000
  only : ∀ g, g ≠ gAA → e.M g = none
  fds : e.fds = [F0]
theorem eb_end {e : Eg} (h : EbT 95 e) : EbO e := by
  obtain ⟨h1, h2⟩ := h.over (by decide)
  rw [e_given] at h2
  obtain ⟨h3, h4⟩ := e_model h2
  exact ⟨h.pe, h.mark, h1, h3, h4, h.fds⟩
theorem eb_on {e : Eg} (h : EbO e) : OnPts e.M := fun x y hs => by
  by_cases hg : (⟨bPa, x, y⟩ : Gd) = gAA
  · simp only [gAA, Gd.mk.injEq, true_and] at hg
    exact ⟨0, 0, by decide, by decide, hg.1, hg.2⟩
  · rw [h.only _ hg] at hs; cases hs
def txtAA : ByteArray := ofB bPa 0 0
theorem eb_hold {e : Eg} (h : EbO e) (x : ByteArray) : HoldM e.M x ↔ x = txtAA := by
  constructor
  · rintro ⟨i, j, hi, hj, hs, rfl⟩
    by_cases hg : (⟨bPa, ptB i, ptB j⟩ : Gd) = gAA
    · simp only [gAA, Gd.mk.injEq, true_and] at hg
      rw [pt_inj hi (by decide) hg.1, pt_inj hj (by decide) hg.2]; rfl
    · rw [h.only _ hg] at hs; cases hs
  · rintro rfl
    exact ⟨0, 0, by decide, by decide, by show (e.M gAA).isSome = true; rw [h.aa]; rfl, rfl⟩
theorem eb_fit {e : Eg} (h : EbO e) {gs : List Gd} (hf : fitP e.M aPX gs) : gs.length = 1 ∧ txL gs = [txtAA] := by
  have hl := tx_hold hf (eb_on h)
  have hlen : gs.length = (txL gs).length := by rw [(tx_perm gs).length_eq, List.length_map]
  have h1 : Like [txtAA] (HoldM e.M) := ⟨by simp, fun x => by rw [List.mem_singleton, eb_hold h]⟩
  have hp : (txL gs).Perm [txtAA] := (List.perm_ext_iff_of_nodup hl.1 h1.1).2 (fun x => (hl.2 x).trans (h1.2 x).symm)
  have h2 := List.perm_singleton.1 hp
  rw [hlen, h2]
  exact ⟨rfl, rfl⟩
theorem eb_noedge {e : Eg} (h : EbO e) {gs : List Gd} (hf : fitP e.M ⟨bEd, [v0T, v1T]⟩ gs) : gs = [] := by
  obtain ⟨ks, k1, k2, rfl⟩ := hf
  have : ks = [] := List.eq_nil_iff_forall_not_mem.2 (fun ⟨x, y⟩ hx => by
    have h3 := ((k2 x y).1 hx).2.2
    have h4 : e.M ⟨bEd, x, y⟩ = none := h.only _ (fun e1 => pe_ne (show bPa = bEd from (congrArg Gd.rel e1).symm))
    have h5 : (e.M ⟨bEd, x, y⟩).isSome = true := h3
    rw [h4] at h5; cases h5)
  subst this; rfl
theorem until_aa {e : Eg} (h : EbO e) : untilR e txtAA = (2000000, 0) := by
  unfold untilR txtAA
  rw [atom_p (by decide) (by decide)]
  simp only
  rw [if_neg (by rw [am_ground]; decide), if_pos (by
    unfold ckR
    show (if arR e.rs bPa = 0 then (7 : Int) else if arR e.rs bPa = 2 then 0 else 4) = 0
    rw [h.pe.rs, e_arP]; rfl), ground_am]
  show ((e.M gAA).getD 0, (0 : Int)) = _
  rw [h.aa]; rfl
/-- The facts that are brought at the end, each another. -/
def edN (i : Nat) : Gd × Int := (⟨bEd, ptB (i % 6), ptB (i / 6)⟩, 100)
structure EbN (i : Nat) (e : Eg) : Prop where
  pe : PeE rsE 100 e
  mark : e.mark = 95
  kept : e.kept = (List.range i).map edN
theorem edN_in {i a b : Nat} (hi : i ≤ 24) (ha : a < 6) (hb : b < 6) (h : ((⟨bEd, ptB a, ptB b⟩ : Gd), (100 : Int)) ∈ (List.range i).map edN) : a + 6 * b < i := by
  obtain ⟨j, hj, e1⟩ := List.mem_map.1 h
  have hj' := List.mem_range.1 hj
  simp only [edN, Prod.mk.injEq, Gd.mk.injEq, true_and, and_true] at e1
  have h1 := pt_inj (by omega) ha e1.1
  have h2 := pt_inj (by omega) hb e1.2
  omega
theorem ebn_ins {i : Nat} {e : Eg} (h : EbN i e) (hi : i < 24) : (insR e (ofB bEd (i % 6) (i / 6)) 100).1 = 0 ∧ EbN (i + 1) (insR e (ofB bEd (i % 6) (i / 6)) 100).2 := by
  have hpk := pe_kept e_der e_arE h.pe (a := i % 6) (b := i / 6) (by omega) (by omega) (t := 100) (by decide) (by decide)
  rcases pe_ins e_der e_arE h.pe (a := i % 6) (b := i / 6) (by omega) (by omega) (t := 100) (by decide) with ⟨_, g2, g3, g4, g5⟩ | ⟨g1, _, _, _, g2⟩
  · exfalso
    rcases g2 with g | g | g
    · have := g3.1 g; rw [h.mark] at this; omega
    · have := g4 g
      rw [h.kept] at this
      have := edN_in (by omega) (by omega) (by omega) this
      omega
    · have := g5 g; rw [h.kept] at this; simp at this; omega
  · rw [g2] at hpk ⊢
    refine ⟨g1, hpk, h.mark, ?_⟩
    show e.kept ++ _ = _
    rw [h.kept, List.range_succ, List.map_append]; rfl
theorem ebn_full {e : Eg} (h : EbN 24 e) : (insR e (ofB bEd 5 5) 100).1 = 10 := by
  rcases pe_ins e_der e_arE h.pe (a := 5) (b := 5) (by decide) (by decide) (t := 100) (by decide) with ⟨_, g2, g3, g4, g5⟩ | ⟨_, _, _, g4, _⟩
  · rcases g2 with g | g | g
    · have := g3.1 g; rw [h.mark] at this; omega
    · have := g4 g
      rw [h.kept] at this
      have := edN_in (by omega) (by omega) (by omega) this
      omega
    · exact g
  · rw [h.kept] at g4; simp at g4

end Go.Proofs.YtjajnhemgphefaaGreatDoor

namespace Go.Proofs.YtjajnhemgphefaaGreatDoor
open Go.RowKit Go.Shelf
set_option linter.unusedVariables false

/-- A row of edges in memory. -/
def EdAt (w : World) (a : Option Addr) (l : List (Int × Int × Int)) : Prop := ∀ i (h : i < l.length), ∃ b off, a = some ⟨b, off, none⟩ ∧ b < w.heap.size ∧ w.cell? ⟨b, off + i * 3, none⟩ = some (.int .i64 (l[i]).1) ∧ w.cell? ⟨b, off + i * 3 + 1, none⟩ = some (.int .i64 (l[i]).2.1) ∧ w.cell? ⟨b, off + i * 3 + 2, none⟩ = some (.int .i64 (l[i]).2.2)
def IntOk (z : Int) : Prop := -9223372036854775808 ≤ z ∧ z ≤ 9223372036854775807
/-- Which of six points a raw number speaks of. -/
def p6 (z : Int) : Nat := (pickZ z 6).toNat
theorem p6_lt (z : Int) : p6 z < 6 := by
  have := pickZ_bounds z 6 (by decide)
  unfold p6; omega

end Go.Proofs.YtjajnhemgphefaaGreatDoor
