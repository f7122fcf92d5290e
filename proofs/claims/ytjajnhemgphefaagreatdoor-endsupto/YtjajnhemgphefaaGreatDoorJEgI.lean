/-
  Package feeds: Move.
  Facts with their times: slices.Contains.
  The engine: isWithin, end, isOver; slices.DeleteFunc of facts with their times.
-/
import Derived.Test.YtjajnhemgphefaaGreatDoorJFd5
import Derived.Test.YtjajnhemgphefaaGreatDoorJRangeM
import Derived.ChangeKeysEq
namespace Go.Proofs.YtjajnhemgphefaaGreatDoor
open Go.RowKit Go.Shelf Go.Maps
set_option linter.unusedVariables false
set_option linter.unusedSimpArgs false

/-- All that fits a form and is not in another model. -/
def beyP (M M2 : Gd → Option Int) (a : Am) (gs : List Gd) : Prop := ∃ g0, fitP M a g0 ∧ gs = g0.filter (fun g => (M2 g).isNone)
def textsR (kind : Int) (gs : List Gd) : List Rc := recsT kind (sortT (gs.map (fun g => (textG g).data.toList)))
theorem textsR_len (kind : Int) (gs : List Gd) : (textsR kind gs).length = gs.length := by
  unfold textsR recsT
  rw [List.length_map]
  exact ((List.mergeSort_perm _ _).length_eq).trans (by simp)

/-- What Beyond comes to, as records. -/
theorem beyond_recs (B B2 n1 n2 b87 : Nat) (M1 M2 : Gd → Option Int) (a : Am) (va : Value) (kind : Int) (Bm Ba Bo : Nat) (W : World) (hst : BySt Bm Ba Bo B B2 n1 n2 b87 M1 M2 a va W) (hfo : FormOk a) (hnn : n1 ≤ 1000000) (hMs : ∀ x y, (M1 ⟨a.rel, x, y⟩).isSome = true → x.size ≤ 2000 ∧ y.size ≤ 2000) :
    Calls Tryz.prog 146 #[.int .i64 kind, .func (.func 193) #[] #[.pointer (some ⟨Bm, 0, none⟩), .pointer (some ⟨Ba, 0, none⟩), .pointer (some ⟨Bo, 0, none⟩)]] W fun e w' => ∃ (oa : Option Addr) (oc : Nat) (gs : List Gd), e = .returned (.slice oa (textsR kind gs).length oc) ∧ beyP M1 M2 a gs ∧ w'.ownsRow W.heap.size 71 4 (.slice oa (textsR kind gs).length oc) (textsR kind gs).length ((textsR kind gs).flatMap Rc.c) ∧ Below W.heap.size W w' := by
  refine (records_any (N := n1) kind W hnn (enters_of Tryz.func193 (by kernel_rfl) rfl) (fun m n => beyond_seq n Bm Ba Bo B B2 n1 n2 b87 M1 M2 a va W hst hfo.args hfo.nums hfo.rel hfo.names hMs m)).mono ?_
  rintro e w' ⟨v, gs, rfl, ⟨ks, k1, k2, k3, k4⟩, ho, hb⟩
  have hgl : gs.map (fun g => (textG g.1).data.toList) = (gs.map (·.1)).map (fun g => (textG g).data.toList) := by rw [List.map_map]; rfl
  rw [hgl] at ho
  obtain ⟨oa, oc, hof⟩ := owns_form ho
  subst hof
  refine ⟨oa, oc, gs.map (·.1), rfl, ?_, ?_, hb⟩
  · exact ⟨_, ⟨ks, k1, k2, rfl⟩, k4⟩
  · exact ho

theorem SrcAt.ofOwn {W : World} {b T n : Nat} {v : Value} {xs : List Value} (h : W.ownsRow b T 4 v n xs) (h1 : ∀ u ∈ xs, u.oneCell' = true) : SrcAt W 4 ⟨v, n, xs⟩ := by
  obtain ⟨hl, ⟨hv, hn⟩ | ⟨g, cap, cur, hv, hb, hh, k1, k2, k3, k4⟩⟩ := h
  · exact .inl ⟨hv, hn, List.eq_nil_of_length_eq_zero (by rw [hl, hn])⟩
  · refine .inr ⟨_, _, hv, hl, fun j u hj => ?_, fun _ => (Array.getElem?_eq_some_iff.1 hh).1, h1⟩
    have hj2 : j < n * 4 := by rw [← hl]; exact (List.getElem?_eq_some_iff.1 hj).1
    rw [show (⟨g, 0, none⟩ : Addr).add j = ⟨g, 0 + j, none⟩ by simp [Addr.add]; intro h; omega]
    simp only [World.cell?, hh]
    have hj3 : (cur.toList.take (n * 4))[j]? = some u := by rw [k4]; exact hj
    rw [List.getElem?_take, if_pos hj2] at hj3
    simpa using hj3
theorem recs_one (l : List Rc) : ∀ u ∈ l.flatMap Rc.c, u.oneCell' = true := by
  intro u hu
  obtain ⟨x, _, hx⟩ := List.mem_flatMap.1 hu
  simp only [Rc.c, List.mem_cons, List.not_mem_nil, or_false] at hx
  rcases hx with rfl | rfl | rfl | rfl <;> rfl

set_option maxRecDepth 100000 in
set_option maxHeartbeats 4000000 in
theorem move_behind (S : Nat → Prop) (bf b87 : Nat) (f : Fs) (B B2 : Nat) (mark most : Int) (w : World) (h : FdAt w S bf b87 f) (hb : f.behind = true) :
    Calls Tryz.prog 88 #[.pointer (some ⟨bf, 0, none⟩), .map (some B), .map (some B2), .int .i64 mark, .int .i64 most] w fun e w' => e = .returned (.tuple #[]) ∧ w' = w := by
  obtain ⟨va, vs, vq, h1, h2, h3, h4, h5, h6, h7⟩ := h
  rw [hb] at h1
  have c2 : w.cell? ⟨bf, 2, none⟩ = some (.bool true) := by simp [World.cell?, h1]
  clear h1 h2 h3 h4 h5 h6 h7
  go_enter Tryz.func88, Tryz.ntmps88
  go_wp2
  refine bodyPost_ret (results_none rfl _ _ _) rfl ?_
  exact ⟨rfl, rfl⟩

theorem fallBehind_any (bf : Nat) (w : World) (cs : Array Value) (v2 v3 v4 : Value) (h1 : w.heap[bf]? = some (Obj.cells cs 198 (0, 0))) (h2 : cs[2]? = some v2) (h3 : cs[3]? = some v3) (h4 : cs[4]? = some v4) :
    Calls Tryz.prog 150 #[.pointer (some ⟨bf, 0, none⟩)] w fun e w' => e = .returned (.tuple #[]) ∧ w' = ((w.setCell ⟨bf, 2, none⟩ (.bool true)).setCell ⟨bf, 3, none⟩ (.slice none 0 0)).setCell ⟨bf, 4, none⟩ (.slice none 0 0) := by
  have e2 : w.cell? ⟨bf, 2, none⟩ = some v2 := by simp only [World.cell?, h1]; simpa using h2
  have e3 : w.cell? ⟨bf, 3, none⟩ = some v3 := by simp only [World.cell?, h1]; simpa using h3
  have e4 : w.cell? ⟨bf, 4, none⟩ = some v4 := by simp only [World.cell?, h1]; simpa using h4
  have y2 : w.frozen? ⟨bf, 2, none⟩ = false := by simp [World.frozen?, h1]
  have y3 : w.frozen? ⟨bf, 3, none⟩ = false := by simp [World.frozen?, h1]
  have y4 : w.frozen? ⟨bf, 4, none⟩ = false := by simp [World.frozen?, h1]
  clear h1 h2 h3 h4
  go_enter Tryz.func150, Tryz.ntmps150
  go_wp2
  go_end0
  exact ⟨rfl, rfl⟩

/-- What Move leaves of a feed that is not behind. -/
def MovePost (S : Nat → Prop) (bf b87 : Nat) (f : Fs) (M1 M2 : Gd → Option Int) (mark most : Int) (w w' : World) : Prop :=
  ∃ (g1 g2 : List Gd) (f' : Fs), beyP M1 M2 f.form g1 ∧ beyP M2 M1 f.form g2 ∧ FdAt w' (fun k => S k ∨ w.heap.size ≤ k) bf b87 f' ∧ Chg w w' S ∧ ((most < ((f.que ++ textsR 3 g1 ++ textsR 2 g2).length : Int) + 1 ∧ f' = { f with behind := true, snap := [], que := [] }) ∨ (((f.que ++ textsR 3 g1 ++ textsR 2 g2).length : Int) + 1 ≤ most ∧ f' = { f with que := f.que ++ textsR 3 g1 ++ textsR 2 g2 ++ [⟨4, 0, ⟨#[]⟩, mark⟩] }))

set_option maxRecDepth 100000 in
set_option maxHeartbeats 4000000 in
theorem move_go (S : Nat → Prop) (bf b87 : Nat) (f : Fs) (B B2 n1 n2 : Nat) (M1 M2 : Gd → Option Int) (mark most : Int) (w : World) (h : FdAt w S bf b87 f) (hS : ∀ k, S k → k < w.heap.size) (hb : f.behind = false) (hq : f.que.length ≤ 60) (hfo : FormOk f.form) (hM1 : MdAt w B n1 M1) (hM2 : MdAt w B2 n2 M2) (hn1 : n1 ≤ 1000000) (hn2 : n2 ≤ 1000000)
    (hMs1 : ∀ x y, (M1 ⟨f.form.rel, x, y⟩).isSome = true → x.size ≤ 2000 ∧ y.size ≤ 2000) (hMs2 : ∀ x y, (M2 ⟨f.form.rel, x, y⟩).isSome = true → x.size ≤ 2000 ∧ y.size ≤ 2000) (hg1 : ∀ gs, beyP M1 M2 f.form gs → gs.length ≤ 100) (hg2 : ∀ gs, beyP M2 M1 f.form gs → gs.length ≤ 100) :
    Calls Tryz.prog 88 #[.pointer (some ⟨bf, 0, none⟩), .map (some B), .map (some B2), .int .i64 mark, .int .i64 most] w fun e w' => e = .returned (.tuple #[]) ∧ MovePost S bf b87 f M1 M2 mark most w w' := by
  obtain ⟨va, vs, vq, h1, h2, h3, h4, h5, h6, h7⟩ := h
  obtain ⟨sa, sc, hsf⟩ := owns_form h3
  subst hsf
  obtain ⟨qa, qc, hqf⟩ := owns_form h4
  subst hqf
  obtain ⟨fa, fc, hfa⟩ := h2.form
  subst hfa
  rw [hb] at h1
  obtain ⟨N, hN⟩ : ∃ N, w.heap.size = N := ⟨_, rfl⟩
  have hbl := (Array.getElem?_eq_some_iff.1 h1).1
  have c2 : w.cell? ⟨bf, 2, none⟩ = some (.bool false) := by simp [World.cell?, h1]
  have hcl : Hid (∀ W, Below N w W → W.cell? ⟨bf, 0, none⟩ = some (.string f.form.rel) ∧ W.cell? ⟨bf, 1, none⟩ = some (.slice fa f.form.args.length fc) ∧ W.cell? ⟨bf, 4, none⟩ = some (.slice qa f.que.length qc)) := fun W hb => by
    have := (hb.block bf (by omega)).trans h1
    refine ⟨?_, ?_, ?_⟩ <;> simp [World.cell?, this]
  obtain ⟨c0, c1, c4⟩ := hcl.out w (Below.refl _ _)
  have hbey : Hid (∀ (X Y nX nY : Nat) (MX MY : Gd → Option Int), MdAt w X nX MX → MdAt w Y nY MY → ∀ W, Below N w W → Calls Tryz.prog 147 #[.map (some X), .map (some Y), .agg #[.string f.form.rel, .slice fa f.form.args.length fc]] W fun e w' => ∃ Bm Ba Bo, e = .returned (.func (.func 193) #[] #[.pointer (some ⟨Bm, 0, none⟩), .pointer (some ⟨Ba, 0, none⟩), .pointer (some ⟨Bo, 0, none⟩)]) ∧ BySt Bm Ba Bo X Y nX nY b87 MX MY f.form (.slice fa f.form.args.length fc) w' ∧ Below W.heap.size W w' ∧ Below N w w') := by
    intro X Y nX nY MX MY hX hY W hb
    have hbW : N ≤ W.heap.size := by have := hb.size; omega
    refine (beyond_any X Y f.form _ W _ _ _ rfl).mono ?_
    rintro e w' ⟨rfl, rfl⟩
    have hb2 : Below W.heap.size W (((W.alloc (.cells #[.map (some X)] 98)).alloc (.cells #[.map (some Y)] 98)).alloc (.cells #[.string f.form.rel, .slice fa f.form.args.length fc] 92)) := (((Below.refl _ W).alloc (Nat.le_refl _) _).alloc (by simp) _).alloc (by simp; omega) _
    have hbw : Below N w (((W.alloc (.cells #[.map (some X)] 98)).alloc (.cells #[.map (some Y)] 98)).alloc (.cells #[.string f.form.rel, .slice fa f.form.args.length fc] 92)) := hb.trans (hb2.mono hbW)
    have hk := fun m => MKept.ofBelow (m := m) (W := w) (by rw [hN]; exact hbw)
    refine ⟨_, _, _, rfl, ⟨?_, ?_, ?_, h2.mk (hk 0), hX.mk (hk 0), hY.mk (hk 0)⟩, hb2, hbw⟩
    · exact (Below.heap_alloc _ _ _ (by simp; omega)).trans ((Below.heap_alloc _ _ _ (by simp)).trans (World.alloc_heap_new W _))
    · have := World.alloc_heap_new ((W.alloc (.cells #[.map (some X)] 98)).alloc (.cells #[.map (some Y)] 98)) (.cells #[.string f.form.rel, .slice fa f.form.args.length fc] 92)
      rw [World.size_alloc, World.size_alloc] at this; exact this
    · refine (Below.heap_alloc _ _ _ (by simp)).trans ?_
      have := World.alloc_heap_new (W.alloc (.cells #[.map (some X)] 98)) (.cells #[.map (some Y)] 98)
      rw [World.size_alloc] at this; exact this
  have hrec1 : Hid (∀ Bm Ba Bo W, BySt Bm Ba Bo B B2 n1 n2 b87 M1 M2 f.form (.slice fa f.form.args.length fc) W → Below N w W → Calls Tryz.prog 146 #[.int .i64 3, .func (.func 193) #[] #[.pointer (some ⟨Bm, 0, none⟩), .pointer (some ⟨Ba, 0, none⟩), .pointer (some ⟨Bo, 0, none⟩)]] W fun e w' => ∃ (oa : Option Addr) (oc ln : Nat) (gs : List Gd), e = .returned (.slice oa ln oc) ∧ ln ≤ 100 ∧ Hid (ln = gs.length ∧ beyP M1 M2 f.form gs) ∧ w'.ownsRow N 71 4 (.slice oa ln oc) ln ((textsR 3 gs).flatMap Rc.c) ∧ Below N w w') := fun Bm Ba Bo W hst hb => by
    refine (beyond_recs B B2 n1 n2 b87 M1 M2 f.form _ 3 Bm Ba Bo W hst hfo hn1 hMs1).mono ?_
    rintro e w' ⟨oa, oc, gs, rfl, hg, ho, hb'⟩
    have hsz : N ≤ W.heap.size := by have := hb.size; omega
    exact ⟨oa, oc, _, gs, rfl, by rw [textsR_len]; exact hg1 gs hg, ⟨textsR_len 3 gs, hg⟩, ownsRow_lower ho hsz, hb.trans (hb'.mono hsz)⟩
  have hrec2 : Hid (∀ Bm Ba Bo W, BySt Bm Ba Bo B2 B n2 n1 b87 M2 M1 f.form (.slice fa f.form.args.length fc) W → Below N w W → Calls Tryz.prog 146 #[.int .i64 2, .func (.func 193) #[] #[.pointer (some ⟨Bm, 0, none⟩), .pointer (some ⟨Ba, 0, none⟩), .pointer (some ⟨Bo, 0, none⟩)]] W fun e w' => ∃ (oa : Option Addr) (oc ln : Nat) (gs : List Gd), e = .returned (.slice oa ln oc) ∧ ln ≤ 100 ∧ Hid (ln = gs.length ∧ beyP M2 M1 f.form gs) ∧ w'.ownsRow N 71 4 (.slice oa ln oc) ln ((textsR 2 gs).flatMap Rc.c) ∧ Below W.heap.size W w' ∧ Below N w w') := fun Bm Ba Bo W hst hb => by
    refine (beyond_recs B2 B n2 n1 b87 M2 M1 f.form _ 2 Bm Ba Bo W hst hfo hn2 hMs2).mono ?_
    rintro e w' ⟨oa, oc, gs, rfl, hg, ho, hb'⟩
    have hsz : N ≤ W.heap.size := by have := hb.size; omega
    exact ⟨oa, oc, _, gs, rfl, by rw [textsR_len]; exact hg2 gs hg, ⟨textsR_len 2 gs, hg⟩, ownsRow_lower ho hsz, hb', hb.trans (hb'.mono hsz)⟩
  have HM1 : Hid _ := hM1
  have HM2 : Hid _ := hM2
  have H1 : Hid _ := h1
  have H2 : Hid (SealT w b87 (.slice fa f.form.args.length fc) f.form.args) := h2
  have H3 : Hid _ := h3
  have H4 : Hid _ := h4
  clear hM1 hM2 h1 h2 h4 h3
  go_enter Tryz.func88, Tryz.ntmps88
  go_wp2_with fail
  refine (hbey.out B B2 n1 n2 M1 M2 HM1.out HM2.out w (Below.refl _ _)).mono ?_
  rintro e V1 ⟨Bm, Ba, Bo, rfl, hst1, _, hb1⟩
  go_wp2_with fail
  refine (hrec1.out Bm Ba Bo V1 hst1 hb1).mono ?_
  rintro e V2 ⟨ga, gc, gl, gs, rfl, hgl, hgs, hog, hb2⟩
  obtain ⟨k0, k1, k4⟩ := hcl.out V2 hb2
  go_wp2_with fail
  refine (hbey.out B2 B n2 n1 M2 M1 HM2.out HM1.out V2 hb2).mono ?_
  rintro e V3 ⟨Cm, Ca, Co, rfl, hst3, hb23, hb3⟩
  go_wp2_with fail
  refine (hrec2.out Cm Ca Co V3 hst3 hb3).mono ?_
  rintro e V4 ⟨ca, cc, cl, cs, rfl, hcl4, hcs, hoc, hb34, hb4⟩
  have hog4 := own_below (own_below hog hb23) hb34
  obtain ⟨k0', k1', k4'⟩ := hcl.out V4 hb4
  clear hst1 hst3 hbey hrec1 hrec2
  have hqn : N ≤ V4.heap.size := by have := hb4.size; omega
  have hq4 : V4.ownsRow 0 71 4 (.slice qa f.que.length qc) f.que.length (f.que.flatMap Rc.c) := own_keep H4.out (fun g hg hlt => hb4.block g (by omega))
  obtain ⟨tot, htot⟩ : ∃ tot, f.que.length + gl + cl + 1 = tot := ⟨_, rfl⟩
  have hmk : Hid (∀ W, Below V4.heap.size V4 W → Calls Tryz.prog 149 #[.int .i64 mark] W fun e w' => e = .returned (.agg #[.int .i64 4, .int .i64 0, .string ⟨#[]⟩, .int .i64 mark]) ∧ Below V4.heap.size V4 w' ∧ w'.cell? ⟨bf, 4, none⟩ = some (.slice qa f.que.length qc) ∧ ∀ O, (w'.alloc O).cell? ⟨bf, 4, none⟩ = some (.slice qa f.que.length qc)) := fun W hb => by
    refine (marker_any mark W).mono ?_
    rintro e w' ⟨rfl, hb'⟩
    have hbb := hb.trans (hb'.mono hb.size)
    exact ⟨rfl, hbb, cell_later hbb k4', fun O => cell_later (hbb.alloc hbb.size O) k4'⟩
  have hcon : Hid (∀ W, Below V4.heap.size V4 W → Calls Tryz.prog 148 #[.slice (some ⟨W.heap.size + 1, 0, none⟩) 4 4] ((W.alloc (.cells #[.int .i64 4, .int .i64 0, .string ⟨#[]⟩, .int .i64 mark] 71)).alloc (.cells #[.slice qa f.que.length qc, .slice ga gl gc, .slice ca cl cc, .slice (some ⟨W.heap.size, 0, none⟩) 1 1] 196)) fun e w' => ∃ oa oc, e = .returned (.slice oa tot oc) ∧ w'.ownsRow V4.heap.size 71 4 (.slice oa tot oc) tot (f.que.flatMap Rc.c ++ ((textsR 3 gs).flatMap Rc.c ++ ((textsR 2 cs).flatMap Rc.c ++ [.int .i64 4, .int .i64 0, .string ⟨#[]⟩, .int .i64 mark]))) ∧ Below V4.heap.size V4 w') := by
    intro W hb
    obtain ⟨W7, hW7⟩ : ∃ W7, (W.alloc (.cells #[.int .i64 4, .int .i64 0, .string ⟨#[]⟩, .int .i64 mark] 71)).alloc (.cells #[.slice qa f.que.length qc, .slice ga gl gc, .slice ca cl cc, .slice (some ⟨W.heap.size, 0, none⟩) 1 1] 196) = W7 := ⟨_, rfl⟩
    have hb7 : Below V4.heap.size V4 W7 := by rw [← hW7]; exact (hb.alloc hb.size _).alloc (by have := hb.size; simp; omega) _
    have hbox : W7.heap[W.heap.size + 1]? = some (Obj.cells #[.slice qa f.que.length qc, .slice ga gl gc, .slice ca cl cc, .slice (some ⟨W.heap.size, 0, none⟩) 1 1] 196 (0, 0)) := by
      rw [← hW7]
      have := World.alloc_heap_new (W.alloc (.cells #[.int .i64 4, .int .i64 0, .string ⟨#[]⟩, .int .i64 mark] 71)) (.cells #[.slice qa f.que.length qc, .slice ga gl gc, .slice ca cl cc, .slice (some ⟨W.heap.size, 0, none⟩) 1 1] 196)
      rw [World.size_alloc] at this; exact this
    have hmr : W7.heap[W.heap.size]? = some (Obj.cells #[.int .i64 4, .int .i64 0, .string ⟨#[]⟩, .int .i64 mark] 71 (0, 0)) := by
      rw [← hW7]; exact (Below.heap_alloc _ _ _ (by simp)).trans (World.alloc_heap_new W _)
    have hmo : W7.ownsRow 0 71 4 (.slice (some ⟨W.heap.size, 0, none⟩) 1 1) 1 [.int .i64 4, .int .i64 0, .string ⟨#[]⟩, .int .i64 mark] := ⟨rfl, .inr ⟨_, 1, _, rfl, Nat.zero_le _, hmr, Nat.le_refl _, by unfold maxLen; decide, rfl, rfl⟩⟩
    have hone1 := recs_one [⟨4, 0, ⟨#[]⟩, mark⟩]
    rw [hW7]
    have hc := concatR_any (W.heap.size + 1) [⟨.slice qa f.que.length qc, f.que.length, f.que.flatMap Rc.c⟩, ⟨.slice ga gl gc, gl, (textsR 3 gs).flatMap Rc.c⟩, ⟨.slice ca cl cc, cl, (textsR 2 cs).flatMap Rc.c⟩, ⟨.slice (some ⟨W.heap.size, 0, none⟩) 1 1, 1, [.int .i64 4, .int .i64 0, .string ⟨#[]⟩, .int .i64 mark]⟩] W7 hbox (by
        intro x hx
        simp only [List.mem_cons, List.not_mem_nil, or_false] at hx
        rcases hx with rfl | rfl | rfl | rfl
        · exact SrcAt.ofOwn (own_below hq4 hb7) (recs_one _)
        · exact SrcAt.ofOwn (own_below hog4 hb7) (recs_one _)
        · exact SrcAt.ofOwn (own_below hoc hb7) (recs_one _)
        · exact SrcAt.ofOwn hmo hone1) (by unfold slSum; simp; omega) (by simp)
    refine hc.mono ?_
    rintro e w' ⟨v, rfl, ho, hb'⟩
    have hsum : slSum [⟨.slice qa f.que.length qc, f.que.length, f.que.flatMap Rc.c⟩, ⟨.slice ga gl gc, gl, (textsR 3 gs).flatMap Rc.c⟩, ⟨.slice ca cl cc, cl, (textsR 2 cs).flatMap Rc.c⟩, ⟨.slice (some ⟨W.heap.size, 0, none⟩) 1 1, 1, [.int .i64 4, .int .i64 0, .string ⟨#[]⟩, .int .i64 mark]⟩] = tot := by unfold slSum; simp; omega
    rw [hsum] at ho
    obtain ⟨oa, oc, hof⟩ := owns_form ho
    subst hof
    refine ⟨oa, oc, rfl, ?_, hb7.trans (hb'.mono hb7.size)⟩
    have := ownsRow_lower ho hb7.size
    simpa using this
  go_wp2
  refine wp_mono (Q := fun e a' w' => match e with | Exit.normal => ∃ oa oc v33 v34 v35 v36 v37 v38 v39 v40 v41 v42 v43, a' = { tmps := #[.pointer (some ⟨bf, 0, none⟩), .map (some B), .map (some B2), .int .i64 mark, .int .i64 most, undef, undef, undef, undef, undef, .slice ga gl gc, .slice ca cl cc, .slice oa tot oc, .pointer (some ⟨bf, 0, none⟩), .pointer (some ⟨bf, 0, none⟩), .pointer (some ⟨bf, 2, none⟩), .bool false, .map (some B), .map (some B2), .pointer (some ⟨bf, 0, none⟩), .pointer (some ⟨bf, 0, none⟩), .pointer (some ⟨bf, 0, none⟩), .agg #[.string f.form.rel, .slice fa f.form.args.length fc], .func (.func 193) #[] #[.pointer (some ⟨Bm, 0, none⟩), .pointer (some ⟨Ba, 0, none⟩), .pointer (some ⟨Bo, 0, none⟩)], .slice ga gl gc, .map (some B2), .map (some B), .pointer (some ⟨bf, 0, none⟩), .pointer (some ⟨bf, 0, none⟩), .pointer (some ⟨bf, 0, none⟩), .agg #[.string f.form.rel, .slice fa f.form.args.length fc], .func (.func 193) #[] #[.pointer (some ⟨Cm, 0, none⟩), .pointer (some ⟨Ca, 0, none⟩), .pointer (some ⟨Co, 0, none⟩)], .slice ca cl cc, v33, v34, v35, v36, v37, v38, v39, v40, v41, v42, v43, undef, undef, undef, undef, undef, undef, undef, undef, undef, undef], defers := [] } ∧ w'.ownsRow V4.heap.size 71 4 (.slice oa tot oc) tot (f.que.flatMap Rc.c ++ ((textsR 3 gs).flatMap Rc.c ++ ((textsR 2 cs).flatMap Rc.c ++ [.int .i64 4, .int .i64 0, .string ⟨#[]⟩, .int .i64 mark]))) ∧ Below V4.heap.size V4 w' | _ => False) ?reg ?rest
  case reg =>
    have hb0 : Hid (Below V4.heap.size V4 V4.drew) := (Below.refl _ V4).drew
    first | (go_region_with (first | (go_at_call 149; refine (hmk.out _ hb0.out).mono ?_; rintro e V5 ⟨rfl, hb5, cq5, cq6⟩) | (go_at_call 148; refine (hcon.out V5 hb5).mono ?_; rintro e V6 ⟨oa, oc, rfl, ho6, hb6⟩))) | fail
    all_goals exact ⟨oa, oc, _, _, _, _, _, _, _, _, _, _, _, rfl, ho6, hb6⟩
  case rest =>
    rintro e a' V6 hq6
    cases e with
    | normal =>
      obtain ⟨oa, oc, v33, v34, v35, v36, v37, v38, v39, v40, v41, v42, v43, rfl, ho6, hb6⟩ := hq6
      have hb06 : Below N w V6 := hb4.trans (hb6.mono hqn)
      have h16 := (hb06.block bf (by omega)).trans H1.out
      have e2 : V6.cell? ⟨bf, 2, none⟩ = some (.bool false) := by simp [World.cell?, h16]
      have e3 : V6.cell? ⟨bf, 3, none⟩ = some (.slice sa f.snap.length sc) := by simp [World.cell?, h16]
      have e4 : V6.cell? ⟨bf, 4, none⟩ = some (.slice qa f.que.length qc) := by simp [World.cell?, h16]
      have y2 : V6.frozen? ⟨bf, 2, none⟩ = false := by simp [World.frozen?, h16]
      have y3 : V6.frozen? ⟨bf, 3, none⟩ = false := by simp [World.frozen?, h16]
      have y4 : V6.frozen? ⟨bf, 4, none⟩ = false := by simp [World.frozen?, h16]
      have hfb : Hid (Calls Tryz.prog 150 #[.pointer (some ⟨bf, 0, none⟩)] V6 fun e w' => e = .returned (.tuple #[]) ∧ w' = ((V6.setCell ⟨bf, 2, none⟩ (.bool true)).setCell ⟨bf, 3, none⟩ (.slice none 0 0)).setCell ⟨bf, 4, none⟩ (.slice none 0 0)) := fallBehind_any bf V6 _ _ _ _ h16 rfl rfl rfl
      have hsz1 : gl = gs.length := hgs.out.1
      have hsz2 : cl = cs.length := hcs.out.1
      have hlenT : ((f.que ++ textsR 3 gs ++ textsR 2 cs).length : Int) + 1 = (tot : Int) := by
        rw [List.length_append, List.length_append, textsR_len, textsR_len]
        omega
      have hc6 : Chg w V6 S := ⟨hb06.os, hb06.tape, hb06.output, by have := hb06.size; omega, fun k hk _ => hb06.block k (by omega)⟩
      have hS6 : ∀ W', (∀ k, k < V6.heap.size → k ≠ bf → W'.heap[k]? = V6.heap[k]?) → SealT W' b87 (.slice fa f.form.args.length fc) f.form.args := fun W' hk => (H2.out).kept (fun k c _ hc => by
        have hkl := (Array.getElem?_eq_some_iff.1 hc).1
        have hne : k ≠ bf := fun e => by rw [e, H1.out] at hc; cases hc
        have hb06s := hb06.size
        exact (hk k (by omega) hne).trans ((hb06.block k (by omega)).trans hc))
      have hbS : S bf := h7
      have hfin1 : Hid (most < (tot : Int) → MovePost S bf b87 f M1 M2 mark most w (((V6.setCell ⟨bf, 2, none⟩ (.bool true)).setCell ⟨bf, 3, none⟩ (.slice none 0 0)).setCell ⟨bf, 4, none⟩ (.slice none 0 0))) := by
        intro hm
        have k1 := heap_set (heap_set (heap_set h16 2 (.bool true)) 3 (.slice none 0 0)) 4 (.slice none 0 0)
        refine ⟨gs, cs, { f with behind := true, snap := [], que := [] }, hgs.out.2, hcs.out.2, ⟨.slice fa f.form.args.length fc, .slice none 0 0, .slice none 0 0, k1, hS6 _ (fun k hk hne => ?_), ⟨rfl, .inl ⟨rfl, rfl⟩⟩, ⟨rfl, .inl ⟨rfl, rfl⟩⟩, fun g hg => (by cases hg), fun g hg => (by cases hg), .inl hbS⟩, ((hc6.setCell ⟨bf, 2, none⟩ _ (fun _ => hbS)).setCell ⟨bf, 3, none⟩ _ (fun _ => hbS)).setCell ⟨bf, 4, none⟩ _ (fun _ => hbS), .inl ⟨by rw [hlenT]; exact hm, rfl⟩⟩
        exact (Below.heap_setCell _ _ _ _ (by show k ≠ bf; exact hne)).trans ((Below.heap_setCell _ _ _ _ (by show k ≠ bf; exact hne)).trans (Below.heap_setCell _ _ _ _ (by show k ≠ bf; exact hne)))
      have hfin2 : Hid (¬ most < (tot : Int) → MovePost S bf b87 f M1 M2 mark most w (V6.setCell ⟨bf, 4, none⟩ (.slice oa tot oc))) := by
        intro hm
        have k1 := heap_set h16 4 (.slice oa tot oc)
        have hoth : ∀ k, k < V6.heap.size → k ≠ bf → (V6.setCell ⟨bf, 4, none⟩ (.slice oa tot oc)).heap[k]? = V6.heap[k]? := fun k hk hne => Below.heap_setCell _ _ _ _ (by show k ≠ bf; exact hne)
        have hN6 : N ≤ V6.heap.size := by have := hb06.size; omega
        have hflat : (f.que ++ textsR 3 gs ++ textsR 2 cs ++ [(⟨4, 0, ⟨#[]⟩, mark⟩ : Rc)]).flatMap Rc.c = f.que.flatMap Rc.c ++ ((textsR 3 gs).flatMap Rc.c ++ ((textsR 2 cs).flatMap Rc.c ++ [.int .i64 4, .int .i64 0, .string ⟨#[]⟩, .int .i64 mark])) := by
          rw [List.flatMap_append, List.flatMap_append, List.flatMap_append, List.append_assoc, List.append_assoc]; rfl
        have hlen2 : (f.que ++ textsR 3 gs ++ textsR 2 cs ++ [(⟨4, 0, ⟨#[]⟩, mark⟩ : Rc)]).length = tot := by
          have := hlenT
          simp only [List.length_append, List.length_cons, List.length_nil] at this ⊢
          omega
        refine ⟨gs, cs, { f with que := f.que ++ textsR 3 gs ++ textsR 2 cs ++ [⟨4, 0, ⟨#[]⟩, mark⟩] }, hgs.out.2, hcs.out.2, ⟨.slice fa f.form.args.length fc, .slice sa f.snap.length sc, .slice oa tot oc, ?_, hS6 _ hoth, ?_, ?_, fun g hg => ⟨.inl (h5 g hg).1, fun e => ?_⟩, fun g hg => .inr ?_, .inl hbS⟩, hc6.setCell ⟨bf, 4, none⟩ _ (fun _ => hbS), .inr ⟨by rw [hlenT]; omega, rfl⟩⟩
        · show (V6.setCell ⟨bf, 4, none⟩ (.slice oa tot oc)).heap[bf]? = some (Obj.cells #[.string f.form.rel, .slice fa f.form.args.length fc, .bool f.behind, .slice sa f.snap.length sc, .slice oa tot oc, .int .i64 f.told] 198 (0, 0))
          rw [hb]; exact k1
        · refine own_keep H3.out (fun g hg hlt => ?_)
          exact (hoth g (by omega) (owns_ne H3.out H1.out (by decide) g hg)).trans (hb06.block g (by omega))
        · show World.ownsRow _ 0 _ 4 _ (f.que ++ textsR 3 gs ++ textsR 2 cs ++ [(⟨4, 0, ⟨#[]⟩, mark⟩ : Rc)]).length ((f.que ++ textsR 3 gs ++ textsR 2 cs ++ [(⟨4, 0, ⟨#[]⟩, mark⟩ : Rc)]).flatMap Rc.c)
          rw [hlen2, hflat]
          refine own_keep (ownsRow_lower ho6 (Nat.zero_le _)) (fun g hg hlt => hoth g hlt (fun e => ?_))
          have := (owns_block ho6 hg).1
          omega
        · have h1' := (owns_block ho6 e).1
          have h2' := hS g (h5 g hg).1
          omega
        · have := (owns_block ho6 hg).1
          omega
      clear hlenT hc6 hS6 hsz1 hsz2 hgs hcs h5 h6
      by_cases hmost : most < (tot : Int)
      · have HP := hfin1.out hmost
        have HPD : Hid _ := HP
        clear HP
        go_wp2_with fail
        refine (hfb.out).mono ?_
        rintro e W9 ⟨rfl, rfl⟩
        go_wp2
        refine bodyPost_ret (results_none rfl _ _ _) rfl ?_
        exact ⟨rfl, HPD.out⟩
      · have HP := hfin2.out hmost
        have HPD : Hid _ := HP
        clear HP
        go_wp2
        go_end0
        exact ⟨rfl, HPD.out⟩
    | _ => exact False.elim hq6

end Go.Proofs.YtjajnhemgphefaaGreatDoor

namespace Go.Proofs.YtjajnhemgphefaaGreatDoor
open Go.RowKit Go.Shelf
set_option linter.unusedVariables false
set_option linter.unusedSimpArgs false

theorem eqThing (n : Nat) (b c e f : ByteArray) (w : World) : (Op.equalIn (n + 2) 109 (.agg #[.string b, .string c]) (.agg #[.string e, .string f])).run Tryz.prog w = .ok ((b.toList == e.toList) && (c.toList == f.toList)) w := by
  have u3 := Tryz.underlying9
  have a3 := Tryz.isAgg9
  have z3 := Tryz.sizeOf9
  have hU2 : Tryz.prog.underlying 109 = some (.array 2 9) := by kernel_rfl
  obtain ⟨i0, hi⟩ : ∃ i0, Tryz.prog.info? 9 = some i0 := by
    obtain ⟨i0, hi, _⟩ := info_parts Tryz.info9
    exact ⟨i0, hi⟩
  have hc : Tryz.prog.cellsOf 9 = 1 := by kernel_rfl
  rw [run_equalIn_array w (n + 1) _ _ hU2 hi, hc, show List.range 2 = [0, 1] from rfl]
  simp only [Op.eqItems]
  go_simp
  by_cases h1 : b.toList = e.toList <;> by_cases h2 : c.toList = f.toList <;> simp [h1, h2]

theorem eqGround (n : Nat) (a b c d e f : ByteArray) (w : World) : (Op.equalIn (n + 3) 111 (.agg #[.string a, .string b, .string c]) (.agg #[.string d, .string e, .string f])).run Tryz.prog w = .ok ((a.toList == d.toList) && ((b.toList == e.toList) && (c.toList == f.toList))) w := by
  have u3 := Tryz.underlying9
  have a3 := Tryz.isAgg9
  have z3 := Tryz.sizeOf9
  have aT := Tryz.isAgg109
  have zT := Tryz.sizeOf109
  have hS1 : Tryz.prog.underlying 111 = some (.struct (Tryz.prog.fieldsOf 111)) := by kernel_rfl
  have hp1 : Tryz.prog.stoodInHeld 111 = false := by kernel_rfl
  have ht := eqThing n b c e f
  rw [run_equalIn_agg w (n + 2) 111 _ _ hS1 hp1]
  simp only [Program.fieldsOf, Tryz.underlying111]
  go_simp
  by_cases h1 : a.toList = d.toList <;> by_cases h2 : b.toList = e.toList <;> by_cases h3 : c.toList = f.toList <;> simp [h1, h2, h3]

theorem eqDated (a b c d e f : ByteArray) (s t : Int) (w : World) : (binOp .eql 161 (.agg #[.string a, .string b, .string c, .int .i64 s]) (.agg #[.string d, .string e, .string f, .int .i64 t])).run Tryz.prog w = .ok (.bool (((a.toList == d.toList) && ((b.toList == e.toList) && (c.toList == f.toList))) && (s == t))) w := by
  have u4 := Tryz.underlying3
  have a4 := Tryz.isAgg3
  have z4 := Tryz.sizeOf3
  have hS : Tryz.prog.underlying 161 = some (.struct (Tryz.prog.fieldsOf 161)) := by kernel_rfl
  have hp : Tryz.prog.stoodInHeld 161 = false := by kernel_rfl
  have aG := Tryz.isAgg111
  have zG := Tryz.sizeOf111
  obtain ⟨n, hn⟩ : ∃ n, 10000 = n + 4 := ⟨9996, rfl⟩
  have hg := eqGround n a b c d e f
  rw [run_eql_struct, hn, run_equalIn_agg w (n + 3) 161 _ _ hS hp]
  simp only [Program.fieldsOf, Tryz.underlying161]
  clear hn
  go_simp
  by_cases h1 : a.toList = d.toList <;> by_cases h2 : b.toList = e.toList <;> by_cases h3 : c.toList = f.toList <;> by_cases h4 : s = t <;> simp [h1, h2, h3, h4]

/-- Two facts with their times are one. -/
def sameD (x y : Gd × Int) : Bool := ((x.1.rel.toList == y.1.rel.toList) && ((x.1.x.toList == y.1.x.toList) && (x.1.y.toList == y.1.y.toList))) && (x.2 == y.2)
def hasD (l : List (Gd × Int)) (x : Gd × Int) : Bool := l.any (sameD x)

theorem date_cell {W : World} {b : Nat} {v : Value} {l : List (Gd × Int)} (h : W.ownsRow b 161 4 v l.length (l.flatMap lastC)) {k : Nat} (hk : k < l.length) :
    ∃ (g c : Nat), v = .slice (some ⟨g, 0, none⟩) l.length c ∧ W.cell? ⟨g, k * 4, none⟩ = some (.string (l[k]).1.rel) ∧ W.cell? ⟨g, k * 4 + 1, none⟩ = some (.string (l[k]).1.x) ∧ W.cell? ⟨g, k * 4 + 2, none⟩ = some (.string (l[k]).1.y) ∧ W.cell? ⟨g, k * 4 + 3, none⟩ = some (.int .i64 (l[k]).2) ∧ g < W.heap.size := by
  obtain ⟨g, cap, hv, h1, h2, h3, hc⟩ := own_get h (fun _ => rfl) (by omega)
  exact ⟨g, cap, hv, hc k 0 hk _ (by decide) rfl, hc k 1 hk _ (by decide) rfl, hc k 2 hk _ (by decide) rfl, hc k 3 hk _ (by decide) rfl, h2⟩

set_option maxHeartbeats 1000000 in
theorem indexD_any (v : Value) (l : List (Gd × Int)) (b : Nat) (x : Gd × Int) (w : World) (hS : w.ownsRow b 161 4 v l.length (l.flatMap lastC)) (hl : l.length ≤ 1000) :
    Calls Tryz.prog 143 #[v, .agg #[.string x.1.rel, .string x.1.x, .string x.1.y, .int .i64 x.2]] w fun e w' => ∃ r : Int, e = .returned (.int .i64 r) ∧ decide (0 ≤ r) = hasD l x ∧ Below w.heap.size w w' := by
  obtain ⟨a, c, hform⟩ := owns_form hS
  have hcell : ∀ k (hk : k < l.length), ∃ g, a = some ⟨g, 0, none⟩ ∧ w.cell? ⟨g, k * 4, none⟩ = some (.string (l[k]).1.rel) ∧ w.cell? ⟨g, k * 4 + 1, none⟩ = some (.string (l[k]).1.x) ∧ w.cell? ⟨g, k * 4 + 2, none⟩ = some (.string (l[k]).1.y) ∧ w.cell? ⟨g, k * 4 + 3, none⟩ = some (.int .i64 (l[k]).2) ∧ g < w.heap.size := by
    intro k hk
    obtain ⟨g, c', h1, h2⟩ := date_cell hS hk
    rw [hform] at h1; cases h1
    exact ⟨g, rfl, h2⟩
  subst hform
  have HC : Hid _ := hcell
  clear hcell hS
  go_enter Tryz.func143, Tryz.ntmps143
  go_wp2
  go_loopw [8] (fun i wr => ∃ k q : Nat, k ≤ l.length ∧ i = .int .i64 k ∧ Hid (∀ j, (hj : j < l.length) → j < k → sameD x l[j] = false) ∧ wr = (w.alloc (.cells #[.string x.1.rel, .string x.1.x, .string x.1.y, .int .i64 x.2] 161)).drewN q) (fun i _ => l.length - (intOf i).toNat)
  case atStart => exact ⟨0, 0, Nat.zero_le _, rfl, fun j _ hj => by omega, rfl⟩
  case round =>
    obtain ⟨k, q, hk, rfl, hno, rfl⟩ := hrel
    by_cases hlt : k < l.length
    · obtain ⟨g, rfl, q0, q1, q2, q3, hg⟩ := HC.out k hlt
      have hne : g ≠ w.heap.size := by omega
      have he := fun W => eqDated x.1.rel x.1.x x.1.y (l[k]).1.rel (l[k]).1.x (l[k]).1.y x.2 (l[k]).2 W
      have i1 : (k : Int) < (l.length : Int) := by omega
      have i2 : (0 : Int) ≤ (k : Int) := by omega
      have hsame : Hid (sameD x l[k] = (((x.1.rel.toList == (l[k]).1.rel.toList) && ((x.1.x.toList == (l[k]).1.x.toList) && (x.1.y.toList == (l[k]).1.y.toList))) && (x.2 == (l[k]).2))) := rfl
      generalize htk : l[k] = tk at *
      have HTK : Hid (l[k] = tk) := htk
      clear htk
      generalize hb : (((x.1.rel.toList == tk.1.rel.toList) && ((x.1.x.toList == tk.1.x.toList) && (x.1.y.toList == tk.1.y.toList))) && (x.2 == tk.2)) = bb at *
      have HBB : Hid ((((x.1.rel.toList == tk.1.rel.toList) && ((x.1.x.toList == tk.1.x.toList) && (x.1.y.toList == tk.1.y.toList))) && (x.2 == tk.2)) = bb) := hb
      clear hb
      cases bb with
      | true =>
        go_wp2
        go_quiet (fail)
        go_wp2
        go_ret
        refine ⟨k, rfl, ?_, ?_⟩
        · have h1 : hasD l x = true := by
            unfold hasD
            rw [List.any_eq_true]
            exact ⟨l[k], List.getElem_mem hlt, by rw [HTK.out, hsame.out]⟩
          rw [h1]; simp
        · exact ⟨rfl, rfl, rfl, by show _ ≤ (w.alloc _).heap.size; simp, fun j hj => Below.heap_alloc _ _ j hj⟩
      | false =>
        go_wp2
        go_quiet (fail)
        go_wp2
        go_roundw
        case rel =>
          refine ⟨k + 1, q + nq, by omega, by go_num, ?_, rfl⟩
          intro j hj hjk
          by_cases e : j = k
          · subst e; rw [HTK.out]; exact hsame.out
          · exact hno.out j hj (by omega)
        case measure => simp [intOf]; omega
    · go_wp2
      go_ret
      refine ⟨-1, rfl, ?_, ?_⟩
      · unfold hasD; rw [any_upto _ _ (fun j hj => hno.out j hj (by omega))]; rfl
      · exact ⟨rfl, rfl, rfl, by show _ ≤ (w.alloc _).heap.size; simp, fun j hj => Below.heap_alloc _ _ j hj⟩

set_option maxHeartbeats 1000000 in
theorem containsD_any (v : Value) (l : List (Gd × Int)) (b : Nat) (x : Gd × Int) (w : World) (hS : w.ownsRow b 161 4 v l.length (l.flatMap lastC)) (hl : l.length ≤ 1000) :
    Calls Tryz.prog 82 #[v, .agg #[.string x.1.rel, .string x.1.x, .string x.1.y, .int .i64 x.2]] w fun e w' => e = .returned (.bool (hasD l x)) ∧ Below w.heap.size w w' := by
  have hb0 : ∀ O, Below w.heap.size w (w.alloc O) := fun O => (Below.refl _ w).alloc (Nat.le_refl _) _
  have hI : Hid (∀ W, Below w.heap.size w W → Calls Tryz.prog 143 #[v, .agg #[.string x.1.rel, .string x.1.x, .string x.1.y, .int .i64 x.2]] W fun e w' => ∃ i : Int, e = .returned (.int .i64 i) ∧ decide (0 ≤ i) = hasD l x ∧ Below W.heap.size W w') := fun W hb => indexD_any v l b x W (own_below hS hb) hl
  obtain ⟨xa, xc, rfl⟩ := owns_form hS
  clear hS
  go_enter Tryz.func82, Tryz.ntmps82
  go_wp2_with fail
  refine (hI.out _ (by first | exact hb0 _ | exact Below.refl _ _)).mono ?_
  rintro e w1 ⟨i, rfl, hr, hb1⟩
  have HR : Hid _ := hr
  clear hr
  go_wp2
  go_ret
  exact ⟨ret_bool (by rw [← HR.out]), by first | exact hb1 | exact (hb0 _).trans (hb1.mono (by simp))⟩

end Go.Proofs.YtjajnhemgphefaaGreatDoor

namespace Go.Proofs.YtjajnhemgphefaaGreatDoor
open Go.RowKit Go.Shelf Go.Maps
set_option linter.unusedVariables false
set_option linter.unusedSimpArgs false

theorem isWithin_any (n l m : Int) (w : World) : Calls Tryz.prog 43 #[.int .i64 n, .int .i64 l, .int .i64 m] w fun e w' => e = .returned (.bool (decide (l ≤ n) && decide (n ≤ m))) ∧ w' = w := by
  by_cases h1 : l ≤ n
  · go_enter Tryz.func43, Tryz.ntmps43
    go_wp2
    go_ret
    exact ⟨ret_bool (by simp [h1]), rfl⟩
  · go_enter Tryz.func43, Tryz.ntmps43
    go_wp2
    go_ret
    exact ⟨ret_bool (by simp; intro h; omega), rfl⟩

theorem wrap_small (x : Int) (h0 : -4611686018427387904 ≤ x) (h1 : x ≤ 4611686018427387904) : IntKind.i64.wrap x = x := by
  simp [IntKind.wrap, IntKind.bits, IntKind.signed]
  omega

set_option maxRecDepth 100000 in
theorem eend_any (be : Nat) (t win : Int) (w : World) (hc : w.cell? ⟨be, 1, none⟩ = some (.int .i64 win)) (h0 : 0 ≤ t ∧ t ≤ 1000000) (h1 : 0 ≤ win ∧ win ≤ 1000) :
    Calls Tryz.prog 87 #[.pointer (some ⟨be, 0, none⟩), .int .i64 t] w fun e w' => e = .returned (.int .i64 (t + win)) ∧ w' = w := by
  have hw : IntKind.i64.wrap (t + win) = t + win := wrap_small _ (by omega) (by omega)
  go_enter Tryz.func87, Tryz.ntmps87
  go_wp2
  go_ret
  exact ⟨rfl, rfl⟩

def overB (win mark : Int) (t : Int) : Bool := decide (t + win ≤ mark)

set_option maxRecDepth 100000 in
theorem isOver_any (be : Nat) (t win mark : Int) (w : World) (hc : w.cell? ⟨be, 1, none⟩ = some (.int .i64 win)) (hm : w.cell? ⟨be, 4, none⟩ = some (.int .i64 mark)) (h0 : 0 ≤ t ∧ t ≤ 1000000) (h1 : 0 ≤ win ∧ win ≤ 1000) :
    Calls Tryz.prog 81 #[.pointer (some ⟨be, 0, none⟩), .int .i64 t] w fun e w' => e = .returned (.bool (overB win mark t)) ∧ w' = w.drew := by
  have HE : Hid (Calls Tryz.prog 87 #[.pointer (some ⟨be, 0, none⟩), .int .i64 t] w.drew fun e w' => e = .returned (.int .i64 (t + win)) ∧ w' = w.drew) := eend_any be t win w.drew hc h0 h1
  have hm' : w.drew.cell? ⟨be, 4, none⟩ = some (.int .i64 mark) := hm
  go_enter Tryz.func81, Tryz.ntmps81
  go_wp2_with fail
  refine wp_mono (Q := fun e a' w' => match e with | Exit.normal => a' = { tmps := #[.pointer (some ⟨be, 0, none⟩), .int .i64 t, undef, undef, .bool (decide (t + win ≤ mark)), .pointer (some ⟨be, 0, none⟩), .int .i64 t, .int .i64 (t + win), .pointer (some ⟨be, 0, none⟩), .pointer (some ⟨be, 0, none⟩), .pointer (some ⟨be, 4, none⟩), .int .i64 mark, .bool (decide (t + win ≤ mark))], defers := [] } ∧ w' = w.drew | _ => False) ?reg ?rest
  case reg =>
    first | (go_region_with (go_at_call 87; refine Calls.mono HE.out ?_; rintro e w' ⟨rfl, hw'⟩; obtain rfl : w.drew = w' := hw'.symm)) | fail
    all_goals exact ⟨rfl, rfl⟩
  case rest =>
    rintro (_ | _ | _ | _ | _ | _) a' w' hq
    all_goals first | exact hq.elim | skip
    obtain ⟨rfl, rfl⟩ := hq
    go_wp2
    go_ret
    exact ⟨rfl, rfl⟩

set_option maxRecDepth 100000 in
theorem move1_any (be Bx : Nat) (d : Gd × Int) (win mark : Int) (w : World) (hx : w.cell? ⟨Bx, 0, none⟩ = some (.pointer (some ⟨be, 0, none⟩))) (hxl : Bx < w.heap.size) (hbl : be < w.heap.size) (hc : w.cell? ⟨be, 1, none⟩ = some (.int .i64 win)) (hm : w.cell? ⟨be, 4, none⟩ = some (.int .i64 mark)) (h0 : 0 ≤ d.2 ∧ d.2 ≤ 1000000) (h1 : 0 ≤ win ∧ win ≤ 1000) :
    Calls Tryz.prog 86 #[.agg #[.string d.1.rel, .string d.1.x, .string d.1.y, .int .i64 d.2], .pointer (some ⟨Bx, 0, none⟩)] w fun e w' => e = .returned (.bool (overB win mark d.2)) ∧ Below w.heap.size w w' := by
  have he : ∀ O, Calls Tryz.prog 81 #[.pointer (some ⟨be, 0, none⟩), .int .i64 d.2] (w.alloc O) fun e w' => e = .returned (.bool (overB win mark d.2)) ∧ w' = (w.alloc O).drew := fun O => isOver_any be d.2 win mark _ ((Below.cell ((Below.refl _ w).alloc (Nat.le_refl _) O) (p := ⟨be, 1, none⟩) hbl).trans hc) ((Below.cell ((Below.refl _ w).alloc (Nat.le_refl _) O) (p := ⟨be, 4, none⟩) hbl).trans hm) h0 h1
  have HE : Hid _ := he
  have hne : Bx ≠ w.heap.size := by omega
  clear he
  go_enter Tryz.func86, Tryz.ntmps86
  go_wp2_with (go_at_call 81; refine (HE.out _).mono ?_; rintro e w' ⟨rfl, rfl⟩)
  go_ret
  exact ⟨rfl, ((Below.refl _ w).alloc (Nat.le_refl _) _).drew⟩

end Go.Proofs.YtjajnhemgphefaaGreatDoor
