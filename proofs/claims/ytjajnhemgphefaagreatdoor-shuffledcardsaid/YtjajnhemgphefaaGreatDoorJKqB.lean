/-
  The statement Shuffled: its walk.
  A slice of edges that is handed in, and the two tables of unicode/utf8: for the cards.
  Proved: for every list of edges and every number handed to it, the statement's function Shuffled answers true, and what was handed in reads as before.
  Conditions: package unicode/utf8's two tables hold what the program's text lays (the card ties them).
-/
import Derived.Test.YtjajnhemgphefaaGreatDoorJKpZ
import Derived.Deep.RegionHeld3
import Derived.Test.YtjajnhemgphefaaGreatDoorCards
import Derived.Test.YtjajnhemgphefaaGreatDoorTie
import Derived.ProofKit
import Derived.OpenShut
import Derived.Carry
import Derived.Deep.DeepHandedRow
import Derived.Lib.LaidU8T
import Derived.SevenTiedAt
import Derived.Deep.Slices
namespace Go.Proofs.YtjajnhemgphefaaGreatDoor
open Go.RowKit Go.Shelf Go.Maps
set_option linter.unusedVariables false
set_option linter.unusedSimpArgs false

theorem new_she {M : Gd → Option Int} (hM : LeastM rsP (givenL rsP) M) : ShE [] (newE rsP 20 3 5 M) := by
  rw [p_given] at hM
  refine ⟨⟨rfl, rfl, rfl, by show PtsOk (namesR [] rsP); rw [p_names]; exact pts_nil, fun d hd => (by cases hd)⟩, rfl, rfl, none_model hM, fun d => Iff.rfl, Nat.le_refl _⟩
/-- One engine is brought an edge. -/
theorem shx_ins {w W : World} {bx by' : Nat} {z : Int × Int × Int} {ex ey : Eg} {F : List (Gd × Int)} (h : K2 w bx by' ex ey W) (hx : ShE F ex) (hF : F.length < 24) (hT : Lib.Utf8Tabs 0 1 w) :
    Calls Tryz.prog 20 #[.pointer (some ⟨bx, 0, none⟩), .string (ofB bEd (p6 z.1) (p6 z.2.1)), .int .i64 (p30 z.2.2 : Int)] W fun en W' => ∃ r ex', en = .returned (.int .i64 r) ∧ K2 w bx by' ex' ey W' ∧ ShE (F ++ [edF z]) ex' ∧ EdK W W' := by
  have h30 := p30_lt z.2.2
  refine (k2insert h hT (ofB bEd (p6 z.1) (p6 z.2.1)) (p30 z.2.2) (by show (4 + 5 : Nat) ≤ _; decide) (fun c hc => by rw [atom_e (p6_lt _) (p6_lt _)] at hc; cases hc; exact ⟨am_ok _ (by decide) _ _, am_nums _ _ _⟩)).mono ?_
  rintro en W' ⟨k1, k2, k3⟩
  exact ⟨_, _, k1, k2, sh_ins hx hF (p6_lt _) (p6_lt _) (by omega), k3⟩
/-- An edge that is there already is told so. -/
theorem shx_twice {w W : World} {bx by' : Nat} {z : Int × Int × Int} {ex ey : Eg} {F : List (Gd × Int)} (h : K2 w bx by' ex ey W) (hx : ShE F ex) (hz : edF z ∈ F) (hT : Lib.Utf8Tabs 0 1 w) :
    Calls Tryz.prog 20 #[.pointer (some ⟨bx, 0, none⟩), .string (ofB bEd (p6 z.1) (p6 z.2.1)), .int .i64 (p30 z.2.2 : Int)] W fun en W' => en = .returned (.int .i64 9) ∧ K2 w bx by' ex ey W' ∧ EdK W W' := by
  have h30 := p30_lt z.2.2
  have ht := pe_twice p_der p_arE hx.pe (p6_lt z.1) (p6_lt z.2.1) (t := (p30 z.2.2 : Int)) (by omega) (by rw [hx.mark]; omega) ((hx.kept _).2 hz)
  refine (k2insert h hT (ofB bEd (p6 z.1) (p6 z.2.1)) (p30 z.2.2) (by show (4 + 5 : Nat) ≤ _; decide) (fun c hc => by rw [atom_e (p6_lt _) (p6_lt _)] at hc; cases hc; exact ⟨am_ok _ (by decide) _ _, am_nums _ _ _⟩)).mono ?_
  rintro en W' ⟨k1, k2, k3⟩
  rw [ht] at k1 k2
  exact ⟨k1, k2, k3⟩

theorem K2.later {w W W' : World} {bx by' : Nat} {ex ey : Eg} (h : K2 w bx by' ex ey W) (hb : Below W.heap.size W W') : K2 w bx by' ex ey W' := by
  obtain ⟨⟨Sx, Sy, h1, h2, h3, h4, h5⟩, h6, h7, h8⟩ := h
  exact ⟨⟨Sx, Sy, h1.below hb, h2.below hb, h3, h4, h5⟩, h6.trans (hb.mono h6.size), h7, h8⟩
/-- Both engines ahead of their Ticks: what each was brought. -/
def ShP (w : World) (bx by' : Nat) (F G : List (Gd × Int)) (W : World) : Prop := ∃ ex ey, K2 w bx by' ex ey W ∧ ShE F ex ∧ ShE G ey
theorem ShP.swap {w W : World} {bx by' : Nat} {F G : List (Gd × Int)} (h : ShP w bx by' F G W) : ShP w by' bx G F W := by
  obtain ⟨ex, ey, h1, h2, h3⟩ := h
  exact ⟨ey, ex, h1.swap, h3, h2⟩
theorem ShP.later {w W W' : World} {bx by' : Nat} {F G : List (Gd × Int)} (h : ShP w bx by' F G W) (hb : Below W.heap.size W W') : ShP w bx by' F G W' := by
  obtain ⟨ex, ey, h1, h2, h3⟩ := h
  exact ⟨ex, ey, h1.later hb, h2, h3⟩
/-- A box of one edge. -/
def EdB (W : World) (b : Nat) (z : Int × Int × Int) : Prop := W.cell? ⟨b, 0, none⟩ = some (.int .i64 z.1) ∧ W.cell? ⟨b, 1, none⟩ = some (.int .i64 z.2.1) ∧ W.cell? ⟨b, 2, none⟩ = some (.int .i64 z.2.2)
def EdO (W : World) (b : Nat) (z : Int × Int × Int) : Prop := W.heap[b]? = some (Obj.cells #[.int .i64 z.1, .int .i64 z.2.1, .int .i64 z.2.2] 46 (0, 0))
theorem EdO.box {W : World} {b : Nat} {z : Int × Int × Int} (h : EdO W b z) : EdB W b z := by
  unfold EdO at h
  refine ⟨?_, ?_, ?_⟩ <;> simp [World.cell?, h]
theorem p_ins {w W : World} {bx by' : Nat} {z : Int × Int × Int} {F G : List (Gd × Int)} (h : ShP w bx by' F G W) (hF : F.length < 24) (hT : Lib.Utf8Tabs 0 1 w) :
    Calls Tryz.prog 20 #[.pointer (some ⟨bx, 0, none⟩), .string (ofB bEd (p6 z.1) (p6 z.2.1)), .int .i64 (pickZ z.2.2 30)] W fun en W' => ∃ r, en = .returned (.int .i64 r) ∧ ShP w bx by' (F ++ [edF z]) G W' ∧ EdK W W' := by
  obtain ⟨ex, ey, h1, h2, h3⟩ := h
  have e30 : pickZ z.2.2 30 = (p30 z.2.2 : Int) := by unfold p30; rw [Int.toNat_of_nonneg (pickZ_bounds _ _ (by decide)).1]
  rw [e30]
  refine (shx_ins (z := z) h1 h2 hF hT).mono ?_
  rintro en W' ⟨r, ex', k1, k2, k3, k4⟩
  exact ⟨r, k1, ⟨ex', ey, k2, k3, h3⟩, k4⟩
theorem p_twice {w W : World} {bx by' : Nat} {z : Int × Int × Int} {F G : List (Gd × Int)} (h : ShP w bx by' F G W) (hz : edF z ∈ F) (hT : Lib.Utf8Tabs 0 1 w) :
    Calls Tryz.prog 20 #[.pointer (some ⟨bx, 0, none⟩), .string (ofB bEd (p6 z.1) (p6 z.2.1)), .int .i64 (pickZ z.2.2 30)] W fun en W' => en = .returned (.int .i64 9) ∧ ShP w bx by' F G W' ∧ EdK W W' := by
  obtain ⟨ex, ey, h1, h2, h3⟩ := h
  have e30 : pickZ z.2.2 30 = (p30 z.2.2 : Int) := by unfold p30; rw [Int.toNat_of_nonneg (pickZ_bounds _ _ (by decide)).1]
  rw [e30]
  refine (shx_twice (z := z) h1 h2 hz hT).mono ?_
  rintro en W' ⟨k1, k2, k3⟩
  exact ⟨k1, ⟨ex, ey, k2, h2, h3⟩, k3⟩
theorem pick_z (z : Int) (w : World) (n : Int) (hz : IntOk z) (hn : n = 6 ∨ n = 30) : Calls Tryz.prog 19 #[.int .i64 z, .int .i64 n] w fun e w' => e = .returned (.int .i64 (pickZ z n)) ∧ w = w' := by
  refine (kpick_any z n w hz.1 hz.2 (by omega) (by omega)).mono ?_
  rintro e w' ⟨h1, h2⟩
  exact ⟨h1, h2.symm⟩
theorem of_z (z z' : Int) (w : World) : Calls Tryz.prog 21 #[.string bEd, .int .i64 (pickZ z 6), .int .i64 (pickZ z' 6)] w fun e w' => e = .returned (.string (ofB bEd (p6 z) (p6 z'))) ∧ w = w' := by
  have e1 : ∀ z, pickZ z 6 = (p6 z : Int) := fun z => by unfold p6; rw [Int.toNat_of_nonneg (pickZ_bounds _ _ (by decide)).1]
  rw [e1, e1]
  refine (kof_any bEd _ _ (by decide) (p6_lt _) (p6_lt _) w).mono ?_
  rintro e w' ⟨h1, h2⟩
  exact ⟨h1, h2.symm⟩

set_option maxRecDepth 100000 in
set_option maxHeartbeats 8000000 in
theorem shuffled_any (a0 : Option Addr) (cap : Nat) (l : List (Int × Int × Int)) (ck : Int) (w : World) (hl : EdAt w a0 l) (hll : l.length ≤ maxLen) (hz : ∀ x ∈ l, IntOk x.1 ∧ IntOk x.2.1 ∧ IntOk x.2.2) (hck : IntOk ck) (hT : Lib.Utf8Tabs 0 1 w) :
    Calls Tryz.prog 10 #[.slice a0 l.length cap, .int .i64 ck] w fun e w' => e = .returned (.bool true) ∧ Below w.heap.size w w' := by
  have hbg : Hid (∀ W, Below w.heap.size w W → Calls Tryz.prog 17 #[.string txtP, .int .i64 5] W fun e w' => ∃ be M, e = .returned (.pointer (some ⟨be, 0, none⟩)) ∧ Hid (LeastM rsP (givenL rsP) M ∧ KSt W be [] (newE rsP 20 3 5 M) w')) := fun W hb => (begun_any txtP _ 5 W p_new (by decide) (Utf8Tabs_below hT hb) ⟨by decide, by decide⟩).mono (by rintro e w' ⟨be, M, h1, h2, h3⟩; exact ⟨be, M, h1, h2, h3⟩)
  have HT : Hid _ := hT
  have HL : Hid (EdAt w a0 l) := hl
  have HZ : Hid _ := hz
  have HC : Hid (IntOk ck) := hck
  have hlm : (l.length : Int) ≤ 9223372036854775807 := by unfold maxLen at hll; omega
  clear hT hl hz hck
  go_enter Tryz.func10, Tryz.ntmps10
  go_wp2_with fail
  refine Calls.mono (hbg.out w (Below.refl _ _)) ?_
  rintro e W0 ⟨bx, Mx, rfl, hx⟩
  go_wp2_with fail
  refine Calls.mono (hbg.out W0 hx.out.2.below) ?_
  rintro e W1 ⟨by', My, rfl, hy⟩
  obtain ⟨n, hn⟩ : ∃ n : Nat, min l.length 24 = n := ⟨_, rfl⟩
  have hn24 : n ≤ 24 ∧ n ≤ l.length := by omega
  have hmin : min (l.length : Int) 24 = (n : Int) := by omega
  have hS1 : Hid (ShI w bx by' l n 0 W1) := ⟨_, _, K2.two hx.out.2 hy.out.2, new_she hx.out.1, new_she hy.out.1⟩
  clear hx hy hbg
  have hpz : Hid (∀ (z : Int) W (n : Int), IntOk z → (n = 6 ∨ n = 30) → Calls Tryz.prog 19 #[.int .i64 z, .int .i64 n] W fun e w' => e = .returned (.int .i64 (pickZ z n)) ∧ W = w') := fun z W n h1 h2 => pick_z z W n h1 h2
  have hoz : Hid (∀ (z z' : Int) W, Calls Tryz.prog 21 #[.string bEd, .int .i64 (pickZ z 6), .int .i64 (pickZ z' 6)] W fun e w' => e = .returned (.string (ofB bEd (p6 z) (p6 z'))) ∧ W = w') := fun z z' W => of_z z z' W
  go_wp2_with fail
  go_loopw [8] (fun vi wr => ∃ i : Nat, vi = .int .i64 i ∧ i ≤ n ∧ Hid (ShI w bx by' l n i wr)) (fun vi _ => n - (intOf vi).toNat)
  case atStart => exact ⟨0, rfl, Nat.zero_le _, hS1⟩
  case round =>
    obtain ⟨i, rfl, hi, hst⟩ := hrel
    by_cases hlt : i < n
    · have i1 : (i : Int) < (n : Int) := by omega
      have i2 : (i : Int) < (l.length : Int) := by omega
      have hidx : (n : Int) - 1 - (i : Int) = ((n - 1 - i : Nat) : Int) := by omega
      have i3 : ((n - 1 - i : Nat) : Int) < (l.length : Int) := by omega
      obtain ⟨bb, off, e0, hbl, x0, x1, x2⟩ := HL.out i (by omega)
      obtain ⟨bb', off', e0', hbl', u0, u1, u2⟩ := HL.out (n - 1 - i) (by omega)
      rw [e0] at e0'
      cases e0'
      have hbw : Below w.heap.size w wr := by obtain ⟨_, _, hk, _⟩ := hst.out; exact hk.below
      have y0 := (hbw.cell (p := ⟨bb, off + i * 3, none⟩) hbl).trans x0
      have y1 := (hbw.cell (p := ⟨bb, off + i * 3 + 1, none⟩) hbl).trans x1
      have y2 := (hbw.cell (p := ⟨bb, off + i * 3 + 2, none⟩) hbl).trans x2
      have v0 : ∀ O, (wr.alloc O).cell? ⟨bb, off + (n - 1 - i) * 3, none⟩ = _ := fun O => cell_later ((Below.refl wr.heap.size wr).alloc (Nat.le_refl _) O) ((hbw.cell (p := ⟨bb, off + (n - 1 - i) * 3, none⟩) hbl).trans u0)
      have v1 : ∀ O, (wr.alloc O).cell? ⟨bb, off + (n - 1 - i) * 3 + 1, none⟩ = _ := fun O => cell_later ((Below.refl wr.heap.size wr).alloc (Nat.le_refl _) O) ((hbw.cell (p := ⟨bb, off + (n - 1 - i) * 3 + 1, none⟩) hbl).trans u1)
      have v2 : ∀ O, (wr.alloc O).cell? ⟨bb, off + (n - 1 - i) * 3 + 2, none⟩ = _ := fun O => cell_later ((Below.refl wr.heap.size wr).alloc (Nat.le_refl _) O) ((hbw.cell (p := ⟨bb, off + (n - 1 - i) * 3 + 2, none⟩) hbl).trans u2)
      have hzx := HZ.out _ (List.getElem_mem (show i < l.length by omega))
      have hzy := HZ.out _ (List.getElem_mem (show n - 1 - i < l.length by omega))
      have HZX : Hid _ := hzx
      have HZY : Hid _ := hzy
      have hgx : Hid (l.getD i (0, 0, 0) = l[i]'(by omega)) := by show _ = _; rw [List.getD_eq_getElem?_getD, List.getElem?_eq_getElem (by omega)]; rfl
      have hgy : Hid (l.getD (n - 1 - i) (0, 0, 0) = l[n - 1 - i]'(by omega)) := by show _ = _; rw [List.getD_eq_getElem?_getD, List.getElem?_eq_getElem (by omega)]; rfl
      subst e0
      clear x0 x1 x2 u0 u1 u2 hbw hzx hzy
      generalize l[i]'(by omega) = zx at *
      generalize l[n - 1 - i]'(by omega) = zy at *
      have hS0 : Hid (∀ O O', ((wr.alloc O).alloc O').drew.heap.size = wr.heap.size + 2 ∧ Below wr.heap.size wr ((wr.alloc O).alloc O').drew) := fun O O' => ⟨by simp, (((Below.refl _ wr).alloc (Nat.le_refl _) _).alloc (by simp) _).drew⟩
      obtain ⟨V, hV⟩ : ∃ V, ((wr.alloc (.cells #[.int .i64 zx.1, .int .i64 zx.2.1, .int .i64 zx.2.2] 46)).alloc (.cells #[.int .i64 zy.1, .int .i64 zy.2.1, .int .i64 zy.2.2] 46)).drew = V := ⟨_, rfl⟩
      have hpx : Hid (ShP w bx by' (fwdF l i) (bwdF l n i) V) := by
        rw [← hV]
        exact ShP.later hst.out (hS0.out _ _).2
      have eX : Hid (EdO V wr.heap.size zx) := by rw [← hV]; exact (Below.heap_alloc _ _ _ (by simp)).trans (World.alloc_heap_new wr _)
      have eY : Hid (EdO V (wr.heap.size + 1) zy) := by
        rw [← hV]
        have := World.alloc_heap_new (wr.alloc (.cells #[.int .i64 zx.1, .int .i64 zx.2.1, .int .i64 zx.2.2] 46)) (.cells #[.int .i64 zy.1, .int .i64 zy.2.1, .int .i64 zy.2.2] 46)
        rw [World.size_alloc] at this
        exact this
      have hin : Hid (Calls Tryz.prog 20 #[.pointer (some ⟨bx, 0, none⟩), .string (ofB bEd (p6 zx.1) (p6 zx.2.1)), .int .i64 (pickZ zx.2.2 30)] V fun en W' => ∃ r, en = .returned (.int .i64 r) ∧ Hid (ShP w bx by' (fwdF l (i + 1)) (bwdF l n i) W' ∧ EdO W' (wr.heap.size + 1) zy) ∧ EdB W' wr.heap.size zx) := by
        refine (p_ins hpx.out (by unfold fwdF; simp; omega) HT.out).mono ?_
        rintro en W' ⟨r, k1, k2, k3⟩
        refine ⟨r, k1, ⟨?_, k3 _ _ eY.out⟩, EdO.box (k3 _ _ eX.out)⟩
        rw [fwd_succ, hgx.out]; exact k2
      have hbx : EdB V wr.heap.size zx := EdO.box eX.out
      obtain ⟨bb0, bb1, bb2⟩ := hbx
      clear hS0 hpx eX eY
      go_wp2_with fail
      first | (go_region_held3 (fun w' => w'.cell? ⟨wr.heap.size, 0, none⟩ = some (.int .i64 zx.1) ∧ w'.cell? ⟨wr.heap.size, 1, none⟩ = some (.int .i64 zx.2.1) ∧ w'.cell? ⟨wr.heap.size, 2, none⟩ = some (.int .i64 zx.2.2)) (first | exact ⟨bb0, bb1, bb2⟩ | (rw [hV]; exact ⟨bb0, bb1, bb2⟩) | assumption) (first | (go_at_call 19; refine Calls.mono (hpz.out _ _ _ (by first | exact HZX.out.1 | exact HZX.out.2.1 | exact HZX.out.2.2) (by first | exact .inl rfl | exact .inr rfl)) ?_; rintro e' w' ⟨rfl, hw'⟩; subst hw') | (go_at_call 21; refine Calls.mono (hoz.out _ _ _) ?_; rintro e' w' ⟨rfl, hw'⟩; subst hw') | (go_at_call 20; refine Calls.mono hin.out ?_; rintro e' W3 ⟨r, rfl, hst3, hbx3⟩))) | fail
      clear bb0 bb1 bb2 hbx3 hin hst
      have hpy : Hid (ShP w by' bx (bwdF l n i) (fwdF l (i + 1)) W3.drew) := (hst3.out.1.later (Below.refl _ _).drew).swap
      have eY : Hid (EdO W3.drew (wr.heap.size + 1) zy) := hst3.out.2
      have hin : Hid (Calls Tryz.prog 20 #[.pointer (some ⟨by', 0, none⟩), .string (ofB bEd (p6 zy.1) (p6 zy.2.1)), .int .i64 (pickZ zy.2.2 30)] W3.drew fun en W' => ∃ r, en = .returned (.int .i64 r) ∧ Hid (ShP w by' bx (bwdF l n (i + 1)) (fwdF l (i + 1)) W' ∧ EdO W' (wr.heap.size + 1) zy) ∧ EdB W' (wr.heap.size + 1) zy) := by
        refine (p_ins hpy.out (by unfold bwdF; simp; omega) HT.out).mono ?_
        rintro en W' ⟨r, k1, k2, k3⟩
        refine ⟨r, k1, ⟨?_, k3 _ _ eY.out⟩, EdO.box (k3 _ _ eY.out)⟩
        rw [bwd_succ, hgy.out]; exact k2
      obtain ⟨bb0, bb1, bb2⟩ : EdB W3.drew (wr.heap.size + 1) zy := EdO.box eY.out
      clear hpy eY hst3
      go_wp2_with fail
      first | (go_region_held3 (fun w' => w'.cell? ⟨wr.heap.size + 1, 0, none⟩ = some (.int .i64 zy.1) ∧ w'.cell? ⟨wr.heap.size + 1, 1, none⟩ = some (.int .i64 zy.2.1) ∧ w'.cell? ⟨wr.heap.size + 1, 2, none⟩ = some (.int .i64 zy.2.2)) (first | exact ⟨bb0, bb1, bb2⟩ | assumption) (first | (go_at_call 19; refine Calls.mono (hpz.out _ _ _ (by first | exact HZY.out.1 | exact HZY.out.2.1 | exact HZY.out.2.2) (by first | exact .inl rfl | exact .inr rfl)) ?_; rintro e' w' ⟨rfl, hw'⟩; subst hw') | (go_at_call 21; refine Calls.mono (hoz.out _ _ _) ?_; rintro e' w' ⟨rfl, hw'⟩; subst hw') | (go_at_call 20; refine Calls.mono hin.out ?_; rintro e' W4 ⟨r4, rfl, hst4, hbx4⟩))) | fail
      clear bb0 bb1 bb2 hbx4 hin
      by_cases hi3 : (i : Int) % 3 = 0
      · have hpy : Hid (ShP w by' bx (bwdF l n (i + 1)) (fwdF l (i + 1)) W4.drew) := (hst4.out.1.later (Below.refl _ _).drew)
        have eY : Hid (EdO W4.drew (wr.heap.size + 1) zy) := hst4.out.2
        have hin : Hid (Calls Tryz.prog 20 #[.pointer (some ⟨by', 0, none⟩), .string (ofB bEd (p6 zy.1) (p6 zy.2.1)), .int .i64 (pickZ zy.2.2 30)] W4.drew fun en W' => en = .returned (.int .i64 9) ∧ Hid (ShI w bx by' l n (i + 1) W') ∧ EdB W' (wr.heap.size + 1) zy) := by
          refine (p_twice hpy.out (by rw [bwd_succ, hgy.out]; exact List.mem_append_right _ List.mem_cons_self) HT.out).mono ?_
          rintro en W' ⟨k1, k2, k3⟩
          exact ⟨k1, k2.swap, EdO.box (k3 _ _ eY.out)⟩
        obtain ⟨bb0, bb1, bb2⟩ : EdB W4.drew (wr.heap.size + 1) zy := EdO.box eY.out
        clear hpy eY hst4
        go_wp2_with fail
        first | (go_region_held3 (fun w' => w'.cell? ⟨wr.heap.size + 1, 0, none⟩ = some (.int .i64 zy.1) ∧ w'.cell? ⟨wr.heap.size + 1, 1, none⟩ = some (.int .i64 zy.2.1) ∧ w'.cell? ⟨wr.heap.size + 1, 2, none⟩ = some (.int .i64 zy.2.2)) (first | exact ⟨bb0, bb1, bb2⟩ | assumption) (first | (go_at_call 19; refine Calls.mono (hpz.out _ _ _ (by first | exact HZY.out.1 | exact HZY.out.2.1 | exact HZY.out.2.2) (by first | exact .inl rfl | exact .inr rfl)) ?_; rintro e' w' ⟨rfl, hw'⟩; subst hw') | (go_at_call 21; refine Calls.mono (hoz.out _ _ _) ?_; rintro e' w' ⟨rfl, hw'⟩; subst hw') | (go_at_call 20; refine Calls.mono hin.out ?_; rintro e' W5 ⟨rfl, hst5, hbx5⟩))) | fail
        clear bb0 bb1 bb2 hbx5 hin
        go_wp2
        refine ⟨⟨i + 1, by go_num, by omega, hst5⟩, by simp [intOf]; omega⟩
      · have hst5 : Hid (ShI w bx by' l n (i + 1) W4) := hst4.out.1.swap
        clear hst4
        have hi4 : ((i : Int) % 3 == 0) = false := by simpa using hi3
        go_wp2
        refine ⟨⟨i + 1, by go_num, by omega, hst5⟩, by simp [intOf]; omega⟩
    · obtain rfl : i = n := by omega
      have hs2 : Hid (Sh2P w bx by' 0 wr) := by
        obtain ⟨ex, ey, h1, h2, h3⟩ := hst.out
        exact ⟨ex, ey, h1, sh_begin h2 h3 (fun d => fwd_bwd _ _ d)⟩
      have hpk : Hid (∀ W, Calls Tryz.prog 19 #[.int .i64 ck, .int .i64 20] W fun e w' => ∃ p : Nat, e = .returned (.int .i64 p) ∧ p < 20 ∧ W = w') := fun W => by
        refine (kpick_any ck 20 W HC.out.1 HC.out.2 (by decide) (by decide)).mono ?_
        rintro e w' ⟨h1, h2⟩
        have hp := pickZ_bounds ck 20 (by decide)
        exact ⟨(pickZ ck 20).toNat, by rw [h1, Int.toNat_of_nonneg hp.1], by omega, h2.symm⟩
      clear hst hpz hoz HZ HL
      go_wp2_with fail
      go_loopw [12] (fun vi wr => ∃ t : Nat, vi = .int .i64 t ∧ t ≤ 79 ∧ Hid (∃ m : Int, 0 ≤ m ∧ m ≤ max 0 ((t : Int) - 3) ∧ m < 57 ∧ Sh2P w bx by' m wr)) (fun vi _ => 80 - (intOf vi).toNat)
      case atStart => exact ⟨0, rfl, by omega, 0, by omega, by omega, by omega, hs2.out⟩
      case round =>
        clear hs2
        obtain ⟨t, rfl, ht, hst⟩ := hrel
        by_cases ht60 : t < 60
        · have ht6 : (t : Int) < 60 := by omega
          obtain ⟨m, hm0, hm1, hm2, hs⟩ := hst.out
          obtain ⟨u, hu⟩ : ∃ u : Int, max 0 ((t : Int) - 3) = u := ⟨_, rfl⟩
          have h1 : Hid (0 ≤ m ∧ max m ((t : Int) - 3) = u ∧ Sh2P w bx by' m wr ∧ 0 ≤ u ∧ u < 57) := ⟨hm0, by omega, hs, by omega, by omega⟩
          have hu' : Hid (max 0 ((t : Int) - 3) = u) := hu
          clear hst hm0 hm1 hm2 hs
          go_wp2_with fail
          refine Calls.mono (s_tick1 h1.out.2.2.1 (c := t) (by omega) h1.out.2.1) ?_
          rintro e W2 ⟨rfl, h2⟩
          go_wp2_with fail
          refine Calls.mono (s_tick2 h2.out h1.out.1 (by omega) h1.out.2.1) ?_
          rintro e W3 ⟨rfl, h3⟩
          clear h2
          go_wp2_with fail
          refine Calls.mono (s_ask1 h3.out HT.out) ?_
          rintro e W4 ⟨oa, oc, ts, rfl, hts, h4⟩
          clear h3
          go_wp2_with fail
          refine Calls.mono (s_ask2 h4.out HT.out) ?_
          rintro e W5 ⟨oa', oc', rfl, h5⟩
          clear h4
          have hT1 : Hid (Sh2P w bx by' u W5) := h5.out.1
          have HU : Hid (0 ≤ u ∧ u < 57 ∧ u = max 0 ((t : Int) - 3)) := ⟨h1.out.2.2.2.1, h1.out.2.2.2.2, hu.symm⟩
          have htl : (ts.length : Int) ≤ 72 := by omega
          have hrows : Hid (W5.ownsRow 0 9 1 (.slice oa ts.length oc) ts.length (ts.map strV) ∧ W5.ownsRow 0 9 1 (.slice oa' ts.length oc') ts.length (ts.map strV)) := h5.out.2
          clear h5 h1
          go_wp2_with fail
          go_loopw [21] (fun vi wr => ∃ j : Nat, vi = .int .i64 j ∧ j ≤ ts.length ∧ Hid (Below W5.heap.size W5 wr)) (fun vi _ => ts.length - (intOf vi).toNat)
          case atStart => exact ⟨0, rfl, Nat.zero_le _, Below.refl _ _⟩
          case round =>
            obtain ⟨j, rfl, hj, hbj⟩ := hrel
            by_cases hlj : j < ts.length
            · have j1 : (j : Int) < (ts.length : Int) := by omega
              obtain ⟨g1, c1, e1, y1⟩ := row_str (own_below hrows.out.1 hbj.out) hlj
              obtain ⟨g2, c2, e2, y2⟩ := row_str (own_below hrows.out.2 hbj.out) hlj
              simp only [Value.slice.injEq] at e1 e2
              obtain ⟨rfl, _, rfl⟩ := e1
              obtain ⟨rfl, _, rfl⟩ := e2
              generalize ts[j] = tj at *
              go_wp2_with fail
              go_quiet (fail)
              have hbn : Hid (Below W5.heap.size W5 (wr.drewN nq)) := hbj.out.trans ⟨rfl, rfl, rfl, Nat.le_refl _, fun _ _ => rfl⟩
              go_wp2
              refine ⟨⟨j + 1, by go_num, by omega, hbn⟩, by simp [intOf]; omega⟩
            · obtain rfl : j = ts.length := by omega
              have hS5 : Hid (Sh2P w bx by' u wr) := hT1.out.later hbj.out
              clear hrows hT1 hbj
              go_wp2_with fail
              refine Calls.mono (hpk.out _) ?_
              rintro e W6 ⟨p, rfl, hp, hw'⟩
              subst hw'
              go_wp2
              refine ⟨⟨t + 1 + p, by go_num, by omega, u, HU.out.1, ?_, HU.out.2.1, hS5.out⟩, by simp [intOf]; omega⟩
              have := HU.out.2.2
              omega
        · have ht6 : ¬ (t : Int) < 60 := by omega
          obtain ⟨m, hm0, hm1, hm2, hs⟩ := hst.out
          have h1 : Hid (m < 57 ∧ Sh2P w bx by' m wr) := ⟨hm2, hs⟩
          clear hst hm0 hm1 hm2 hs hpk
          go_wp2_with fail
          refine Calls.mono (s_last h1.out.2 h1.out.1) ?_
          rintro e W2 ⟨rfl, h2⟩
          clear h1
          go_wp2_with fail
          refine Calls.mono (s_one h2.out HT.out) ?_
          rintro e W3 ⟨rfl, h3⟩
          clear h2
          go_wp2_with fail
          refine Calls.mono (s_seventy h3.out) ?_
          rintro e W4 ⟨rfl, h4⟩
          clear h3
          go_wp2_with fail
          refine Calls.mono (s_told h4.out HT.out) ?_
          rintro e W5 ⟨b, oc, rfl, hc5, h5⟩
          clear h4
          have hpb : (txtPAB.toList == [112, 97, 116, 104, 40, 97, 44, 98, 41]) = true := by kernel_rfl
          go_wp2
          go_ret
          exact ⟨rfl, h5.out⟩

end Go.Proofs.YtjajnhemgphefaaGreatDoor

namespace Go.Proofs.YtjajnhemgphefaaGreatDoor
open Go.ChangeShapes Go.WideShapes Go.ChangeAt Go.RowKit Go.Shelf
set_option linter.unusedVariables false
set_option linter.unusedSimpArgs false

theorem own : ownKnob Tryz.prog.godebug = none := by kernel_rfl
theorem laidOutP : laidOutB Tryz.prog = true := by kernel_rfl
theorem cellsInt : Tryz.prog.cellsOf 3 = 1 := by kernel_rfl
theorem cellsEdge : Tryz.prog.cellsOf 46 = 3 := by kernel_rfl
theorem add_at {b off k : Nat} : (⟨b, off, none⟩ : Addr).add k = ⟨b, off + k, none⟩ := by
  unfold Addr.add
  split
  · rename_i h; subst h; rfl
  · rfl
theorem cell_lt {W : World} {b off : Nat} {v : Value} (h : W.cell? ⟨b, off, none⟩ = some v) : b < W.heap.size := by
  cases hh : W.heap[b]? with
  | none => simp [World.cell?, hh] at h
  | some o => exact (Array.getElem?_eq_some_iff.1 hh).1
set_option maxRecDepth 100000 in
/-- A row of edges that is handed in. -/
theorem ed_open {H : Type} {enc : TypeId × Value → H} {W : World} {base : Nat} {spare : Nat → Bool} {held : Bool} {fuel : Nat} {a0 : Option Addr} {len cap : Nat} {x : DataW H × List MemPlace} (h : DataW.trod enc Tryz.prog W base spare held fuel 39 [.slice a0 len cap] = some x) :
    ∃ l : List (Int × Int × Int), l.length = len ∧ len ≤ maxLen ∧ EdAt W a0 l ∧ ∀ y ∈ l, IntOk y.1 ∧ IntOk y.2.1 ∧ IntOk y.2.2 := by
  rcases Go.Deep.open_slice Tryz.underlying39 h with ⟨hcs, _⟩ | ⟨a, len', cap', m, n, D, Pl, hcs, _, hl, hm, hmm, _, hx⟩
  · simp only [List.cons.injEq, Value.slice.injEq, and_true] at hcs
    obtain ⟨rfl, rfl, rfl⟩ := hcs
    exact ⟨[], rfl, Nat.zero_le _, fun i hi => absurd hi (Nat.not_lt_zero _), fun y hy => by cases hy⟩
  · simp only [List.cons.injEq, Value.slice.injEq, and_true] at hcs
    obtain ⟨rfl, rfl, rfl⟩ := hcs
    have hlm : len ≤ m := by rw [hmm]; split <;> omega
    have each : ∀ i, i < len → ∃ z : Int × Int × Int, W.cell? (a.add (i * 3)) = some (.int .i64 z.1) ∧ W.cell? (a.add (i * 3 + 1)) = some (.int .i64 z.2.1) ∧ W.cell? (a.add (i * 3 + 2)) = some (.int .i64 z.2.2) ∧ IntOk z.1 ∧ IntOk z.2.1 ∧ IntOk z.2.2 := by
      intro i hi
      obtain ⟨cs', h1, h2⟩ := hx i (by omega)
      rw [cellsEdge] at h1
      obtain ⟨_, hlen, hcell⟩ := World.cells?_some h1
      obtain ⟨xs, k, _, _, _, hxl, hf⟩ := DataW.trod_struct Tryz.underlying46 h2
      have hxl' : xs.length = 3 := hxl
      match xs, hxl', cs', hlen with
      | [y0, y1, y2], _, [v0, v1, v2], _ =>
        have g0 := hf 0 _ rfl
        have g1 := hf 1 _ rfl
        have g2 := hf 2 _ rfl
        simp [cellsInt] at g0 g1 g2
        obtain ⟨n0, e0, _, w0⟩ := DataW.trod_int Tryz.underlying3 g0
        obtain ⟨n1, e1, _, w1⟩ := DataW.trod_int Tryz.underlying3 g1
        obtain ⟨n2, e2, _, w2⟩ := DataW.trod_int Tryz.underlying3 g2
        simp only [List.cons.injEq, and_true] at e0 e1 e2
        subst e0 e1 e2
        have c0 := hcell 0 (by decide)
        have c1 := hcell 1 (by decide)
        have c2 := hcell 2 (by decide)
        rw [Go.Deep.add_add] at c0 c1 c2
        exact ⟨(n0, n1, n2), by simpa using c0, by simpa using c1, by simpa using c2, bounds_i64 w0, bounds_i64 w1, bounds_i64 w2⟩
    obtain ⟨f, hf⟩ := Go.Deep.choose_lt each
    refine ⟨(List.range len).map f, by simp, by omega, fun i hi => ?_, fun y hy => ?_⟩
    · have hi' : i < len := by simpa using hi
      obtain ⟨c0, c1, c2, _⟩ := hf i hi'
      obtain ⟨b, off, pr⟩ := a
      have hpn : pr = none := by
        cases pr with
        | none => rfl
        | some q =>
          exfalso
          have h00 := (hf 0 (by omega)).1
          have e0 : (⟨b, off, some q⟩ : Addr).add (0 * 3) = ⟨b, off, some q⟩ := by simp [Addr.add]
          rw [e0] at h00
          simp only [World.cell?] at h00
          split at h00
          · simp at h00
          · cases h00
      subst hpn
      rw [add_at] at c0 c1 c2
      refine ⟨b, off, rfl, cell_lt c0, ?_, ?_, ?_⟩
      · simpa using c0
      · simpa [Nat.add_assoc] using c1
      · simpa [Nat.add_assoc] using c2
    · obtain ⟨i, hi, rfl⟩ := List.mem_map.1 hy
      exact (hf i (List.mem_range.1 hi)).2.2.2

def uren : Ren :=
  { f := fun n => n
    t := fun
      | 5 => 5
      | 119 => 355
      | 138 => 357
      | 139 => 358
      | n => n
    g := fun
      | 3 => 0
      | 4 => 1
      | n => n }

theorem u8types : U8Types Tryz.prog uren := {
  t5 := by kernel_rfl
  t119 := by kernel_rfl
  t138 := by kernel_rfl
  t139 := by kernel_rfl }
theorem u8extra : U8Extra Tryz.prog uren := {
  n3 := by kernel_rfl
  n4 := by kernel_rfl
  y3 := by kernel_rfl
  y4 := by kernel_rfl
  c5 := by kernel_rfl
  c119 := by kernel_rfl
  c138 := by kernel_rfl }

theorem first_same : Rows.laid_unicode_utf8_first = Lib.firstData := by kernel_rfl
theorem accept_same : (Rows.laid_unicode_utf8_acceptRanges : DataW Unit) = Lib.acceptData := by kernel_rfl

end Go.Proofs.YtjajnhemgphefaaGreatDoor

namespace Go.Proofs.YtjajnhemgphefaaGreatDoor
open Go.ChangeShapes Go.WideShapes Go.ChangeAt Go.RowKit Go.Shelf
set_option linter.unusedVariables false
set_option linter.unusedSimpArgs false

theorem tabs {W : World} (h : laidMetH Tryz.prog Rows.shuffledRow.laid W) : Lib.Utf8Tabs 0 1 W := by
  have h2 : laidMet Tryz.prog Rows.shuffledRow.laid W := h
  refine utf8Tabs_of_readsT u8types u8extra (Lib.laidMet.reads h2 ?_) (Lib.laidMet.reads h2 ?_)
  · rw [← first_same]; simp [Rows.shuffledRow]
  · rw [← accept_same]; simp [Rows.shuffledRow]

set_option maxRecDepth 100000 in
theorem contract (H : Type) (enc : TypeId × Value → H) (W : World) (base : Nat) (args : Array Value) (ds gs : List (DataW H)) (before : List MemPlace)
    (hval : ∀ (j : Nat) t v, Tryz.f10.params[j]? = some t → args[j]? = some v → Value.okWide Tryz.prog W .any base t v)
    (hW : DataW.Whole enc Tryz.prog Tryz.f10.params.toList Rows.shuffledSpec.vars false W args.toList ds gs before) (hL : laidMetH Tryz.prog Rows.shuffledRow.laid W) :
    Calls Tryz.prog 10 args W fun e W' => ∃ v, e = .returned v ∧ Rows.shuffledSpec.post enc Tryz.prog Tryz.f10 false true false false W args v W' := by
  have hT := tabs hL
  have hW' := hW
  obtain ⟨p, q, hA0, hV, rfl, hfz, hnd⟩ := hW
  have hA : DataW.TrodAll enc Tryz.prog W 0 (fun _ => true) true Tryz.f10.params.toList args.toList ds p := hA0
  rw [Tryz.params10] at hA hval
  obtain ⟨v0, v1, d0, d1, p0, p1, rfl, rfl, rfl, h0, h1⟩ := trodAll_two hA
  obtain ⟨rfl, rfl⟩ := trodVars_none hV
  obtain ⟨nm, rfl, rfl, rfl, wn⟩ := open_int Tryz.underlying3 (hval 1 3 v1 rfl rfl) h1
  obtain ⟨a0, len, cap, rfl⟩ := okWide_slice Tryz.underlying39 (hval 0 39 v0 rfl rfl)
  clear hA0
  simp only [List.append_nil] at hW'
  have hlt : ∀ x ∈ p0, x.block < W.heap.size := fun x hx => by simpa using hW'.lt x hx
  have walk : Calls Tryz.prog 10 #[.slice a0 len cap, .int .i64 nm] W fun e w' => e = .returned (.bool true) ∧ Below W.heap.size W w' := by
    obtain ⟨fuel, hf⟩ := h0
    obtain ⟨l, rfl, hm, hed, hz⟩ := ed_open hf
    exact shuffled_any a0 cap l nm W hed hm hz (bounds_i64 wn) hT
  refine walk.mono fun e W2 ⟨he, hB⟩ => ?_
  subst he
  refine ⟨_, rfl, _, _, _, [], p0 ++ [], [], hW', ?_, ?_, rfl, hB.frame _, fun h => by cases h⟩
  · exact trodAll_mk1 (shut_bool Tryz.underlying4 _)
  · exact trodAll_mk2 (Below.trod laidOutP (by kernel_rfl) (of_decide_eq_true (by kernel_rfl)) h0 hB hlt) (shut_int Tryz.underlying3 wn)

end Go.Proofs.YtjajnhemgphefaaGreatDoor
