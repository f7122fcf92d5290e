/-
  The engine: Until.
  The engine: Ask.
  The engine in memory: its block and the row of its facts are changed; a feed is added.
  The engine in memory: a feed is added, a fact is kept.
-/
import Derived.Test.YtjajnhemgphefaaGreatDoorJEgL
import Derived.Test.YtjajnhemgphefaaGreatDoorJEgP
import Derived.Test.YtjajnhemgphefaaGreatDoorJMoB
namespace Go.Proofs.YtjajnhemgphefaaGreatDoor
open Go.RowKit Go.Shelf Go.Maps
set_option linter.unusedVariables false
set_option linter.unusedSimpArgs false

/-- What Until answers. -/
def untilR (e : Eg) (s : ByteArray) : Int × Int := match atomR s with
  | none => (0, 2)
  | some a => if groundB a = false then (0, 2) else if ckR e.rs a = 0 then ((e.M (groundA nms0 a)).getD 0, 0) else (0, ckR e.rs a)

theorem atom_gd {a : Am} (h : AmOk a) : GdOk (groundA nms0 a) := ground_ok (fun k => ba_nil k) (big h.rel) (fun t ht => big (h.tms t ht).name)

set_option maxRecDepth 100000 in
set_option maxHeartbeats 4000000 in
theorem until_any (S : Nat → Prop) (be : Nat) (e : Eg) (s : ByteArray) (w : World) (h : EngAt w S be e) (hok : EgOk e) (hs : s.size ≤ 4611686018427387904) (hT : Lib.Utf8Tabs 0 1 w) (hn : ∀ a, atomR s = some a → ∀ t ∈ a.args, t.num < 6) :
    Calls Tryz.prog 24 #[.pointer (some ⟨be, 0, none⟩), .string s] w fun en w' => en = .returned (.tuple #[.int .i64 (untilR e s).1, .int .i64 (untilR e s).2]) ∧ Below w.heap.size w w' := by
  have hrg := readGround_any s w hs hT
  unfold GroundPost at hrg
  cases ha : atomR s with
  | none =>
    rw [ha] at hrg
    have hu : Hid (untilR e s = (0, 2)) := by show _ = _; unfold untilR; rw [ha]
    have HR : Hid _ := hrg
    clear hrg ha h hok
    rw [hu.out]
    go_enter Tryz.func24, Tryz.ntmps24
    go_wp2_with (go_at_call 40; refine Calls.mono HR.out ?_; rintro e' W1 ⟨hb1, rfl⟩)
    go_ret2
    exact ⟨rfl, hb1.alloc hb1.size _⟩
  | some a =>
    rw [ha] at hrg
    have hn' := hn a ha
    have hu : Hid (untilR e s = if groundB a = false then (0, 2) else if ckR e.rs a = 0 then ((e.M (groundA nms0 a)).getD 0, 0) else (0, ckR e.rs a)) := by show _ = _; unfold untilR; rw [ha]
    obtain ⟨gb, hgb⟩ : ∃ gb, groundB a = gb := ⟨_, rfl⟩
    have HR : Hid (Calls Tryz.prog 40 #[.string s] w fun e' w' => Below w.heap.size w w' ∧ ∃ va, e' = .returned (.tuple #[.agg #[.string a.rel, va], .bool gb]) ∧ AmOk a ∧ SealT w' w'.heap.size va a.args) := by
      show Calls _ _ _ _ _
      rw [← hgb]; exact hrg
    rw [hgb] at hu
    have hEW : Hid (∀ W, Below w.heap.size w W → EngAt W S be e) := fun W hb => h.below hb
    obtain ⟨vr, vn, vk, vf, bm, rb, b45, b87, bfs, Sf, hv⟩ := h
    have hblk : Hid (∀ W, Below w.heap.size w W → W.heap[be]? = some (Obj.cells #[vr, .int .i64 e.win, .int .i64 e.lat, .int .i64 e.que, .int .i64 e.mark, vn, vk, .map (some bm), vf] 101 (0, 0)) ∧ MdAt W bm 5000 e.M) := fun W hb => ⟨(hv.below hb).blk, (hv.below hb).md⟩
    have HRS : Hid (RsOk e.rs) := hok.rs
    clear hrg ha hv hok hT hn
    clear hgb
    cases gb with
    | false =>
      rw [if_pos rfl] at hu
      rw [hu.out]
      clear hu
      go_enter Tryz.func24, Tryz.ntmps24
      go_wp2_with (go_at_call 40; refine Calls.mono HR.out ?_; rintro e' W1 ⟨hb1, va, rfl, hak, hsl⟩; obtain ⟨xa, xc, hxf⟩ := hsl.form; subst hxf; have HAK : Hid _ := hak; have HSL : Hid _ := hsl; clear hak hsl)
      go_ret2
      exact ⟨rfl, hb1.alloc hb1.size _⟩
    | true =>
      rw [if_neg (by decide)] at hu
      go_enter Tryz.func24, Tryz.ntmps24
      go_wp2_with fail
      refine Calls.mono HR.out ?_
      rintro e' W1 ⟨hb1, va, rfl, hak, hsl⟩
      obtain ⟨xa, xc, hxf⟩ := hsl.form
      subst hxf
      have hckc : Hid (∀ W, Below w.heap.size w W → Calls Tryz.prog 42 #[.pointer (some ⟨be, 0, none⟩), .agg #[.string a.rel, .slice xa a.args.length xc]] W fun en w' => en = .returned (.int .i64 (ckR e.rs a)) ∧ Below W.heap.size W w') := fun W hb => checkRel_any S be e W (hEW.out W hb) HRS.out a _ _ _ rfl hak.args
      have hof : Hid (∀ W, Below W1.heap.size W1 W → Calls Tryz.prog 48 #[.agg #[.string a.rel, .slice xa a.args.length xc]] W fun e w' => e = .returned (.agg #[.string (groundA nms0 a).rel, .string (groundA nms0 a).x, .string (groundA nms0 a).y]) ∧ Below W.heap.size W w') := fun W hb => of_atom_any a _ W1.heap.size W (hsl.rk (RuleKept.ofBelow hb)) hak.args hn'
      have hen : Hid (∀ W, Below w.heap.size w W → Calls Tryz.prog 47 #[.map (some bm), .agg #[.string (groundA nms0 a).rel, .string (groundA nms0 a).x, .string (groundA nms0 a).y]] W fun e' w' => e' = .returned (.int .i64 ((e.M (groundA nms0 a)).getD 0)) ∧ Below W.heap.size W w') := fun W hb => end_any bm 5000 e.M (groundA nms0 a) (atom_gd hak) W (hblk.out W hb).2
      have hW1 : w.heap.size ≤ W1.heap.size := hb1.size
      have hbA : Hid (Below w.heap.size w (W1.alloc (.cells #[.string a.rel, .slice xa a.args.length xc] 92)) ∧ Below W1.heap.size W1 (W1.alloc (.cells #[.string a.rel, .slice xa a.args.length xc] 92))) := ⟨hb1.alloc hb1.size _, (Below.refl _ W1).alloc (Nat.le_refl _) _⟩
      have hbox : Hid (∀ W2, Below (W1.alloc (.cells #[.string a.rel, .slice xa a.args.length xc] 92)).heap.size (W1.alloc (.cells #[.string a.rel, .slice xa a.args.length xc] 92)) W2 → W2.heap[W1.heap.size]? = some (Obj.cells #[.string a.rel, .slice xa a.args.length xc] 92 (0, 0)) ∧ Below w.heap.size w W2 ∧ Below W1.heap.size W1 W2) := fun W2 hb =>
        ⟨(hb.block _ (by simp)).trans (World.alloc_heap_new W1 _), hbA.out.1.trans (hb.mono (by simp; omega)), hbA.out.2.trans (hb.mono (by simp))⟩
      clear hak hsl hEW
      by_cases hck : ckR e.rs a = 0
      · rw [if_pos hck] at hu
        rw [hck] at hckc
        clear hck
        go_wp2_with fail
        refine (hckc.out _ hbA.out.1).mono ?_
        rintro e' W2 ⟨rfl, hb2⟩
        obtain ⟨p1, hb3, hb4⟩ := hbox.out W2 hb2
        have t0 : W2.cell? ⟨W1.heap.size, 0, none⟩ = some (.string a.rel) := by simp [World.cell?, p1]
        have t1 : W2.cell? ⟨W1.heap.size, 1, none⟩ = some (.slice xa a.args.length xc) := by simp [World.cell?, p1]
        have q1 := (hblk.out W2 hb3).1
        have t7 : W2.cell? ⟨be, 7, none⟩ = some (.map (some bm)) := by simp [World.cell?, q1]
        have hD2 : Hid (Below W1.heap.size W1 W2.drew ∧ Below w.heap.size w W2.drew) := ⟨hb4.drew, hb3.drew⟩
        have hafter : Hid (∀ W3, Below W2.drew.heap.size W2.drew W3 → Below w.heap.size w W3 ∧ W3.cell? ⟨be, 7, none⟩ = some (.map (some bm))) := fun W3 hb => by
          have hx : Below w.heap.size w W3 := hb3.drew.trans (hb.mono (by show _ ≤ W2.heap.size; exact hb3.size))
          have := (hblk.out W3 hx).1
          exact ⟨hx, by simp [World.cell?, this]⟩
        clear p1 q1 hb2
        go_wp2_with fail
        first | (go_region_with (first | (go_at_call 48; refine (hof.out _ hD2.out.1).mono ?_; rintro e' W3 ⟨rfl, hb5⟩; obtain ⟨hb6, s7⟩ := hafter.out W3 hb5) | (go_at_call 47; refine (hen.out W3 hb6).mono ?_; rintro e' W4 ⟨rfl, hb7⟩))) | fail
        all_goals go_wp2
        all_goals go_ret2
        all_goals exact ⟨by rw [hu.out]; rfl, hb6.trans (hb7.mono hb6.size)⟩
      · rw [if_neg hck] at hu
        have hck' : (ckR e.rs a == 0) = false := by simp [hck]
        generalize ckR e.rs a = ck at *
        go_wp2_with (go_at_call 42; refine (hckc.out _ hbA.out.1).mono ?_; rintro e' W2 ⟨rfl, hb2⟩; obtain ⟨p1, hb3, hb4⟩ := hbox.out W2 hb2)
        go_ret2
        exact ⟨by rw [hu.out]; rfl, hb3⟩

end Go.Proofs.YtjajnhemgphefaaGreatDoor

namespace Go.Proofs.YtjajnhemgphefaaGreatDoor
open Go.RowKit Go.Shelf Go.Maps
set_option linter.unusedVariables false
set_option linter.unusedSimpArgs false

/-- The texts of ground atoms, in order. -/
def textsOf (gs : List Gd) : List (List UInt8) := sortT (gs.map (fun g => (textG g).data.toList))
/-- What Ask answers. -/
def AskPost (e : Eg) (s : ByteArray) (w : World) (en : Ending) (w' : World) : Prop :=
  Below w.heap.size w w' ∧ match atomR s with
    | none => en = .returned (.tuple #[.slice none 0 0, .int .i64 2])
    | some a => (ckR e.rs a ≠ 0 ∧ en = .returned (.tuple #[.slice none 0 0, .int .i64 (ckR e.rs a)])) ∨
      (ckR e.rs a = 0 ∧ ∃ v gs, fitP e.M a gs ∧ en = .returned (.tuple #[v, .int .i64 0]) ∧ w'.ownsRow w.heap.size 9 1 v (textsOf gs).length ((textsOf gs).map strV))

theorem textsOf_len (gs : List Gd) : (textsOf gs).length = gs.length := ((List.mergeSort_perm _ _).length_eq).trans (by simp)

theorem md_size {e : Eg} (h : EgOk e) (rel x y : ByteArray) (hx : (e.M ⟨rel, x, y⟩).isSome = true) : x.size ≤ 2000 ∧ y.size ≤ 2000 := by
  have := uni_size h.rs h.nsz (h.md _ hx).2
  exact ⟨Nat.le_trans this.2.1 (by decide), Nat.le_trans this.2.2 (by decide)⟩

set_option maxHeartbeats 1000000 in
theorem asked_any (bm nn b87 : Nat) (M : Gd → Option Int) (a : Am) (va : Value) (ta : Option Addr) (tn tc : Nat) (hva : va = .slice ta tn tc) (w : World) (hM : MdAt w bm nn M) (hnn : nn ≤ 1000000) (hS : SealT w b87 va a.args) (hfo : FormOk a) (hMs : ∀ x y, (M ⟨a.rel, x, y⟩).isSome = true → x.size ≤ 2000 ∧ y.size ≤ 2000) :
    Calls Tryz.prog 51 #[.map (some bm), .agg #[.string a.rel, va]] w fun en w' => ∃ Bm Ba, en = .returned (.func (.func 93) #[] #[.pointer (some ⟨Bm, 0, none⟩), .pointer (some ⟨Ba, 0, none⟩)]) ∧ Below w.heap.size w w' ∧
      ∀ W, Below w'.heap.size w' W → Calls Tryz.prog 50 #[.func (.func 93) #[] #[.pointer (some ⟨Bm, 0, none⟩), .pointer (some ⟨Ba, 0, none⟩)]] W fun e2 W' => ∃ v gs, fitP M a gs ∧ e2 = .returned v ∧ W'.ownsRow W.heap.size 9 1 v (textsOf gs).length ((textsOf gs).map strV) ∧ Below W.heap.size W W' := by
  refine (mfits_any bm a va w ta tn tc hva).mono ?_
  rintro en w' ⟨rfl, rfl⟩
  have hb : Below w.heap.size w ((w.alloc (.cells #[.map (some bm)] 98)).alloc (.cells #[.string a.rel, va] 92)) := ((Below.refl _ w).alloc (Nat.le_refl _) _).alloc (by simp) _
  refine ⟨_, _, rfl, hb, fun W hW => ?_⟩
  have hbW : Below w.heap.size w W := hb.trans (hW.mono hb.size)
  have x1 : W.heap[w.heap.size]? = some (Obj.cells #[.map (some bm)] 98 (0, 0)) := (hW.block _ (by simp; omega)).trans ((Below.heap_alloc _ _ _ (by simp)).trans (World.alloc_heap_new w _))
  have x2 : W.heap[w.heap.size + 1]? = some (Obj.cells #[.string a.rel, va] 92 (0, 0)) := by
    refine (hW.block _ (by simp)).trans ?_
    have := World.alloc_heap_new (w.alloc (.cells #[.map (some bm)] 98)) (.cells #[.string a.rel, va] 92)
    rw [World.size_alloc] at this; exact this
  refine (texts_any (N := nn) W hnn (enters_of Tryz.func93 (by kernel_rfl) rfl) (fun m n => fits_seq n w.heap.size (w.heap.size + 1) bm nn b87 M a _ W x1 x2 (hM.mk (MKept.ofBelow (m := m) hbW)) (hS.mk (MKept.ofBelow (m := m) hbW)) hfo.args hfo.nums hfo.rel hfo.names hMs m)).mono ?_
  rintro e2 W' ⟨v, gs, rfl, ⟨ks, k1, k2, k3, k4⟩, ho, hbW', hl⟩
  have hgl : (gs.map (·.1)).map (fun g => (textG g).data.toList) = gs.map (fun g => (textG g.1).data.toList) := by rw [List.map_map]; rfl
  refine ⟨v, gs.map (·.1), ⟨ks, k1, k2, k4⟩, rfl, ?_, hbW'⟩
  rw [textsOf_len]
  unfold textsOf
  rw [hgl, List.length_map]
  exact ho

set_option maxRecDepth 100000 in
set_option maxHeartbeats 4000000 in
theorem ask_any (S : Nat → Prop) (be : Nat) (e : Eg) (s : ByteArray) (w : World) (h : EngAt w S be e) (hok : EgOk e) (hs : s.size ≤ 4611686018427387904) (hT : Lib.Utf8Tabs 0 1 w) (hn : ∀ a, atomR s = some a → ∀ t ∈ a.args, t.num < 6) :
    Calls Tryz.prog 25 #[.pointer (some ⟨be, 0, none⟩), .string s] w (AskPost e s w) := by
  have hrg := readAtom_any s w hs hT
  unfold AtomPost at hrg
  cases ha : atomR s with
  | none =>
    rw [ha] at hrg
    have HA : Hid (atomR s = none) := ha
    have HR : Hid _ := hrg
    clear hrg ha h hok hn
    go_enter Tryz.func25, Tryz.ntmps25
    go_wp2_with (go_at_call 49; refine Calls.mono HR.out ?_; rintro e' W1 ⟨hb1, rfl⟩)
    go_ret2
    exact ⟨hb1.alloc hb1.size _, by rw [HA.out]; rfl⟩
  | some a =>
    rw [ha] at hrg
    have hn' := hn a ha
    have HA : Hid (atomR s = some a) := ha
    have HR : Hid (Calls Tryz.prog 49 #[.string s] w fun e' w' => Below w.heap.size w w' ∧ ∃ va, e' = .returned (.tuple #[.agg #[.string a.rel, va], .bool true]) ∧ AmOk a ∧ SealT w' w'.heap.size va a.args) := hrg
    have hEW : Hid (∀ W, Below w.heap.size w W → EngAt W S be e) := fun W hb => h.below hb
    obtain ⟨vr, vn, vk, vf, bm, rb, b45, b87, bfs, Sf, hv⟩ := h
    have hblk : Hid (∀ W, Below w.heap.size w W → W.heap[be]? = some (Obj.cells #[vr, .int .i64 e.win, .int .i64 e.lat, .int .i64 e.que, .int .i64 e.mark, vn, vk, .map (some bm), vf] 101 (0, 0)) ∧ MdAt W bm 5000 e.M) := fun W hb => ⟨(hv.below hb).blk, (hv.below hb).md⟩
    have HRS : Hid (EgOk e) := hok
    clear hrg ha hv hok hT hn
    go_enter Tryz.func25, Tryz.ntmps25
    go_wp2_with fail
    refine Calls.mono HR.out ?_
    rintro e' W1 ⟨hb1, va, rfl, hak, hsl⟩
    obtain ⟨xa, xc, hxf⟩ := hsl.form
    subst hxf
    have hckc : Hid (∀ W, Below w.heap.size w W → Calls Tryz.prog 42 #[.pointer (some ⟨be, 0, none⟩), .agg #[.string a.rel, .slice xa a.args.length xc]] W fun en w' => en = .returned (.int .i64 (ckR e.rs a)) ∧ Below W.heap.size W w') := fun W hb => checkRel_any S be e W (hEW.out W hb) HRS.out.rs a _ _ _ rfl hak.args
    have hfit : Hid (∀ W, Below W1.heap.size W1 W → Below w.heap.size w W → Calls Tryz.prog 51 #[.map (some bm), .agg #[.string a.rel, .slice xa a.args.length xc]] W fun en w' => ∃ Bm Ba, en = .returned (.func (.func 93) #[] #[.pointer (some ⟨Bm, 0, none⟩), .pointer (some ⟨Ba, 0, none⟩)]) ∧ Below W.heap.size W w' ∧
      Hid (∀ V, Below w'.heap.size w' V → Calls Tryz.prog 50 #[.func (.func 93) #[] #[.pointer (some ⟨Bm, 0, none⟩), .pointer (some ⟨Ba, 0, none⟩)]] V fun e2 V' => ∃ v gs, fitP e.M a gs ∧ e2 = .returned v ∧ V'.ownsRow V.heap.size 9 1 v (textsOf gs).length ((textsOf gs).map strV) ∧ Below V.heap.size V V')) := fun W hb hbw =>
      asked_any bm 5000 W1.heap.size e.M a _ _ _ _ rfl W (hblk.out W hbw).2 (by decide) (hsl.rk (RuleKept.ofBelow hb)) ⟨hak.args, hn', Nat.le_trans hak.rel (by decide), fun t ht => Nat.le_trans (hak.tms t ht).name (by decide)⟩ (fun x y hx => md_size HRS.out a.rel x y hx)
    have hW1 : w.heap.size ≤ W1.heap.size := hb1.size
    have hbA : Hid (Below w.heap.size w (W1.alloc (.cells #[.string a.rel, .slice xa a.args.length xc] 92)) ∧ Below W1.heap.size W1 (W1.alloc (.cells #[.string a.rel, .slice xa a.args.length xc] 92))) := ⟨hb1.alloc hb1.size _, (Below.refl _ W1).alloc (Nat.le_refl _) _⟩
    have hbox : Hid (∀ W2, Below (W1.alloc (.cells #[.string a.rel, .slice xa a.args.length xc] 92)).heap.size (W1.alloc (.cells #[.string a.rel, .slice xa a.args.length xc] 92)) W2 → W2.heap[W1.heap.size]? = some (Obj.cells #[.string a.rel, .slice xa a.args.length xc] 92 (0, 0)) ∧ Below w.heap.size w W2 ∧ Below W1.heap.size W1 W2) := fun W2 hb =>
      ⟨(hb.block _ (by simp)).trans (World.alloc_heap_new W1 _), hbA.out.1.trans (hb.mono (by simp; omega)), hbA.out.2.trans (hb.mono (by simp))⟩
    clear hak hsl hEW
    by_cases hck : ckR e.rs a = 0
    · have HCK : Hid (ckR e.rs a = 0) := hck
      rw [hck] at hckc
      clear hck
      go_wp2_with fail
      refine (hckc.out _ hbA.out.1).mono ?_
      rintro e' W2 ⟨rfl, hb2⟩
      obtain ⟨p1, hb3, hb4⟩ := hbox.out W2 hb2
      have t0 : W2.cell? ⟨W1.heap.size, 0, none⟩ = some (.string a.rel) := by simp [World.cell?, p1]
      have t1 : W2.cell? ⟨W1.heap.size, 1, none⟩ = some (.slice xa a.args.length xc) := by simp [World.cell?, p1]
      have q1 := (hblk.out W2 hb3).1
      have t7 : W2.cell? ⟨be, 7, none⟩ = some (.map (some bm)) := by simp [World.cell?, q1]
      clear p1 q1 hb2
      have hD2 : Hid (Below W1.heap.size W1 W2.drew ∧ Below w.heap.size w W2.drew) := ⟨hb4.drew, hb3.drew⟩
      have hfin : Hid (∀ W3 W4 v gs, Below W2.drew.heap.size W2.drew W3 → Below W3.heap.size W3 W4 → fitP e.M a gs → W4.ownsRow W3.heap.size 9 1 v (textsOf gs).length ((textsOf gs).map strV) → ∀ en, en = .returned (.tuple #[v, .int .i64 0]) → AskPost e s w en W4) := fun W3 W4 v gs h1 h2 h3 h4 en hen => by
        have hx : Below w.heap.size w W3 := hb3.drew.trans (h1.mono (by show _ ≤ W2.heap.size; exact hb3.size))
        exact ⟨hx.trans (h2.mono hx.size), by rw [HA.out]; exact .inr ⟨HCK.out, v, gs, h3, hen, ownsRow_lower h4 hx.size⟩⟩
      go_wp2_with fail
      first | (go_region_with (first | (go_at_call 51; refine (hfit.out _ hD2.out.1 hD2.out.2).mono ?_; rintro e' W3 ⟨Bm, Ba, rfl, hb5, htx⟩) | (go_at_call 50; refine (htx.out W3 (Below.refl _ _)).mono ?_; rintro e' W4 ⟨tv, gs, hgs, rfl, htv, hb6⟩; obtain ⟨oa, oc, hof⟩ := owns_form htv; subst hof))) | fail
      all_goals go_wp2
      all_goals go_ret2
      all_goals exact hfin.out W3 W4 _ gs hb5 hb6 hgs htv _ rfl
    · have HCK : Hid (¬ ckR e.rs a = 0) := hck
      have hck' : (ckR e.rs a == 0) = false := by simp [hck]
      have hu : Hid (∀ (v : Value) en w', Below w.heap.size w w' → en = .returned (.tuple #[.slice none 0 0, .int .i64 (ckR e.rs a)]) → AskPost e s w en w') := fun v en w' hb hen => ⟨hb, by rw [HA.out]; exact .inl ⟨HCK.out, hen⟩⟩
      generalize ckR e.rs a = ck at *
      go_wp2_with (go_at_call 42; refine (hckc.out _ hbA.out.1).mono ?_; rintro e' W2 ⟨rfl, hb2⟩; obtain ⟨p1, hb3, hb4⟩ := hbox.out W2 hb2)
      go_ret2
      exact hu.out undef _ _ hb3 rfl

end Go.Proofs.YtjajnhemgphefaaGreatDoor

namespace Go.Proofs.YtjajnhemgphefaaGreatDoor
open Go.RowKit Go.Shelf Go.Maps
set_option linter.unusedVariables false
set_option linter.unusedSimpArgs false

/-- The engine's own block, and the row of its facts, are changed. -/
theorem EngV.put {W W' : World} {S : Nat → Prop} {be : Nat} {e e' : Eg} {vr vn vk vf vn' vk' : Value} {bm bm' rb b45 b87 : Nat} {bfs : List Nat} {Sf : Nat → Nat → Prop} (h : EngV W S be e vr vn vk vf bm rb b45 b87 bfs Sf)
    (hc : Chg W W' (fun k => k = be ∨ vk.ownBlock = some k)) (hrs : e'.rs = e.rs) (hfds : e'.fds = e.fds)
    (blk : W'.heap[be]? = some (Obj.cells #[vr, .int .i64 e'.win, .int .i64 e'.lat, .int .i64 e'.que, .int .i64 e'.mark, vn', vk', .map (some bm'), vf] 101 (0, 0)))
    (names : W'.ownsRow 0 9 1 vn' e'.names.length (e'.names.map Value.string)) (kept : W'.ownsRow 0 161 4 vk' e'.kept.length (e'.kept.flatMap lastC)) (md : MdAt W' bm' 5000 e'.M) :
    EngV W' (fun k => (S k ∧ vk.ownBlock ≠ some k) ∨ vk'.ownBlock = some k) be e' vr vn' vk' vf bm' rb b45 b87 bfs Sf := by
  have hex : ∀ (j : Nat) (c : Array Value) (t : TypeId), W.heap[j]? = some (Obj.cells c t (0, 0)) → t ≠ 101 → t ≠ 161 → ¬ (j = be ∨ vk.ownBlock = some j) := by
    rintro j c t hj h1 h2 (rfl | hs)
    · rw [h.blk] at hj; cases hj; exact h1 rfl
    · obtain ⟨_, c', hcc⟩ := owns_block h.kept hs
      rw [hj] at hcc; cases hcc; exact h2 rfl
  have hkT : ∀ (j : Nat) (c : Array Value) (t : TypeId), W.heap[j]? = some (Obj.cells c t (0, 0)) → t ≠ 101 → t ≠ 161 → W'.heap[j]? = some (Obj.cells c t (0, 0)) := fun j c t hj h1 h2 => (hc.block j (Array.getElem?_eq_some_iff.1 hj).1 (hex j c t hj h1 h2)).trans hj
  have hF : ∀ j, FTy W j → ¬ (j = be ∨ vk.ownBlock = some j) := by
    rintro j ⟨c, t, h1, h2⟩
    exact hex j c t h1 (by rcases h2 with rfl | rfl <;> decide) (by rcases h2 with rfl | rfl <;> decide)
  have hv : ∀ g, vf.ownBlock = some g → ¬ (g = be ∨ vk.ownBlock = some g) := by
    intro g hg
    obtain ⟨_, c, hcc⟩ := owns_block h.frow hg
    exact hex g c _ hcc (by decide) (by decide)
  have hbk : vk.ownBlock ≠ some be := fun hs => by
    obtain ⟨_, c, hcc⟩ := owns_block h.kept hs
    rw [h.blk] at hcc; cases hcc
  refine ⟨blk, ?_, names, kept, md, by rw [hfds]; exact h.len, own_keep h.frow (fun g hg hlt => hc.block g hlt (hv g hg)), fun i hi hi' => ?_, h.sep, fun i k hk => ⟨.inl ⟨(h.sub i k hk).1, fun e => hF k (h.sub i k hk).2 (.inr e)⟩, (h.sub i k hk).2.same (hc.block k (h.sub i k hk).2.lt (hF k (h.sub i k hk).2))⟩, ⟨.inl ⟨h.own.1, hbk⟩, fun g hg => .inr hg, fun g hg => .inl ⟨h.own.2.2 g hg, fun e => hv g hg (.inr e)⟩⟩, fun k hk => ?_⟩
  · rw [hrs]
    exact h.rules.keep (fun j c t ht hj => hkT j c t hj (by rcases ht with rfl | rfl | rfl <;> decide) (by rcases ht with rfl | rfl | rfl <;> decide))
  · obtain ⟨b, hf⟩ := h.feed i hi (by rw [← hfds]; exact hi')
    refine ⟨b, ?_⟩
    have he : e'.fds[i]'hi' = e.fds[i]'(by rw [← hfds]; exact hi') := by simp only [hfds]
    rw [he]
    exact hf.keep (ex := fun k => k = be ∨ vk.ownBlock = some k) hc.block (fun k hs => hF k (h.sub i k hs).2) (fun k c hj => hex k c _ hj (by decide) (by decide))
  · rcases hk with ⟨h1, h2⟩ | hk
    · by_cases hke : k = be
      · subst hke; exact ⟨_, _, blk, .inl rfl⟩
      · exact (h.typ k h1).same (hc.block k (h.typ k h1).lt (fun e => e.elim hke h2))
    · obtain ⟨_, c, hcc⟩ := owns_block kept hk
      exact ⟨_, _, hcc, .inr (.inl rfl)⟩

/-- A feed is added. -/
theorem EngV.addFeed {W W' : World} {S : Nat → Prop} {be : Nat} {e : Eg} {vr vn vk vf vf' : Value} {bm rb b45 b87 : Nat} {bfs : List Nat} {Sf : Nat → Nat → Prop} (h : EngV W S be e vr vn vk vf bm rb b45 b87 bfs Sf) {B b : Nat} {f : Fs} {SB : Nat → Prop}
    (hc : Chg W W' (fun k => k = be ∨ vf.ownBlock = some k))
    (blk : W'.heap[be]? = some (Obj.cells #[vr, .int .i64 e.win, .int .i64 e.lat, .int .i64 e.que, .int .i64 e.mark, vn, vk, .map (some bm), vf'] 101 (0, 0)))
    (frow : W'.ownsRow 0 120 1 vf' (bfs.length + 1) ((bfs ++ [B]).map ptrV)) (hf : FdAt W' SB B b f) (hSB : ∀ k, SB k → W.heap.size ≤ k ∧ FTy W' k) :
    EngV W' (fun k => ((S k ∧ vf.ownBlock ≠ some k) ∨ vf'.ownBlock = some k) ∨ SB k) be { e with fds := e.fds ++ [f] } vr vn vk vf' bm rb b45 b87 (bfs ++ [B]) (fun i k => if i = bfs.length then SB k else Sf i k) := by
  have hex : ∀ (j : Nat) (c : Array Value) (t : TypeId), W.heap[j]? = some (Obj.cells c t (0, 0)) → t ≠ 101 → t ≠ 120 → ¬ (j = be ∨ vf.ownBlock = some j) := by
    rintro j c t hj h1 h2 (rfl | hs)
    · rw [h.blk] at hj; cases hj; exact h1 rfl
    · obtain ⟨_, c', hcc⟩ := owns_block h.frow hs
      rw [hj] at hcc; cases hcc; exact h2 rfl
  have hkT : ∀ (j : Nat) (c : Array Value) (t : TypeId), W.heap[j]? = some (Obj.cells c t (0, 0)) → t ≠ 101 → t ≠ 120 → W'.heap[j]? = some (Obj.cells c t (0, 0)) := fun j c t hj h1 h2 => (hc.block j (Array.getElem?_eq_some_iff.1 hj).1 (hex j c t hj h1 h2)).trans hj
  have hF : ∀ j, FTy W j → ¬ (j = be ∨ vf.ownBlock = some j) := by
    rintro j ⟨c, t, h1, h2⟩
    exact hex j c t h1 (by rcases h2 with rfl | rfl <;> decide) (by rcases h2 with rfl | rfl <;> decide)
  have hv : ∀ g, vk.ownBlock = some g → ¬ (g = be ∨ vf.ownBlock = some g) := by
    intro g hg
    obtain ⟨_, c, hcc⟩ := owns_block h.kept hg
    exact hex g c _ hcc (by decide) (by decide)
  have hbk : vf.ownBlock ≠ some be := fun hs => by
    obtain ⟨_, c, hcc⟩ := owns_block h.frow hs
    rw [h.blk] at hcc; cases hcc
  refine ⟨blk, h.rules.keep (fun j c t ht hj => hkT j c t hj (by rcases ht with rfl | rfl | rfl <;> decide) (by rcases ht with rfl | rfl | rfl <;> decide)), owns_kept h.names (fun g c _ hj => hkT g c _ hj (by decide) (by decide)), own_keep h.kept (fun g hg hlt => hc.block g hlt (hv g hg)), h.md.kept (fun j es c hm => (hc.block j (Array.getElem?_eq_some_iff.1 hm).1 (fun hs => ?_)).trans hm), by simp [h.len], by rw [List.length_append]; exact frow, fun i hi hi' => ?_, fun i j hij k h1 h2 => ?_, fun i k hk => ?_, ⟨.inl (.inl ⟨h.own.1, hbk⟩), fun g hg => .inl (.inl ⟨h.own.2.1 g hg, fun e => hv g hg (.inr e)⟩), fun g hg => .inl (.inr hg)⟩, fun k hk => ?_⟩
  · rcases hs with rfl | hs
    · rw [h.blk] at hm; cases hm
    · obtain ⟨_, c', hcc⟩ := owns_block h.frow hs
      rw [hm] at hcc; cases hcc
  · have hle := h.len
    by_cases hib : i = bfs.length
    · subst hib
      refine ⟨b, ?_⟩
      have e1 : (bfs ++ [B])[bfs.length]'hi = B := by simp
      have e2 : (e.fds ++ [f])[bfs.length]'hi' = f := by simp [hle]
      rw [e1, e2]
      simpa using hf
    · have hi2 : i < bfs.length := by simp at hi; omega
      obtain ⟨b', hf'⟩ := h.feed i hi2 (by omega)
      refine ⟨b', ?_⟩
      have e1 : (bfs ++ [B])[i]'hi = bfs[i] := List.getElem_append_left hi2
      have e2 : (e.fds ++ [f])[i]'hi' = e.fds[i]'(by omega) := List.getElem_append_left (by omega)
      rw [e1, e2]
      simp only [if_neg hib]
      exact hf'.keep (ex := fun k => k = be ∨ vf.ownBlock = some k) hc.block (fun k hs => hF k (h.sub i k hs).2) (fun k c hj => hex k c _ hj (by decide) (by decide))
  · by_cases hib : i = bfs.length
    · have hjb : j ≠ bfs.length := by omega
      simp only [if_pos hib] at h1
      simp only [if_neg hjb] at h2
      have := (hSB k h1).1
      have := (h.sub j k h2).2.lt
      omega
    · simp only [if_neg hib] at h1
      by_cases hjb : j = bfs.length
      · simp only [if_pos hjb] at h2
        have := (hSB k h2).1
        have := (h.sub i k h1).2.lt
        omega
      · simp only [if_neg hjb] at h2
        exact h.sep i j hij k h1 h2
  · by_cases hib : i = bfs.length
    · simp only [if_pos hib] at hk
      exact ⟨.inr hk, (hSB k hk).2⟩
    · simp only [if_neg hib] at hk
      have hs := h.sub i k hk
      exact ⟨.inl (.inl ⟨hs.1, fun e => hF k hs.2 (.inr e)⟩), hs.2.same (hc.block k hs.2.lt (hF k hs.2))⟩
  · rcases hk with (⟨h1, h2⟩ | hk) | hk
    · by_cases hke : k = be
      · subst hke; exact ⟨_, _, blk, .inl rfl⟩
      · exact (h.typ k h1).same (hc.block k (h.typ k h1).lt (fun e => e.elim hke h2))
    · obtain ⟨_, c, hcc⟩ := owns_block frow hk
      exact ⟨_, _, hcc, .inr (.inr (.inl rfl))⟩
    · exact (hSB k hk).2.w

end Go.Proofs.YtjajnhemgphefaaGreatDoor

namespace Go.Proofs.YtjajnhemgphefaaGreatDoor
open Go.RowKit Go.Shelf Go.Maps
set_option linter.unusedVariables false
set_option linter.unusedSimpArgs false

/-- What an engine's method does to memory: it is an engine still. -/
def EngPost (S : Nat → Prop) (be : Nat) (e' : Eg) (w w' : World) : Prop := ∃ S', EngAt w' S' be e' ∧ (∀ k, S' k → S k ∨ w.heap.size ≤ k) ∧ Chg w w' S
theorem EngPost.same {w w' : World} {S : Nat → Prop} {be : Nat} {e : Eg} (h : EngAt w S be e) (hb : Below w.heap.size w w') : EngPost S be e w w' := ⟨S, h.below hb, fun _ hk => .inl hk, Chg.ofBelow _ hb⟩
theorem EngPost.trans {w w1 w2 : World} {S : Nat → Prop} {be : Nat} {e1 e2 : Eg} (h : EngPost S be e1 w w1) (k : ∀ S1, EngAt w1 S1 be e1 → EngPost S1 be e2 w1 w2) : EngPost S be e2 w w2 := by
  obtain ⟨S1, h1, h2, h3⟩ := h
  obtain ⟨S2, k1, k2, k3⟩ := k S1 h1
  refine ⟨S2, k1, fun j hj => ?_, k3.os.trans h3.os, k3.tape.trans h3.tape, k3.output.trans h3.output, Nat.le_trans h3.size k3.size, fun j hj hs => (k3.block j (Nat.lt_of_lt_of_le hj h3.size) (fun e => ?_)).trans (h3.block j hj hs)⟩
  · rcases k2 j hj with e | e
    · exact h2 j e
    · exact .inr (Nat.le_trans h3.size e)
  · rcases h2 j e with e | e
    · exact hs e
    · omega

/-- A fact is kept. -/
theorem acc_mem {w W5 w1 : World} {S : Nat → Prop} {be : Nat} {e : Eg} {vr vn vk vf vn' v' : Value} {bm rb b45 b87 nb : Nat} {bfs : List Nat} {Sf : Nat → Nat → Prop} (hv : EngV w S be e vr vn vk vf bm rb b45 b87 bfs Sf) (hb : Below w.heap.size w W5)
    {ns : List ByteArray} (hnm : W5.ownsRow nb 9 1 vn' ns.length (ns.map Value.string)) {d : Gd × Int} (O : Obj) (hown1 : w1.ownsRow 0 161 4 v' (e.kept.length + 1) (e.kept.flatMap lastC ++ lastC d))
    (hgrow : ((W5.setCell ⟨be, 5, none⟩ vn').alloc O).grownBy w1 vk.ownBlock) (hat : v'.ownBlock = vk.ownBlock ∨ v'.ownBlock = some ((W5.setCell ⟨be, 5, none⟩ vn').alloc O).heap.size) :
    w1.cell? ⟨be, 6, none⟩ = some vk ∧ w1.frozen? ⟨be, 6, none⟩ = false ∧ EngPost S be { e with names := ns, kept := e.kept ++ [d] } w (w1.setCell ⟨be, 6, none⟩ v') := by
  have h5 := hv.below hb
  have hbe := (Array.getElem?_eq_some_iff.1 h5.blk).1
  have hbk : vk.ownBlock ≠ some be := fun hs => by
    obtain ⟨_, c, hcc⟩ := owns_block h5.kept hs
    rw [h5.blk] at hcc; cases hcc
  have hsz : ((W5.setCell ⟨be, 5, none⟩ vn').alloc O).heap.size = W5.heap.size + 1 := by simp
  have b1 : w1.heap[be]? = some (Obj.cells #[vr, .int .i64 e.win, .int .i64 e.lat, .int .i64 e.que, .int .i64 e.mark, vn', vk, .map (some bm), vf] 101 (0, 0)) := by
    refine (hgrow.block be (by rw [hsz]; omega) (fun e => hbk e.symm)).trans ?_
    exact (Below.heap_alloc _ _ _ (by simpa using hbe)).trans (heap_set h5.blk 5 vn')
  have hc1 : Chg W5 w1 (fun k => k = be ∨ vk.ownBlock = some k) := (((Chg.refl W5 _).setCell ⟨be, 5, none⟩ vn' (fun _ => .inl rfl)).alloc O).grown hgrow (fun k hk _ => .inr hk)
  have hc2 : Chg W5 (w1.setCell ⟨be, 6, none⟩ v') (fun k => k = be ∨ vk.ownBlock = some k) := hc1.setCell ⟨be, 6, none⟩ v' (fun _ => .inl rfl)
  have hty : ∀ (k : Nat) (c : Array Value) (t : TypeId), W5.heap[k]? = some (Obj.cells c t (0, 0)) → t ≠ 101 → t ≠ 161 → ¬ (k = be ∨ vk.ownBlock = some k) := by
    rintro j c t hj h1 h2 (rfl | hs)
    · rw [h5.blk] at hj; cases hj; exact h1 rfl
    · obtain ⟨_, c', hcc⟩ := owns_block h5.kept hs
      rw [hj] at hcc; cases hcc; exact h2 rfl
  have hput := h5.put (W' := w1.setCell ⟨be, 6, none⟩ v') (e' := { e with names := ns, kept := e.kept ++ [d] }) (vn' := vn') (vk' := v') (bm' := bm) hc2 rfl rfl (heap_set b1 6 v')
    (own_keep (ownsRow_lower hnm (Nat.zero_le _)) (fun g hg hlt => by
      obtain ⟨_, c, hcc⟩ := owns_block hnm hg
      exact hc2.block g hlt (hty g c _ hcc (by decide) (by decide))))
    (by
      show World.ownsRow _ 0 161 4 v' (e.kept ++ [d]).length ((e.kept ++ [d]).flatMap lastC)
      rw [List.length_append, List.flatMap_append]
      simp only [List.length_cons, List.length_nil, Nat.zero_add, List.flatMap_cons, List.flatMap_nil, List.append_nil]
      exact owns_set hown1 ⟨be, 6, none⟩ v' (owns_ne hown1 b1 (by decide)))
    (h5.md.kept (fun j es c hm => (hc2.block j (Array.getElem?_eq_some_iff.1 hm).1 (by
      rintro (rfl | hs)
      · rw [h5.blk] at hm; cases hm
      · obtain ⟨_, c', hcc⟩ := owns_block h5.kept hs
        rw [hm] at hcc; cases hcc)).trans hm))
  refine ⟨by simp [World.cell?, b1], by simp [World.frozen?, b1], _, ⟨_, _, _, _, _, _, _, _, _, _, hput⟩, fun k hk => ?_, ?_⟩
  · rcases hk with ⟨h1, _⟩ | h1
    · exact .inl h1
    · rcases hat with e1 | e1
      · exact .inl (hv.own.2.1 k (e1.symm.trans h1))
      · right
        rw [e1, hsz] at h1
        cases h1
        have := hb.size; omega
  · refine ⟨hc2.os.trans hb.os, hc2.tape.trans hb.tape, hc2.output.trans hb.output, Nat.le_trans hb.size hc2.size, fun k hk hs => (hc2.block k (Nat.lt_of_lt_of_le hk hb.size) (fun e => hs ?_)).trans (hb.block k hk)⟩
    rcases e with rfl | e
    · exact hv.own.1
    · exact hv.own.2.1 k e

/-- A feed is added. -/
theorem sub_mem {w W4 w1 : World} {S : Nat → Prop} {be : Nat} {e : Eg} {vr vn vk vf va v' : Value} {bm rb b45 b87 bt B : Nat} {bfs : List Nat} {Sf : Nat → Nat → Prop} (hv : EngV w S be e vr vn vk vf bm rb b45 b87 bfs Sf) (hb : Below w.heap.size w W4)
    {a : Am} (hB : w.heap.size ≤ B) (hB4 : W4.heap[B]? = some (Obj.cells #[.string a.rel, va, .bool true, .slice none 0 0, .slice none 0 0, .int .i64 0] 198 (0, 0))) (hs : SealT W4 bt va a.args) (O : Obj) (hown1 : w1.ownsRow 0 120 1 v' (bfs.length + 1) (bfs.map ptrV ++ [ptrV B]))
    (hgrow : (W4.alloc O).grownBy w1 vf.ownBlock) (hat : v'.ownBlock = vf.ownBlock ∨ v'.ownBlock = some (W4.alloc O).heap.size) :
    w1.cell? ⟨be, 8, none⟩ = some vf ∧ w1.frozen? ⟨be, 8, none⟩ = false ∧ EngPost S be { e with fds := e.fds ++ [⟨a, true, [], [], 0⟩] } w (w1.setCell ⟨be, 8, none⟩ v') := by
  have h4 := hv.below hb
  have hbe := (Array.getElem?_eq_some_iff.1 h4.blk).1
  have hbk : vf.ownBlock ≠ some be := fun hs => by
    obtain ⟨_, c, hcc⟩ := owns_block h4.frow hs
    rw [h4.blk] at hcc; cases hcc
  have hsz : (W4.alloc O).heap.size = W4.heap.size + 1 := by simp
  have b1 : w1.heap[be]? = some (Obj.cells #[vr, .int .i64 e.win, .int .i64 e.lat, .int .i64 e.que, .int .i64 e.mark, vn, vk, .map (some bm), vf] 101 (0, 0)) :=
    (hgrow.block be (by rw [hsz]; omega) (fun e => hbk e.symm)).trans ((Below.heap_alloc _ _ _ hbe).trans h4.blk)
  have hc1 : Chg W4 w1 (fun k => k = be ∨ vf.ownBlock = some k) := ((Chg.refl W4 _).alloc O).grown hgrow (fun k hk _ => .inr hk)
  have hc2 : Chg W4 (w1.setCell ⟨be, 8, none⟩ v') (fun k => k = be ∨ vf.ownBlock = some k) := hc1.setCell ⟨be, 8, none⟩ v' (fun _ => .inl rfl)
  have hty : ∀ (k : Nat) (c : Array Value) (t : TypeId), W4.heap[k]? = some (Obj.cells c t (0, 0)) → t ≠ 101 → t ≠ 120 → (w1.setCell ⟨be, 8, none⟩ v').heap[k]? = some (Obj.cells c t (0, 0)) := by
    intro j c t hj h1 h2
    refine (hc2.block j (Array.getElem?_eq_some_iff.1 hj).1 ?_).trans hj
    rintro (rfl | hs)
    · rw [h4.blk] at hj; cases hj; exact h1 rfl
    · obtain ⟨_, c', hcc⟩ := owns_block h4.frow hs
      rw [hj] at hcc; cases hcc; exact h2 rfl
  have hcw : Chg w (w1.setCell ⟨be, 8, none⟩ v') (fun k => k = be ∨ vf.ownBlock = some k) := ⟨hc2.os.trans hb.os, hc2.tape.trans hb.tape, hc2.output.trans hb.output, Nat.le_trans hb.size hc2.size, fun k hk hs => (hc2.block k (Nat.lt_of_lt_of_le hk hb.size) hs).trans (hb.block k hk)⟩
  have hBB := hty B _ _ hB4 (by decide) (by decide)
  have hadd := hv.addFeed (W' := w1.setCell ⟨be, 8, none⟩ v') (vf' := v') (B := B) (b := bt) (f := ⟨a, true, [], [], 0⟩) (SB := fun k => k = B) hcw (heap_set b1 8 v')
    (by rw [List.map_append]; exact owns_set hown1 ⟨be, 8, none⟩ v' (owns_ne hown1 b1 (by decide)))
    ⟨va, _, _, hBB, hs.kept (fun k c _ hc => hty k c _ hc (by decide) (by decide)), ⟨rfl, .inl ⟨rfl, rfl⟩⟩, ⟨rfl, .inl ⟨rfl, rfl⟩⟩, fun g hg => (by cases hg), fun g hg => (by cases hg), rfl⟩
    (fun k hk => by subst hk; exact ⟨hB, _, _, hBB, .inl rfl⟩)
  refine ⟨by simp [World.cell?, b1], by simp [World.frozen?, b1], _, ⟨_, _, _, _, _, _, _, _, _, _, hadd⟩, fun k hk => ?_, ?_⟩
  · rcases hk with (⟨h1, _⟩ | h1) | h1
    · exact .inl h1
    · rcases hat with e1 | e1
      · exact .inl (hv.own.2.2 k (e1.symm.trans h1))
      · right
        rw [e1, hsz] at h1
        cases h1
        have := hb.size; omega
    · right; rw [h1]; exact hB
  · refine hcw.mono (fun k _ e => ?_)
    rcases e with rfl | e
    · exact hv.own.1
    · exact hv.own.2.2 k e

end Go.Proofs.YtjajnhemgphefaaGreatDoor
