/-
  The statement Ebbed: what its engine answers, call by call.
  The statement Ebbed: its walk.
  A slice of edges that is handed in, and the two tables of unicode/utf8: for the cards.
  Proved: for every list of edges and every number handed to it, the statement's function Ebbed answers true, and what was handed in reads as before.
  Conditions: package unicode/utf8's two tables hold what the program's text lays (the card ties them).
-/
import Derived.Test.YtjajnhemgphefaaGreatDoorJbEdD
import Derived.Deep.RegionHeld3
import Derived.Test.YtjajnhemgphefaaGreatDoorCards
import Derived.Test.YtjajnhemgphefaaGreatDoorTie
import Derived.ProofKit
import Derived.OpenShut
import Derived.Carry
import Derived.Deep.DeepHandedRow
import Derived.Lib.LaidU8T
import Derived.SevenTiedAt
import Derived.Deep.Slices
namespace Go.Proofs.YtjajnhemgphefaaGreatDoor
open Go.RowKit Go.Shelf Go.Maps
set_option linter.unusedVariables false
set_option linter.unusedSimpArgs false

theorem kask2 {w W : World} {be : Nat} {bs : List Nat} {e : Eg} (h : KSt w be bs e W) (hT : Lib.Utf8Tabs 0 1 w) (s : ByteArray) (hs : s.size ≤ 4611686018427387904) (a : Am) (ha : atomR s = some a) (hn : ∀ t ∈ a.args, t.num < 6) (hck : ckR e.rs a = 0) :
    Calls Tryz.prog 25 #[.pointer (some ⟨be, 0, none⟩), .string s] W fun en W' => ∃ (oa : Option Addr) (oc : Nat) (gs : List Gd), en = .returned (.tuple #[.slice oa gs.length oc, .int .i64 0]) ∧ fitP e.M a gs ∧ W'.ownsRow W.heap.size 9 1 (.slice oa gs.length oc) gs.length ((textsOf gs).map strV) ∧ KSt w be ((Value.slice oa gs.length oc).ownBlock.toList ++ bs) e W' ∧ Kept bs W W' := by
  obtain ⟨S, h1, h2⟩ := h.eng
  refine (ask_any S be e s W h1 h.ok hs (Utf8Tabs_below hT h.below) (fun b hb => by rw [ha] at hb; cases hb; exact hn)).mono ?_
  rintro en W' ⟨k1, k2⟩
  rw [ha] at k2
  rcases k2 with ⟨k2, _⟩ | ⟨_, v, gs, k3, k4, k5⟩
  · exact absurd hck k2
  · obtain ⟨oa, oc, hof⟩ := owns_form k5
    subst hof
    rw [textsOf_len] at k4 k5
    refine ⟨oa, oc, gs, k4, k3, k5, h.put (Chg.ofBelow (fun _ => False) k1) (fun _ _ h => h.elim) (fun b hb => ?_), (h.same k1).2⟩
    rcases List.mem_append.1 hb with hb | hb
    · have hv : (Value.slice oa gs.length oc).ownBlock = some b := by simpa using hb
      obtain ⟨g1, c, g2⟩ := owns_block k5 hv
      exact ⟨.inr g1, (Array.getElem?_eq_some_iff.1 g2).1⟩
    · exact ⟨.inl hb, Nat.lt_of_lt_of_le (h.lt b hb) k1.size⟩
def p40 (z : Int) : Nat := (pickZ z 40).toNat
theorem p40_lt (z : Int) : p40 z < 40 := by
  have := pickZ_bounds z 40 (by decide)
  unfold p40; omega
section
variable {w W : World} {be : Nat}
theorem eb_insert (h : ∃ e, EbE e ∧ KSt w be [] e W) (hT : Lib.Utf8Tabs 0 1 w) (z : Int × Int × Int) :
    Calls Tryz.prog 20 #[.pointer (some ⟨be, 0, none⟩), .string (ofB bEd (p6 z.1) (p6 z.2.1)), .int .i64 (pickZ z.2.2 40)] W fun en W' => ∃ r, en = .returned (.int .i64 r) ∧ (∃ e, EbE e ∧ KSt w be [] e W') := by
  obtain ⟨e, h1, h2⟩ := h
  have e40 : pickZ z.2.2 40 = (p40 z.2.2 : Int) := by unfold p40; rw [Int.toNat_of_nonneg (pickZ_bounds _ _ (by decide)).1]
  rw [e40]
  have h40 := p40_lt z.2.2
  refine (kinsert h2 hT (ofB bEd (p6 z.1) (p6 z.2.1)) (p40 z.2.2) (by show (4 + 5 : Nat) ≤ _; decide) (fun c hc => by rw [atom_e (p6_lt _) (p6_lt _)] at hc; cases hc; exact ⟨am_ok _ (by decide) _ _, am_nums _ _ _⟩)).mono ?_
  rintro en W' ⟨k1, k2, _⟩
  exact ⟨_, k1, _, eb_ins h1 (p6_lt _) (p6_lt _) (by omega), k2⟩
theorem eb_tk {m : Int} (h : ∃ e, EbT m e ∧ KSt w be [] e W) (hm : 0 ≤ m) {c : Int} (hc : 0 ≤ c ∧ c ≤ 1000000) :
    Calls Tryz.prog 22 #[.pointer (some ⟨be, 0, none⟩), .int .i64 c] W fun en W' => ∃ r, en = .returned (.tuple #[.int .i64 r, .int .i64 0]) ∧ Hid (∃ e, EbT (max m (c - 3)) e ∧ KSt w be [] e W') := by
  obtain ⟨e, h1, h2⟩ := h
  refine (ktick h2 c).mono ?_
  rintro en W' ⟨e', r, k1, k2, k3, _⟩
  obtain ⟨g1, g2⟩ := ebt_tick h1 hm hc k1
  rw [g1] at k2
  exact ⟨r.1, k2, e', g2, k3⟩
/-- Block b: the answer of the first Ask. -/
def EbA (w : World) (be b : Nat) (P : Eg → Prop) (W : World) : Prop := ∃ e, P e ∧ KSt w be [b] e W ∧ W.cell? ⟨b, 0, none⟩ = some (.string txtAA)
theorem kept_cell {bs : List Nat} {W W' : World} (h : Kept bs W W') {b : Nat} (hb : b ∈ bs) (j : Nat) : W'.cell? ⟨b, j, none⟩ = W.cell? ⟨b, j, none⟩ := World.cell?_of_block (a := ⟨b, j, none⟩) (h b hb)
theorem eb_ask (h : ∃ e, EbO e ∧ KSt w be [] e W) (hT : Lib.Utf8Tabs 0 1 w) :
    Calls Tryz.prog 25 #[.pointer (some ⟨be, 0, none⟩), .string txtXY] W fun en W' => ∃ (b oc : Nat), en = .returned (.tuple #[.slice (some ⟨b, 0, none⟩) 1 oc, .int .i64 0]) ∧ Hid (EbA w be b EbO W') := by
  obtain ⟨e, h1, h2⟩ := h
  refine (kask2 h2 hT txtXY (by decide) aPX atom_xy (by intro t ht; simp only [aPX, List.mem_cons, List.not_mem_nil, or_false] at ht; rcases ht with rfl | rfl <;> decide) (by
    unfold ckR
    show (if arR e.rs bPa = 0 then (7 : Int) else if arR e.rs bPa = 2 then 0 else 4) = 0
    rw [h1.pe.rs, e_arP]; rfl)).mono ?_
  rintro en W' ⟨oa, oc, gs, k1, k2, k3, k4, k5⟩
  obtain ⟨g1, g2⟩ := eb_fit h1 k2
  have ht : textsOf gs = [txtAA.data.toList] := by
    have hm : (textsOf gs).map (fun t => (⟨t.toArray⟩ : ByteArray)) = [txtAA] := g2
    match hx : textsOf gs, hm with
    | [t], hm =>
      simp only [List.map_cons, List.map_nil, List.cons.injEq, and_true] at hm
      rw [← hm]
  rw [g1] at k1 k3 k4
  rw [ht] at k3
  obtain ⟨b, c, e0, x0⟩ := row_str (l := [txtAA.data.toList]) k3 (k := 0) (by decide)
  cases e0
  exact ⟨b, oc, k1, e, h1, k4, x0⟩
theorem eb_until {b : Nat} (h : EbA w be b EbO W) (hT : Lib.Utf8Tabs 0 1 w) :
    Calls Tryz.prog 24 #[.pointer (some ⟨be, 0, none⟩), .string txtAA] W fun en W' => en = .returned (.tuple #[.int .i64 2000000, .int .i64 0]) ∧ Hid (EbA w be b EbO W') := by
  obtain ⟨e, h1, h2, h3⟩ := h
  refine (kuntil h2 hT txtAA (by decide) (fun c hc => by unfold txtAA at hc; rw [atom_p (by decide) (by decide)] at hc; cases hc; exact am_nums _ _ _)).mono ?_
  rintro en W' ⟨k1, k2, k3⟩
  rw [until_aa h1] at k1
  exact ⟨k1, e, h1, k2, (kept_cell k3 List.mem_cons_self 0).trans h3⟩
theorem eb_rest {b : Nat} (h : EbA w be b EbO W) (hT : Lib.Utf8Tabs 0 1 w) :
    Calls Tryz.prog 25 #[.pointer (some ⟨be, 0, none⟩), .string txtEd] W fun en W' => ∃ (oa : Option Addr) (oc : Nat), en = .returned (.tuple #[.slice oa 0 oc, .int .i64 0]) ∧ Hid (EbA w be b EbO W') := by
  obtain ⟨e, h1, h2, h3⟩ := h
  refine (kask h2 hT txtEd (by decide) ⟨bEd, [v0T, v1T]⟩ atom_ed (by intro t ht; simp only [List.mem_cons, List.not_mem_nil, or_false] at ht; rcases ht with rfl | rfl <;> decide) (by
    unfold ckR
    show (if arR e.rs bEd = 0 then (7 : Int) else if arR e.rs bEd = 2 then 0 else 4) = 0
    rw [h1.pe.rs, e_arE]; rfl)).mono ?_
  rintro en W' ⟨oa, oc, gs, k1, k2, _, k4, k5⟩
  have hg := eb_noedge h1 k2
  subst hg
  exact ⟨oa, oc, k1, e, h1, k4, (kept_cell k5 List.mem_cons_self 0).trans h3⟩
/-- The feed is drawn. -/
theorem eb_drawn {b oc c : Nat} (h : EbA w be b EbO W) (hw : w.heap.size ≤ W.heap.size) {V : World} (hV : (W.alloc (.cells #[.slice none 0 0, .int .i64 0, .bool false] 61)).alloc (.cells #[.int .i64 95, .slice (some ⟨b, 0, none⟩) 1 oc] 64) = V) :
    Calls Tryz.prog 27 #[.pointer (some ⟨be, 0, none⟩), .int .i64 0, .pointer (some ⟨W.heap.size, 0, none⟩), .slice (some ⟨W.heap.size + 1, 0, none⟩) 1 c, .int .i64 1000] V fun en W' => en = .returned (.tuple #[.bool true, .bool true]) ∧ Hid (EbA w be b (EbN 0) W') := by
  obtain ⟨e, h1, h2, h3⟩ := h
  obtain ⟨a1, a2⟩ := h2.alloc (.cells #[.slice none 0 0, .int .i64 0, .bool false] 61)
  obtain ⟨b1, b2⟩ := a1.alloc (.cells #[.int .i64 95, .slice (some ⟨b, 0, none⟩) 1 oc] 64)
  rw [World.size_alloc, hV] at b1
  rw [hV] at b2
  have hbl := h2.lt b List.mem_cons_self
  have o1 : V.heap[W.heap.size]? = some (Obj.cells #[.slice none 0 0, .int .i64 0, .bool false] 61 (0, 0)) := (b2 _ List.mem_cons_self).trans (World.alloc_heap_new W _)
  have o2 : V.heap[W.heap.size + 1]? = some (Obj.cells #[.int .i64 95, .slice (some ⟨b, 0, none⟩) 1 oc] 64 (0, 0)) := by
    have := World.alloc_heap_new (W.alloc (.cells #[.slice none 0 0, .int .i64 0, .bool false] 61)) (.cells #[.int .i64 95, .slice (some ⟨b, 0, none⟩) 1 oc] 64)
    rw [World.size_alloc, hV] at this
    exact this
  have h3' : V.cell? ⟨b, 0, none⟩ = some (.string txtAA) := (kept_cell b2 (List.mem_cons_of_mem _ List.mem_cons_self) 0).trans ((kept_cell a2 List.mem_cons_self 0).trans h3)
  have hD : DrI w be [W.heap.size + 1, b] W.heap.size e ⟨[], 0, false⟩ V := by
    refine ⟨.slice none 0 0, b1.fewer (fun x hx => ?_), ⟨o1, ⟨rfl, .inl ⟨rfl, rfl⟩⟩⟩, ⟨hw, fun hm => ?_⟩, fun g hg => by cases hg⟩
    · simp only [Value.ownBlock, Option.map_none, Option.toList_none, List.nil_append, List.mem_cons, List.not_mem_nil, or_false] at hx ⊢
      rcases hx with rfl | rfl | rfl
      · exact .inr (.inl rfl)
      · exact .inl rfl
      · exact .inr (.inr rfl)
    · simp only [List.mem_cons, List.not_mem_nil, or_false] at hm
      rcases hm with hm | hm <;> omega
  have hS : SeenK [W.heap.size + 1, b] V (.slice (some ⟨W.heap.size + 1, 0, none⟩) 1 c) [(95, [txtAA])] := fun W' hk => by
    have p2 := (hk _ List.mem_cons_self).trans o2
    have p3 := (kept_cell hk (List.mem_cons_of_mem _ List.mem_cons_self) 0).trans h3'
    have pb : b < W'.heap.size := by
      cases hh : W'.heap[b]? with
      | none => simp [World.cell?, hh] at p3
      | some o => exact (Array.getElem?_eq_some_iff.1 hh).1
    refine ⟨[(95, .slice (some ⟨b, 0, none⟩) 1 oc)], ⟨_, _, rfl, fun k hk' => ?_⟩, rfl, fun k hk' hk'' => ?_⟩
    · have : k = 0 := by simp at hk'; omega
      subst this
      exact ⟨_, rfl, (Array.getElem?_eq_some_iff.1 p2).1, by simp [World.cell?, p2], by simp [World.cell?, p2], _, _, _, rfl⟩
    · have : k = 0 := by simp at hk'; omega
      subst this
      refine ⟨rfl, _, _, rfl, fun j hj => ?_⟩
      have : j = 0 := by simp at hj; omega
      subst this
      exact ⟨b, rfl, pb, p3⟩
  have hlk : Like [txtAA] (HoldM e.M) := ⟨by simp, fun x => by rw [List.mem_singleton, eb_hold h1]⟩
  have hC : DrC 0 [(95, [txtAA])] e := ⟨by rw [h1.fds]; decide, eb_on h1, ⟨[txtAA], by unfold findS; rw [h1.mark]; rfl, hlk⟩, fun f hf => by rw [h1.fds, List.mem_singleton] at hf; rw [hf]; decide, by rw [h1.mark]; decide, by decide, fun d hd => by rw [List.mem_singleton] at hd; rw [hd]; decide⟩
  have hF : Flw ⟨[], 0, false⟩ F0 e.M e.mark [(95, [txtAA])] := ⟨rfl, rfl, List.nodup_nil, fun x hx => (by cases hx), by decide, by decide, by rw [h1.mark]; decide, .inl ⟨rfl, rfl, rfl⟩⟩
  refine (drawn_any (k := 0) 1000 hC hD (by rw [h1.fds]; rfl) hF hS (by decide)).mono ?_
  rintro en W' ⟨bb, k1, ⟨f, F, g1, g2, g3, g4⟩, k3⟩
  have := k3 (by decide)
  subst this
  obtain ⟨v, d1, _, _, _⟩ := g1
  refine ⟨k1, { e with fds := e.fds.set 0 F }, ⟨⟨h1.pe.rs, h1.pe.win, h1.pe.lat, h1.pe.names, fun d hd => ?_⟩, h1.mark, h1.kept⟩, d1.fewer (fun x hx => ?_), (kept_cell g3 (List.mem_cons_of_mem _ List.mem_cons_self) 0).trans h3'⟩
  · have : d ∈ e.kept := hd
    rw [h1.kept] at this; cases this
  · rw [List.mem_singleton] at hx
    subst hx
    exact List.mem_cons_of_mem _ (List.mem_append_right _ (List.mem_cons_of_mem _ List.mem_cons_self))
theorem eb_more {b i : Nat} (h : EbA w be b (EbN i) W) (hi : i < 24) (hT : Lib.Utf8Tabs 0 1 w) :
    Calls Tryz.prog 20 #[.pointer (some ⟨be, 0, none⟩), .string (ofB bEd (i % 6) (i / 6)), .int .i64 100] W fun en W' => en = .returned (.int .i64 0) ∧ Hid (EbA w be b (EbN (i + 1)) W') := by
  obtain ⟨e, h1, h2, h3⟩ := h
  refine (kinsert h2 hT (ofB bEd (i % 6) (i / 6)) 100 (by show (4 + 5 : Nat) ≤ _; decide) (fun c hc => by rw [atom_e (by omega) (by omega)] at hc; cases hc; exact ⟨am_ok _ (by decide) _ _, am_nums _ _ _⟩)).mono ?_
  rintro en W' ⟨k1, k2, k3⟩
  obtain ⟨g1, g2⟩ := ebn_ins h1 hi
  rw [g1] at k1
  exact ⟨k1, _, g2, k2, (kept_cell k3 List.mem_cons_self 0).trans h3⟩
theorem eb_full {b : Nat} (h : EbA w be b (EbN 24) W) (hT : Lib.Utf8Tabs 0 1 w) :
    Calls Tryz.prog 20 #[.pointer (some ⟨be, 0, none⟩), .string (ofB bEd 5 5), .int .i64 100] W fun en W' => en = .returned (.int .i64 10) ∧ W'.cell? ⟨b, 0, none⟩ = some (.string txtAA) ∧ Hid (Below w.heap.size w W') := by
  obtain ⟨e, h1, h2, h3⟩ := h
  refine (kinsert h2 hT (ofB bEd 5 5) 100 (by show (4 + 5 : Nat) ≤ _; decide) (fun c hc => by rw [atom_e (by decide) (by decide)] at hc; cases hc; exact ⟨am_ok _ (by decide) _ _, am_nums _ _ _⟩)).mono ?_
  rintro en W' ⟨k1, k2, k3⟩
  rw [ebn_full h1] at k1
  exact ⟨k1, (kept_cell k3 List.mem_cons_self 0).trans h3, k2.below⟩
end

end Go.Proofs.YtjajnhemgphefaaGreatDoor

namespace Go.Proofs.YtjajnhemgphefaaGreatDoor
open Go.RowKit Go.Shelf Go.Maps
set_option linter.unusedVariables false
set_option linter.unusedSimpArgs false

theorem pick_y (z : Int) (w : World) (n : Int) (hz : IntOk z) (hn : n = 6 ∨ n = 40) : Calls Tryz.prog 19 #[.int .i64 z, .int .i64 n] w fun e w' => e = .returned (.int .i64 (pickZ z n)) ∧ w = w' := by
  refine (kpick_any z n w hz.1 hz.2 (by omega) (by omega)).mono ?_
  rintro e w' ⟨h1, h2⟩
  exact ⟨h1, h2.symm⟩
theorem of_y (z z' : Int) (w : World) : Calls Tryz.prog 21 #[.string bEd, .int .i64 (pickZ z 6), .int .i64 (pickZ z' 6)] w fun e w' => e = .returned (.string (ofB bEd (p6 z) (p6 z'))) ∧ w = w' := by
  have e1 : ∀ z, pickZ z 6 = (p6 z : Int) := fun z => by unfold p6; rw [Int.toNat_of_nonneg (pickZ_bounds _ _ (by decide)).1]
  rw [e1, e1]
  refine (kof_any bEd _ _ (by decide) (p6_lt _) (p6_lt _) w).mono ?_
  rintro e w' ⟨h1, h2⟩
  exact ⟨h1, h2.symm⟩
def txtFF : ByteArray := ⟨#[101, 100, 103, 101, 40, 102, 44, 102, 41]⟩
theorem ff_of : txtFF = ofB bEd 5 5 := by kernel_rfl

set_option maxRecDepth 100000 in
set_option maxHeartbeats 8000000 in
theorem ebbed_any (a0 : Option Addr) (cap : Nat) (l : List (Int × Int × Int)) (q : Int) (w : World) (hl : EdAt w a0 l) (hll : l.length ≤ maxLen) (hz : ∀ x ∈ l, IntOk x.1 ∧ IntOk x.2.1 ∧ IntOk x.2.2) (hq : IntOk q) (hT : Lib.Utf8Tabs 0 1 w) :
    Calls Tryz.prog 12 #[.slice a0 l.length cap, .int .i64 q] w fun e w' => e = .returned (.bool true) ∧ Below w.heap.size w w' := by
  have hpk : Hid (Calls Tryz.prog 19 #[.int .i64 q, .int .i64 50] w fun e w' => e = .returned (.int .i64 (pickZ q 50)) ∧ w = w') := (kpick_any q 50 w hq.1 hq.2 (by decide) (by decide)).mono (by rintro e w' ⟨h1, h2⟩; exact ⟨h1, h2.symm⟩)
  have hpb := pickZ_bounds q 50 (by decide)
  obtain ⟨n, hn⟩ : ∃ n, 1 + pickZ q 50 = n := ⟨_, rfl⟩
  have hnb : 1 ≤ n ∧ n ≤ 50 := by omega
  have hwr : IntKind.i64.wrap (1 + pickZ q 50) = n := by rw [hn]; exact wrap_small _ (by omega) (by omega)
  have hbg : Hid (Calls Tryz.prog 17 #[.string txtE, .int .i64 n] w fun e w' => ∃ be M, e = .returned (.pointer (some ⟨be, 0, none⟩)) ∧ Hid (KSt w be [] (newE rsE 20 3 n M) w')) := (begun_any txtE _ n w e_new (by decide) hT hnb).mono (by rintro e w' ⟨be, M, h1, h2, h3⟩; exact ⟨be, M, h1, h3⟩)
  have HT : Hid _ := hT
  have HL : Hid (EdAt w a0 l) := hl
  have HZ : Hid _ := hz
  have hlm : (l.length : Int) ≤ 9223372036854775807 := by unfold maxLen at hll; omega
  clear hT hl hz hq hn hpb
  go_enter Tryz.func12, Tryz.ntmps12
  go_wp2_with fail
  refine Calls.mono hpk.out ?_
  rintro e w' ⟨rfl, hw'⟩
  subst hw'
  go_wp2_with fail
  refine Calls.mono hbg.out ?_
  rintro e W0 ⟨be, M, rfl, hk0⟩
  have hsu : Hid (Calls Tryz.prog 26 #[.pointer (some ⟨be, 0, none⟩), .string bPa] W0 fun en W' => en = .returned (.tuple #[.int .i64 0, .int .i64 0]) ∧ Hid (∃ e, EbE e ∧ KSt w be [] e W')) := by
    refine (ksub hk0.out HT.out bPa (by decide)).mono ?_
    rintro en W' ⟨h1, h2, _⟩
    rw [e_sub] at h1 h2
    exact ⟨h1, _, eb_new, h2⟩
  clear hk0 hbg hpk
  go_wp2_with fail
  refine Calls.mono hsu.out ?_
  rintro e W1 ⟨rfl, h1⟩
  clear hsu
  have hpz : Hid (∀ (z : Int) W (n : Int), IntOk z → (n = 6 ∨ n = 40) → Calls Tryz.prog 19 #[.int .i64 z, .int .i64 n] W fun e w' => e = .returned (.int .i64 (pickZ z n)) ∧ W = w') := fun z W n h1 h2 => pick_y z W n h1 h2
  have hoz : Hid (∀ (z z' : Int) W, Calls Tryz.prog 21 #[.string bEd, .int .i64 (pickZ z 6), .int .i64 (pickZ z' 6)] W fun e w' => e = .returned (.string (ofB bEd (p6 z) (p6 z'))) ∧ W = w') := fun z z' W => of_y z z' W
  go_wp2_with fail
  go_loopw [8] (fun vi wr => ∃ i : Nat, vi = .int .i64 i ∧ i ≤ l.length ∧ Hid (∃ e, EbE e ∧ KSt w be [] e wr)) (fun vi _ => l.length - (intOf vi).toNat)
  case atStart => exact ⟨0, rfl, Nat.zero_le _, h1⟩
  case round =>
    clear h1
    obtain ⟨i, rfl, hi, hst⟩ := hrel
    by_cases hlt : i < l.length
    · have i1 : (i : Int) < (l.length : Int) := by omega
      obtain ⟨bb, off, e0, hbl, x0, x1, x2⟩ := HL.out i hlt
      subst e0
      have hzx := HZ.out _ (List.getElem_mem hlt)
      have HZX : Hid _ := hzx
      have hbw : Below w.heap.size w wr := by obtain ⟨e, _, hk⟩ := hst.out; exact hk.below
      have hall : Hid (∀ W, Below w.heap.size w W → W.cell? ⟨bb, off + i * 3, none⟩ = some (.int .i64 (l[i]).1) ∧ W.cell? ⟨bb, off + i * 3 + 1, none⟩ = some (.int .i64 (l[i]).2.1) ∧ W.cell? ⟨bb, off + i * 3 + 2, none⟩ = some (.int .i64 (l[i]).2.2)) := fun W hb => ⟨(hb.cell (p := ⟨bb, off + i * 3, none⟩) hbl).trans x0, (hb.cell (p := ⟨bb, off + i * 3 + 1, none⟩) hbl).trans x1, (hb.cell (p := ⟨bb, off + i * 3 + 2, none⟩) hbl).trans x2⟩
      clear x0 x1 x2 hzx
      generalize l[i] = z at *
      have hin : Hid (Calls Tryz.prog 20 #[.pointer (some ⟨be, 0, none⟩), .string (ofB bEd (p6 z.1) (p6 z.2.1)), .int .i64 (pickZ z.2.2 40)] wr.drew fun en W' => ∃ r, en = .returned (.int .i64 r) ∧ Hid (∃ e, EbE e ∧ KSt w be [] e W') ∧ (W'.cell? ⟨bb, off + i * 3, none⟩ = some (.int .i64 z.1) ∧ W'.cell? ⟨bb, off + i * 3 + 1, none⟩ = some (.int .i64 z.2.1) ∧ W'.cell? ⟨bb, off + i * 3 + 2, none⟩ = some (.int .i64 z.2.2))) := by
        refine (eb_insert (by obtain ⟨e, g1, g2⟩ := hst.out; exact ⟨e, g1, g2.drew⟩) HT.out z).mono ?_
        rintro en W' ⟨r, k1, e, k2, k3⟩
        exact ⟨r, k1, ⟨e, k2, k3⟩, hall.out W' k3.below⟩
      obtain ⟨bb0, bb1, bb2⟩ := hall.out wr.drew hbw.drew
      clear hall hst hbw
      go_wp2_with fail
      first | (go_region_held3 (fun w' => w'.cell? ⟨bb, off + i * 3, none⟩ = some (.int .i64 z.1) ∧ w'.cell? ⟨bb, off + i * 3 + 1, none⟩ = some (.int .i64 z.2.1) ∧ w'.cell? ⟨bb, off + i * 3 + 2, none⟩ = some (.int .i64 z.2.2)) (first | exact ⟨bb0, bb1, bb2⟩ | assumption) (first | (go_at_call 19; refine Calls.mono (hpz.out _ _ _ (by first | exact HZX.out.1 | exact HZX.out.2.1 | exact HZX.out.2.2) (by first | exact .inl rfl | exact .inr rfl)) ?_; rintro e' w' ⟨rfl, hw'⟩; subst hw') | (go_at_call 21; refine Calls.mono (hoz.out _ _ _) ?_; rintro e' w' ⟨rfl, hw'⟩; subst hw') | (go_at_call 20; refine Calls.mono hin.out ?_; rintro e' W3 ⟨r, rfl, hst3, hbx3⟩))) | fail
      clear bb0 bb1 bb2 hbx3 hin
      go_wp2
      refine ⟨⟨i + 1, by go_num, by omega, hst3⟩, by simp [intOf]; omega⟩
    · have h2 : Hid (∃ e, EbT 0 e ∧ KSt w be [] e wr) := by obtain ⟨e, g1, g2⟩ := hst.out; exact ⟨e, eb_start g1, g2⟩
      have i1 : ¬ (i : Int) < (l.length : Int) := by omega
      clear hst hpz hoz HZ HL
      go_wp2_with fail
      go_loopw [9] (fun vi wr => ∃ t : Nat, vi = .int .i64 t ∧ t ≤ 105 ∧ Hid (∃ j m, t = 7 * j ∧ m = max 0 ((t : Int) - 10) ∧ ∃ e, EbT m e ∧ KSt w be [] e wr)) (fun vi _ => 112 - (intOf vi).toNat)
      case atStart => exact ⟨0, rfl, Nat.zero_le _, ⟨0, 0, rfl, rfl, h2.out⟩⟩
      case round =>
        clear h2
        obtain ⟨t, rfl, ht, hst⟩ := hrel
        by_cases ht1 : t < 100
        · have t1 : (t : Int) < 100 := by omega
          obtain ⟨j, m, hj, hm, hs⟩ := hst.out
          have hs' : Hid (0 ≤ m ∧ (∃ e, EbT m e ∧ KSt w be [] e wr) ∧ ∃ j m', t + 7 = 7 * j ∧ m' = max 0 (((t + 7 : Nat) : Int) - 10) ∧ m' = max m ((t : Int) - 3)) := ⟨by omega, hs, j + 1, max m ((t : Int) - 3), by omega, by omega, rfl⟩
          have ht98 : t ≤ 98 := by omega
          clear hst hs hj hm
          go_wp2_with fail
          refine Calls.mono (eb_tk hs'.out.2.1 hs'.out.1 (c := (t : Int)) (by omega)) ?_
          rintro e W2 ⟨r, rfl, h3⟩
          have h4 : Hid (∃ j m, t + 7 = 7 * j ∧ m = max 0 (((t + 7 : Nat) : Int) - 10) ∧ ∃ e, EbT m e ∧ KSt w be [] e W2) := by
            obtain ⟨_, _, j', m', g1, g2, g3⟩ := hs'.out
            exact ⟨j', m', g1, g2, by rw [g3]; exact h3.out⟩
          clear h3 hs'
          go_wp2
          refine ⟨⟨t + 7, by go_num, by omega, h4⟩, by simp [intOf]; omega⟩
        · have t1 : ¬ (t : Int) < 100 := by omega
          have h5 : Hid (∃ e, EbO e ∧ KSt w be [] e wr) := by
            obtain ⟨j, m, hj, hm, e, g1, g2⟩ := hst.out
            have : m = 95 := by omega
            subst this
            exact ⟨e, eb_end g1, g2⟩
          clear hst
          go_wp2_with fail
          refine Calls.mono (eb_ask h5.out HT.out) ?_
          rintro e W2 ⟨b, oc, rfl, h6⟩
          clear h5
          have hun : Hid _ := eb_until h6.out HT.out
          go_wp2_with fail
          refine Calls.mono hun.out ?_
          rintro e W3 ⟨rfl, h7⟩
          clear h6 hun
          go_wp2_with fail
          refine Calls.mono (eb_rest h7.out HT.out) ?_
          rintro e W4 ⟨oa, oc', rfl, h8⟩
          clear h7
          have hdr : Hid _ := eb_drawn (oc := oc) (c := 1) h8.out (by obtain ⟨_, _, g, _⟩ := h8.out; exact g.below.size) rfl
          go_wp2_with fail
          refine Calls.mono hdr.out ?_
          rintro e W5 ⟨rfl, h9⟩
          clear hdr h8
          have hof : Hid (∀ (i : Nat) W, i < 24 → Calls Tryz.prog 21 #[.string bEd, .int .i64 ((i : Int) % 6), .int .i64 ((i : Int) / 6)] W fun e w' => e = .returned (.string (ofB bEd (i % 6) (i / 6))) ∧ W = w') := fun i W hi => by
            have e1 : (i : Int) % 6 = ((i % 6 : Nat) : Int) := by omega
            have e2 : (i : Int) / 6 = ((i / 6 : Nat) : Int) := by omega
            rw [e1, e2]
            exact (kof_any bEd (i % 6) (i / 6) (by decide) (Nat.mod_lt _ (by decide)) (by omega) W).mono (by rintro e w' ⟨h1, h2⟩; exact ⟨h1, h2.symm⟩)
          go_wp2_with fail
          go_loopw [22] (fun vi wr => ∃ n : Nat, vi = .int .i64 n ∧ n ≤ 24 ∧ Hid (EbA w be b (EbN n) wr)) (fun vi _ => 24 - (intOf vi).toNat)
          case atStart => exact ⟨0, rfl, Nat.zero_le _, h9⟩
          case round =>
            clear h9
            obtain ⟨k, rfl, hk, hst⟩ := hrel
            by_cases hk1 : k < 24
            · have k1 : (k : Int) < 24 := by omega
              go_wp2_with fail
              refine (hof.out k wr hk1).mono ?_
              rintro e w' ⟨rfl, hw'⟩
              subst hw'
              have hin : Hid _ := eb_more hst.out hk1 HT.out
              go_wp2_with fail
              refine Calls.mono hin.out ?_
              rintro e W6 ⟨rfl, h10⟩
              clear hin hst
              go_wp2
              refine ⟨⟨k + 1, by go_num, by omega, h10⟩, by simp [intOf]; omega⟩
            · obtain rfl : k = 24 := by omega
              have hin : Hid (Calls Tryz.prog 20 #[.pointer (some ⟨be, 0, none⟩), .string txtFF, .int .i64 100] wr fun en W' => en = .returned (.int .i64 10) ∧ W'.cell? ⟨b, 0, none⟩ = some (.string txtAA) ∧ Hid (Below w.heap.size w W')) := by rw [ff_of]; exact eb_full hst.out HT.out
              clear hst
              go_wp2_with fail
              refine Calls.mono hin.out ?_
              rintro e W6 ⟨rfl, hc, hb⟩
              clear hin
              have hpb : (txtAA.toList == [112, 97, 116, 104, 40, 97, 44, 97, 41]) = true := by kernel_rfl
              go_wp2
              go_ret
              exact ⟨rfl, hb.out⟩

end Go.Proofs.YtjajnhemgphefaaGreatDoor

namespace Go.Proofs.YtjajnhemgphefaaGreatDoor
open Go.ChangeShapes Go.WideShapes Go.ChangeAt Go.RowKit Go.Shelf
set_option linter.unusedVariables false
set_option linter.unusedSimpArgs false

theorem own : ownKnob Tryz.prog.godebug = none := by kernel_rfl
theorem laidOutP : laidOutB Tryz.prog = true := by kernel_rfl
theorem cellsInt : Tryz.prog.cellsOf 3 = 1 := by kernel_rfl
theorem cellsEdge : Tryz.prog.cellsOf 46 = 3 := by kernel_rfl
theorem add_at {b off k : Nat} : (⟨b, off, none⟩ : Addr).add k = ⟨b, off + k, none⟩ := by
  unfold Addr.add
  split
  · rename_i h; subst h; rfl
  · rfl
theorem cell_lt {W : World} {b off : Nat} {v : Value} (h : W.cell? ⟨b, off, none⟩ = some v) : b < W.heap.size := by
  cases hh : W.heap[b]? with
  | none => simp [World.cell?, hh] at h
  | some o => exact (Array.getElem?_eq_some_iff.1 hh).1
set_option maxRecDepth 100000 in
/-- A row of edges that is handed in. -/
theorem ed_open {H : Type} {enc : TypeId × Value → H} {W : World} {base : Nat} {spare : Nat → Bool} {held : Bool} {fuel : Nat} {a0 : Option Addr} {len cap : Nat} {x : DataW H × List MemPlace} (h : DataW.trod enc Tryz.prog W base spare held fuel 39 [.slice a0 len cap] = some x) :
    ∃ l : List (Int × Int × Int), l.length = len ∧ len ≤ maxLen ∧ EdAt W a0 l ∧ ∀ y ∈ l, IntOk y.1 ∧ IntOk y.2.1 ∧ IntOk y.2.2 := by
  rcases Go.Deep.open_slice Tryz.underlying39 h with ⟨hcs, _⟩ | ⟨a, len', cap', m, n, D, Pl, hcs, _, hl, hm, hmm, _, hx⟩
  · simp only [List.cons.injEq, Value.slice.injEq, and_true] at hcs
    obtain ⟨rfl, rfl, rfl⟩ := hcs
    exact ⟨[], rfl, Nat.zero_le _, fun i hi => absurd hi (Nat.not_lt_zero _), fun y hy => by cases hy⟩
  · simp only [List.cons.injEq, Value.slice.injEq, and_true] at hcs
    obtain ⟨rfl, rfl, rfl⟩ := hcs
    have hlm : len ≤ m := by rw [hmm]; split <;> omega
    have each : ∀ i, i < len → ∃ z : Int × Int × Int, W.cell? (a.add (i * 3)) = some (.int .i64 z.1) ∧ W.cell? (a.add (i * 3 + 1)) = some (.int .i64 z.2.1) ∧ W.cell? (a.add (i * 3 + 2)) = some (.int .i64 z.2.2) ∧ IntOk z.1 ∧ IntOk z.2.1 ∧ IntOk z.2.2 := by
      intro i hi
      obtain ⟨cs', h1, h2⟩ := hx i (by omega)
      rw [cellsEdge] at h1
      obtain ⟨_, hlen, hcell⟩ := World.cells?_some h1
      obtain ⟨xs, k, _, _, _, hxl, hf⟩ := DataW.trod_struct Tryz.underlying46 h2
      have hxl' : xs.length = 3 := hxl
      match xs, hxl', cs', hlen with
      | [y0, y1, y2], _, [v0, v1, v2], _ =>
        have g0 := hf 0 _ rfl
        have g1 := hf 1 _ rfl
        have g2 := hf 2 _ rfl
        simp [cellsInt] at g0 g1 g2
        obtain ⟨n0, e0, _, w0⟩ := DataW.trod_int Tryz.underlying3 g0
        obtain ⟨n1, e1, _, w1⟩ := DataW.trod_int Tryz.underlying3 g1
        obtain ⟨n2, e2, _, w2⟩ := DataW.trod_int Tryz.underlying3 g2
        simp only [List.cons.injEq, and_true] at e0 e1 e2
        subst e0 e1 e2
        have c0 := hcell 0 (by decide)
        have c1 := hcell 1 (by decide)
        have c2 := hcell 2 (by decide)
        rw [Go.Deep.add_add] at c0 c1 c2
        exact ⟨(n0, n1, n2), by simpa using c0, by simpa using c1, by simpa using c2, bounds_i64 w0, bounds_i64 w1, bounds_i64 w2⟩
    obtain ⟨f, hf⟩ := Go.Deep.choose_lt each
    refine ⟨(List.range len).map f, by simp, by omega, fun i hi => ?_, fun y hy => ?_⟩
    · have hi' : i < len := by simpa using hi
      obtain ⟨c0, c1, c2, _⟩ := hf i hi'
      obtain ⟨b, off, pr⟩ := a
      have hpn : pr = none := by
        cases pr with
        | none => rfl
        | some q =>
          exfalso
          have h00 := (hf 0 (by omega)).1
          have e0 : (⟨b, off, some q⟩ : Addr).add (0 * 3) = ⟨b, off, some q⟩ := by simp [Addr.add]
          rw [e0] at h00
          simp only [World.cell?] at h00
          split at h00
          · simp at h00
          · cases h00
      subst hpn
      rw [add_at] at c0 c1 c2
      refine ⟨b, off, rfl, cell_lt c0, ?_, ?_, ?_⟩
      · simpa using c0
      · simpa [Nat.add_assoc] using c1
      · simpa [Nat.add_assoc] using c2
    · obtain ⟨i, hi, rfl⟩ := List.mem_map.1 hy
      exact (hf i (List.mem_range.1 hi)).2.2.2

def uren : Ren :=
  { f := fun n => n
    t := fun
      | 5 => 5
      | 119 => 355
      | 138 => 357
      | 139 => 358
      | n => n
    g := fun
      | 3 => 0
      | 4 => 1
      | n => n }

theorem u8types : U8Types Tryz.prog uren := {
  t5 := by kernel_rfl
  t119 := by kernel_rfl
  t138 := by kernel_rfl
  t139 := by kernel_rfl }
theorem u8extra : U8Extra Tryz.prog uren := {
  n3 := by kernel_rfl
  n4 := by kernel_rfl
  y3 := by kernel_rfl
  y4 := by kernel_rfl
  c5 := by kernel_rfl
  c119 := by kernel_rfl
  c138 := by kernel_rfl }

theorem first_same : Rows.laid_unicode_utf8_first = Lib.firstData := by kernel_rfl
theorem accept_same : (Rows.laid_unicode_utf8_acceptRanges : DataW Unit) = Lib.acceptData := by kernel_rfl

end Go.Proofs.YtjajnhemgphefaaGreatDoor

namespace Go.Proofs.YtjajnhemgphefaaGreatDoor
open Go.ChangeShapes Go.WideShapes Go.ChangeAt Go.RowKit Go.Shelf
set_option linter.unusedVariables false
set_option linter.unusedSimpArgs false

theorem tabs {W : World} (h : laidMetH Tryz.prog Rows.ebbedRow.laid W) : Lib.Utf8Tabs 0 1 W := by
  have h2 : laidMet Tryz.prog Rows.ebbedRow.laid W := h
  refine utf8Tabs_of_readsT u8types u8extra (Lib.laidMet.reads h2 ?_) (Lib.laidMet.reads h2 ?_)
  · rw [← first_same]; simp [Rows.ebbedRow]
  · rw [← accept_same]; simp [Rows.ebbedRow]

set_option maxRecDepth 100000 in
theorem contract (H : Type) (enc : TypeId × Value → H) (W : World) (base : Nat) (args : Array Value) (ds gs : List (DataW H)) (before : List MemPlace)
    (hval : ∀ (j : Nat) t v, Tryz.f12.params[j]? = some t → args[j]? = some v → Value.okWide Tryz.prog W .any base t v)
    (hW : DataW.Whole enc Tryz.prog Tryz.f12.params.toList Rows.ebbedSpec.vars false W args.toList ds gs before) (hL : laidMetH Tryz.prog Rows.ebbedRow.laid W) :
    Calls Tryz.prog 12 args W fun e W' => ∃ v, e = .returned v ∧ Rows.ebbedSpec.post enc Tryz.prog Tryz.f12 false true false false W args v W' := by
  have hT := tabs hL
  have hW' := hW
  obtain ⟨p, q, hA0, hV, rfl, hfz, hnd⟩ := hW
  have hA : DataW.TrodAll enc Tryz.prog W 0 (fun _ => true) true Tryz.f12.params.toList args.toList ds p := hA0
  rw [Tryz.params12] at hA hval
  obtain ⟨v0, v1, d0, d1, p0, p1, rfl, rfl, rfl, h0, h1⟩ := trodAll_two hA
  obtain ⟨rfl, rfl⟩ := trodVars_none hV
  obtain ⟨nm, rfl, rfl, rfl, wn⟩ := open_int Tryz.underlying3 (hval 1 3 v1 rfl rfl) h1
  obtain ⟨a0, len, cap, rfl⟩ := okWide_slice Tryz.underlying39 (hval 0 39 v0 rfl rfl)
  clear hA0
  simp only [List.append_nil] at hW'
  have hlt : ∀ x ∈ p0, x.block < W.heap.size := fun x hx => by simpa using hW'.lt x hx
  have walk : Calls Tryz.prog 12 #[.slice a0 len cap, .int .i64 nm] W fun e w' => e = .returned (.bool true) ∧ Below W.heap.size W w' := by
    obtain ⟨fuel, hf⟩ := h0
    obtain ⟨l, rfl, hm, hed, hz⟩ := ed_open hf
    exact ebbed_any a0 cap l nm W hed hm hz (bounds_i64 wn) hT
  refine walk.mono fun e W2 ⟨he, hB⟩ => ?_
  subst he
  refine ⟨_, rfl, _, _, _, [], p0 ++ [], [], hW', ?_, ?_, rfl, hB.frame _, fun h => by cases h⟩
  · exact trodAll_mk1 (shut_bool Tryz.underlying4 _)
  · exact trodAll_mk2 (Below.trod laidOutP (by kernel_rfl) (of_decide_eq_true (by kernel_rfl)) h0 hB hlt) (shut_int Tryz.underlying3 wn)

end Go.Proofs.YtjajnhemgphefaaGreatDoor
