/-
  The engine: Ask.
  The statement Reset in plain data: one relation that is another; its facts, and what is told of them.
  What Folded and Ebbed call beside the program: place, like, find.
  What Folded and Ebbed call beside the program: find, take.
  What Folded and Ebbed call beside the program: take, of a Reset, an Add and a Marker.
  The engine in memory: its block and the row of its facts are changed; a feed is added.
  The engine in memory: a feed is added, a fact is kept.
  The engine: what accept and move call: the names copied, no facts to delete.
-/
import Derived.Test.YtjajnhemgphefaaGreatDoorJcEgM
import Derived.Test.YtjajnhemgphefaaGreatDoorJcWord
import Derived.KernelRfl
import Derived.Test.YtjajnhemgphefaaGreatDoorJcEgK
import Derived.Test.YtjajnhemgphefaaGreatDoorJcRangeM
import Derived.Test.YtjajnhemgphefaaGreatDoorJcEgE
import Derived.Test.YtjajnhemgphefaaGreatDoorJcGr
namespace Go.Proofs.YtjajnhemgphefaaGreatDoor
open Go.RowKit Go.Shelf Go.Maps
set_option linter.unusedVariables false
set_option linter.unusedSimpArgs false

/-- The texts of ground atoms, in order. -/
def textsOf (gs : List Gd) : List (List UInt8) := sortT (gs.map (fun g => (textG g).data.toList))
/-- What Ask answers. -/
def AskPost (e : Eg) (s : ByteArray) (w : World) (en : Ending) (w' : World) : Prop :=
  Below w.heap.size w w' ∧ match atomR s with
    | none => en = .returned (.tuple #[.slice none 0 0, .int .i64 2])
    | some a => (ckR e.rs a ≠ 0 ∧ en = .returned (.tuple #[.slice none 0 0, .int .i64 (ckR e.rs a)])) ∨
      (ckR e.rs a = 0 ∧ ∃ v gs, fitP e.M a gs ∧ en = .returned (.tuple #[v, .int .i64 0]) ∧ w'.ownsRow w.heap.size 9 1 v (textsOf gs).length ((textsOf gs).map strV))

theorem textsOf_len (gs : List Gd) : (textsOf gs).length = gs.length := ((List.mergeSort_perm _ _).length_eq).trans (by simp)

theorem md_size {e : Eg} (h : EgOk e) (rel x y : ByteArray) (hx : (e.M ⟨rel, x, y⟩).isSome = true) : x.size ≤ 2000 ∧ y.size ≤ 2000 := by
  have := uni_size h.rs h.nsz (h.md _ hx).2
  exact ⟨Nat.le_trans this.2.1 (by decide), Nat.le_trans this.2.2 (by decide)⟩

set_option maxHeartbeats 1000000 in
theorem asked_any (bm nn b87 : Nat) (M : Gd → Option Int) (a : Am) (va : Value) (ta : Option Addr) (tn tc : Nat) (hva : va = .slice ta tn tc) (w : World) (hM : MdAt w bm nn M) (hnn : nn ≤ 1000000) (hS : SealT w b87 va a.args) (hfo : FormOk a) (hMs : ∀ x y, (M ⟨a.rel, x, y⟩).isSome = true → x.size ≤ 2000 ∧ y.size ≤ 2000) :
    Calls Tryz.prog 51 #[.map (some bm), .agg #[.string a.rel, va]] w fun en w' => ∃ Bm Ba, en = .returned (.func (.func 93) #[] #[.pointer (some ⟨Bm, 0, none⟩), .pointer (some ⟨Ba, 0, none⟩)]) ∧ Below w.heap.size w w' ∧
      ∀ W, Below w'.heap.size w' W → Calls Tryz.prog 50 #[.func (.func 93) #[] #[.pointer (some ⟨Bm, 0, none⟩), .pointer (some ⟨Ba, 0, none⟩)]] W fun e2 W' => ∃ v gs, fitP M a gs ∧ e2 = .returned v ∧ W'.ownsRow W.heap.size 9 1 v (textsOf gs).length ((textsOf gs).map strV) ∧ Below W.heap.size W W' := by
  refine (mfits_any bm a va w ta tn tc hva).mono ?_
  rintro en w' ⟨rfl, rfl⟩
  have hb : Below w.heap.size w ((w.alloc (.cells #[.map (some bm)] 98)).alloc (.cells #[.string a.rel, va] 92)) := ((Below.refl _ w).alloc (Nat.le_refl _) _).alloc (by simp) _
  refine ⟨_, _, rfl, hb, fun W hW => ?_⟩
  have hbW : Below w.heap.size w W := hb.trans (hW.mono hb.size)
  have x1 : W.heap[w.heap.size]? = some (Obj.cells #[.map (some bm)] 98 (0, 0)) := (hW.block _ (by simp; omega)).trans ((Below.heap_alloc _ _ _ (by simp)).trans (World.alloc_heap_new w _))
  have x2 : W.heap[w.heap.size + 1]? = some (Obj.cells #[.string a.rel, va] 92 (0, 0)) := by
    refine (hW.block _ (by simp)).trans ?_
    have := World.alloc_heap_new (w.alloc (.cells #[.map (some bm)] 98)) (.cells #[.string a.rel, va] 92)
    rw [World.size_alloc] at this; exact this
  refine (texts_any (N := nn) W hnn (enters_of Tryz.func93 (by kernel_rfl) rfl) (fun m n => fits_seq n w.heap.size (w.heap.size + 1) bm nn b87 M a _ W x1 x2 (hM.mk (MKept.ofBelow (m := m) hbW)) (hS.mk (MKept.ofBelow (m := m) hbW)) hfo.args hfo.nums hfo.rel hfo.names hMs m)).mono ?_
  rintro e2 W' ⟨v, gs, rfl, ⟨ks, k1, k2, k3, k4⟩, ho, hbW', hl⟩
  have hgl : (gs.map (·.1)).map (fun g => (textG g).data.toList) = gs.map (fun g => (textG g.1).data.toList) := by rw [List.map_map]; rfl
  refine ⟨v, gs.map (·.1), ⟨ks, k1, k2, k4⟩, rfl, ?_, hbW'⟩
  rw [textsOf_len]
  unfold textsOf
  rw [hgl, List.length_map]
  exact ho

set_option maxRecDepth 100000 in
set_option maxHeartbeats 4000000 in
theorem ask_any (S : Nat → Prop) (be : Nat) (e : Eg) (s : ByteArray) (w : World) (h : EngAt w S be e) (hok : EgOk e) (hs : s.size ≤ 4611686018427387904) (hT : Lib.Utf8Tabs 0 1 w) (hn : ∀ a, atomR s = some a → ∀ t ∈ a.args, t.num < 6) :
    Calls Tryz.prog 25 #[.pointer (some ⟨be, 0, none⟩), .string s] w (AskPost e s w) := by
  have hrg := readAtom_any s w hs hT
  unfold AtomPost at hrg
  cases ha : atomR s with
  | none =>
    rw [ha] at hrg
    have HA : Hid (atomR s = none) := ha
    have HR : Hid _ := hrg
    clear hrg ha h hok hn
    go_enter Tryz.func25, Tryz.ntmps25
    go_wp2_with (go_at_call 49; refine Calls.mono HR.out ?_; rintro e' W1 ⟨hb1, rfl⟩)
    go_ret2
    exact ⟨hb1.alloc hb1.size _, by rw [HA.out]; rfl⟩
  | some a =>
    rw [ha] at hrg
    have hn' := hn a ha
    have HA : Hid (atomR s = some a) := ha
    have HR : Hid (Calls Tryz.prog 49 #[.string s] w fun e' w' => Below w.heap.size w w' ∧ ∃ va, e' = .returned (.tuple #[.agg #[.string a.rel, va], .bool true]) ∧ AmOk a ∧ SealT w' w'.heap.size va a.args) := hrg
    have hEW : Hid (∀ W, Below w.heap.size w W → EngAt W S be e) := fun W hb => h.below hb
    obtain ⟨vr, vn, vk, vf, bm, rb, b45, b87, bfs, Sf, hv⟩ := h
    have hblk : Hid (∀ W, Below w.heap.size w W → W.heap[be]? = some (Obj.cells #[vr, .int .i64 e.win, .int .i64 e.lat, .int .i64 e.que, .int .i64 e.mark, vn, vk, .map (some bm), vf] 101 (0, 0)) ∧ MdAt W bm 5000 e.M) := fun W hb => ⟨(hv.below hb).blk, (hv.below hb).md⟩
    have HRS : Hid (EgOk e) := hok
    clear hrg ha hv hok hT hn
    go_enter Tryz.func25, Tryz.ntmps25
    go_wp2_with fail
    refine Calls.mono HR.out ?_
    rintro e' W1 ⟨hb1, va, rfl, hak, hsl⟩
    obtain ⟨xa, xc, hxf⟩ := hsl.form
    subst hxf
    have hckc : Hid (∀ W, Below w.heap.size w W → Calls Tryz.prog 42 #[.pointer (some ⟨be, 0, none⟩), .agg #[.string a.rel, .slice xa a.args.length xc]] W fun en w' => en = .returned (.int .i64 (ckR e.rs a)) ∧ Below W.heap.size W w') := fun W hb => checkRel_any S be e W (hEW.out W hb) HRS.out.rs a _ _ _ rfl hak.args
    have hfit : Hid (∀ W, Below W1.heap.size W1 W → Below w.heap.size w W → Calls Tryz.prog 51 #[.map (some bm), .agg #[.string a.rel, .slice xa a.args.length xc]] W fun en w' => ∃ Bm Ba, en = .returned (.func (.func 93) #[] #[.pointer (some ⟨Bm, 0, none⟩), .pointer (some ⟨Ba, 0, none⟩)]) ∧ Below W.heap.size W w' ∧
      Hid (∀ V, Below w'.heap.size w' V → Calls Tryz.prog 50 #[.func (.func 93) #[] #[.pointer (some ⟨Bm, 0, none⟩), .pointer (some ⟨Ba, 0, none⟩)]] V fun e2 V' => ∃ v gs, fitP e.M a gs ∧ e2 = .returned v ∧ V'.ownsRow V.heap.size 9 1 v (textsOf gs).length ((textsOf gs).map strV) ∧ Below V.heap.size V V')) := fun W hb hbw =>
      asked_any bm 5000 W1.heap.size e.M a _ _ _ _ rfl W (hblk.out W hbw).2 (by decide) (hsl.rk (RuleKept.ofBelow hb)) ⟨hak.args, hn', Nat.le_trans hak.rel (by decide), fun t ht => Nat.le_trans (hak.tms t ht).name (by decide)⟩ (fun x y hx => md_size HRS.out a.rel x y hx)
    have hW1 : w.heap.size ≤ W1.heap.size := hb1.size
    have hbA : Hid (Below w.heap.size w (W1.alloc (.cells #[.string a.rel, .slice xa a.args.length xc] 92)) ∧ Below W1.heap.size W1 (W1.alloc (.cells #[.string a.rel, .slice xa a.args.length xc] 92))) := ⟨hb1.alloc hb1.size _, (Below.refl _ W1).alloc (Nat.le_refl _) _⟩
    have hbox : Hid (∀ W2, Below (W1.alloc (.cells #[.string a.rel, .slice xa a.args.length xc] 92)).heap.size (W1.alloc (.cells #[.string a.rel, .slice xa a.args.length xc] 92)) W2 → W2.heap[W1.heap.size]? = some (Obj.cells #[.string a.rel, .slice xa a.args.length xc] 92 (0, 0)) ∧ Below w.heap.size w W2 ∧ Below W1.heap.size W1 W2) := fun W2 hb =>
      ⟨(hb.block _ (by simp)).trans (World.alloc_heap_new W1 _), hbA.out.1.trans (hb.mono (by simp; omega)), hbA.out.2.trans (hb.mono (by simp))⟩
    clear hak hsl hEW
    by_cases hck : ckR e.rs a = 0
    · have HCK : Hid (ckR e.rs a = 0) := hck
      rw [hck] at hckc
      clear hck
      go_wp2_with fail
      refine (hckc.out _ hbA.out.1).mono ?_
      rintro e' W2 ⟨rfl, hb2⟩
      obtain ⟨p1, hb3, hb4⟩ := hbox.out W2 hb2
      have t0 : W2.cell? ⟨W1.heap.size, 0, none⟩ = some (.string a.rel) := by simp [World.cell?, p1]
      have t1 : W2.cell? ⟨W1.heap.size, 1, none⟩ = some (.slice xa a.args.length xc) := by simp [World.cell?, p1]
      have q1 := (hblk.out W2 hb3).1
      have t7 : W2.cell? ⟨be, 7, none⟩ = some (.map (some bm)) := by simp [World.cell?, q1]
      clear p1 q1 hb2
      have hD2 : Hid (Below W1.heap.size W1 W2.drew ∧ Below w.heap.size w W2.drew) := ⟨hb4.drew, hb3.drew⟩
      have hfin : Hid (∀ W3 W4 v gs, Below W2.drew.heap.size W2.drew W3 → Below W3.heap.size W3 W4 → fitP e.M a gs → W4.ownsRow W3.heap.size 9 1 v (textsOf gs).length ((textsOf gs).map strV) → ∀ en, en = .returned (.tuple #[v, .int .i64 0]) → AskPost e s w en W4) := fun W3 W4 v gs h1 h2 h3 h4 en hen => by
        have hx : Below w.heap.size w W3 := hb3.drew.trans (h1.mono (by show _ ≤ W2.heap.size; exact hb3.size))
        exact ⟨hx.trans (h2.mono hx.size), by rw [HA.out]; exact .inr ⟨HCK.out, v, gs, h3, hen, ownsRow_lower h4 hx.size⟩⟩
      go_wp2_with fail
      first | (go_region_with (first | (go_at_call 51; refine (hfit.out _ hD2.out.1 hD2.out.2).mono ?_; rintro e' W3 ⟨Bm, Ba, rfl, hb5, htx⟩) | (go_at_call 50; refine (htx.out W3 (Below.refl _ _)).mono ?_; rintro e' W4 ⟨tv, gs, hgs, rfl, htv, hb6⟩; obtain ⟨oa, oc, hof⟩ := owns_form htv; subst hof))) | fail
      all_goals go_wp2
      all_goals go_ret2
      all_goals exact hfin.out W3 W4 _ gs hb5 hb6 hgs htv _ rfl
    · have HCK : Hid (¬ ckR e.rs a = 0) := hck
      have hck' : (ckR e.rs a == 0) = false := by simp [hck]
      have hu : Hid (∀ (v : Value) en w', Below w.heap.size w w' → en = .returned (.tuple #[.slice none 0 0, .int .i64 (ckR e.rs a)]) → AskPost e s w en w') := fun v en w' hb hen => ⟨hb, by rw [HA.out]; exact .inl ⟨HCK.out, hen⟩⟩
      generalize ckR e.rs a = ck at *
      go_wp2_with (go_at_call 42; refine (hckc.out _ hbA.out.1).mono ?_; rintro e' W2 ⟨rfl, hb2⟩; obtain ⟨p1, hb3, hb4⟩ := hbox.out W2 hb2)
      go_ret2
      exact hu.out undef _ _ hb3 rfl

end Go.Proofs.YtjajnhemgphefaaGreatDoor

namespace Go.Proofs.YtjajnhemgphefaaGreatDoor
open Go.RowKit Go.Shelf Go.Maps
set_option linter.unusedVariables false
set_option linter.unusedSimpArgs false

def bP : ByteArray := ⟨#[112]⟩
def amB (r : ByteArray) (a b : Nat) : Am := ⟨r, [⟨ptB a, 0⟩, ⟨ptB b, 0⟩]⟩
theorem pt_inj {i j : Nat} (hi : i < 6) (hj : j < 6) (h : ptB i = ptB j) : i = j := by
  have h1 := congrArg (fun x : ByteArray => (x.data[0]?.getD 0).toNat) h
  simp [ptB] at h1
  omega
theorem pt_ne (i : Nat) : ptB i ≠ eB := by
  intro h
  have h1 := congrArg (fun x : ByteArray => x.data.size) h
  simp [ptB, eB] at h1

theorem none_model {R : List Rl} {M : Gd → Option Int} (hM : LeastM R [] M) (g : Gd) : M g = none := by
  cases h : M g with
  | none => rfl
  | some t =>
    obtain ⟨x, hx, _⟩ := der_some (hM.sound g t h (t - 1) (by omega))
    cases hx
/-- The names of six points. -/
def PtsOk (ns : List ByteArray) : Prop := ns.Nodup ∧ ∀ x ∈ ns, ∃ j, j < 6 ∧ x = ptB j
theorem pts_nil : PtsOk [] := ⟨List.nodup_nil, by simp⟩
theorem pts_add {ns : List ByteArray} (h : PtsOk ns) (r : ByteArray) {a b : Nat} (ha : a < 6) (hb : b < 6) : PtsOk (nmL ns (amB r a b).args) := by
  refine ⟨nmL_nodup _ _ h.1, fun x hx => ?_⟩
  rcases (nmL_mem _ _ _).1 hx with hx | ⟨t, ht, _, rfl⟩
  · exact h.2 x hx
  · simp only [amB, List.mem_cons, List.not_mem_nil, or_false] at ht
    rcases ht with rfl | rfl
    · exact ⟨a, ha, rfl⟩
    · exact ⟨b, hb, rfl⟩
theorem pts_six {ns : List ByteArray} (h : PtsOk ns) : ns.length ≤ 6 := by
  have := nodup_le ns ((List.range 6).map ptB) h.1 (fun x hx => by
    obtain ⟨j, hj, rfl⟩ := h.2 x hx
    exact List.mem_map.2 ⟨j, List.mem_range.2 hj, rfl⟩)
  simpa using this
theorem ground_am (r : ByteArray) (a b : Nat) : groundA nms0 (amB r a b) = ⟨r, ptB a, ptB b⟩ := by
  show (⟨r, ofT nms0 ⟨ptB a, 0⟩, ofT nms0 ⟨ptB b, 0⟩⟩ : Gd) = _
  rw [ofT_name (by exact pt_ne a), ofT_name (by exact pt_ne b)]
theorem am_ground (r : ByteArray) (a b : Nat) : groundB (amB r a b) = true := by
  unfold groundB amB
  have h : ∀ i, varB ⟨ptB i, 0⟩ = false := fun i => by
    unfold varB
    cases hc : (ptB i).toList.isEmpty with
    | false => rfl
    | true => exact absurd ((empty_iff _).1 hc) (pt_ne i)
  simp [h]
theorem am_ok (r : ByteArray) (hr : r.size ≤ 1200) (a b : Nat) : AmOk (amB r a b) := by
  refine ⟨hr, Nat.le_refl 2, fun t ht => ?_⟩
  simp only [amB, List.mem_cons, List.not_mem_nil, or_false] at ht
  rcases ht with rfl | rfl <;> exact ⟨by show (1 : Nat) ≤ 1200; decide, by show (0 : Nat) ≤ 50; decide⟩
theorem sameD_iff (x y : Gd × Int) : sameD x y = true ↔ x = y := by
  unfold sameD
  simp only [Bool.and_eq_true, beq_iff_eq, ba_list]
  constructor
  · rintro ⟨⟨h1, h2, h3⟩, h4⟩
    obtain ⟨⟨a, b, c⟩, d⟩ := x
    obtain ⟨⟨a', b', c'⟩, d'⟩ := y
    simp only at h1 h2 h3 h4
    rw [ba_inj h1, ba_inj h2, ba_inj h3, h4]
  · rintro rfl; simp
theorem hasD_iff (l : List (Gd × Int)) (x : Gd × Int) : hasD l x = true ↔ x ∈ l := by
  unfold hasD
  rw [List.any_eq_true]
  constructor
  · rintro ⟨y, hy, h⟩; rw [sameD_iff] at h; subst h; exact hy
  · intro h; exact ⟨x, h, (sameD_iff _ _).2 rfl⟩

end Go.Proofs.YtjajnhemgphefaaGreatDoor

namespace Go.Proofs.YtjajnhemgphefaaGreatDoor
open Go.RowKit Go.Shelf Go.Maps
set_option linter.unusedVariables false
set_option linter.unusedSimpArgs false

/-- A row of texts that can be read. -/
def StrRd (W : World) (v : Value) (l : List ByteArray) : Prop := ∃ a c, v = .slice a l.length c ∧ ∀ k (h : k < l.length), ∃ g, a = some ⟨g, 0, none⟩ ∧ g < W.heap.size ∧ W.cell? ⟨g, k, none⟩ = some (.string l[k])
theorem StrRd.below {W W' : World} {v : Value} {l : List ByteArray} (h : StrRd W v l) (hb : Below W.heap.size W W') : StrRd W' v l := by
  obtain ⟨a, c, h1, h2⟩ := h
  refine ⟨a, c, h1, fun k hk => ?_⟩
  obtain ⟨g, e, hg, hc⟩ := h2 k hk
  exact ⟨g, e, Nat.lt_of_lt_of_le hg hb.size, (hb.cell (p := ⟨g, k, none⟩) hg).trans hc⟩
theorem StrRd.own {W : World} {b : Nat} {v : Value} {l : List ByteArray} (h : W.ownsRow b 9 1 v l.length (l.map Value.string)) : StrRd W v l := by
  obtain ⟨h0, ⟨hv, hz⟩ | ⟨g, c, cur, hv, _, hw, _, _, _, htk⟩⟩ := h
  · exact ⟨none, 0, by rw [hv, hz], fun k hk => by omega⟩
  · refine ⟨_, _, hv, fun k hk => ⟨g, rfl, (Array.getElem?_eq_some_iff.1 hw).1, ?_⟩⟩
    have e1 : (l.map Value.string)[k]? = some (.string l[k]) := by rw [List.getElem?_map, List.getElem?_eq_getElem hk]; rfl
    rw [← htk, List.getElem?_take, if_pos (by omega)] at e1
    simp only [World.cell?, hw]
    simpa using e1

/-- What a feed has told. -/
structure Fo where
  L : List ByteArray
  next : Nat
  any : Bool
/-- Block B is what a feed has told; its row is its own. -/
def FoAt (W : World) (B : Nat) (f : Fo) (v : Value) : Prop := W.heap[B]? = some (Obj.cells #[v, .int .i64 f.next, .bool f.any] 61 (0, 0)) ∧ W.ownsRow 0 9 1 v f.L.length (f.L.map Value.string)
end Go.Proofs.YtjajnhemgphefaaGreatDoor

namespace Go.Proofs.YtjajnhemgphefaaGreatDoor
open Go.RowKit Go.Shelf Go.Maps
set_option linter.unusedVariables false
set_option linter.unusedSimpArgs false

/-- What was seen, in memory: marks, and the rows of texts. -/
def SeenRd (W : World) (v : Value) (l : List (Int × Value)) : Prop := ∃ a c, v = .slice a l.length c ∧ ∀ k (h : k < l.length), ∃ g, a = some ⟨g, 0, none⟩ ∧ g < W.heap.size ∧ W.cell? ⟨g, k * 2, none⟩ = some (.int .i64 (l[k]).1) ∧ W.cell? ⟨g, k * 2 + 1, none⟩ = some (l[k]).2 ∧ ∃ xa xn xc, (l[k]).2 = .slice xa xn xc
end Go.Proofs.YtjajnhemgphefaaGreatDoor

namespace Go.Proofs.YtjajnhemgphefaaGreatDoor
open Go.RowKit Go.Shelf Go.Maps
set_option linter.unusedVariables false
set_option linter.unusedSimpArgs false

/-- What take leaves in memory. -/
def TkPost (B : Nat) (v : Value) (f' : Fo) (w w' : World) : Prop := ∃ v', FoAt w' B f' v' ∧ Chg w w' (fun k => k = B ∨ v.ownBlock = some k) ∧ ∀ g, v'.ownBlock = some g → v.ownBlock = some g ∨ w.heap.size ≤ g

end Go.Proofs.YtjajnhemgphefaaGreatDoor

namespace Go.Proofs.YtjajnhemgphefaaGreatDoor
open Go.RowKit Go.Shelf Go.Maps
set_option linter.unusedVariables false
set_option linter.unusedSimpArgs false

/-- The engine's own block, and the row of its facts, are changed. -/
theorem EngV.put {W W' : World} {S : Nat → Prop} {be : Nat} {e e' : Eg} {vr vn vk vf vn' vk' : Value} {bm bm' rb b45 b87 : Nat} {bfs : List Nat} {Sf : Nat → Nat → Prop} (h : EngV W S be e vr vn vk vf bm rb b45 b87 bfs Sf)
    (hc : Chg W W' (fun k => k = be ∨ vk.ownBlock = some k)) (hrs : e'.rs = e.rs) (hfds : e'.fds = e.fds)
    (blk : W'.heap[be]? = some (Obj.cells #[vr, .int .i64 e'.win, .int .i64 e'.lat, .int .i64 e'.que, .int .i64 e'.mark, vn', vk', .map (some bm'), vf] 101 (0, 0)))
    (names : W'.ownsRow 0 9 1 vn' e'.names.length (e'.names.map Value.string)) (kept : W'.ownsRow 0 161 4 vk' e'.kept.length (e'.kept.flatMap lastC)) (md : MdAt W' bm' 5000 e'.M) :
    EngV W' (fun k => (S k ∧ vk.ownBlock ≠ some k) ∨ vk'.ownBlock = some k ∨ vn'.ownBlock = some k) be e' vr vn' vk' vf bm' rb b45 b87 bfs Sf := by
  have hex : ∀ (j : Nat) (c : Array Value) (t : TypeId), W.heap[j]? = some (Obj.cells c t (0, 0)) → t ≠ 101 → t ≠ 161 → ¬ (j = be ∨ vk.ownBlock = some j) := by
    rintro j c t hj h1 h2 (rfl | hs)
    · rw [h.blk] at hj; cases hj; exact h1 rfl
    · obtain ⟨_, c', hcc⟩ := owns_block h.kept hs
      rw [hj] at hcc; cases hcc; exact h2 rfl
  have hkT : ∀ (j : Nat) (c : Array Value) (t : TypeId), W.heap[j]? = some (Obj.cells c t (0, 0)) → t ≠ 101 → t ≠ 161 → W'.heap[j]? = some (Obj.cells c t (0, 0)) := fun j c t hj h1 h2 => (hc.block j (Array.getElem?_eq_some_iff.1 hj).1 (hex j c t hj h1 h2)).trans hj
  have hF : ∀ j, FTy W j → ¬ (j = be ∨ vk.ownBlock = some j) := by
    rintro j ⟨c, t, h1, h2⟩
    exact hex j c t h1 (by rcases h2 with rfl | rfl <;> decide) (by rcases h2 with rfl | rfl <;> decide)
  have hv : ∀ g, vf.ownBlock = some g → ¬ (g = be ∨ vk.ownBlock = some g) := by
    intro g hg
    obtain ⟨_, c, hcc⟩ := owns_block h.frow hg
    exact hex g c _ hcc (by decide) (by decide)
  have hbk : vk.ownBlock ≠ some be := fun hs => by
    obtain ⟨_, c, hcc⟩ := owns_block h.kept hs
    rw [h.blk] at hcc; cases hcc
  refine ⟨blk, ?_, names, kept, md, by rw [hfds]; exact h.len, own_keep h.frow (fun g hg hlt => hc.block g hlt (hv g hg)), fun i hi hi' => ?_, h.sep, fun i k hk => ⟨.inl ⟨(h.sub i k hk).1, fun e => hF k (h.sub i k hk).2 (.inr e)⟩, (h.sub i k hk).2.same (hc.block k (h.sub i k hk).2.lt (hF k (h.sub i k hk).2))⟩, ⟨.inl ⟨h.own.1, hbk⟩, fun g hg => .inr (.inl hg), fun g hg => .inl ⟨h.own.2.2.1 g hg, fun e => hv g hg (.inr e)⟩, fun g hg => .inr (.inr hg)⟩, fun k hk => ?_⟩
  · rw [hrs]
    exact h.rules.keep (fun j c t ht hj => hkT j c t hj (by rcases ht with rfl | rfl | rfl <;> decide) (by rcases ht with rfl | rfl | rfl <;> decide))
  · obtain ⟨b, hf⟩ := h.feed i hi (by rw [← hfds]; exact hi')
    refine ⟨b, ?_⟩
    have he : e'.fds[i]'hi' = e.fds[i]'(by rw [← hfds]; exact hi') := by simp only [hfds]
    rw [he]
    exact hf.keep (ex := fun k => k = be ∨ vk.ownBlock = some k) hc.block (fun k hs => hF k (h.sub i k hs).2) (fun k c hj => hex k c _ hj (by decide) (by decide))
  · rcases hk with ⟨h1, h2⟩ | hk | hk
    · by_cases hke : k = be
      · subst hke; exact ⟨_, _, blk, .inl rfl⟩
      · exact (h.typ k h1).same (hc.block k (h.typ k h1).lt (fun e => e.elim hke h2))
    · obtain ⟨_, c, hcc⟩ := owns_block kept hk
      exact ⟨_, _, hcc, .inr (.inl rfl)⟩
    · obtain ⟨_, c, hcc⟩ := owns_block names hk
      exact ⟨_, _, hcc, .inr (.inr (.inr (.inr (.inr rfl))))⟩

end Go.Proofs.YtjajnhemgphefaaGreatDoor

namespace Go.Proofs.YtjajnhemgphefaaGreatDoor
open Go.RowKit Go.Shelf Go.Maps
set_option linter.unusedVariables false
set_option linter.unusedSimpArgs false

/-- What an engine's method does to memory: it is an engine still. -/
def EngPost (S : Nat → Prop) (be : Nat) (e' : Eg) (w w' : World) : Prop := ∃ S', EngAt w' S' be e' ∧ (∀ k, S' k → S k ∨ w.heap.size ≤ k) ∧ Chg w w' S
theorem EngPost.same {w w' : World} {S : Nat → Prop} {be : Nat} {e : Eg} (h : EngAt w S be e) (hb : Below w.heap.size w w') : EngPost S be e w w' := ⟨S, h.below hb, fun _ hk => .inl hk, Chg.ofBelow _ hb⟩
theorem EngPost.trans {w w1 w2 : World} {S : Nat → Prop} {be : Nat} {e1 e2 : Eg} (h : EngPost S be e1 w w1) (k : ∀ S1, EngAt w1 S1 be e1 → EngPost S1 be e2 w1 w2) : EngPost S be e2 w w2 := by
  obtain ⟨S1, h1, h2, h3⟩ := h
  obtain ⟨S2, k1, k2, k3⟩ := k S1 h1
  refine ⟨S2, k1, fun j hj => ?_, k3.os.trans h3.os, k3.tape.trans h3.tape, k3.output.trans h3.output, Nat.le_trans h3.size k3.size, fun j hj hs => (k3.block j (Nat.lt_of_lt_of_le hj h3.size) (fun e => ?_)).trans (h3.block j hj hs)⟩
  · rcases k2 j hj with e | e
    · exact h2 j e
    · exact .inr (Nat.le_trans h3.size e)
  · rcases h2 j e with e | e
    · exact hs e
    · omega

/-- A fact is kept. -/
theorem acc_mem {w W5 w1 : World} {S : Nat → Prop} {be : Nat} {e : Eg} {vr vn vk vf vn' v' : Value} {bm rb b45 b87 nb : Nat} {bfs : List Nat} {Sf : Nat → Nat → Prop} (hv : EngV w S be e vr vn vk vf bm rb b45 b87 bfs Sf) (hb : Below w.heap.size w W5)
    {ns : List ByteArray} (hnb : w.heap.size ≤ nb) (hnm : W5.ownsRow nb 9 1 vn' ns.length (ns.map Value.string)) {d : Gd × Int} (O : Obj) (hown1 : w1.ownsRow 0 161 4 v' (e.kept.length + 1) (e.kept.flatMap lastC ++ lastC d))
    (hgrow : ((W5.setCell ⟨be, 5, none⟩ vn').alloc O).grownBy w1 vk.ownBlock) (hat : v'.ownBlock = vk.ownBlock ∨ v'.ownBlock = some ((W5.setCell ⟨be, 5, none⟩ vn').alloc O).heap.size) :
    w1.cell? ⟨be, 6, none⟩ = some vk ∧ w1.frozen? ⟨be, 6, none⟩ = false ∧ EngPost S be { e with names := ns, kept := e.kept ++ [d] } w (w1.setCell ⟨be, 6, none⟩ v') := by
  have h5 := hv.below hb
  have hbe := (Array.getElem?_eq_some_iff.1 h5.blk).1
  have hbk : vk.ownBlock ≠ some be := fun hs => by
    obtain ⟨_, c, hcc⟩ := owns_block h5.kept hs
    rw [h5.blk] at hcc; cases hcc
  have hsz : ((W5.setCell ⟨be, 5, none⟩ vn').alloc O).heap.size = W5.heap.size + 1 := by simp
  have b1 : w1.heap[be]? = some (Obj.cells #[vr, .int .i64 e.win, .int .i64 e.lat, .int .i64 e.que, .int .i64 e.mark, vn', vk, .map (some bm), vf] 101 (0, 0)) := by
    refine (hgrow.block be (by rw [hsz]; omega) (fun e => hbk e.symm)).trans ?_
    exact (Below.heap_alloc _ _ _ (by simpa using hbe)).trans (heap_set h5.blk 5 vn')
  have hc1 : Chg W5 w1 (fun k => k = be ∨ vk.ownBlock = some k) := (((Chg.refl W5 _).setCell ⟨be, 5, none⟩ vn' (fun _ => .inl rfl)).alloc O).grown hgrow (fun k hk _ => .inr hk)
  have hc2 : Chg W5 (w1.setCell ⟨be, 6, none⟩ v') (fun k => k = be ∨ vk.ownBlock = some k) := hc1.setCell ⟨be, 6, none⟩ v' (fun _ => .inl rfl)
  have hty : ∀ (k : Nat) (c : Array Value) (t : TypeId), W5.heap[k]? = some (Obj.cells c t (0, 0)) → t ≠ 101 → t ≠ 161 → ¬ (k = be ∨ vk.ownBlock = some k) := by
    rintro j c t hj h1 h2 (rfl | hs)
    · rw [h5.blk] at hj; cases hj; exact h1 rfl
    · obtain ⟨_, c', hcc⟩ := owns_block h5.kept hs
      rw [hj] at hcc; cases hcc; exact h2 rfl
  have hput := h5.put (W' := w1.setCell ⟨be, 6, none⟩ v') (e' := { e with names := ns, kept := e.kept ++ [d] }) (vn' := vn') (vk' := v') (bm' := bm) hc2 rfl rfl (heap_set b1 6 v')
    (own_keep (ownsRow_lower hnm (Nat.zero_le _)) (fun g hg hlt => by
      obtain ⟨_, c, hcc⟩ := owns_block hnm hg
      exact hc2.block g hlt (hty g c _ hcc (by decide) (by decide))))
    (by
      show World.ownsRow _ 0 161 4 v' (e.kept ++ [d]).length ((e.kept ++ [d]).flatMap lastC)
      rw [List.length_append, List.flatMap_append]
      simp only [List.length_cons, List.length_nil, Nat.zero_add, List.flatMap_cons, List.flatMap_nil, List.append_nil]
      exact owns_set hown1 ⟨be, 6, none⟩ v' (owns_ne hown1 b1 (by decide)))
    (h5.md.kept (fun j es c hm => (hc2.block j (Array.getElem?_eq_some_iff.1 hm).1 (by
      rintro (rfl | hs)
      · rw [h5.blk] at hm; cases hm
      · obtain ⟨_, c', hcc⟩ := owns_block h5.kept hs
        rw [hm] at hcc; cases hcc)).trans hm))
  refine ⟨by simp [World.cell?, b1], by simp [World.frozen?, b1], _, ⟨_, _, _, _, _, _, _, _, _, _, hput⟩, fun k hk => ?_, ?_⟩
  · rcases hk with ⟨h1, _⟩ | h1 | h1
    · exact .inl h1
    · rcases hat with e1 | e1
      · exact .inl (hv.own.2.1 k (e1.symm.trans h1))
      · right
        rw [e1, hsz] at h1
        cases h1
        have := hb.size; omega
    · obtain ⟨hk1, _⟩ := owns_block hnm h1
      exact .inr (Nat.le_trans hnb hk1)
  · refine ⟨hc2.os.trans hb.os, hc2.tape.trans hb.tape, hc2.output.trans hb.output, Nat.le_trans hb.size hc2.size, fun k hk hs => (hc2.block k (Nat.lt_of_lt_of_le hk hb.size) (fun e => hs ?_)).trans (hb.block k hk)⟩
    rcases e with rfl | e
    · exact hv.own.1
    · exact hv.own.2.1 k e

end Go.Proofs.YtjajnhemgphefaaGreatDoor

namespace Go.Proofs.YtjajnhemgphefaaGreatDoor
open Go.RowKit Go.Shelf Go.Maps
set_option linter.unusedVariables false
set_option linter.unusedSimpArgs false

theorem cloneN_any (v : Value) (ns : List ByteArray) (b : Nat) (w : World) (h : w.ownsRow b 9 1 v ns.length (ns.map Value.string)) (hl : ns.length ≤ 1000) :
    Calls Tryz.prog 83 #[v] w fun e w' => ∃ (oa : Option Addr) (oc : Nat), e = .returned (.slice oa ns.length oc) ∧ w'.ownsRow w.heap.size 9 1 (.slice oa ns.length oc) ns.length (ns.map Value.string) ∧ Below w.heap.size w w' := by
  obtain ⟨h0, ⟨hv, hn⟩ | ⟨g, cap, cur, hv, hb, hw, h1, h2, h3, h4⟩⟩ := h
  · subst hv
    have hz : ns = [] := List.eq_nil_of_length_eq_zero hn
    subst hz
    refine (Tryz.slices_Clone_string_nil 0 0 w).mono ?_
    rintro e w' ⟨rfl, rfl⟩
    exact ⟨none, 0, rfl, ⟨rfl, .inl ⟨rfl, rfl⟩⟩, Below.refl _ _⟩
  · subst hv
    refine (Tryz.slices_Clone_string g 0 ns.length cap ns w (Nat.le_refl _) (by omega) (fun j hj => ?_)).mono ?_
    · have e1 : (ns.map Value.string)[j]? = some (.string ns[j]) := by rw [List.getElem?_map, List.getElem?_eq_getElem hj]; rfl
      rw [← h4, List.getElem?_take, if_pos (by omega)] at e1
      simp only [World.cell?, hw, Nat.zero_add]
      have e2 : cur[j]? = some (.string ns[j]) := by simpa using e1
      rw [e2, List.getD_eq_getElem?_getD, List.getElem?_eq_getElem hj]
      rfl
    · rintro e w' ⟨v', rfl, ho, _, hb'⟩
      rw [List.take_length] at ho
      obtain ⟨oa, oc, hof⟩ := owns_form ho
      subst hof
      exact ⟨oa, oc, rfl, ho, hb'⟩

set_option maxHeartbeats 400000 in
theorem idxD_nil (f : Value) (w : World) : Calls Tryz.prog 145 #[.slice none 0 0, .func (.func 86) #[] #[f]] w fun e w' => e = .returned (.int .i64 (-1)) ∧ Below w.heap.size w w' := by
  go_enter Tryz.func145, Tryz.ntmps145
  go_wp2
  go_loopw [8] (fun i wr => i = .int .i64 0 ∧ Below w.heap.size w wr) (fun i _ => 0)
  case atStart => exact ⟨rfl, Below.refl _ _⟩
  case round =>
    obtain ⟨rfl, hb⟩ := hrel
    go_wp2
    go_ret
    exact ⟨rfl, hb⟩

theorem deleteD_nil (f : Value) (w : World) : Calls Tryz.prog 85 #[.slice none 0 0, .func (.func 86) #[] #[f]] w fun e w' => e = .returned (.slice none 0 0) ∧ Below w.heap.size w w' := by
  have hI : Hid (∀ W, Calls Tryz.prog 145 #[.slice none 0 0, .func (.func 86) #[] #[f]] W fun e w' => e = .returned (.int .i64 (-1)) ∧ Below W.heap.size W w') := fun W => idxD_nil f W
  go_enter Tryz.func85, Tryz.ntmps85
  go_wp2_with (go_at_call 145; refine (hI.out _).mono ?_; rintro e W1 ⟨rfl, hb1⟩)
  go_ret
  exact ⟨rfl, hb1⟩

/-- AddNames over the arguments of an atom. -/
theorem addArgs_any (v : Value) (ns : List ByteArray) (base Bs b : Nat) (va : Value) (ts : List Tm) (w : World) (hbox : w.heap[Bs]? = some (Obj.cells #[va] 90 (0, 0))) (hs : SealT w b va ts) (hl : ts.length ≤ 2) (hown : w.ownsRow base 9 1 v ns.length (ns.map Value.string)) (hbw : base ≤ w.heap.size) (hn : ns.length ≤ 900) :
    Calls Tryz.prog 76 #[v, .func (.func 144) #[] #[.pointer (some ⟨Bs, 0, none⟩)]] w fun e w' => ∃ (oa : Option Addr) (oc : Nat), e = .returned (.slice oa (nmL ns ts).length oc) ∧ w'.ownsRow base 9 1 (.slice oa (nmL ns ts).length oc) (nmL ns ts).length ((nmL ns ts).map Value.string) ∧ Below base w w' := by
  refine (addNames_seq 144 #[.pointer (some ⟨Bs, 0, none⟩)] ts (fun _ => True) ts.length v ns base w (enters_of Tryz.func144 (by kernel_rfl) rfl) (fun O => ?_) (by omega) hown hbw hn).mono ?_
  · have hb : Below w.heap.size w (w.alloc O) := (Below.refl _ w).alloc (Nat.le_refl _) O
    exact valuesT_seq Bs b va ts (w.alloc O) ((hb.block _ (Array.getElem?_eq_some_iff.1 hbox).1).trans hbox) (hs.rk (RuleKept.ofBelow hb)) (by omega)
  · rintro e w' ⟨v', rfl, ho, hso⟩
    obtain ⟨oa, oc, hof⟩ := owns_form ho
    subst hof
    exact ⟨oa, oc, rfl, ho, ⟨hso.os, hso.tape, hso.output, hso.size, fun k hk => hso.block k (by omega) (.inl hk)⟩⟩

end Go.Proofs.YtjajnhemgphefaaGreatDoor
