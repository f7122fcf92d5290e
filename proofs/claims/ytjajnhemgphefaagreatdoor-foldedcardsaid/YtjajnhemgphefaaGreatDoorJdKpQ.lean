/-
  A feed in plain data: what waits, and what a Poll tells of it.
  The engine: Until.
  The engine: Ask.
  The statement Reset in plain data: one relation that is another; its facts, and what is told of them.
  What Folded and Ebbed call beside the program: place, like, find.
  What Folded and Ebbed call beside the program: find, take.
-/
import Derived.Test.YtjajnhemgphefaaGreatDoorJdEgR
import Derived.Test.YtjajnhemgphefaaGreatDoorJdEgL
import Derived.Test.YtjajnhemgphefaaGreatDoorJdAll
import Derived.KernelRfl
namespace Go.Proofs.YtjajnhemgphefaaGreatDoor
open Go.RowKit Go.Shelf Go.Maps
set_option linter.unusedVariables false
set_option linter.unusedSimpArgs false

/-- A feed that is not behind, and what waits in it. -/
def Pen (f : Fs) (l : List Rc) : Prop := f.behind = false ∧ f.snap ++ f.que = l
theorem pen_behind {f : Fs} (hb : f.behind = true) (hs : f.snap = []) (hq : f.que = []) {M : Gd → Option Int} {m : Int} {r : Rc} {f' : Fs} (hp : PollR M m f r f') : r = ⟨1, f.told, ⟨#[]⟩, 0⟩ ∧ ∃ gs, fitP M f.form gs ∧ Pen f' (textsR 2 gs ++ [⟨4, 0, ⟨#[]⟩, m⟩]) ∧ f'.told = f.told + 1 ∧ f'.form = f.form := by
  obtain ⟨r0, f0, hn, hc⟩ := hp
  rcases hn with ⟨l', e1, _⟩ | ⟨_, _, rfl, gs, hg, rfl⟩ | ⟨_, hb', _⟩ | ⟨_, hb', _⟩
  · rw [hs] at e1; cases e1
  · rcases hc with ⟨hk, _, _⟩ | ⟨_, rfl, rfl⟩
    · cases hk
    · refine ⟨rfl, gs, hg, ⟨rfl, ?_⟩, rfl, rfl⟩
      show (recsT 2 _ ++ [_]) ++ f.que = _
      rw [hq, List.append_nil]; rfl
  · rw [hb] at hb'; cases hb'
  · rw [hb] at hb'; cases hb'
end Go.Proofs.YtjajnhemgphefaaGreatDoor

namespace Go.Proofs.YtjajnhemgphefaaGreatDoor
open Go.RowKit Go.Shelf Go.Maps
set_option linter.unusedVariables false
set_option linter.unusedSimpArgs false

end Go.Proofs.YtjajnhemgphefaaGreatDoor

namespace Go.Proofs.YtjajnhemgphefaaGreatDoor
open Go.RowKit Go.Shelf Go.Maps
set_option linter.unusedVariables false
set_option linter.unusedSimpArgs false

/-- The texts of ground atoms, in order. -/
def textsOf (gs : List Gd) : List (List UInt8) := sortT (gs.map (fun g => (textG g).data.toList))
/-- What Ask answers. -/
def AskPost (e : Eg) (s : ByteArray) (w : World) (en : Ending) (w' : World) : Prop :=
  Below w.heap.size w w' ∧ match atomR s with
    | none => en = .returned (.tuple #[.slice none 0 0, .int .i64 2])
    | some a => (ckR e.rs a ≠ 0 ∧ en = .returned (.tuple #[.slice none 0 0, .int .i64 (ckR e.rs a)])) ∨
      (ckR e.rs a = 0 ∧ ∃ v gs, fitP e.M a gs ∧ en = .returned (.tuple #[v, .int .i64 0]) ∧ w'.ownsRow w.heap.size 9 1 v (textsOf gs).length ((textsOf gs).map strV))

theorem textsOf_len (gs : List Gd) : (textsOf gs).length = gs.length := ((List.mergeSort_perm _ _).length_eq).trans (by simp)

theorem md_size {e : Eg} (h : EgOk e) (rel x y : ByteArray) (hx : (e.M ⟨rel, x, y⟩).isSome = true) : x.size ≤ 2000 ∧ y.size ≤ 2000 := by
  have := uni_size h.rs h.nsz (h.md _ hx).2
  exact ⟨Nat.le_trans this.2.1 (by decide), Nat.le_trans this.2.2 (by decide)⟩

set_option maxHeartbeats 1000000 in
theorem asked_any (bm nn b87 : Nat) (M : Gd → Option Int) (a : Am) (va : Value) (ta : Option Addr) (tn tc : Nat) (hva : va = .slice ta tn tc) (w : World) (hM : MdAt w bm nn M) (hnn : nn ≤ 1000000) (hS : SealT w b87 va a.args) (hfo : FormOk a) (hMs : ∀ x y, (M ⟨a.rel, x, y⟩).isSome = true → x.size ≤ 2000 ∧ y.size ≤ 2000) :
    Calls Tryz.prog 51 #[.map (some bm), .agg #[.string a.rel, va]] w fun en w' => ∃ Bm Ba, en = .returned (.func (.func 93) #[] #[.pointer (some ⟨Bm, 0, none⟩), .pointer (some ⟨Ba, 0, none⟩)]) ∧ Below w.heap.size w w' ∧
      ∀ W, Below w'.heap.size w' W → Calls Tryz.prog 50 #[.func (.func 93) #[] #[.pointer (some ⟨Bm, 0, none⟩), .pointer (some ⟨Ba, 0, none⟩)]] W fun e2 W' => ∃ v gs, fitP M a gs ∧ e2 = .returned v ∧ W'.ownsRow W.heap.size 9 1 v (textsOf gs).length ((textsOf gs).map strV) ∧ Below W.heap.size W W' := by
  refine (mfits_any bm a va w ta tn tc hva).mono ?_
  rintro en w' ⟨rfl, rfl⟩
  have hb : Below w.heap.size w ((w.alloc (.cells #[.map (some bm)] 98)).alloc (.cells #[.string a.rel, va] 92)) := ((Below.refl _ w).alloc (Nat.le_refl _) _).alloc (by simp) _
  refine ⟨_, _, rfl, hb, fun W hW => ?_⟩
  have hbW : Below w.heap.size w W := hb.trans (hW.mono hb.size)
  have x1 : W.heap[w.heap.size]? = some (Obj.cells #[.map (some bm)] 98 (0, 0)) := (hW.block _ (by simp; omega)).trans ((Below.heap_alloc _ _ _ (by simp)).trans (World.alloc_heap_new w _))
  have x2 : W.heap[w.heap.size + 1]? = some (Obj.cells #[.string a.rel, va] 92 (0, 0)) := by
    refine (hW.block _ (by simp)).trans ?_
    have := World.alloc_heap_new (w.alloc (.cells #[.map (some bm)] 98)) (.cells #[.string a.rel, va] 92)
    rw [World.size_alloc] at this; exact this
  refine (texts_any (N := nn) W hnn (enters_of Tryz.func93 (by kernel_rfl) rfl) (fun m n => fits_seq n w.heap.size (w.heap.size + 1) bm nn b87 M a _ W x1 x2 (hM.mk (MKept.ofBelow (m := m) hbW)) (hS.mk (MKept.ofBelow (m := m) hbW)) hfo.args hfo.nums hfo.rel hfo.names hMs m)).mono ?_
  rintro e2 W' ⟨v, gs, rfl, ⟨ks, k1, k2, k3, k4⟩, ho, hbW', hl⟩
  have hgl : (gs.map (·.1)).map (fun g => (textG g).data.toList) = gs.map (fun g => (textG g.1).data.toList) := by rw [List.map_map]; rfl
  refine ⟨v, gs.map (·.1), ⟨ks, k1, k2, k4⟩, rfl, ?_, hbW'⟩
  rw [textsOf_len]
  unfold textsOf
  rw [hgl, List.length_map]
  exact ho

set_option maxRecDepth 100000 in
set_option maxHeartbeats 4000000 in
theorem ask_any (S : Nat → Prop) (be : Nat) (e : Eg) (s : ByteArray) (w : World) (h : EngAt w S be e) (hok : EgOk e) (hs : s.size ≤ 4611686018427387904) (hT : Lib.Utf8Tabs 0 1 w) (hn : ∀ a, atomR s = some a → ∀ t ∈ a.args, t.num < 6) :
    Calls Tryz.prog 25 #[.pointer (some ⟨be, 0, none⟩), .string s] w (AskPost e s w) := by
  have hrg := readAtom_any s w hs hT
  unfold AtomPost at hrg
  cases ha : atomR s with
  | none =>
    rw [ha] at hrg
    have HA : Hid (atomR s = none) := ha
    have HR : Hid _ := hrg
    clear hrg ha h hok hn
    go_enter Tryz.func25, Tryz.ntmps25
    go_wp2_with (go_at_call 49; refine Calls.mono HR.out ?_; rintro e' W1 ⟨hb1, rfl⟩)
    go_ret2
    exact ⟨hb1.alloc hb1.size _, by rw [HA.out]; rfl⟩
  | some a =>
    rw [ha] at hrg
    have hn' := hn a ha
    have HA : Hid (atomR s = some a) := ha
    have HR : Hid (Calls Tryz.prog 49 #[.string s] w fun e' w' => Below w.heap.size w w' ∧ ∃ va, e' = .returned (.tuple #[.agg #[.string a.rel, va], .bool true]) ∧ AmOk a ∧ SealT w' w'.heap.size va a.args) := hrg
    have hEW : Hid (∀ W, Below w.heap.size w W → EngAt W S be e) := fun W hb => h.below hb
    obtain ⟨vr, vn, vk, vf, bm, rb, b45, b87, bfs, Sf, hv⟩ := h
    have hblk : Hid (∀ W, Below w.heap.size w W → W.heap[be]? = some (Obj.cells #[vr, .int .i64 e.win, .int .i64 e.lat, .int .i64 e.que, .int .i64 e.mark, vn, vk, .map (some bm), vf] 101 (0, 0)) ∧ MdAt W bm 5000 e.M) := fun W hb => ⟨(hv.below hb).blk, (hv.below hb).md⟩
    have HRS : Hid (EgOk e) := hok
    clear hrg ha hv hok hT hn
    go_enter Tryz.func25, Tryz.ntmps25
    go_wp2_with fail
    refine Calls.mono HR.out ?_
    rintro e' W1 ⟨hb1, va, rfl, hak, hsl⟩
    obtain ⟨xa, xc, hxf⟩ := hsl.form
    subst hxf
    have hckc : Hid (∀ W, Below w.heap.size w W → Calls Tryz.prog 42 #[.pointer (some ⟨be, 0, none⟩), .agg #[.string a.rel, .slice xa a.args.length xc]] W fun en w' => en = .returned (.int .i64 (ckR e.rs a)) ∧ Below W.heap.size W w') := fun W hb => checkRel_any S be e W (hEW.out W hb) HRS.out.rs a _ _ _ rfl hak.args
    have hfit : Hid (∀ W, Below W1.heap.size W1 W → Below w.heap.size w W → Calls Tryz.prog 51 #[.map (some bm), .agg #[.string a.rel, .slice xa a.args.length xc]] W fun en w' => ∃ Bm Ba, en = .returned (.func (.func 93) #[] #[.pointer (some ⟨Bm, 0, none⟩), .pointer (some ⟨Ba, 0, none⟩)]) ∧ Below W.heap.size W w' ∧
      Hid (∀ V, Below w'.heap.size w' V → Calls Tryz.prog 50 #[.func (.func 93) #[] #[.pointer (some ⟨Bm, 0, none⟩), .pointer (some ⟨Ba, 0, none⟩)]] V fun e2 V' => ∃ v gs, fitP e.M a gs ∧ e2 = .returned v ∧ V'.ownsRow V.heap.size 9 1 v (textsOf gs).length ((textsOf gs).map strV) ∧ Below V.heap.size V V')) := fun W hb hbw =>
      asked_any bm 5000 W1.heap.size e.M a _ _ _ _ rfl W (hblk.out W hbw).2 (by decide) (hsl.rk (RuleKept.ofBelow hb)) ⟨hak.args, hn', Nat.le_trans hak.rel (by decide), fun t ht => Nat.le_trans (hak.tms t ht).name (by decide)⟩ (fun x y hx => md_size HRS.out a.rel x y hx)
    have hW1 : w.heap.size ≤ W1.heap.size := hb1.size
    have hbA : Hid (Below w.heap.size w (W1.alloc (.cells #[.string a.rel, .slice xa a.args.length xc] 92)) ∧ Below W1.heap.size W1 (W1.alloc (.cells #[.string a.rel, .slice xa a.args.length xc] 92))) := ⟨hb1.alloc hb1.size _, (Below.refl _ W1).alloc (Nat.le_refl _) _⟩
    have hbox : Hid (∀ W2, Below (W1.alloc (.cells #[.string a.rel, .slice xa a.args.length xc] 92)).heap.size (W1.alloc (.cells #[.string a.rel, .slice xa a.args.length xc] 92)) W2 → W2.heap[W1.heap.size]? = some (Obj.cells #[.string a.rel, .slice xa a.args.length xc] 92 (0, 0)) ∧ Below w.heap.size w W2 ∧ Below W1.heap.size W1 W2) := fun W2 hb =>
      ⟨(hb.block _ (by simp)).trans (World.alloc_heap_new W1 _), hbA.out.1.trans (hb.mono (by simp; omega)), hbA.out.2.trans (hb.mono (by simp))⟩
    clear hak hsl hEW
    by_cases hck : ckR e.rs a = 0
    · have HCK : Hid (ckR e.rs a = 0) := hck
      rw [hck] at hckc
      clear hck
      go_wp2_with fail
      refine (hckc.out _ hbA.out.1).mono ?_
      rintro e' W2 ⟨rfl, hb2⟩
      obtain ⟨p1, hb3, hb4⟩ := hbox.out W2 hb2
      have t0 : W2.cell? ⟨W1.heap.size, 0, none⟩ = some (.string a.rel) := by simp [World.cell?, p1]
      have t1 : W2.cell? ⟨W1.heap.size, 1, none⟩ = some (.slice xa a.args.length xc) := by simp [World.cell?, p1]
      have q1 := (hblk.out W2 hb3).1
      have t7 : W2.cell? ⟨be, 7, none⟩ = some (.map (some bm)) := by simp [World.cell?, q1]
      clear p1 q1 hb2
      have hD2 : Hid (Below W1.heap.size W1 W2.drew ∧ Below w.heap.size w W2.drew) := ⟨hb4.drew, hb3.drew⟩
      have hfin : Hid (∀ W3 W4 v gs, Below W2.drew.heap.size W2.drew W3 → Below W3.heap.size W3 W4 → fitP e.M a gs → W4.ownsRow W3.heap.size 9 1 v (textsOf gs).length ((textsOf gs).map strV) → ∀ en, en = .returned (.tuple #[v, .int .i64 0]) → AskPost e s w en W4) := fun W3 W4 v gs h1 h2 h3 h4 en hen => by
        have hx : Below w.heap.size w W3 := hb3.drew.trans (h1.mono (by show _ ≤ W2.heap.size; exact hb3.size))
        exact ⟨hx.trans (h2.mono hx.size), by rw [HA.out]; exact .inr ⟨HCK.out, v, gs, h3, hen, ownsRow_lower h4 hx.size⟩⟩
      go_wp2_with fail
      first | (go_region_with (first | (go_at_call 51; refine (hfit.out _ hD2.out.1 hD2.out.2).mono ?_; rintro e' W3 ⟨Bm, Ba, rfl, hb5, htx⟩) | (go_at_call 50; refine (htx.out W3 (Below.refl _ _)).mono ?_; rintro e' W4 ⟨tv, gs, hgs, rfl, htv, hb6⟩; obtain ⟨oa, oc, hof⟩ := owns_form htv; subst hof))) | fail
      all_goals go_wp2
      all_goals go_ret2
      all_goals exact hfin.out W3 W4 _ gs hb5 hb6 hgs htv _ rfl
    · have HCK : Hid (¬ ckR e.rs a = 0) := hck
      have hck' : (ckR e.rs a == 0) = false := by simp [hck]
      have hu : Hid (∀ (v : Value) en w', Below w.heap.size w w' → en = .returned (.tuple #[.slice none 0 0, .int .i64 (ckR e.rs a)]) → AskPost e s w en w') := fun v en w' hb hen => ⟨hb, by rw [HA.out]; exact .inl ⟨HCK.out, hen⟩⟩
      generalize ckR e.rs a = ck at *
      go_wp2_with (go_at_call 42; refine (hckc.out _ hbA.out.1).mono ?_; rintro e' W2 ⟨rfl, hb2⟩; obtain ⟨p1, hb3, hb4⟩ := hbox.out W2 hb2)
      go_ret2
      exact hu.out undef _ _ hb3 rfl

end Go.Proofs.YtjajnhemgphefaaGreatDoor

namespace Go.Proofs.YtjajnhemgphefaaGreatDoor
open Go.RowKit Go.Shelf Go.Maps
set_option linter.unusedVariables false
set_option linter.unusedSimpArgs false

def bP : ByteArray := ⟨#[112]⟩
def amB (r : ByteArray) (a b : Nat) : Am := ⟨r, [⟨ptB a, 0⟩, ⟨ptB b, 0⟩]⟩
theorem pt_ne (i : Nat) : ptB i ≠ eB := by
  intro h
  have h1 := congrArg (fun x : ByteArray => x.data.size) h
  simp [ptB, eB] at h1

theorem none_model {R : List Rl} {M : Gd → Option Int} (hM : LeastM R [] M) (g : Gd) : M g = none := by
  cases h : M g with
  | none => rfl
  | some t =>
    obtain ⟨x, hx, _⟩ := der_some (hM.sound g t h (t - 1) (by omega))
    cases hx
/-- The names of six points. -/
def PtsOk (ns : List ByteArray) : Prop := ns.Nodup ∧ ∀ x ∈ ns, ∃ j, j < 6 ∧ x = ptB j
theorem pts_nil : PtsOk [] := ⟨List.nodup_nil, by simp⟩
theorem pts_add {ns : List ByteArray} (h : PtsOk ns) (r : ByteArray) {a b : Nat} (ha : a < 6) (hb : b < 6) : PtsOk (nmL ns (amB r a b).args) := by
  refine ⟨nmL_nodup _ _ h.1, fun x hx => ?_⟩
  rcases (nmL_mem _ _ _).1 hx with hx | ⟨t, ht, _, rfl⟩
  · exact h.2 x hx
  · simp only [amB, List.mem_cons, List.not_mem_nil, or_false] at ht
    rcases ht with rfl | rfl
    · exact ⟨a, ha, rfl⟩
    · exact ⟨b, hb, rfl⟩
theorem pts_six {ns : List ByteArray} (h : PtsOk ns) : ns.length ≤ 6 := by
  have := nodup_le ns ((List.range 6).map ptB) h.1 (fun x hx => by
    obtain ⟨j, hj, rfl⟩ := h.2 x hx
    exact List.mem_map.2 ⟨j, List.mem_range.2 hj, rfl⟩)
  simpa using this
theorem ground_am (r : ByteArray) (a b : Nat) : groundA nms0 (amB r a b) = ⟨r, ptB a, ptB b⟩ := by
  show (⟨r, ofT nms0 ⟨ptB a, 0⟩, ofT nms0 ⟨ptB b, 0⟩⟩ : Gd) = _
  rw [ofT_name (by exact pt_ne a), ofT_name (by exact pt_ne b)]
theorem am_ground (r : ByteArray) (a b : Nat) : groundB (amB r a b) = true := by
  unfold groundB amB
  have h : ∀ i, varB ⟨ptB i, 0⟩ = false := fun i => by
    unfold varB
    cases hc : (ptB i).toList.isEmpty with
    | false => rfl
    | true => exact absurd ((empty_iff _).1 hc) (pt_ne i)
  simp [h]
theorem am_ok (r : ByteArray) (hr : r.size ≤ 1200) (a b : Nat) : AmOk (amB r a b) := by
  refine ⟨hr, Nat.le_refl 2, fun t ht => ?_⟩
  simp only [amB, List.mem_cons, List.not_mem_nil, or_false] at ht
  rcases ht with rfl | rfl <;> exact ⟨by show (1 : Nat) ≤ 1200; decide, by show (0 : Nat) ≤ 50; decide⟩
theorem sameD_iff (x y : Gd × Int) : sameD x y = true ↔ x = y := by
  unfold sameD
  simp only [Bool.and_eq_true, beq_iff_eq, ba_list]
  constructor
  · rintro ⟨⟨h1, h2, h3⟩, h4⟩
    obtain ⟨⟨a, b, c⟩, d⟩ := x
    obtain ⟨⟨a', b', c'⟩, d'⟩ := y
    simp only at h1 h2 h3 h4
    rw [ba_inj h1, ba_inj h2, ba_inj h3, h4]
  · rintro rfl; simp
theorem hasD_iff (l : List (Gd × Int)) (x : Gd × Int) : hasD l x = true ↔ x ∈ l := by
  unfold hasD
  rw [List.any_eq_true]
  constructor
  · rintro ⟨y, hy, h⟩; rw [sameD_iff] at h; subst h; exact hy
  · intro h; exact ⟨x, h, (sameD_iff _ _).2 rfl⟩

end Go.Proofs.YtjajnhemgphefaaGreatDoor

namespace Go.Proofs.YtjajnhemgphefaaGreatDoor
open Go.RowKit Go.Shelf Go.Maps
set_option linter.unusedVariables false
set_option linter.unusedSimpArgs false

/-- A row of texts that can be read. -/
def StrRd (W : World) (v : Value) (l : List ByteArray) : Prop := ∃ a c, v = .slice a l.length c ∧ ∀ k (h : k < l.length), ∃ g, a = some ⟨g, 0, none⟩ ∧ g < W.heap.size ∧ W.cell? ⟨g, k, none⟩ = some (.string l[k])
theorem StrRd.below {W W' : World} {v : Value} {l : List ByteArray} (h : StrRd W v l) (hb : Below W.heap.size W W') : StrRd W' v l := by
  obtain ⟨a, c, h1, h2⟩ := h
  refine ⟨a, c, h1, fun k hk => ?_⟩
  obtain ⟨g, e, hg, hc⟩ := h2 k hk
  exact ⟨g, e, Nat.lt_of_lt_of_le hg hb.size, (hb.cell (p := ⟨g, k, none⟩) hg).trans hc⟩
theorem StrRd.own {W : World} {b : Nat} {v : Value} {l : List ByteArray} (h : W.ownsRow b 9 1 v l.length (l.map Value.string)) : StrRd W v l := by
  obtain ⟨h0, ⟨hv, hz⟩ | ⟨g, c, cur, hv, _, hw, _, _, _, htk⟩⟩ := h
  · exact ⟨none, 0, by rw [hv, hz], fun k hk => by omega⟩
  · refine ⟨_, _, hv, fun k hk => ⟨g, rfl, (Array.getElem?_eq_some_iff.1 hw).1, ?_⟩⟩
    have e1 : (l.map Value.string)[k]? = some (.string l[k]) := by rw [List.getElem?_map, List.getElem?_eq_getElem hk]; rfl
    rw [← htk, List.getElem?_take, if_pos (by omega)] at e1
    simp only [World.cell?, hw]
    simpa using e1

/-- Where a text stands in a list; -1: nowhere. -/
def placeR (l : List ByteArray) (s : ByteArray) : Int := if l.findIdx (sameB s) < l.length then (l.findIdx (sameB s) : Int) else -1
theorem placeR_neg (l : List ByteArray) (s : ByteArray) : placeR l s < 0 ↔ s ∉ l := by
  unfold placeR
  constructor
  · intro h hm
    rw [if_pos (by rw [List.findIdx_lt_length]; exact ⟨s, hm, (sameB_iff _ _).2 rfl⟩)] at h
    omega
  · intro h
    rw [if_neg (fun hl => by
      rw [List.findIdx_lt_length] at hl
      obtain ⟨x, hx, he⟩ := hl
      rw [sameB_iff] at he
      exact h (by rw [he]; exact hx))]
    decide

set_option maxHeartbeats 400000 in
theorem place_any (v : Value) (l : List ByteArray) (s : ByteArray) (w : World) (h : StrRd w v l) (hl : l.length ≤ 100000) :
    Calls Tryz.prog 58 #[v, .string s] w fun e w' => e = .returned (.int .i64 (placeR l s)) ∧ w' = w := by
  obtain ⟨a, c, rfl, hc⟩ := h
  have HC : Hid _ := hc
  clear hc
  go_enter Tryz.func58, Tryz.ntmps58
  go_wp2_with fail
  go_loopw [5] (fun vi wr => wr = w ∧ ∃ k : Nat, vi = .int .i64 k ∧ k ≤ l.length ∧ Hid (∀ j, (hj : j < l.length) → j < k → sameB s l[j] = false)) (fun vi _ => l.length - (intOf vi).toNat)
  case atStart => exact ⟨rfl, 0, rfl, Nat.zero_le _, fun j _ hj => by omega⟩
  case round =>
    obtain ⟨rfl, k, rfl, hk, hno⟩ := hrel
    by_cases hlt : k < l.length
    · have i1 : (k : Int) < (l.length : Int) := by omega
      obtain ⟨g, rfl, hg, hck⟩ := HC.out k hlt
      cases hbb : ((l[k]).toList == s.toList) with
      | true =>
        have hbe : (l[k]).toList = s.toList := by simpa using hbb
        have hres : Hid (placeR l s = k) := by
          show _ = _
          have hfi : l.findIdx (sameB s) = k := by
            rw [List.findIdx_eq hlt]
            exact ⟨hbb, fun j hj => hno.out j (by omega) hj⟩
          unfold placeR
          rw [hfi, if_pos hlt]
        clear hno
        generalize l[k] = x at *
        go_wp2
        go_ret
        exact ⟨ret_int hres.out.symm, rfl⟩
      | false =>
        have hbe : ¬ (l[k]).toList = s.toList := by simpa using hbb
        have hno2 : Hid (∀ j, (hj : j < l.length) → j < k + 1 → sameB s l[j] = false) := fun j hj hjk => by
          by_cases e : j = k
          · subst e; exact hbb
          · exact hno.out j hj (by omega)
        clear hno
        generalize l[k] = x at *
        go_wp2
        refine ⟨⟨trivial, k + 1, by go_num, by omega, hno2⟩, by simp [intOf]; omega⟩
    · have hres : Hid (placeR l s = -1) := by
        show _ = _
        unfold placeR
        rw [if_neg]
        intro hl2
        have h1 := List.findIdx_getElem (w := hl2)
        rw [hno.out _ hl2 (by omega)] at h1
        cases h1
      go_wp2
      go_ret
      exact ⟨ret_int hres.out.symm, rfl⟩

/-- What a feed has told. -/
structure Fo where
  L : List ByteArray
  next : Nat
  any : Bool
/-- Block B is what a feed has told; its row is its own. -/
def FoAt (W : World) (B : Nat) (f : Fo) (v : Value) : Prop := W.heap[B]? = some (Obj.cells #[v, .int .i64 f.next, .bool f.any] 61 (0, 0)) ∧ W.ownsRow 0 9 1 v f.L.length (f.L.map Value.string)
/-- Just these, in any order? -/
def likeR (f l : List ByteArray) : Bool := decide (l.length = f.length) && l.all (fun x => decide (0 ≤ placeR f x))

set_option maxRecDepth 100000 in
set_option maxHeartbeats 1000000 in
theorem like_any (B : Nat) (f : Fo) (vf v : Value) (l : List ByteArray) (w : World) (h : FoAt w B f vf) (hv : StrRd w v l) (hl : l.length ≤ 100000) (hf : f.L.length ≤ 100000) :
    Calls Tryz.prog 28 #[.pointer (some ⟨B, 0, none⟩), v] w fun e w' => e = .returned (.bool (likeR f.L l)) ∧ Below w.heap.size w w' := by
  obtain ⟨h1, h2⟩ := h
  obtain ⟨a, c, rfl, hc⟩ := hv
  obtain ⟨fa, fc, hff⟩ := owns_form h2
  subst hff
  have c0 : w.cell? ⟨B, 0, none⟩ = some (.slice fa f.L.length fc) := by simp [World.cell?, h1]
  have hB := (Array.getElem?_eq_some_iff.1 h1).1
  have hpl : Hid (∀ W x, Below w.heap.size w W → Calls Tryz.prog 58 #[.slice fa f.L.length fc, .string x] W fun e w' => e = .returned (.int .i64 (placeR f.L x)) ∧ W = w') := fun W x hb => (place_any _ f.L x W (StrRd.own (own_below h2 hb)) hf).mono (by rintro e w' ⟨h1, h2⟩; exact ⟨h1, h2.symm⟩)
  have HC : Hid _ := hc
  clear h1 h2 hc
  by_cases hle : l.length = f.L.length
  · have i0 : ¬ ((l.length : Int) ≠ (f.L.length : Int)) := by omega
    have i0' : ((l.length : Int) == (f.L.length : Int)) = true := by simp [hle]
    have i00 : ((l.length : Int) != (f.L.length : Int)) = false := by simp [hle]
    have hlik : Hid (likeR f.L l = l.all (fun x => decide (0 ≤ placeR f.L x))) := by show _ = _; unfold likeR; simp [hle]
    have hcB : Hid (∀ W, Below w.heap.size w W → W.cell? ⟨B, 0, none⟩ = some (.slice fa f.L.length fc)) := fun W hb => (hb.cell (p := ⟨B, 0, none⟩) hB).trans c0
    clear hle
    go_enter Tryz.func28, Tryz.ntmps28
    go_wp2_with fail
    go_loopw [5] (fun vi wr => ∃ k : Nat, vi = .int .i64 k ∧ k ≤ l.length ∧ Hid (∀ j, (hj : j < l.length) → j < k → 0 ≤ placeR f.L l[j]) ∧ Below w.heap.size w wr) (fun vi _ => l.length - (intOf vi).toNat)
    case atStart => exact ⟨0, rfl, Nat.zero_le _, fun j _ hj => by omega, Below.refl _ _⟩
    case round =>
      obtain ⟨k, rfl, hk, hno, hb⟩ := hrel
      by_cases hlt : k < l.length
      · have i1 : (k : Int) < (l.length : Int) := by omega
        obtain ⟨g, rfl, hg, hck⟩ := HC.out k hlt
        have hck' := (hb.cell (p := ⟨g, k, none⟩) hg).trans hck
        have hcb := hcB.out wr hb
        have hp : Hid _ := hpl.out wr l[k] hb
        have hpd : Hid _ := hpl.out wr.drew l[k] hb.drew
        by_cases hneg : placeR f.L l[k] < 0
        · have hres : Hid (likeR f.L l = false) := by
            show _ = _
            rw [hlik.out, List.all_eq_false]
            exact ⟨l[k], List.getElem_mem hlt, by simp; omega⟩
          clear hck
          generalize l[k] = x at *
          generalize placeR f.L x = px at *
          go_wp2_with fail
          first | (go_region_with (go_at_call 58; refine Calls.mono hpd.out ?_; rintro e' w' ⟨rfl, hw'⟩; subst hw')) | fail
          all_goals go_wp2
          all_goals go_ret
          all_goals (rw [hres.out]; exact ⟨rfl, hb.drew⟩)
        · have hno2 : Hid (∀ j, (hj : j < l.length) → j < k + 1 → 0 ≤ placeR f.L l[j]) := fun j hj hjk => by
            by_cases e : j = k
            · subst e; omega
            · exact hno.out j hj (by omega)
          clear hck hno
          generalize l[k] = x at *
          generalize placeR f.L x = px at *
          go_wp2_with fail
          first | (go_region_with (go_at_call 58; refine Calls.mono hpd.out ?_; rintro e' w' ⟨rfl, hw'⟩; subst hw')) | fail
          all_goals (
            go_wp2
            refine ⟨⟨k + 1, by go_num, by omega, hno2, hb.drew⟩, ?_⟩
            simp [intOf]; omega)
      · have hres : Hid (likeR f.L l = true) := by
          show _ = _
          rw [hlik.out, List.all_eq_true]
          intro x hx
          obtain ⟨j, hj, rfl⟩ := List.getElem_of_mem hx
          have := hno.out j hj (by omega)
          simp; omega
        go_wp2
        go_ret
        rw [hres.out]
        exact ⟨rfl, hb⟩
  · have i0' : ((l.length : Int) == (f.L.length : Int)) = false := by simp; omega
    have i0 : ¬ (l.length : Int) = (f.L.length : Int) := by omega
    have hres : Hid (likeR f.L l = false) := by show _ = _; unfold likeR; simp [hle]
    rw [hres.out]
    go_enter Tryz.func28, Tryz.ntmps28
    go_wp2
    go_ret
    exact ⟨rfl, Below.refl _ _⟩

end Go.Proofs.YtjajnhemgphefaaGreatDoor

namespace Go.Proofs.YtjajnhemgphefaaGreatDoor
open Go.RowKit Go.Shelf Go.Maps
set_option linter.unusedVariables false
set_option linter.unusedSimpArgs false

/-- What was seen, in memory: marks, and the rows of texts. -/
def SeenRd (W : World) (v : Value) (l : List (Int × Value)) : Prop := ∃ a c, v = .slice a l.length c ∧ ∀ k (h : k < l.length), ∃ g, a = some ⟨g, 0, none⟩ ∧ g < W.heap.size ∧ W.cell? ⟨g, k * 2, none⟩ = some (.int .i64 (l[k]).1) ∧ W.cell? ⟨g, k * 2 + 1, none⟩ = some (l[k]).2 ∧ ∃ xa xn xc, (l[k]).2 = .slice xa xn xc
def findR (l : List (Int × Value)) (m : Int) : Option Value := (l.find? (fun d => d.1 == m)).map (·.2)
def findV : Option Value → Value
  | some v => .tuple #[v, .bool true]
  | none => .tuple #[.slice none 0 0, .bool false]

set_option maxHeartbeats 400000 in
theorem find_any (v : Value) (l : List (Int × Value)) (m : Int) (w : World) (h : SeenRd w v l) (hl : l.length ≤ 1000000000) :
    Calls Tryz.prog 57 #[v, .int .i64 m] w fun e w' => e = .returned (findV (findR l m)) ∧ w' = w := by
  obtain ⟨a, c, rfl, hc⟩ := h
  have HC : Hid _ := hc
  clear hc
  go_enter Tryz.func57, Tryz.ntmps57
  go_wp2_with fail
  go_loopw [6] (fun vi wr => wr = w ∧ ∃ k : Nat, vi = .int .i64 k ∧ k ≤ l.length ∧ Hid (findR l m = findR (l.drop k) m)) (fun vi _ => l.length - (intOf vi).toNat)
  case atStart => exact ⟨rfl, 0, rfl, Nat.zero_le _, rfl⟩
  case round =>
    obtain ⟨rfl, k, rfl, hk, hno⟩ := hrel
    by_cases hlt : k < l.length
    · have i1 : (k : Int) < (l.length : Int) := by omega
      obtain ⟨g, rfl, hg, hc1, hc2, xa, xn, xc, hsl⟩ := HC.out k hlt
      have hdrop := List.drop_eq_getElem_cons hlt
      rw [hsl] at hc2
      by_cases hm : (l[k]).1 = m
      · have hres : Hid (findR l m = some (.slice xa xn xc)) := by
          show _ = _
          rw [hno.out, hdrop]
          unfold findR
          rw [List.find?_cons_of_pos (by simp [hm]), Option.map_some, hsl]
        have hm' : ((l[k]).1 == m) = true := by simp [hm]
        clear hno hdrop hsl
        rw [hm] at hc1
        clear hm hm'
        go_wp2
        go_ret2
        rw [hres.out]
        exact ⟨rfl, rfl⟩
      · have hm' : ((l[k]).1 == m) = false := by simp [hm]
        have hno2 : Hid (findR l m = findR (l.drop (k + 1)) m) := by
          show _ = _
          rw [hno.out, hdrop]
          unfold findR
          rw [List.find?_cons_of_neg (by simp [hm])]
        clear hno hdrop hsl
        generalize (l[k]).1 = x at *
        go_wp2
        refine ⟨⟨trivial, k + 1, by go_num, by omega, hno2⟩, by simp [intOf]; omega⟩
    · have hres : Hid (findR l m = none) := by
        show _ = _
        rw [hno.out, List.drop_of_length_le (by omega)]; rfl
      go_wp2
      go_ret2
      rw [hres.out]
      exact ⟨rfl, rfl⟩

end Go.Proofs.YtjajnhemgphefaaGreatDoor
