/-
  Package model: an atom matched against the names of a ground atom: more names put, or none that fit.
  Package model: a model as a map of maps, and what is looked up in it.
  Package model: whether a model has a ground atom, and until when.
-/
import Derived.Test.YtjajnhemgphefaaGreatDoorJRangeM
import Derived.Maps.OwnSet
import Derived.Maps.RangeWalk
import Derived.DeepKeys4
namespace Go.Proofs.YtjajnhemgphefaaGreatDoor
open Go.RowKit Go.Shelf
set_option linter.unusedVariables false
set_option linter.unusedSimpArgs false

def Nms.set (n : Nms) (k : Nat) (x : ByteArray) : Nms :=
  match k with
  | 0 => { n with a0 := x }
  | 1 => { n with a1 := x }
  | 2 => { n with a2 := x }
  | 3 => { n with a3 := x }
  | 4 => { n with a4 := x }
  | 5 => { n with a5 := x }
  | _ => n
theorem Nms.set_c (n : Nms) (k : Nat) (x : ByteArray) (h : k < 6) : n.c.setIfInBounds k (.string x) = (n.set k x).c := by
  have hc : k = 0 ∨ k = 1 ∨ k = 2 ∨ k = 3 ∨ k = 4 ∨ k = 5 := by omega
  rcases hc with rfl | rfl | rfl | rfl | rfl | rfl <;> rfl
theorem Nms.get_set (n : Nms) (k j : Nat) (x : ByteArray) (h : k < 6) : (n.set k x).get j = if j = k then x else n.get j := by
  have hc : k = 0 ∨ k = 1 ∨ k = 2 ∨ k = 3 ∨ k = 4 ∨ k = 5 := by omega
  have hj : j = 0 ∨ j = 1 ∨ j = 2 ∨ j = 3 ∨ j = 4 ∨ j = 5 ∨ 6 ≤ j := by omega
  rcases hc with rfl | rfl | rfl | rfl | rfl | rfl <;> rcases hj with rfl | rfl | rfl | rfl | rfl | rfl | hj
  all_goals first
    | rfl
    | (rw [if_neg (by omega)]
       match j, hj with
       | j + 6, _ => rfl)

/-- The names behind a term that is to be x, where it has none yet. -/
def putT (n : Nms) (t : Tm) (x : ByteArray) : Nms := if t.name.toList.isEmpty = true ∧ (n.get t.num).toList.isEmpty = true then n.set t.num x else n
def matchStep (n : Nms) (t : Tm) (x : ByteArray) : Option Nms := if (ofT (putT n t x) t).toList = x.toList then some (putT n t x) else none
def matchF : Nms → List (Tm × ByteArray) → Option Nms
  | n, [] => some n
  | n, p :: l => match matchStep n p.1 p.2 with | some m => matchF m l | none => none
def matchA (n : Nms) (a : Am) (x y : ByteArray) : Option Nms := matchF n (a.args.zip [x, y])

theorem matchF_snoc (p : Tm × ByteArray) : ∀ (l : List (Tm × ByteArray)) (n : Nms), matchF n (l ++ [p]) = match matchF n l with | some m => matchStep m p.1 p.2 | none => none
  | [], n => by
    simp only [List.nil_append, matchF]
    cases matchStep n p.1 p.2 <;> rfl
  | q :: l, n => by
    simp only [List.cons_append, matchF]
    cases matchStep n q.1 q.2 with
    | none => rfl
    | some m => exact matchF_snoc p l m
theorem matchF_stop (p : Tm × ByteArray) : ∀ (l r : List (Tm × ByteArray)) (n m : Nms), matchF n l = some m → matchStep m p.1 p.2 = none → matchF n (l ++ p :: r) = none
  | [], r, n, m, h, h2 => by
    simp only [matchF, Option.some.injEq] at h; subst h
    simp only [List.nil_append, matchF, h2]
  | q :: l, r, n, m, h, h2 => by
    simp only [List.cons_append, matchF] at h ⊢
    cases hq : matchStep n q.1 q.2 with
    | none => rfl
    | some m' => rw [hq] at h; exact matchF_stop p l r m' m h h2

def nms0 : Nms := ⟨⟨#[]⟩, ⟨#[]⟩, ⟨#[]⟩, ⟨#[]⟩, ⟨#[]⟩, ⟨#[]⟩⟩

def matchV : Option Nms → Value
  | some m => .tuple #[m.v, .bool true]
  | none => .tuple #[nms0.v, .bool false]

/-- The memory of match, between two terms. -/
structure MtSt (N : Nat) (w W : World) (m : Nms) (x y : ByteArray) : Prop where
  size : N + 4 ≤ W.heap.size
  nm : W.heap[N]? = some (Obj.cells m.c 176 (0, 0))
  th : W.heap[N + 1 + 1]? = some (Obj.cells #[.string x, .string y] 109 (0, 0))
  res : W.heap[N + 1 + 1 + 1]? = some (Obj.cells nms0.c 176 (0, 0))
  low : Below N w W
theorem MtSt.below {N : Nat} {w W W' : World} {m : Nms} {x y : ByteArray} (h : MtSt N w W m x y) (hb : Below W.heap.size W W') : MtSt N w W' m x y := by
  have hz := hb.size
  have h1 := h.size
  exact ⟨by omega, (hb.block _ (by omega)).trans h.nm, (hb.block _ (by omega)).trans h.th, (hb.block _ (by omega)).trans h.res, h.low.trans (hb.mono (by omega))⟩
theorem MtSt.drewN {N : Nat} {w W : World} {m : Nms} {x y : ByteArray} (h : MtSt N w W m x y) (q : Nat) : MtSt N w (W.drewN q) m x y := ⟨h.size, h.nm, h.th, h.res, ⟨h.low.os, h.low.tape, h.low.output, h.low.size, h.low.block⟩⟩
theorem MtSt.drew {N : Nat} {w W : World} {m : Nms} {x y : ByteArray} (h : MtSt N w W m x y) : MtSt N w W.drew m x y := ⟨h.size, h.nm, h.th, h.res, h.low.drew⟩
theorem MtSt.put {N : Nat} {w W : World} {m : Nms} {x y : ByteArray} (h : MtSt N w W m x y) (k : Nat) (hk : k < 6) (z : ByteArray) : MtSt N w (W.setCell ⟨N, k, none⟩ (.string z)) (m.set k z) x y := by
  refine ⟨by have := h.size; simpa using this, ?_, (Below.heap_setCell _ _ _ _ (by show N + 1 + 1 ≠ N; omega)).trans h.th, (Below.heap_setCell _ _ _ _ (by show N + 1 + 1 + 1 ≠ N; omega)).trans h.res, h.low.setCell (p := ⟨N, k, none⟩) (by simp) _⟩
  rw [← m.set_c k z hk]
  exact heap_set h.nm k _

theorem cell_other (W : World) (N k : Nat) (v : Value) (b j : Nat) (h : b ≠ N) : (W.setCell ⟨N, k, none⟩ v).cell? ⟨b, j, none⟩ = W.cell? ⟨b, j, none⟩ :=
  World.cell?_of_block (w := W) (Below.heap_setCell _ _ _ _ h)
theorem MtSt.cells {N : Nat} {w W : World} {m : Nms} {x y : ByteArray} (h : MtSt N w W m x y) :
    W.cell? ⟨N, 0, none⟩ = some (.string m.a0) ∧ W.cell? ⟨N, 1, none⟩ = some (.string m.a1) ∧ W.cell? ⟨N, 2, none⟩ = some (.string m.a2) ∧ W.cell? ⟨N, 3, none⟩ = some (.string m.a3) ∧ W.cell? ⟨N, 4, none⟩ = some (.string m.a4) ∧ W.cell? ⟨N, 5, none⟩ = some (.string m.a5) := by
  have := h.nm
  unfold Nms.c at this
  simp [World.cell?, this]
theorem MtSt.zero {N : Nat} {w W : World} {m : Nms} {x y : ByteArray} (h : MtSt N w W m x y) :
    W.cell? ⟨N + 1 + 1 + 1, 0, none⟩ = some (.string ⟨#[]⟩) ∧ W.cell? ⟨N + 1 + 1 + 1, 1, none⟩ = some (.string ⟨#[]⟩) ∧ W.cell? ⟨N + 1 + 1 + 1, 2, none⟩ = some (.string ⟨#[]⟩) ∧ W.cell? ⟨N + 1 + 1 + 1, 3, none⟩ = some (.string ⟨#[]⟩) ∧ W.cell? ⟨N + 1 + 1 + 1, 4, none⟩ = some (.string ⟨#[]⟩) ∧ W.cell? ⟨N + 1 + 1 + 1, 5, none⟩ = some (.string ⟨#[]⟩) ∧ ∀ k, W.frozen? ⟨N + 1 + 1 + 1, k, none⟩ = false := by
  have := h.res
  unfold Nms.c nms0 at this
  simp [World.cell?, World.frozen?, this]
theorem MtSt.fin {N : Nat} {w W : World} {m : Nms} {x y : ByteArray} (h : MtSt N w W m x y) {v0 v1 v2 v3 v4 v5 : Value} : Below N w ((((((W.setCell ⟨N + 1 + 1 + 1, 0, none⟩ v0).setCell ⟨N + 1 + 1 + 1, 1, none⟩ v1).setCell ⟨N + 1 + 1 + 1, 2, none⟩ v2).setCell ⟨N + 1 + 1 + 1, 3, none⟩ v3).setCell ⟨N + 1 + 1 + 1, 4, none⟩ v4).setCell ⟨N + 1 + 1 + 1, 5, none⟩ v5) :=
  (((((h.low.setCell (p := ⟨N + 1 + 1 + 1, 0, none⟩) (by simp; omega) _).setCell (p := ⟨N + 1 + 1 + 1, 1, none⟩) (by simp; omega) _).setCell (p := ⟨N + 1 + 1 + 1, 2, none⟩) (by simp; omega) _).setCell (p := ⟨N + 1 + 1 + 1, 3, none⟩) (by simp; omega) _).setCell (p := ⟨N + 1 + 1 + 1, 4, none⟩) (by simp; omega) _).setCell (p := ⟨N + 1 + 1 + 1, 5, none⟩) (by simp; omega) _
theorem MtSt.at {N : Nat} {w W : World} {m : Nms} {x y : ByteArray} (h : MtSt N w W m x y) (k : Nat) (hk : k < 6) : W.cell? ⟨N, k, none⟩ = some (.string (m.get k)) ∧ W.frozen? ⟨N, k, none⟩ = false := by
  refine ⟨?_, by simp [World.frozen?, h.nm]⟩
  simp only [World.cell?, h.nm]
  simpa using m.cell k hk
theorem MtSt.thing {N : Nat} {w W : World} {m : Nms} {x y : ByteArray} (h : MtSt N w W m x y) (k : Nat) (hk : k < 2) : W.cell? ⟨N + 1 + 1, k, none⟩ = some (.string (if k = 0 then x else y)) := by
  have hc : k = 0 ∨ k = 1 := by omega
  rcases hc with rfl | rfl <;> simp [World.cell?, h.th]

theorem matchF_next {n m m' : Nms} {l : List (Tm × ByteArray)} {k : Nat} {p : Tm × ByteArray} (hp : l[k]? = some p) (hm : matchF n (l.take k) = some m) (hs : matchStep m p.1 p.2 = some m') : matchF n (l.take (k + 1)) = some m' := by
  rw [List.take_add_one, hp]
  simp only [Option.toList]
  rw [matchF_snoc, hm]
  exact hs
theorem matchF_fail {n m : Nms} {l : List (Tm × ByteArray)} {k : Nat} {p : Tm × ByteArray} (hp : l[k]? = some p) (hm : matchF n (l.take k) = some m) (hs : matchStep m p.1 p.2 = none) : matchF n l = none := by
  have hk : k < l.length := (List.getElem?_eq_some_iff.1 hp).1
  have e : l = l.take k ++ p :: l.drop (k + 1) := by
    have h1 := List.take_append_drop k l
    rw [List.drop_eq_getElem_cons hk] at h1
    have h2 : l[k] = p := (List.getElem?_eq_some_iff.1 hp).2
    rw [h2] at h1
    exact h1.symm
  rw [e]
  exact matchF_stop p _ _ n m hm hs

set_option maxRecDepth 100000 in
set_option maxHeartbeats 16000000 in
theorem match_any (n : Nms) (a : Am) (va : Value) (b : Nat) (x y : ByteArray) (w : World) (hS : SealT w b va a.args) (hl : a.args.length ≤ 2) (hn : ∀ t ∈ a.args, t.num < 6) :
    Calls Tryz.prog 157 #[n.v, .agg #[.string a.rel, va], .agg #[.string x, .string y]] w fun e w' => e = .returned (matchV (matchA n a x y)) ∧ Below w.heap.size w w' := by
  obtain ⟨ta, tc, htf⟩ := hS.form
  have hcell : ∀ k (hk : k < a.args.length), ∃ g, ta = some ⟨g, 0, none⟩ ∧ w.cell? ⟨g, k * 2, none⟩ = some (.string (a.args[k]).name) ∧ w.cell? ⟨g, k * 2 + 1, none⟩ = some (.int .i64 (a.args[k]).num) ∧ g < w.heap.size := by
    intro k hk
    obtain ⟨g, c', h1, h2, h3, h4⟩ := seal_cell hS hk
    rw [htf] at h1; cases h1
    exact ⟨g, rfl, h2, h3, h4⟩
  subst htf
  have hof : Hid (∀ (m : Nms) (t : Tm) (_ : t.num < 6) W, Calls Tryz.prog 151 #[.agg #[.string m.a0, .string m.a1, .string m.a2, .string m.a3, .string m.a4, .string m.a5], .agg #[.string t.name, .int .i64 t.num]] W fun e w' => e = .returned (.string (ofT m t)) ∧ Below W.heap.size W w') := fun m t ht W => of_any m t ht W
  have HC : Hid _ := hcell
  have HNm : Hid _ := hn
  clear hcell hS hn
  have HM : Hid (matchA n a x y = matchF n (a.args.zip [x, y])) := rfl
  generalize matchA n a x y = MA at *
  unfold Nms.v
  unfold Nms.c
  go_enter Tryz.func157, Tryz.ntmps157
  go_wp2
  obtain ⟨N, hN⟩ : ∃ N, w.heap.size = N := ⟨_, rfl⟩
  simp only [hN]
  obtain ⟨W0, hW0⟩ : ∃ W0, ((((w.alloc (.cells #[.string n.a0, .string n.a1, .string n.a2, .string n.a3, .string n.a4, .string n.a5] 176)).alloc (.cells #[.string a.rel, .slice ta a.args.length tc] 92)).alloc (.cells #[.string x, .string y] 109)).alloc (.cells #[.string ⟨#[]⟩, .string ⟨#[]⟩, .string ⟨#[]⟩, .string ⟨#[]⟩, .string ⟨#[]⟩, .string ⟨#[]⟩] 176)) = W0 := ⟨_, rfl⟩
  have hst0 : MtSt N w W0 n x y := by
    rw [← hW0, ← hN]
    refine ⟨by simp, ?_, ?_, ?_, ((((Below.refl _ w).alloc (Nat.le_refl _) _).alloc (by simp) _).alloc (by simp; omega) _).alloc (by simp; omega) _⟩
    · exact (Below.heap_alloc _ _ _ (by simp; omega)).trans ((Below.heap_alloc _ _ _ (by simp; omega)).trans ((Below.heap_alloc _ _ _ (by simp)).trans (World.alloc_heap_new w _)))
    · refine (Below.heap_alloc _ _ _ (by simp)).trans ?_
      have := World.alloc_heap_new ((w.alloc (.cells #[.string n.a0, .string n.a1, .string n.a2, .string n.a3, .string n.a4, .string n.a5] 176)).alloc (.cells #[.string a.rel, .slice ta a.args.length tc] 92)) (.cells #[.string x, .string y] 109)
      rw [World.size_alloc, World.size_alloc] at this
      exact this
    · have := World.alloc_heap_new (((w.alloc (.cells #[.string n.a0, .string n.a1, .string n.a2, .string n.a3, .string n.a4, .string n.a5] 176)).alloc (.cells #[.string a.rel, .slice ta a.args.length tc] 92)).alloc (.cells #[.string x, .string y] 109)) (.cells #[.string ⟨#[]⟩, .string ⟨#[]⟩, .string ⟨#[]⟩, .string ⟨#[]⟩, .string ⟨#[]⟩, .string ⟨#[]⟩] 176)
      rw [World.size_alloc, World.size_alloc, World.size_alloc] at this
      exact this
  rw [hW0]
  clear hW0
  go_loopw [13] (fun i wr => ∃ (k : Nat) (m : Nms), k ≤ a.args.length ∧ i = .int .i64 k ∧ Hid (matchF n ((a.args.zip [x, y]).take k) = some m) ∧ MtSt N w wr m x y) (fun i _ => a.args.length - (intOf i).toNat)
  case atStart => exact ⟨0, n, Nat.zero_le _, rfl, by show _ = _; simp [matchF], hst0⟩
  case round =>
    obtain ⟨k, m, hk, rfl, hm, hst⟩ := hrel
    by_cases hlt : k < a.args.length
    · obtain ⟨g, rfl, q0, q1, hg⟩ := HC.out k hlt
      have q0' := (hst.low.cell (p := ⟨g, k * 2, none⟩) (by rw [← hN]; exact hg)).trans q0
      have q1' := (hst.low.cell (p := ⟨g, k * 2 + 1, none⟩) (by rw [← hN]; exact hg)).trans q1
      have hnum : (a.args[k]).num < 6 := HNm.out _ (List.getElem_mem hlt)
      have i1 : (k : Int) < (a.args.length : Int) := by omega
      have i2 : (k : Int) < 2 := by omega
      have hk2 : k < 2 := by omega
      have hp : Hid ((a.args.zip [x, y])[k]? = some (a.args[k], if k = 0 then x else y)) := by
        show _ = _
        rw [List.getElem?_zip_eq_some]
        refine ⟨List.getElem?_eq_getElem hlt, ?_⟩
        have hc : k = 0 ∨ k = 1 := by omega
        rcases hc with rfl | rfl <;> rfl
      have hiv : Hid (∀ W, Calls Tryz.prog 139 #[.agg #[.string (a.args[k]).name, .int .i64 (a.args[k]).num]] W fun e w' => e = .returned (.bool (a.args[k]).name.toList.isEmpty) ∧ Below W.heap.size W w') := fun W => isVariable_any _ W
      have hof2 : Hid (∀ (m : Nms) W, Calls Tryz.prog 151 #[.agg #[.string m.a0, .string m.a1, .string m.a2, .string m.a3, .string m.a4, .string m.a5], .agg #[.string (a.args[k]).name, .int .i64 (a.args[k]).num]] W fun e w' => e = .returned (.string (ofT m a.args[k])) ∧ Below W.heap.size W w') := fun m W => hof.out m _ hnum W
      have hstep : Hid (matchStep m a.args[k] (if k = 0 then x else y) = if (ofT (putT m a.args[k] (if k = 0 then x else y)) a.args[k]).toList = (if k = 0 then x else y).toList then some (putT m a.args[k] (if k = 0 then x else y)) else none) := rfl
      have hput : Hid (putT m a.args[k] (if k = 0 then x else y) = if (a.args[k]).name.toList.isEmpty = true ∧ (m.get (a.args[k]).num).toList.isEmpty = true then m.set (a.args[k]).num (if k = 0 then x else y) else m) := rfl
      have hnew : Hid (∀ O W1, Below (wr.alloc O).heap.size (wr.alloc O) W1 → MtSt N w W1 m x y ∧ (∀ j, W1.cell? ⟨wr.heap.size, j, none⟩ = (wr.alloc O).cell? ⟨wr.heap.size, j, none⟩) ∧ wr.heap.size < W1.heap.size) := fun O W1 hb =>
        ⟨hst.below (((Below.refl _ wr).alloc (Nat.le_refl _) O).trans (hb.mono (by simp))), fun j => hb.cell (p := ⟨wr.heap.size, j, none⟩) (by simp), by have := hb.size; simp at this; omega⟩
      have hNs : N + 4 ≤ wr.heap.size := hst.size
      have hthk : Hid (∀ W m, MtSt N w W m x y → W.cell? ⟨N + 1 + 1, k, none⟩ = some (.string (if k = 0 then x else y))) := fun W m h => h.thing k hk2
      clear q0 q1 hst
      generalize (if k = 0 then x else y) = z at *
      generalize a.args[k] = t at *
      cases htv : t.name.toList.isEmpty with
      | false =>
        rw [htv] at hiv
        have hpm : Hid (putT m t z = m) := by show _ = _; rw [hput.out, htv]; simp
        have HOF := hof2.out (m)
        by_cases heq : (ofT (m) t).toList = z.toList
        · have hms : Hid (matchStep m t z = some (m)) := by show _ = _; rw [hstep.out, hpm.out, if_pos heq]
          have hnx : Hid (matchF n ((a.args.zip [x, y]).take (k + 1)) = some (m)) := matchF_next hp.out hm.out hms.out
          generalize ofT (m) t = ot at *
          clear htv
          go_wp2_with (go_at_call 139; refine (hiv.out _).mono ?_; rintro e W1 ⟨rfl, hb1⟩; obtain ⟨r1, r2, r3⟩ := hnew.out _ _ hb1; obtain ⟨c0, c1, c2, c3, c4, c5⟩ := r1.cells; have d0 := r2 0; have d1 := r2 1; have tk := hthk.out W1 m r1; obtain ⟨nk, nf⟩ := r1.at _ hnum; simp at d0 d1)
          go_region_with (go_at_call 151; refine (HOF _).mono ?_; rintro e W2 ⟨rfl, hb2⟩; have r4 : MtSt N w W2 (m) x y := r1.drew.below hb2; have tk2 := hthk.out W2 _ r4)
          all_goals
            go_wp2
            exact ⟨⟨k + 1, _, by omega, by go_num, hnx, r4⟩, by simp [intOf]; omega⟩
        · have hms : Hid (matchStep m t z = none) := by show _ = _; rw [hstep.out, hpm.out, if_neg heq]
          have hnx : Hid (MA = none) := by show _ = _; rw [HM.out]; exact matchF_fail hp.out hm.out hms.out
          generalize ofT (m) t = ot at *
          have hne : (ot.toList == z.toList) = false := by simp [heq]
          clear htv
          go_wp2_with (go_at_call 139; refine (hiv.out _).mono ?_; rintro e W1 ⟨rfl, hb1⟩; obtain ⟨r1, r2, r3⟩ := hnew.out _ _ hb1; obtain ⟨c0, c1, c2, c3, c4, c5⟩ := r1.cells; have d0 := r2 0; have d1 := r2 1; have tk := hthk.out W1 m r1; obtain ⟨nk, nf⟩ := r1.at _ hnum; simp at d0 d1)
          go_region_with (go_at_call 151; refine (HOF _).mono ?_; rintro e W2 ⟨rfl, hb2⟩; have r4 : MtSt N w W2 (m) x y := r1.drew.below hb2; have tk2 := hthk.out W2 _ r4; obtain ⟨e0, e1, e2, e3, e4, e5, ef⟩ := r4.zero)
          all_goals
            go_wp2
            refine bodyPost_ret (v := .tuple #[nms0.v, .bool false]) (by simp [results, Tryz.results157, go_sem, e0, e1, e2, e3, e4, e5, nms0, Nms.v, Nms.c]) rfl ?_
            rw [hnx.out, hN]
            exact ⟨rfl, r4.fin⟩
      | true =>
        rw [htv] at hiv
        cases hge : (m.get t.num).toList.isEmpty with
        | false =>
          have hpm : Hid (putT m t z = m) := by show _ = _; rw [hput.out, hge]; simp
          have HOF := hof2.out (m)
          by_cases heq : (ofT (m) t).toList = z.toList
          · have hms : Hid (matchStep m t z = some (m)) := by show _ = _; rw [hstep.out, hpm.out, if_pos heq]
            have hnx : Hid (matchF n ((a.args.zip [x, y]).take (k + 1)) = some (m)) := matchF_next hp.out hm.out hms.out
            generalize ofT (m) t = ot at *
            clear htv
            go_wp2_with (go_at_call 139; refine (hiv.out _).mono ?_; rintro e W1 ⟨rfl, hb1⟩; obtain ⟨r1, r2, r3⟩ := hnew.out _ _ hb1; obtain ⟨c0, c1, c2, c3, c4, c5⟩ := r1.cells; have d0 := r2 0; have d1 := r2 1; have tk := hthk.out W1 m r1; obtain ⟨nk, nf⟩ := r1.at _ hnum; simp at d0 d1)
            go_region_with (go_at_call 151; refine (HOF _).mono ?_; rintro e W2 ⟨rfl, hb2⟩; have r4 : MtSt N w W2 (m) x y := r1.drew.below hb2; have tk2 := hthk.out W2 _ r4)
            all_goals
              go_wp2
              exact ⟨⟨k + 1, _, by omega, by go_num, hnx, r4⟩, by simp [intOf]; omega⟩
          · have hms : Hid (matchStep m t z = none) := by show _ = _; rw [hstep.out, hpm.out, if_neg heq]
            have hnx : Hid (MA = none) := by show _ = _; rw [HM.out]; exact matchF_fail hp.out hm.out hms.out
            generalize ofT (m) t = ot at *
            have hne : (ot.toList == z.toList) = false := by simp [heq]
            clear htv
            go_wp2_with (go_at_call 139; refine (hiv.out _).mono ?_; rintro e W1 ⟨rfl, hb1⟩; obtain ⟨r1, r2, r3⟩ := hnew.out _ _ hb1; obtain ⟨c0, c1, c2, c3, c4, c5⟩ := r1.cells; have d0 := r2 0; have d1 := r2 1; have tk := hthk.out W1 m r1; obtain ⟨nk, nf⟩ := r1.at _ hnum; simp at d0 d1)
            go_region_with (go_at_call 151; refine (HOF _).mono ?_; rintro e W2 ⟨rfl, hb2⟩; have r4 : MtSt N w W2 (m) x y := r1.drew.below hb2; have tk2 := hthk.out W2 _ r4; obtain ⟨e0, e1, e2, e3, e4, e5, ef⟩ := r4.zero)
            all_goals
              go_wp2
              refine bodyPost_ret (v := .tuple #[nms0.v, .bool false]) (by simp [results, Tryz.results157, go_sem, e0, e1, e2, e3, e4, e5, nms0, Nms.v, Nms.c]) rfl ?_
              rw [hnx.out, hN]
              exact ⟨rfl, r4.fin⟩
        | true =>
          have hpm : Hid (putT m t z = m.set t.num z) := by show _ = _; rw [hput.out, htv, hge]; simp
          have HOF := hof2.out (m.set t.num z)
          by_cases heq : (ofT (m.set t.num z) t).toList = z.toList
          · have hms : Hid (matchStep m t z = some (m.set t.num z)) := by show _ = _; rw [hstep.out, hpm.out, if_pos heq]
            have hnx : Hid (matchF n ((a.args.zip [x, y]).take (k + 1)) = some (m.set t.num z)) := matchF_next hp.out hm.out hms.out
            generalize ofT (m.set t.num z) t = ot at *
            clear htv
            go_wp2_with (go_at_call 139; refine (hiv.out _).mono ?_; rintro e W1 ⟨rfl, hb1⟩; obtain ⟨r0, r2, r3⟩ := hnew.out _ _ hb1; obtain ⟨c0, c1, c2, c3, c4, c5⟩ := r0.cells; have d0 := r2 0; have d1 := r2 1; have tk := hthk.out W1 m r0; obtain ⟨nk, nf⟩ := r0.at _ hnum; simp at d0 d1)
            have r1 : MtSt N w (W1.setCell ⟨N, t.num, none⟩ (.string z)).drew (m.set t.num z) x y := (r0.put _ hnum z).drew
            have dd0 : (W1.setCell ⟨N, t.num, none⟩ (.string z)).drew.cell? ⟨wr.heap.size, 0, none⟩ = some (.string t.name) := (cell_other W1 N t.num (.string z) wr.heap.size 0 (by omega)).trans d0
            have dd1 : (W1.setCell ⟨N, t.num, none⟩ (.string z)).drew.cell? ⟨wr.heap.size, 1, none⟩ = some (.int .i64 t.num) := (cell_other W1 N t.num (.string z) wr.heap.size 1 (by omega)).trans d1
            go_region
            all_goals
              obtain ⟨W3, hW3⟩ : ∃ W3, (W1.setCell ⟨N, t.num, none⟩ (.string z)).drew = W3 := ⟨_, rfl⟩
              rw [hW3] at r1 dd0 dd1
              (try simp only [hW3])
              obtain ⟨b0, b1, b2, b3, b4, b5⟩ := r1.cells
              have tk3 := hthk.out W3 _ r1
              clear c0 c1 c2 c3 c4 c5 d0 d1 tk nk nf hW3
              (try go_wp2)
              go_region_with (go_at_call 151; refine (HOF _).mono ?_; rintro e W2 ⟨rfl, hb2⟩; have r4 : MtSt N w W2 (m.set t.num z) x y := r1.drew.below hb2; have tk2 := hthk.out W2 _ r4)
              all_goals
                go_wp2
                exact ⟨⟨k + 1, _, by omega, by go_num, hnx, r4⟩, by simp [intOf]; omega⟩
          · have hms : Hid (matchStep m t z = none) := by show _ = _; rw [hstep.out, hpm.out, if_neg heq]
            have hnx : Hid (MA = none) := by show _ = _; rw [HM.out]; exact matchF_fail hp.out hm.out hms.out
            generalize ofT (m.set t.num z) t = ot at *
            have hne : (ot.toList == z.toList) = false := by simp [heq]
            clear htv
            go_wp2_with (go_at_call 139; refine (hiv.out _).mono ?_; rintro e W1 ⟨rfl, hb1⟩; obtain ⟨r0, r2, r3⟩ := hnew.out _ _ hb1; obtain ⟨c0, c1, c2, c3, c4, c5⟩ := r0.cells; have d0 := r2 0; have d1 := r2 1; have tk := hthk.out W1 m r0; obtain ⟨nk, nf⟩ := r0.at _ hnum; simp at d0 d1)
            have r1 : MtSt N w (W1.setCell ⟨N, t.num, none⟩ (.string z)).drew (m.set t.num z) x y := (r0.put _ hnum z).drew
            have dd0 : (W1.setCell ⟨N, t.num, none⟩ (.string z)).drew.cell? ⟨wr.heap.size, 0, none⟩ = some (.string t.name) := (cell_other W1 N t.num (.string z) wr.heap.size 0 (by omega)).trans d0
            have dd1 : (W1.setCell ⟨N, t.num, none⟩ (.string z)).drew.cell? ⟨wr.heap.size, 1, none⟩ = some (.int .i64 t.num) := (cell_other W1 N t.num (.string z) wr.heap.size 1 (by omega)).trans d1
            go_region
            all_goals
              obtain ⟨W3, hW3⟩ : ∃ W3, (W1.setCell ⟨N, t.num, none⟩ (.string z)).drew = W3 := ⟨_, rfl⟩
              rw [hW3] at r1 dd0 dd1
              (try simp only [hW3])
              obtain ⟨b0, b1, b2, b3, b4, b5⟩ := r1.cells
              have tk3 := hthk.out W3 _ r1
              clear c0 c1 c2 c3 c4 c5 d0 d1 tk nk nf hW3
              (try go_wp2)
              go_region_with (go_at_call 151; refine (HOF _).mono ?_; rintro e W2 ⟨rfl, hb2⟩; have r4 : MtSt N w W2 (m.set t.num z) x y := r1.drew.below hb2; have tk2 := hthk.out W2 _ r4; obtain ⟨e0, e1, e2, e3, e4, e5, ef⟩ := r4.zero)
              all_goals
                go_wp2
                refine bodyPost_ret (v := .tuple #[nms0.v, .bool false]) (by simp [results, Tryz.results157, go_sem, e0, e1, e2, e3, e4, e5, nms0, Nms.v, Nms.c]) rfl ?_
                rw [hnx.out, hN]
                exact ⟨rfl, r4.fin⟩
    · have hka : k = a.args.length := by omega
      have hall : Hid (MA = some m) := by
        show _ = _
        rw [HM.out, ← hm.out, List.take_of_length_le (by simp; omega)]
      obtain ⟨c0, c1, c2, c3, c4, c5⟩ := hst.cells
      obtain ⟨e0, e1, e2, e3, e4, e5, ef⟩ := hst.zero
      go_wp2
      refine bodyPost_ret (v := .tuple #[m.v, .bool true]) (by simp [results, Tryz.results157, go_sem, e0, e1, e2, e3, e4, e5, Nms.v, Nms.c]) rfl ?_
      rw [hall.out, hN]
      exact ⟨rfl, hst.fin⟩

end Go.Proofs.YtjajnhemgphefaaGreatDoor

namespace Go.Proofs.YtjajnhemgphefaaGreatDoor
open Go.RowKit Go.Shelf Go.Maps
set_option linter.unusedVariables false
set_option linter.unusedSimpArgs false

theorem strKey : Keyed Tryz.prog 9 := string_keyed Tryz.underlying9
theorem laidOutM : laidOutB Tryz.prog = true := by kernel_rfl
theorem thingKey : Keyed Tryz.prog 109 := Keyed.of_law (deep_law_laid laidOutM (m := 5) (by decide) (of_decide_eq_true (by kernel_rfl)) (by kernel_rfl) (by kernel_rfl))

def kS (s : ByteArray) : Lit := .string s.data.toList
def kT (x y : ByteArray) : Lit := .string (keyBytes [.string x.data.toList, .string y.data.toList])
def thingV (x y : ByteArray) : Value := .agg #[.string x, .string y]

theorem keyOf_str (s : ByteArray) (h : s.size ≤ maxLen) : keyOf Tryz.prog 9 (.string s) = some (kS s) := WideMaps.keyOf_string_mk Tryz.underlying9 h

theorem thing_keyType : Tryz.prog.keyType 109 = true := by kernel_rfl
theorem types_pos : decide (0 < Tryz.prog.types.size) = true := by kernel_rfl
theorem types_size : ∃ d, Tryz.prog.types.size = d + 1 := by
  have h := of_decide_eq_true types_pos
  exact ⟨Tryz.prog.types.size - 1, by omega⟩
theorem thing_cells : Tryz.prog.cellsOf 109 = 2 := by kernel_rfl
theorem str_cells : Tryz.prog.cellsOf 9 = 1 := by kernel_rfl

theorem keyOf_thing (x y : ByteArray) (hx : x.size ≤ maxLen) (hy : y.size ≤ maxLen) : keyOf Tryz.prog 109 (thingV x y) = some (kT x y) := by
  obtain ⟨d, hd⟩ := types_size
  have hf : (thingV x y).formed Tryz.prog 109 = true := by
    simp [thingV, Value.formed, Tryz.underlying109, thing_cells]
  unfold keyOf
  rw [Tryz.underlying109]
  simp only [thing_keyType, hf, Bool.and_self, if_true, hd]
  simp [Program.keyLits, Tryz.underlying109, Tryz.underlying9, thing_cells, str_cells, thingV, Value.cells, hx, hy, kT, List.range_succ]


/-- How an element of the outer map reads: as it is. -/
def RV (v : Value) : Option (DataW Value × List MemPlace) := some (.held v, [])

/-- Block b is the map of one relation's things and their ends. -/
def InnerAt (W : World) (b n : Nat) (rel : ByteArray) (M : Gd → Option Int) : Prop :=
  ∃ Di : DataW Value, W.ownsMap Tryz.prog 109 (plainElem Tryz.prog 3) b n Di ∧
    ∀ x y : ByteArray, x.size ≤ maxLen → y.size ≤ maxLen → Maps.has Di (kT x y) = (M ⟨rel, x, y⟩).isSome ∧ Di.atKey (kT x y) (.lit (.int .i64 0)) = .lit (.int .i64 ((M ⟨rel, x, y⟩).getD 0))

/-- Block B is a model: M tells the end of each ground atom that it has. -/
def MdAt (W : World) (B n : Nat) (M : Gd → Option Int) : Prop :=
  ∃ (D : DataW Value) (blk : ByteArray → Option Nat), W.ownsMap Tryz.prog 9 RV B n D ∧
    (∀ rel : ByteArray, rel.size ≤ maxLen →
      (blk rel = none → Maps.has D (kS rel) = false ∧ ∀ x y, M ⟨rel, x, y⟩ = none) ∧
      (∀ b, blk rel = some b → Maps.has D (kS rel) = true ∧ D.atKey (kS rel) (.held (.map none)) = .held (.map (some b)) ∧ b ≠ B ∧ InnerAt W b n rel M)) ∧
    (∀ r1 r2 b, blk r1 = some b → blk r2 = some b → r1 = r2) ∧ (∀ r b, blk r = some b → r.size ≤ maxLen)

theorem MdAt.kept {W W' : World} {B n : Nat} {M : Gd → Option Int} (h : MdAt W B n M) (hk : ∀ (k : Nat) (es : Array MapEntry) (c : Nat), W.heap[k]? = some (Obj.map es c) → W'.heap[k]? = some (Obj.map es c)) : MdAt W' B n M := by
  have ho : ∀ {k : TypeId} {R : Value → Option (DataW Value × List MemPlace)} {b n : Nat} {D : DataW Value}, W.ownsMap Tryz.prog k R b n D → W'.ownsMap Tryz.prog k R b n D := by
    rintro k R b n D ⟨es, c, h1, h2, h3, h4⟩
    exact ⟨es, c, hk _ _ _ h1, h2, h3, h4⟩
  obtain ⟨D, blk, h1, h2, h3⟩ := h
  refine ⟨D, blk, ho h1, fun rel hr => ⟨(h2 rel hr).1, fun b hb => ?_⟩, h3⟩
  obtain ⟨a1, a2, a3, Di, a4, a5⟩ := (h2 rel hr).2 b hb
  exact ⟨a1, a2, a3, Di, ho a4, a5⟩
theorem MdAt.below {W W' : World} {B n : Nat} {M : Gd → Option Int} (h : MdAt W B n M) (hb : Below W.heap.size W W') : MdAt W' B n M :=
  h.kept (fun k es c hk => (hb.block k (Array.getElem?_eq_some_iff.1 hk).1).trans hk)

theorem lookOuter {W : World} {B n : Nat} {D : DataW Value} (h : W.ownsMap Tryz.prog 9 RV B n D) (rel : ByteArray) (hr : rel.size ≤ maxLen) :
    ∃ mv, (Instr.lookup 98 (.map (some B)) (.string rel) false).run Tryz.prog W = .ok mv W ∧ D.atKey (kS rel) (.held (.map none)) = .held mv := by
  obtain ⟨es, clock, hb, F, _, rfl⟩ := h
  rcases Maps.fit_look false strKey Tryz.underlying98 (Tryz.zeroValue174 W) hb F (keyOf_str rel hr) with ⟨hrun, _, hat⟩ | ⟨e0, y, _, _, hrun, hRv, hat, _⟩
  · exact ⟨.map none, hrun, hat _⟩
  · refine ⟨e0.val, hrun, ?_⟩
    rw [hat]
    unfold RV at hRv
    cases hRv
    rfl

theorem MdAt.look {W : World} {B n : Nat} {M : Gd → Option Int} (h : MdAt W B n M) (g : Gd) (hr : g.rel.size ≤ maxLen) (hx : g.x.size ≤ maxLen) (hy : g.y.size ≤ maxLen) :
    ∃ mb, (Instr.lookup 98 (.map (some B)) (.string g.rel) false).run Tryz.prog W = .ok (.map mb) W ∧
      (Instr.lookup 174 (.map mb) (thingV g.x g.y) true).run Tryz.prog W = .ok (.tuple #[.int .i64 ((M g).getD 0), .bool (M g).isSome]) W ∧
      (Instr.lookup 174 (.map mb) (thingV g.x g.y) false).run Tryz.prog W = .ok (.int .i64 ((M g).getD 0)) W := by
  obtain ⟨D, blk, h1, h2, h3⟩ := h
  obtain ⟨mv, e1, e2⟩ := lookOuter h1 g.rel hr
  have hk := keyOf_thing g.x g.y hx hy
  cases hbk : blk g.rel with
  | none =>
    obtain ⟨a1, a2⟩ := (h2 g.rel hr).1 hbk
    have hz : D.atKey (kS g.rel) (.held (.map none)) = .held (.map none) := Maps.atKey_of_not_has a1 _
    rw [hz] at e2
    cases e2
    have hM : M g = none := a2 g.x g.y
    refine ⟨none, e1, ?_, ?_⟩
    · have := Maps.look_nil (w := W) true thingKey Tryz.underlying174 (Tryz.zeroValue3 W) hk
      rw [hM]; exact this
    · have := Maps.look_nil (w := W) false thingKey Tryz.underlying174 (Tryz.zeroValue3 W) hk
      rw [hM]; exact this
  | some b =>
    obtain ⟨a1, a2, a3, Di, a4, a5⟩ := (h2 g.rel hr).2 b hbk
    rw [a2] at e2
    cases e2
    obtain ⟨k1, k2⟩ := a5 g.x g.y hx hy
    refine ⟨some b, e1, ?_, ?_⟩
    · obtain ⟨v, ps, q1, q2⟩ := a4.look_ok thingKey Tryz.underlying174 (Tryz.zeroValue3 W) (zd := .lit (.int .i64 0)) (zp := []) (plainElem_int Tryz.underlying3 (by decide)) hk
      rw [k2] at q2
      obtain ⟨c, rfl, hc, _⟩ := plainElem_int_inv Tryz.underlying3 q2
      cases hc
      rw [k1] at q1
      exact q1
    · obtain ⟨c, q1, q2, q3⟩ := a4.lookup_int thingKey Tryz.underlying174 Tryz.underlying3 (Tryz.zeroValue3 W) hk
      rw [k2] at q2
      cases q2
      exact q1

end Go.Proofs.YtjajnhemgphefaaGreatDoor

namespace Go.Proofs.YtjajnhemgphefaaGreatDoor
open Go.RowKit Go.Shelf Go.Maps
set_option linter.unusedVariables false
set_option linter.unusedSimpArgs false

structure GdOk (g : Gd) : Prop where
  rel : g.rel.size ≤ maxLen
  x : g.x.size ≤ maxLen
  y : g.y.size ≤ maxLen

set_option maxHeartbeats 2000000 in
theorem has_any (B n : Nat) (M : Gd → Option Int) (g : Gd) (hg : GdOk g) (w : World) (hM : MdAt w B n M) :
    Calls Tryz.prog 136 #[.map (some B), g.v] w fun e w' => e = .returned (.bool (M g).isSome) ∧ Below w.heap.size w w' := by
  have hl : ∀ O, ∃ mb, _ := fun O => (hM.below ((Below.refl _ w).alloc (Nat.le_refl _) O)).look g hg.rel hg.x hg.y
  unfold Gd.v Gd.c
  unfold thingV at hl
  obtain ⟨mb, l1, l2, l3⟩ := hl (.cells #[.string g.rel, .string g.x, .string g.y] 111)
  clear hl hM
  go_enter Tryz.func136, Tryz.ntmps136
  go_wp2
  go_ret
  exact ⟨rfl, (Below.refl _ w).alloc (Nat.le_refl _) _⟩

set_option maxHeartbeats 2000000 in
theorem end_any (B n : Nat) (M : Gd → Option Int) (g : Gd) (hg : GdOk g) (w : World) (hM : MdAt w B n M) :
    Calls Tryz.prog 47 #[.map (some B), g.v] w fun e w' => e = .returned (.int .i64 ((M g).getD 0)) ∧ Below w.heap.size w w' := by
  have hl : ∀ O, ∃ mb, _ := fun O => (hM.below ((Below.refl _ w).alloc (Nat.le_refl _) O)).look g hg.rel hg.x hg.y
  unfold Gd.v Gd.c
  unfold thingV at hl
  obtain ⟨mb, l1, l2, l3⟩ := hl (.cells #[.string g.rel, .string g.x, .string g.y] 111)
  clear hl hM
  go_enter Tryz.func47, Tryz.ntmps47
  go_wp2
  go_ret
  exact ⟨rfl, (Below.refl _ w).alloc (Nat.le_refl _) _⟩

/-- Of what lay there only maps were changed. -/
structure MapOnly (w w' : World) : Prop where
  os : w'.os = w.os
  tape : w'.tape = w.tape
  output : w'.output = w.output
  size : w.heap.size ≤ w'.heap.size
  block : ∀ (k : Nat) (o : Obj), w.heap[k]? = some o → (∀ es c, o ≠ Obj.map es c) → w'.heap[k]? = some o

theorem eqNil (w : World) : (binOp .eql 174 (.map none) (.map none)).run Tryz.prog w = .ok (.bool true) w := by kernel_rfl
theorem eqSome (b : Nat) (w : World) : (binOp .eql 174 (.map (some b)) (.map none)).run Tryz.prog w = .ok (.bool false) w := by kernel_rfl

def updM (M : Gd → Option Int) (g : Gd) (e : Int) : Gd → Option Int := fun h => if h.rel = g.rel ∧ h.x = g.x ∧ h.y = g.y then some e else M h

theorem ba_inj {x y : ByteArray} (h : x.data.toList = y.data.toList) : x = y := by
  cases x; cases y
  simp only [ByteArray.mk.injEq]
  exact Array.toList_inj.1 h
theorem kS_inj {r s : ByteArray} (h : kS r = kS s) : r = s := by
  unfold kS at h
  injection h with h
  exact ba_inj h
theorem kT_inj {x y x' y' : ByteArray} (hx : x.size ≤ maxLen) (hy : y.size ≤ maxLen) (hx' : x'.size ≤ maxLen) (hy' : y'.size ≤ maxLen) (h : kT x y = kT x' y') : x = x' ∧ y = y' := by
  have h1 := keyOf_thing x y hx hy
  have h2 := keyOf_thing x' y' hx' hy'
  rw [h] at h1
  have h3 := thingKey.inj h1 h2
  simp [thingV] at h3
  exact h3

theorem inner_put {M : Gd → Option Int} {g : Gd} {e : Int} (hg : GdOk g) {Di : DataW Value} (hmap : IsMap Di)
    (hspec : ∀ x y : ByteArray, x.size ≤ maxLen → y.size ≤ maxLen → Maps.has Di (kT x y) = (M ⟨g.rel, x, y⟩).isSome ∧ Di.atKey (kT x y) (.lit (.int .i64 0)) = .lit (.int .i64 ((M ⟨g.rel, x, y⟩).getD 0))) :
    ∀ x y : ByteArray, x.size ≤ maxLen → y.size ≤ maxLen → Maps.has (Di.put (kT g.x g.y) (.lit (.int .i64 e))) (kT x y) = (updM M g e ⟨g.rel, x, y⟩).isSome ∧ (Di.put (kT g.x g.y) (.lit (.int .i64 e))).atKey (kT x y) (.lit (.int .i64 0)) = .lit (.int .i64 ((updM M g e ⟨g.rel, x, y⟩).getD 0)) := by
  intro x y hx hy
  by_cases h : x = g.x ∧ y = g.y
  · obtain ⟨rfl, rfl⟩ := h
    have hu : updM M g e ⟨g.rel, g.x, g.y⟩ = some e := by unfold updM; simp
    rw [hu]
    exact ⟨Maps.has_put_same hmap (thingKey.key (keyOf_thing _ _ hg.x hg.y)) _, Maps.atKey_put_same hmap (thingKey.key (keyOf_thing _ _ hg.x hg.y)) _ _⟩
  · have hu : updM M g e ⟨g.rel, x, y⟩ = M ⟨g.rel, x, y⟩ := by unfold updM; rw [if_neg (fun h' => h h'.2)]
    have hne : kT x y ≠ kT g.x g.y := fun h' => h (kT_inj hx hy hg.x hg.y h')
    rw [hu, Maps.has_put_other hne, Maps.atKey_put_other hne]
    exact hspec x y hx hy

theorem upd_other {M : Gd → Option Int} {g : Gd} {e : Int} {r : ByteArray} (h : r ≠ g.rel) (x y : ByteArray) : updM M g e ⟨r, x, y⟩ = M ⟨r, x, y⟩ := by
  unfold updM; rw [if_neg (fun h' => h h'.1)]

theorem inner_other {W W' : World} {b n n' : Nat} {r : ByteArray} {M : Gd → Option Int} {g : Gd} {e : Int} (h : InnerAt W b n r M) (hr : r ≠ g.rel) (hk : W'.heap[b]? = W.heap[b]?) (hn : n ≤ n') : InnerAt W' b n' r (updM M g e) := by
  obtain ⟨Di, ⟨es, c, h1, h2, h3, h4⟩, h5⟩ := h
  refine ⟨Di, ⟨es, c, hk.trans h1, h2, by omega, h4⟩, fun x y hx hy => ?_⟩
  rw [upd_other hr]
  exact h5 x y hx hy

theorem InnerAt.lt {W : World} {b n : Nat} {r : ByteArray} {M : Gd → Option Int} (h : InnerAt W b n r M) : b < W.heap.size := by
  obtain ⟨Di, h1, _⟩ := h; exact h1.lt

/-- A model all of whose blocks lie at lo or behind it. -/
def MdL (lo : Nat) (W : World) (B n : Nat) (M : Gd → Option Int) : Prop :=
  ∃ (D : DataW Value) (blk : ByteArray → Option Nat), W.ownsMap Tryz.prog 9 RV B n D ∧
    (∀ rel : ByteArray, rel.size ≤ maxLen →
      (blk rel = none → Maps.has D (kS rel) = false ∧ ∀ x y, M ⟨rel, x, y⟩ = none) ∧
      (∀ b, blk rel = some b → Maps.has D (kS rel) = true ∧ D.atKey (kS rel) (.held (.map none)) = .held (.map (some b)) ∧ b ≠ B ∧ InnerAt W b n rel M)) ∧
    (∀ r1 r2 b, blk r1 = some b → blk r2 = some b → r1 = r2) ∧ (∀ r b, blk r = some b → r.size ≤ maxLen) ∧ lo ≤ B ∧ ∀ r b, blk r = some b → lo ≤ b
theorem MdL.at' {lo : Nat} {W : World} {B n : Nat} {M : Gd → Option Int} (h : MdL lo W B n M) : MdAt W B n M := by
  obtain ⟨D, blk, h1, h2, h3, h4, _⟩ := h
  exact ⟨D, blk, h1, h2, h3, h4⟩
theorem MdL.kept {lo : Nat} {W W' : World} {B n : Nat} {M : Gd → Option Int} (h : MdL lo W B n M) (hk : ∀ (k : Nat) (es : Array MapEntry) (c : Nat), W.heap[k]? = some (Obj.map es c) → W'.heap[k]? = some (Obj.map es c)) : MdL lo W' B n M := by
  have ho : ∀ {k : TypeId} {R : Value → Option (DataW Value × List MemPlace)} {b n : Nat} {D : DataW Value}, W.ownsMap Tryz.prog k R b n D → W'.ownsMap Tryz.prog k R b n D := by
    rintro k R b n D ⟨es, c, h1, h2, h3, h4⟩
    exact ⟨es, c, hk _ _ _ h1, h2, h3, h4⟩
  obtain ⟨D, blk, h1, h2, h3⟩ := h
  refine ⟨D, blk, ho h1, fun rel hr => ⟨(h2 rel hr).1, fun b hb => ?_⟩, h3⟩
  obtain ⟨a1, a2, a3, Di, a4, a5⟩ := (h2 rel hr).2 b hb
  exact ⟨a1, a2, a3, Di, ho a4, a5⟩
theorem MdAt.lo {W : World} {B n : Nat} {M : Gd → Option Int} (h : MdAt W B n M) : MdL 0 W B n M := by
  obtain ⟨D, blk, h1, h2, h3, h4⟩ := h
  exact ⟨D, blk, h1, h2, h3, h4, Nat.zero_le _, fun _ _ _ => Nat.zero_le _⟩
theorem MdL.mono {lo n n' : Nat} {W : World} {B : Nat} {M : Gd → Option Int} (h : MdL lo W B n M) (hn : n ≤ n') : MdL lo W B n' M := by
  obtain ⟨D, blk, h1, h2, h3⟩ := h
  refine ⟨D, blk, h1.mono hn, fun rel hr => ⟨(h2 rel hr).1, fun b hb => ?_⟩, h3⟩
  obtain ⟨a1, a2, a3, Di, a4, a5⟩ := (h2 rel hr).2 b hb
  exact ⟨a1, a2, a3, Di, a4.mono hn, a5⟩

set_option maxRecDepth 100000 in
set_option maxHeartbeats 4000000 in
theorem add_lo (lo B n : Nat) (M : Gd → Option Int) (g : Gd) (e : Int) (hg : GdOk g) (w : World) (hM : MdL lo w B n M) (hn : n + 5 < maxLen) (he : (Lit.int .i64 e).wf = true) :
    Calls Tryz.prog 137 #[.map (some B), .agg #[.string g.rel, .string g.x, .string g.y, .int .i64 e]] w fun e' w' => e' = .returned (.tuple #[]) ∧ MdL lo w' B (n + 2) (updM M g e) ∧ MapOnly w w' ∧ Below lo w w' := by
  have hm := @run_makeMap Tryz.prog
  have hq1 := eqNil
  have hq2 := eqSome
  have hkey := keyOf_thing g.x g.y hg.x hg.y
  unfold thingV at hkey
  have HKey : Hid _ := hkey
  obtain ⟨D, blk, h1, h2, h3, h4, h5, h6⟩ := hM
  have hBw : B < w.heap.size := h1.lt
  have hDm : IsMap D := h1.isMap
  have hBmap : ∃ es c, w.heap[B]? = some (Obj.map es c) := by obtain ⟨es, c, h, _⟩ := h1; exact ⟨es, c, h⟩
  have hout : ∀ O, ∃ mv, (Instr.lookup 98 (.map (some B)) (.string g.rel) false).run Tryz.prog (w.alloc O) = .ok mv (w.alloc O) ∧ D.atKey (kS g.rel) (.held (.map none)) = .held mv := fun O => lookOuter (h1.alloc O) g.rel hg.rel
  have HPE : Hid (plainElem (H := Value) Tryz.prog 3 (.int .i64 e) = some (.lit (.int .i64 e), [])) := plainElem_int Tryz.underlying3 he
  cases hbk : blk g.rel with
  | none =>
    obtain ⟨a1, a2⟩ := (h2 g.rel hg.rel).1 hbk
    have hz : D.atKey (kS g.rel) (.held (.map none)) = .held (.map none) := Maps.atKey_of_not_has a1 _
    obtain ⟨mv, e1, e2⟩ := hout (.cells #[.string g.rel, .string g.x, .string g.y, .int .i64 e] 172)
    rw [hz] at e2
    cases e2
    -- the world behind the two blocks that are laid
    obtain ⟨W1, hW1⟩ : ∃ W1, (w.alloc (.cells #[.string g.rel, .string g.x, .string g.y, .int .i64 e] 172)).alloc (.map #[] 0) = W1 := ⟨_, rfl⟩
    have hb1 : Below w.heap.size w W1 := by rw [← hW1]; exact ((Below.refl _ w).alloc (Nat.le_refl _) _).alloc (by simp) _
    have hO : W1.ownsMap Tryz.prog 9 RV B n D := by rw [← hW1]; exact (h1.alloc _).alloc _
    have hI : W1.ownsMap Tryz.prog 109 (plainElem (H := Value) Tryz.prog 3) (w.heap.size + 1) 0 (.map []) := by
      rw [← hW1]
      have := World.ownsMap_made (H := Value) (w.alloc (.cells #[.string g.rel, .string g.x, .string g.y, .int .i64 e] 172)) Tryz.prog 109 (plainElem Tryz.prog 3)
      rw [World.size_alloc] at this; exact this
    have hL : W1.heap[w.heap.size]? = some (Obj.cells #[.string g.rel, .string g.x, .string g.y, .int .i64 e] 172 (0, 0)) := by
      rw [← hW1]; exact (Below.heap_alloc _ _ _ (by simp)).trans (World.alloc_heap_new w _)
    have hs1 : W1.heap.size = w.heap.size + 2 := by rw [← hW1]; simp
    have hS1 : Hid (∀ w1, w1.ownsMap Tryz.prog 9 RV B (n + 1) (D.put (kS g.rel) (.held (.map (some (w.heap.size + 1))))) → W1.grownBy w1 (some B) →
        (Instr.lookup 98 (.map (some B)) (.string g.rel) false).run Tryz.prog w1 = .ok (.map (some (w.heap.size + 1))) w1 ∧ w1.heap[w.heap.size]? = some (Obj.cells #[.string g.rel, .string g.x, .string g.y, .int .i64 e] 172 (0, 0)) ∧ w1.ownsMap Tryz.prog 109 (plainElem (H := Value) Tryz.prog 3) (w.heap.size + 1) 0 (.map [])) := by
      intro w1 ho hgr
      obtain ⟨mv, q1, q2⟩ := lookOuter ho g.rel hg.rel
      rw [Maps.atKey_put_same hDm (strKey.key (keyOf_str _ hg.rel))] at q2
      cases q2
      exact ⟨q1, (hgr.block _ (by omega) (by simp; omega)).trans hL, hI.kept hgr (by simp; omega)⟩
    have hfin : Hid (∀ w1 w2, w1.ownsMap Tryz.prog 9 RV B (n + 1) (D.put (kS g.rel) (.held (.map (some (w.heap.size + 1))))) → W1.grownBy w1 (some B) → w2.ownsMap Tryz.prog 109 (plainElem (H := Value) Tryz.prog 3) (w.heap.size + 1) (0 + 1) ((DataW.map []).put (kT g.x g.y) (.lit (.int .i64 e))) → w1.grownBy w2 (some (w.heap.size + 1)) → MdL lo w2 B (n + 2) (updM M g e) ∧ MapOnly w w2 ∧ Below lo w w2) := by
      intro w1 w2 ho hg1 hi hg2
      have hs2 := hg1.size
      have hkeep : ∀ k : Nat, k < w.heap.size → k ≠ B → w2.heap[k]? = w.heap[k]? := fun k hk hne =>
        ((hg2.block k (by omega) (by simp; omega)).trans (hg1.block k (by omega) (by simp; omega))).trans (hb1.block k hk)
      refine ⟨⟨D.put (kS g.rel) (.held (.map (some (w.heap.size + 1)))), fun r => if r = g.rel then some (w.heap.size + 1) else blk r, (ho.kept hg2 (by simp; omega)).mono (by omega), fun r hr => ?_, ?_, ?_, h5, ?_⟩, ⟨?_, ?_, ?_, ?_, ?_⟩, ⟨hg2.os.trans (hg1.os.trans hb1.os), hg2.tape.trans (hg1.tape.trans hb1.tape), hg2.output.trans (hg1.output.trans hb1.output), by have := hg2.size; omega, fun k hk => hkeep k (by omega) (by omega)⟩⟩
      · by_cases hrr : r = g.rel
        · subst hrr
          simp only [if_true]
          refine ⟨fun h => (by cases h), fun b' hb' => ?_⟩
          cases hb'
          refine ⟨Maps.has_put_same hDm (strKey.key (keyOf_str _ hg.rel)) _, Maps.atKey_put_same hDm (strKey.key (keyOf_str _ hg.rel)) _ _, by omega, _, hi.mono (by omega), inner_put hg ⟨[], rfl⟩ (fun x y hx hy => ?_)⟩
          rw [a2 x y]
          exact ⟨rfl, rfl⟩
        · have hne : kS r ≠ kS g.rel := fun h => hrr (kS_inj h)
          simp only [if_neg hrr]
          rw [Maps.has_put_other hne, Maps.atKey_put_other hne]
          refine ⟨fun h => ?_, fun b' hb' => ?_⟩
          · obtain ⟨q1, q2⟩ := (h2 r hr).1 h
            exact ⟨q1, fun x y => by rw [upd_other hrr]; exact q2 x y⟩
          · obtain ⟨q1, q2, q3, q4⟩ := (h2 r hr).2 b' hb'
            exact ⟨q1, q2, q3, inner_other q4 hrr (hkeep b' q4.lt q3) (by omega)⟩
      · intro r1 r2 b' k1 k2
        simp only at k1 k2
        have hblkN : ∀ r, blk r ≠ some (w.heap.size + 1) := fun r h => by have := ((h2 r (h4 r _ h)).2 _ h).2.2.2.lt; omega
        by_cases hr1 : r1 = g.rel
        · by_cases hr2 : r2 = g.rel
          · rw [hr1, hr2]
          · rw [if_pos hr1] at k1
            rw [if_neg hr2] at k2
            cases k1
            exact absurd k2 (hblkN r2)
        · by_cases hr2 : r2 = g.rel
          · rw [if_neg hr1] at k1
            rw [if_pos hr2] at k2
            cases k2
            exact absurd k1 (hblkN r1)
          · rw [if_neg hr1] at k1
            rw [if_neg hr2] at k2
            exact h3 r1 r2 b' k1 k2
      · intro r b' hb'
        by_cases hrr : r = g.rel
        · rw [hrr]; exact hg.rel
        · simp only [if_neg hrr] at hb'; exact h4 r b' hb'
      · intro r b' hb'
        by_cases hrr : r = g.rel
        · simp only [if_pos hrr] at hb'; cases hb'; omega
        · simp only [if_neg hrr] at hb'; exact h6 r b' hb'
      · exact hg2.os.trans (hg1.os.trans hb1.os)
      · exact hg2.tape.trans (hg1.tape.trans hb1.tape)
      · exact hg2.output.trans (hg1.output.trans hb1.output)
      · have := hg2.size; omega
      · intro k o hk ho'
        have hkl := (Array.getElem?_eq_some_iff.1 hk).1
        rw [hkeep k hkl (fun e' => ?_)]
        · exact hk
        · subst e'
          obtain ⟨es, c, hB⟩ := hBmap
          rw [hB] at hk; cases hk; exact ho' es c rfl
    have HO : Hid _ := hO
    clear hout h1 h2 h3 h6 hz a1 a2 he hbk hO hI hL hb1 hBmap
    go_enter Tryz.func137, Tryz.ntmps137
    go_wp2_with (first | (at_mapUpdate; refine wpList_mapUpdate_own _ rfl _ _ _ 98 rfl 9 174 strKey Tryz.underlying98 RV B n D rfl HO.out (by omega) _ _ (kS g.rel) rfl rfl (keyOf_str _ hg.rel) (.held (.map (some (w.heap.size + 1)))) [] rfl ?_; intro w1 hown1 hgrow1; obtain ⟨s1, s2, s3⟩ := hS1.out w1 hown1 hgrow1; have d0 : w1.cell? ⟨w.heap.size, 0, none⟩ = some (.string g.rel) := (by simp [World.cell?, s2]); have d1 : w1.cell? ⟨w.heap.size, 1, none⟩ = some (.string g.x) := (by simp [World.cell?, s2]); have d2 : w1.cell? ⟨w.heap.size, 2, none⟩ = some (.string g.y) := (by simp [World.cell?, s2]); have d3 : w1.cell? ⟨w.heap.size, 3, none⟩ = some (.int .i64 e) := (by simp [World.cell?, s2])) | (at_mapUpdate; refine wpList_mapUpdate_own _ rfl _ _ _ 174 rfl 109 3 thingKey Tryz.underlying174 (plainElem Tryz.prog 3) (w.heap.size + 1) 0 (.map []) rfl s3 (by omega) _ _ (kT g.x g.y) rfl rfl HKey.out (.lit (.int .i64 e)) [] HPE.out ?_; intro w2 hown2 hgrow2) | go_in)
    go_end0
    exact ⟨rfl, hfin.out w1 w2 hown1 hgrow1 hown2 hgrow2⟩
  | some b =>
    obtain ⟨a1, a2, a3, Di, a4, a5⟩ := (h2 g.rel hg.rel).2 b hbk
    obtain ⟨mv, e1, e2⟩ := hout (.cells #[.string g.rel, .string g.x, .string g.y, .int .i64 e] 172)
    rw [a2] at e2
    cases e2
    have hbw := a4.lt
    have hI : (w.alloc (.cells #[.string g.rel, .string g.x, .string g.y, .int .i64 e] 172)).ownsMap Tryz.prog 109 (plainElem (H := Value) Tryz.prog 3) b n Di := a4.alloc _
    have hfin : Hid (∀ w2, w2.ownsMap Tryz.prog 109 (plainElem (H := Value) Tryz.prog 3) b (n + 1) (Di.put (kT g.x g.y) (.lit (.int .i64 e))) → (w.alloc (.cells #[.string g.rel, .string g.x, .string g.y, .int .i64 e] 172)).grownBy w2 (some b) → MdL lo w2 B (n + 2) (updM M g e) ∧ MapOnly w w2 ∧ Below lo w w2) := by
      intro w2 hi hg2
      have hs2 := hg2.size
      rw [World.size_alloc] at hs2
      have hkeep : ∀ k : Nat, k < w.heap.size → k ≠ b → w2.heap[k]? = w.heap[k]? := fun k hk hne =>
        (hg2.block k (by simp; omega) (by simp; omega)).trans (Below.heap_alloc _ _ _ hk)
      have hlb := h6 _ _ hbk
      refine ⟨⟨D, blk, ?_, fun r hr => ?_, h3, h4, h5, h6⟩, ⟨hg2.os, hg2.tape, hg2.output, by omega, ?_⟩, ⟨hg2.os, hg2.tape, hg2.output, by omega, fun k hk => hkeep k (by omega) (by omega)⟩⟩
      · obtain ⟨es, c, q1, q2, q3, q4⟩ := h1
        exact ⟨es, c, (hkeep B hBw (fun e' => a3 e'.symm)).trans q1, q2, by omega, q4⟩
      · by_cases hrr : r = g.rel
        · subst hrr
          refine ⟨fun h => (by rw [hbk] at h; cases h), fun b' hb' => ?_⟩
          rw [hbk] at hb'
          cases hb'
          exact ⟨a1, a2, a3, _, hi.mono (by omega), inner_put hg a4.isMap a5⟩
        · refine ⟨fun h => ?_, fun b' hb' => ?_⟩
          · obtain ⟨q1, q2⟩ := (h2 r hr).1 h
            exact ⟨q1, fun x y => by rw [upd_other hrr]; exact q2 x y⟩
          · obtain ⟨q1, q2, q3, q4⟩ := (h2 r hr).2 b' hb'
            exact ⟨q1, q2, q3, inner_other q4 hrr (hkeep b' q4.lt (fun e' => hrr (h3 r g.rel b (e' ▸ hb') hbk))) (by omega)⟩
      · intro k o hk ho'
        have hkl := (Array.getElem?_eq_some_iff.1 hk).1
        rw [hkeep k hkl (fun e' => ?_)]
        · exact hk
        · subst e'
          obtain ⟨es, c, hB, _⟩ := a4
          rw [hB] at hk; cases hk; exact ho' es c rfl
    have HI : Hid _ := hI
    clear hout h1 h2 h3 h6 a1 a2 a5 a4 he hbk hI hBmap
    go_enter Tryz.func137, Tryz.ntmps137
    go_wp2_with (first | (at_mapUpdate; refine wpList_mapUpdate_own _ rfl _ _ _ 174 rfl 109 3 thingKey Tryz.underlying174 (plainElem Tryz.prog 3) b n Di rfl HI.out (by omega) _ _ (kT g.x g.y) rfl rfl HKey.out (.lit (.int .i64 e)) [] HPE.out ?_; intro w2 hown2 hgrow2) | go_in)
    go_end0
    exact ⟨rfl, hfin.out w2 hown2 hgrow2⟩
end Go.Proofs.YtjajnhemgphefaaGreatDoor
