/-
  The least model in plain data, for the statements: a relation that is another; what is told of a form.
  The engine in memory.
  The engine's data: what its least model asks for.
  The text of rules as it is written, in plain data.
  rules.check: the first error of rules that are well written, and the number of its rule.
-/
import Derived.Test.YtjajnhemgphefaaGreatDoorJLsP
import Derived.Test.YtjajnhemgphefaaGreatDoorJTxt2
import Derived.Test.YtjajnhemgphefaaGreatDoorJEgJ
import Derived.Test.YtjajnhemgphefaaGreatDoorJApI
import Derived.Test.YtjajnhemgphefaaGreatDoorJPDef
import Derived.Lib.ItoaNum
import Derived.Test.YtjajnhemgphefaaGreatDoorJArity
namespace Go.Proofs.YtjajnhemgphefaaGreatDoor
open Go.RowKit Go.Shelf Go.Maps
set_option linter.unusedVariables false
set_option linter.unusedSimpArgs false

def v0T : Tm := ⟨eB, 0⟩
def v1T : Tm := ⟨eB, 1⟩
/-- One relation is said to be another. -/
def copyR (P Q : ByteArray) : List Rl := [⟨⟨P, [v0T, v1T]⟩, [⟨Q, [v0T, v1T]⟩]⟩]
theorem of_v0 (p : Nms) : ofT p v0T = p.a0 := ofT_var rfl p
theorem of_v1 (p : Nms) : ofT p v1T = p.a1 := ofT_var rfl p
theorem ground_vv (p : Nms) (P : ByteArray) : groundA p ⟨P, [v0T, v1T]⟩ = ⟨P, p.a0, p.a1⟩ := by
  show (⟨P, ofT p v0T, ofT p v1T⟩ : Gd) = _
  rw [of_v0, of_v1]
theorem copy_der {P Q : ByteArray} (hne : P ≠ Q) (F : List (Gd × Int)) (e : Int) (x y : ByteArray) : Der (copyR P Q) F e ⟨P, x, y⟩ ↔ (∃ t, (⟨P, x, y⟩, t) ∈ F ∧ e < t) ∨ ∃ t, (⟨Q, x, y⟩, t) ∈ F ∧ e < t := by
  constructor
  · intro h
    have := h (fun g => (∃ t, (g, t) ∈ F ∧ e < t) ∨ (g.rel = P ∧ ∃ t, (⟨Q, g.x, g.y⟩, t) ∈ F ∧ e < t)) (fun z hz he => .inl ⟨z.2, hz, he⟩) (by
      intro r hr _ p hb
      simp only [copyR, List.mem_cons, List.not_mem_nil, or_false] at hr
      subst hr
      have h1 := hb ⟨Q, [v0T, v1T]⟩ (by simp)
      rw [ground_vv] at h1 ⊢
      rcases h1 with h1 | ⟨h1, _⟩
      · exact .inr ⟨rfl, h1⟩
      · exact absurd h1.symm hne)
    rcases this with h1 | ⟨_, h1⟩
    · exact .inl h1
    · exact .inr h1
  · rintro (⟨t, h1, h2⟩ | ⟨t, h1, h2⟩)
    · exact Der.fact (x := (⟨P, x, y⟩, t)) h1 h2
    · have := Der.rule (R := copyR P Q) (F := F) (e := e) (r := ⟨⟨P, [v0T, v1T]⟩, [⟨Q, [v0T, v1T]⟩]⟩) (by simp [copyR]) (by simp) (p := ⟨x, y, eB, eB, eB, eB⟩) (by
        intro a ha
        simp only [List.mem_cons, List.not_mem_nil, or_false] at ha
        subst ha
        rw [ground_vv]
        exact Der.fact (x := (⟨Q, x, y⟩, t)) h1 h2)
      rw [ground_vv] at this
      exact this

/-- What is told of a form: the texts of all that fits it, in order. -/
def FitIs (M : Gd → Option Int) (a : Am) (gs : List Gd) : Prop := ∃ ks : List (ByteArray × ByteArray), ks.Nodup ∧ (∀ x y, (x, y) ∈ ks ↔ (x.size ≤ maxLen ∧ y.size ≤ maxLen ∧ (M ⟨a.rel, x, y⟩).isSome = true)) ∧ gs = (ks.filterMap (fun k => matchA nms0 a k.1 k.2)).map (fun p => groundA p a)
theorem FitIs.perm {M : Gd → Option Int} {a : Am} {gs gs' : List Gd} (h : FitIs M a gs) (h' : FitIs M a gs') : gs.Perm gs' := by
  obtain ⟨ks, k1, k2, rfl⟩ := h
  obtain ⟨ks', k1', k2', rfl⟩ := h'
  have hp : ks.Perm ks' := (List.perm_ext_iff_of_nodup k1 k1').2 (fun ⟨x, y⟩ => by rw [k2, k2'])
  exact (hp.filterMap _).map _
theorem sortT_perm {l l' : List (List UInt8)} (h : l.Perm l') : sortT l = sortT l' := by
  have hs : ∀ l : List (List UInt8), (sortT l).Pairwise (fun a b => decide (a ≤ b) = true) := fun l =>
    List.pairwise_mergeSort (le := fun x y => decide (x ≤ y)) (fun a b c h1 h2 => by simp only [decide_eq_true_eq] at *; exact List.le_trans h1 h2) (fun a b => by simp only [Bool.or_eq_true, decide_eq_true_eq]; exact List.le_total a b) l
  refine List.Perm.eq_of_pairwise (le := fun a b => decide (a ≤ b) = true) (fun a b _ _ h1 h2 => ?_) (hs l) (hs l') (((List.mergeSort_perm l _).trans h).trans (List.mergeSort_perm l' _).symm)
  simp only [decide_eq_true_eq] at h1 h2
  exact List.le_antisymm h1 h2

/-- A form of two variables is fitted by all of its relation. -/
theorem fit_vv {ar : ByteArray → Nat} {M : Gd → Option Int} (hM : mdOk ar M) {P : ByteArray} (har : ar P = 2) {gs : List Gd} (h : FitIs M ⟨P, [v0T, v1T]⟩ gs) : gs.Nodup ∧ ∀ g, g ∈ gs ↔ g.rel = P ∧ (M g).isSome = true := by
  obtain ⟨ks, k1, k2, rfl⟩ := h
  have hok : amOk ar ⟨P, [v0T, v1T]⟩ := ⟨har.symm, by intro t ht; simp at ht; rcases ht with rfl | rfl <;> decide⟩
  have hall : ∀ k ∈ ks, ∃ m, matchA nms0 ⟨P, [v0T, v1T]⟩ k.1 k.2 = some m ∧ groundA m ⟨P, [v0T, v1T]⟩ = ⟨P, k.1, k.2⟩ := by
    intro k hk
    obtain ⟨h1, h2, h3⟩ := (k2 k.1 k.2).1 hk
    obtain ⟨m, e1, _⟩ := matchA_complete (n := nms0) (p := ⟨k.1, k.2, eB, eB, eB, eB⟩) hok (by rw [ground_vv]; exact (hM _ h3).1) (ext_zero _)
    rw [ground_vv] at e1
    exact ⟨m, e1, (matchA_sound hok (hM _ h3).1 e1).2⟩
  have hmap : (ks.filterMap (fun k => matchA nms0 ⟨P, [v0T, v1T]⟩ k.1 k.2)).map (fun p => groundA p ⟨P, [v0T, v1T]⟩) = ks.map (fun k => (⟨P, k.1, k.2⟩ : Gd)) := by
    clear k1 k2
    induction ks with
    | nil => rfl
    | cons k ks ih =>
      obtain ⟨m, e1, e2⟩ := hall k (by simp)
      rw [List.filterMap_cons_some (by exact e1), List.map_cons, List.map_cons, e2, ih (fun k' hk' => hall k' (by simp [hk']))]
  rw [hmap]
  refine ⟨?_, fun g => ?_⟩
  · rw [List.Nodup, List.pairwise_map]
    exact k1.imp (fun {a b} hne e => hne (by cases a; cases b; simp at e; simp [e]))
  · rw [List.mem_map]
    constructor
    · rintro ⟨k, hk, rfl⟩; exact ⟨rfl, ((k2 k.1 k.2).1 hk).2.2⟩
    · rintro ⟨h1, h2⟩
      have hg : (⟨P, g.x, g.y⟩ : Gd) = g := by rw [← h1]
      exact ⟨(g.x, g.y), (k2 _ _).2 ⟨(hM _ h2).2.x, (hM _ h2).2.y, by show (M ⟨P, g.x, g.y⟩).isSome = true; rw [hg]; exact h2⟩, hg⟩

/-- Of a relation that no rule derives only the facts hold. -/
theorem der_basic {R : List Rl} {F : List (Gd × Int)} {e : Int} {g : Gd} (h : ∀ r ∈ R, r.body ≠ [] → r.head.rel ≠ g.rel) : Der R F e g ↔ ∃ t, (g, t) ∈ F ∧ e < t := by
  constructor
  · intro hd
    exact hd (fun g' => g'.rel = g.rel → ∃ t, (g', t) ∈ F ∧ e < t) (fun x hx he _ => ⟨x.2, hx, he⟩) (fun r hr h0 p _ hrel => absurd hrel (h r hr h0)) rfl
  · rintro ⟨t, h1, h2⟩; exact Der.fact (x := (g, t)) h1 h2
/-- Nothing follows from nothing. -/
theorem der_some {R : List Rl} {F : List (Gd × Int)} {e : Int} {g : Gd} (hd : Der R F e g) : ∃ x ∈ F, e < x.2 := by
  refine hd (fun _ => ∃ x ∈ F, e < x.2) (fun x hx he => ⟨x, hx, he⟩) (fun r hr h0 p hb => ?_)
  obtain ⟨a, ha⟩ := List.exists_mem_of_ne_nil _ h0
  exact hb a ha
def v2T : Tm := ⟨eB, 2⟩
theorem of_v2 (p : Nms) : ofT p v2T = p.a2 := ofT_var rfl p
/-- Who can be reached. -/
def pathR (P E : ByteArray) : List Rl := [⟨⟨P, [v0T, v1T]⟩, [⟨E, [v0T, v1T]⟩]⟩, ⟨⟨P, [v0T, v1T]⟩, [⟨P, [v0T, v2T]⟩, ⟨E, [v2T, v1T]⟩]⟩]
theorem ground_02 (p : Nms) (P : ByteArray) : groundA p ⟨P, [v0T, v2T]⟩ = ⟨P, p.a0, p.a2⟩ := by
  show (⟨P, ofT p v0T, ofT p v2T⟩ : Gd) = _
  rw [of_v0, of_v2]
theorem ground_21 (p : Nms) (P : ByteArray) : groundA p ⟨P, [v2T, v1T]⟩ = ⟨P, p.a2, p.a1⟩ := by
  show (⟨P, ofT p v2T, ofT p v1T⟩ : Gd) = _
  rw [of_v2, of_v1]
/-- A way of steps. -/
def Way (E : ByteArray → ByteArray → Prop) (x y : ByteArray) : Prop := ∀ S : ByteArray → ByteArray → Prop, (∀ x y, E x y → S x y) → (∀ x y z, S x y → E y z → S x z) → S x y
theorem path_der {P E : ByteArray} (hne : P ≠ E) {X : List Rl} (hX : ∀ r ∈ X, r.body = []) (F : List (Gd × Int)) (hF : ∀ x ∈ F, x.1.rel = E) (e : Int) (x y : ByteArray) : Der (pathR P E ++ X) F e ⟨P, x, y⟩ ↔ Way (fun a b => ∃ t, (⟨E, a, b⟩, t) ∈ F ∧ e < t) x y := by
  constructor
  · intro hd S h1 h2
    have := hd (fun g => (g.rel = E → ∃ t, (⟨E, g.x, g.y⟩, t) ∈ F ∧ e < t) ∧ (g.rel = P → S g.x g.y)) (fun z hz he => ⟨fun hr => ⟨z.2, by
        have : (⟨E, z.1.x, z.1.y⟩ : Gd) = z.1 := by rw [← hr]
        rw [this]; exact hz, he⟩, fun hr => absurd (hr.symm.trans (hF z hz)) hne⟩) (by
      intro r hr h0 p hb
      rcases List.mem_append.1 hr with hr | hr
      · simp only [pathR, List.mem_cons, List.not_mem_nil, or_false] at hr
        rcases hr with rfl | rfl
        · have k1 := (hb ⟨E, [v0T, v1T]⟩ (by simp)).1
          rw [ground_vv] at k1 ⊢
          exact ⟨fun h => absurd h hne, fun _ => h1 _ _ (k1 rfl)⟩
        · have k1 := (hb ⟨P, [v0T, v2T]⟩ (by simp)).2
          have k2 := (hb ⟨E, [v2T, v1T]⟩ (by simp)).1
          rw [ground_02] at k1
          rw [ground_21] at k2
          rw [ground_vv]
          exact ⟨fun h => absurd h hne, fun _ => h2 _ _ _ (k1 rfl) (k2 rfl)⟩
      · exact absurd (hX r hr) h0)
    exact this.2 rfl
  · intro hw
    refine hw (fun x y => Der (pathR P E ++ X) F e ⟨P, x, y⟩) (fun a b ⟨t, h1, h2⟩ => ?_) (fun a b c hd ⟨t, h1, h2⟩ => ?_)
    · have := Der.rule (R := pathR P E ++ X) (F := F) (e := e) (r := ⟨⟨P, [v0T, v1T]⟩, [⟨E, [v0T, v1T]⟩]⟩) (by simp [pathR]) (by simp) (p := ⟨a, b, eB, eB, eB, eB⟩) (by
        intro q hq
        simp only [List.mem_cons, List.not_mem_nil, or_false] at hq
        subst hq
        rw [ground_vv]
        exact Der.fact (x := (⟨E, a, b⟩, t)) h1 h2)
      rw [ground_vv] at this
      exact this
    · have := Der.rule (R := pathR P E ++ X) (F := F) (e := e) (r := ⟨⟨P, [v0T, v1T]⟩, [⟨P, [v0T, v2T]⟩, ⟨E, [v2T, v1T]⟩]⟩) (by simp [pathR]) (by simp) (p := ⟨a, c, b, eB, eB, eB⟩) (by
        intro q hq
        simp only [List.mem_cons, List.not_mem_nil, or_false] at hq
        rcases hq with rfl | rfl
        · rw [ground_02]; exact hd
        · rw [ground_21]; exact Der.fact (x := (⟨E, b, c⟩, t)) h1 h2)
      rw [ground_vv] at this
      exact this

end Go.Proofs.YtjajnhemgphefaaGreatDoor

namespace Go.Proofs.YtjajnhemgphefaaGreatDoor
open Go.RowKit Go.Shelf Go.Maps
set_option linter.unusedVariables false
set_option linter.unusedSimpArgs false

/-- An engine. -/
structure Eg where
  rs : List Rl
  win : Int
  lat : Int
  que : Int
  mark : Int
  names : List ByteArray
  kept : List (Gd × Int)
  M : Gd → Option Int
  fds : List Fs

/-- A block of a type that engines write. -/
def WTy (W : World) (k : Nat) : Prop := ∃ c t, W.heap[k]? = some (Obj.cells c t (0, 0)) ∧ (t = 101 ∨ t = 161 ∨ t = 120 ∨ t = 198 ∨ t = 71 ∨ t = 9)
/-- A block of a type that feeds write. -/
def FTy (W : World) (k : Nat) : Prop := ∃ c t, W.heap[k]? = some (Obj.cells c t (0, 0)) ∧ (t = 198 ∨ t = 71)
theorem FTy.w {W : World} {k : Nat} (h : FTy W k) : WTy W k := by
  obtain ⟨c, t, h1, h2 | h2⟩ := h
  · exact ⟨c, t, h1, by simp [h2]⟩
  · exact ⟨c, t, h1, by simp [h2]⟩
theorem WTy.lt {W : World} {k : Nat} (h : WTy W k) : k < W.heap.size := by
  obtain ⟨c, t, h1, _⟩ := h
  exact (Array.getElem?_eq_some_iff.1 h1).1
theorem FTy.lt {W : World} {k : Nat} (h : FTy W k) : k < W.heap.size := h.w.lt
theorem WTy.same {W W' : World} {k : Nat} (h : WTy W k) (hk : W'.heap[k]? = W.heap[k]?) : WTy W' k := by
  obtain ⟨c, t, h1, h2⟩ := h
  exact ⟨c, t, hk.trans h1, h2⟩
theorem FTy.same {W W' : World} {k : Nat} (h : FTy W k) (hk : W'.heap[k]? = W.heap[k]?) : FTy W' k := by
  obtain ⟨c, t, h1, h2⟩ := h
  exact ⟨c, t, hk.trans h1, h2⟩
theorem WTy.not {W : World} {k : Nat} {c : Array Value} {t : TypeId} (h : W.heap[k]? = some (Obj.cells c t (0, 0))) (ht : t ≠ 101 ∧ t ≠ 161 ∧ t ≠ 120 ∧ t ≠ 198 ∧ t ≠ 71 ∧ t ≠ 9) : ¬ WTy W k := by
  rintro ⟨c', t', h1, h2⟩
  rw [h] at h1
  cases h1
  rcases h2 with h2 | h2 | h2 | h2 | h2 | h2
  · exact ht.1 h2
  · exact ht.2.1 h2
  · exact ht.2.2.1 h2
  · exact ht.2.2.2.1 h2
  · exact ht.2.2.2.2.1 h2
  · exact ht.2.2.2.2.2 h2
theorem WTy.notMap {W : World} {k : Nat} {es : Array MapEntry} {c : Nat} (h : W.heap[k]? = some (Obj.map es c)) : ¬ WTy W k := by
  rintro ⟨c', t', h1, _⟩
  rw [h] at h1
  cases h1

def ptrV (b : Nat) : Value := .pointer (some ⟨b, 0, none⟩)

/-- Block be is an engine; S: the blocks that it may write. -/
structure EngV (W : World) (S : Nat → Prop) (be : Nat) (e : Eg) (vr vn vk vf : Value) (bm rb b45 b87 : Nat) (bfs : List Nat) (Sf : Nat → Nat → Prop) : Prop where
  blk : W.heap[be]? = some (Obj.cells #[vr, .int .i64 e.win, .int .i64 e.lat, .int .i64 e.que, .int .i64 e.mark, vn, vk, .map (some bm), vf] 101 (0, 0))
  rules : RulesAt W rb b45 b87 vr e.rs
  names : W.ownsRow 0 9 1 vn e.names.length (e.names.map Value.string)
  kept : W.ownsRow 0 161 4 vk e.kept.length (e.kept.flatMap lastC)
  md : MdAt W bm 5000 e.M
  len : bfs.length = e.fds.length
  frow : W.ownsRow 0 120 1 vf bfs.length (bfs.map ptrV)
  feed : ∀ i (h : i < bfs.length) (h' : i < e.fds.length), ∃ b, FdAt W (Sf i) bfs[i] b e.fds[i]
  sep : ∀ i j, i ≠ j → ∀ k, Sf i k → ¬ Sf j k
  sub : ∀ i, ∀ k, Sf i k → S k ∧ FTy W k
  own : S be ∧ (∀ g, vk.ownBlock = some g → S g) ∧ (∀ g, vf.ownBlock = some g → S g) ∧ ∀ g, vn.ownBlock = some g → S g
  typ : ∀ k, S k → WTy W k
def EngAt (W : World) (S : Nat → Prop) (be : Nat) (e : Eg) : Prop := ∃ vr vn vk vf bm rb b45 b87 bfs Sf, EngV W S be e vr vn vk vf bm rb b45 b87 bfs Sf

theorem FdAt.narrow {W : World} {S : Nat → Prop} {bf b87 : Nat} {f : Fs} (h : FdAt W S bf b87 f) : FdAt W (fun k => S k ∧ FTy W k) bf b87 f := by
  obtain ⟨va, vs, vq, h1, h2, h3, h4, h5, h6, h7⟩ := h
  refine ⟨va, vs, vq, h1, h2, h3, h4, fun g hg => ⟨⟨(h5 g hg).1, ?_⟩, (h5 g hg).2⟩, fun g hg => ⟨h6 g hg, ?_⟩, h7, ?_⟩
  · obtain ⟨_, c, hc⟩ := owns_block h3 hg
    exact ⟨c, _, hc, .inr rfl⟩
  · obtain ⟨_, c, hc⟩ := owns_block h4 hg
    exact ⟨c, _, hc, .inr rfl⟩
  · exact ⟨_, _, h1, .inl rfl⟩

/-- A block of a type that no rule is laid in. -/
def NTy (W : World) (k : Nat) : Prop := ∃ c t, W.heap[k]? = some (Obj.cells c t (0, 0)) ∧ t ≠ 136 ∧ t ≠ 92 ∧ t ≠ 166
theorem WTy.n {W : World} {k : Nat} (h : WTy W k) : NTy W k := by
  obtain ⟨c, t, h1, h2⟩ := h
  exact ⟨c, t, h1, by rcases h2 with rfl | rfl | rfl | rfl | rfl | rfl <;> decide⟩
theorem NTy.not {W : World} {k : Nat} {c : Array Value} {t : TypeId} (h : W.heap[k]? = some (Obj.cells c t (0, 0))) (ht : t = 136 ∨ t = 92 ∨ t = 166) : ¬ NTy W k := by
  rintro ⟨c', t', h1, h2, h3, h4⟩
  rw [h] at h1
  cases h1
  rcases ht with ht | ht | ht
  · exact h2 ht
  · exact h3 ht
  · exact h4 ht
theorem NTy.notMap {W : World} {k : Nat} {es : Array MapEntry} {c : Nat} (h : W.heap[k]? = some (Obj.map es c)) : ¬ NTy W k := by
  rintro ⟨c', t', h1, _⟩
  rw [h] at h1
  cases h1
/-- What is no engine's to write abides. -/
theorem EngV.keepN {W W' : World} {S : Nat → Prop} {be : Nat} {e : Eg} {vr vn vk vf : Value} {bm rb b45 b87 : Nat} {bfs : List Nat} {Sf : Nat → Nat → Prop} (h : EngV W S be e vr vn vk vf bm rb b45 b87 bfs Sf) {ex : Nat → Prop} (hc : Chg W W' ex) (hS : ∀ k, S k → ¬ ex k) (hT : ∀ k, k < W.heap.size → ex k → NTy W k) : EngV W' S be e vr vn vk vf bm rb b45 b87 bfs Sf := by
  have hk : ∀ k, k < W.heap.size → ¬ ex k → W'.heap[k]? = W.heap[k]? := hc.block
  have hkS : ∀ k, S k → W'.heap[k]? = W.heap[k]? := fun k hs => hk k (h.typ k hs).lt (hS k hs)
  have hkT : ∀ (k : Nat) (c : Array Value) (t : TypeId), W.heap[k]? = some (Obj.cells c t (0, 0)) → (t = 136 ∨ t = 92 ∨ t = 166) → W'.heap[k]? = some (Obj.cells c t (0, 0)) := fun k c t hc ht => (hk k (Array.getElem?_eq_some_iff.1 hc).1 (fun he => NTy.not hc ht (hT k (Array.getElem?_eq_some_iff.1 hc).1 he))).trans hc
  have hbe := (Array.getElem?_eq_some_iff.1 h.blk).1
  refine ⟨(hkS be h.own.1).trans h.blk, h.rules.keep (fun k c t ht hc => hkT k c t hc ht), own_keep h.names (fun g hg hlt => hkS g (h.own.2.2.2 g hg)), own_keep h.kept (fun g hg hlt => hkS g (h.own.2.1 g hg)), h.md.kept (fun k es c hm => (hk k (Array.getElem?_eq_some_iff.1 hm).1 (fun he => NTy.notMap hm (hT k (Array.getElem?_eq_some_iff.1 hm).1 he))).trans hm), h.len, own_keep h.frow (fun g hg hlt => hkS g (h.own.2.2.1 g hg)), fun i hi hi' => ?_, h.sep, fun i k hs => ⟨(h.sub i k hs).1, (h.sub i k hs).2.same (hkS k (h.sub i k hs).1)⟩, h.own, fun k hs => (h.typ k hs).same (hkS k hs)⟩
  obtain ⟨b, hf⟩ := h.feed i hi hi'
  exact ⟨b, hf.keep (ex := ex) hk (fun k hs => hS k (h.sub i k hs).1) (fun k c hc he => NTy.not hc (.inr (.inr rfl)) (hT k (Array.getElem?_eq_some_iff.1 hc).1 he))⟩
theorem EngV.keep {W W' : World} {S : Nat → Prop} {be : Nat} {e : Eg} {vr vn vk vf : Value} {bm rb b45 b87 : Nat} {bfs : List Nat} {Sf : Nat → Nat → Prop} (h : EngV W S be e vr vn vk vf bm rb b45 b87 bfs Sf) {ex : Nat → Prop} (hc : Chg W W' ex) (hS : ∀ k, S k → ¬ ex k) (hT : ∀ k, k < W.heap.size → ex k → WTy W k) : EngV W' S be e vr vn vk vf bm rb b45 b87 bfs Sf :=
  h.keepN hc hS (fun k h1 h2 => (hT k h1 h2).n)
theorem EngAt.keepN {W W' : World} {S : Nat → Prop} {be : Nat} {e : Eg} (h : EngAt W S be e) {ex : Nat → Prop} (hc : Chg W W' ex) (hS : ∀ k, S k → ¬ ex k) (hT : ∀ k, k < W.heap.size → ex k → NTy W k) : EngAt W' S be e := by
  obtain ⟨vr, vn, vk, vf, bm, rb, b45, b87, bfs, Sf, hv⟩ := h
  exact ⟨vr, vn, vk, vf, bm, rb, b45, b87, bfs, Sf, hv.keepN hc hS hT⟩
theorem EngAt.keep {W W' : World} {S : Nat → Prop} {be : Nat} {e : Eg} (h : EngAt W S be e) {ex : Nat → Prop} (hc : Chg W W' ex) (hS : ∀ k, S k → ¬ ex k) (hT : ∀ k, k < W.heap.size → ex k → WTy W k) : EngAt W' S be e :=
  h.keepN hc hS (fun k h1 h2 => (hT k h1 h2).n)
theorem EngV.below {W W' : World} {S : Nat → Prop} {be : Nat} {e : Eg} {vr vn vk vf : Value} {bm rb b45 b87 : Nat} {bfs : List Nat} {Sf : Nat → Nat → Prop} (h : EngV W S be e vr vn vk vf bm rb b45 b87 bfs Sf) (hb : Below W.heap.size W W') : EngV W' S be e vr vn vk vf bm rb b45 b87 bfs Sf :=
  h.keep (Chg.ofBelow (fun _ => False) hb) (fun _ _ => id) (fun _ _ => False.elim)
theorem EngAt.below {W W' : World} {S : Nat → Prop} {be : Nat} {e : Eg} (h : EngAt W S be e) (hb : Below W.heap.size W W') : EngAt W' S be e :=
  h.keep (Chg.ofBelow (fun _ => False) hb) (fun _ _ => id) (fun _ _ => False.elim)

/-- All relations that stand in rules. -/
def relsR (rs : List Rl) : List ByteArray := (rs.flatMap ruleAms).map (·.rel)
/-- What is asked of rules: true of all that are let in. -/
structure RsOk (rs : List Rl) : Prop where
  r8 : rs.length ≤ 8
  rok : ∀ r ∈ rs, RuleOk r
  arity : ∀ a ∈ rs.flatMap ruleAms, a.args.length = arR rs a.rel ∧ (a.args.length = 1 ∨ a.args.length = 2)
  nums : ∀ a ∈ rs.flatMap ruleAms, ∀ t ∈ a.args, t.num < 6
  safe : ∀ r ∈ rs, ∀ t ∈ r.head.args, t.name = eB → ∃ a ∈ r.body, ∃ u ∈ a.args, u.name = eB ∧ u.num = t.num
/-- What holds of an engine's data. -/
structure EgOk (e : Eg) : Prop where
  rs : RsOk e.rs
  win : 1 ≤ e.win ∧ e.win ≤ 1000
  lat : 0 ≤ e.lat ∧ e.lat ≤ 1000
  que : 1 ≤ e.que ∧ e.que ≤ 50
  mark : 0 ≤ e.mark ∧ e.mark ≤ 1000000
  n8 : e.names.length ≤ 8
  nsz : ∀ x ∈ e.names, x.size ≤ 1200
  nrs : ∀ r ∈ e.rs, ∀ t ∈ r.head.args, t.name ≠ eB → t.name ∈ e.names
  k24 : e.kept.length ≤ 24
  kept : ∀ d ∈ e.kept, d.1 ∈ uni (relsR e.rs) e.names ∧ arOk (arR e.rs) d.1 ∧ 0 ≤ d.2 ∧ d.2 ≤ 1000000
  md : ∀ g, (e.M g).isSome = true → arOk (arR e.rs) g ∧ g ∈ uni (relsR e.rs) e.names
  f3 : e.fds.length ≤ 3
  fds : ∀ f ∈ e.fds, FormOk f.form ∧ f.snap.length ≤ 1000 ∧ f.que.length ≤ 50

end Go.Proofs.YtjajnhemgphefaaGreatDoor

namespace Go.Proofs.YtjajnhemgphefaaGreatDoor
open Go.RowKit Go.Shelf Go.Maps
set_option linter.unusedVariables false
set_option linter.unusedSimpArgs false

theorem arOf_mem {l : List Am} {x : List UInt8} {n : Nat} (h : arOf l x = some n) : ∃ a ∈ l, a.rel.data.toList = x ∧ a.args.length = n := by
  unfold arOf at h
  cases hf : l.find? (fun a => a.rel.data.toList == x) with
  | none => rw [hf] at h; cases h
  | some a =>
    rw [hf] at h
    simp only [Option.map_some, Option.some.injEq] at h
    exact ⟨a, List.mem_of_find?_eq_some hf, by simpa using List.find?_some hf, h⟩
theorem arR_cases {rs : List Rl} (h : RsOk rs) (x : ByteArray) : arR rs x = 1 ∨ arR rs x = 2 ∨ arR rs x = 0 := by
  unfold arR
  cases ha : arOf (rs.flatMap ruleAms) x.data.toList with
  | none => exact .inr (.inr rfl)
  | some n =>
    obtain ⟨a, h1, _, h3⟩ := arOf_mem ha
    rcases (h.arity a h1).2 with e | e
    · left; show n = 1; omega
    · right; left; show n = 2; omega
theorem head_mem {rs : List Rl} {r : Rl} (hr : r ∈ rs) : r.head ∈ rs.flatMap ruleAms := List.mem_flatMap.2 ⟨r, hr, by simp [ruleAms]⟩
theorem body_mem {rs : List Rl} {r : Rl} (hr : r ∈ rs) {a : Am} (ha : a ∈ r.body) : a ∈ rs.flatMap ruleAms := List.mem_flatMap.2 ⟨r, hr, by simp [ruleAms, ha]⟩
theorem rls_ok {rs : List Rl} (h : RsOk rs) : ∀ r ∈ rs, RlOk (arR rs) r ∧ r.head.args ≠ [] := fun r hr =>
  ⟨⟨⟨(h.arity _ (head_mem hr)).1, h.nums _ (head_mem hr)⟩, fun a ha => ⟨(h.arity _ (body_mem hr ha)).1, h.nums _ (body_mem hr ha)⟩, h.safe r hr⟩, fun e => by
    have := (h.arity _ (head_mem hr)).2
    rw [e] at this; simp at this⟩
theorem big {n : Nat} (h : n ≤ 1200) : n ≤ maxLen := Nat.le_trans h (by unfold maxLen; decide)
theorem use_ok {rs : List Rl} (h : RsOk rs) : ∀ r ∈ rs, UseOk r := fun r hr =>
  have hk := h.rok r hr
  ⟨⟨fun a ha => (hk.ams a ha).args, fun a ha => h.nums _ (body_mem hr ha), fun a ha => big (hk.ams a ha).rel⟩, hk.body, hk.head.args, h.nums _ (head_mem hr), big hk.head.rel, fun t ht => big (hk.head.tms t ht).name⟩
theorem rels_size {rs : List Rl} (h : RsOk rs) : ∀ x ∈ relsR rs, x.size ≤ 1200 := by
  intro x hx
  obtain ⟨a, ha, rfl⟩ := List.mem_map.1 hx
  obtain ⟨r, hr, har⟩ := List.mem_flatMap.1 ha
  have hk := h.rok r hr
  simp only [ruleAms, List.mem_cons] at har
  rcases har with rfl | har
  · exact hk.head.rel
  · exact (hk.ams a har).rel
theorem ams_len {rs : List Rl} (h : RsOk rs) : (rs.flatMap ruleAms).length ≤ 32 := by
  have h1 : ∀ l : List Rl, (∀ r ∈ l, RuleOk r) → (l.flatMap ruleAms).length ≤ l.length * 4 := by
    intro l
    induction l with
    | nil => intro _; simp
    | cons r l ih =>
      intro hk
      have := (hk r (by simp)).body
      have := ih (fun q hq => hk q (by simp [hq]))
      rw [List.flatMap_cons, List.length_append, List.length_cons]
      simp only [ruleAms, List.length_cons]
      omega
  have := h1 rs h.rok
  have := h.r8
  omega
theorem uni_small {rs : List Rl} (h : RsOk rs) {ns : List ByteArray} (h8 : ns.length ≤ 8) : (uni (relsR rs) ns).length ≤ 2400 := by
  rw [uni_len]
  have h1 : (relsR rs).length ≤ 32 := by unfold relsR; rw [List.length_map]; exact ams_len h
  have h2 : ns.length * (ns.length + 1) ≤ 8 * 9 := Nat.mul_le_mul h8 (by omega)
  have := Nat.mul_le_mul h1 h2
  omega
theorem uni_size {rs : List Rl} (h : RsOk rs) {ns : List ByteArray} (hn : ∀ x ∈ ns, x.size ≤ 1200) {g : Gd} (hg : g ∈ uni (relsR rs) ns) : g.rel.size ≤ 1200 ∧ g.x.size ≤ 1200 ∧ g.y.size ≤ 1200 := by
  obtain ⟨h1, h2, h3⟩ := mem_uni.1 hg
  refine ⟨rels_size h _ h1, hn _ h2, ?_⟩
  rcases h3 with h3 | h3
  · rw [h3]; decide
  · exact hn _ h3

/-- What is asked of facts. -/
def FcOk (rs : List Rl) (ns : List ByteArray) (F : List (Gd × Int)) : Prop := F.length ≤ 1000 ∧ ∀ x ∈ F, x.1 ∈ uni (relsR rs) ns ∧ arOk (arR rs) x.1 ∧ 0 ≤ x.2 ∧ x.2 ≤ 2000000
theorem given_ok {rs : List Rl} (h : RsOk rs) {ns : List ByteArray} (hnr : ∀ r ∈ rs, ∀ t ∈ r.head.args, t.name ≠ eB → t.name ∈ ns) : ∀ x ∈ givenL rs, x.1 ∈ uni (relsR rs) ns ∧ arOk (arR rs) x.1 := by
  intro x hx
  unfold givenL at hx
  obtain ⟨r, hr, hx⟩ := List.mem_filterMap.1 hx
  split at hx
  · rename_i hb
    cases hx
    have hro := rls_ok h r hr
    have hao := head_ok (arR_cases h) hro.1 hro.2 (p := nms0) (by rw [hb]; simp)
    have hnm : ∀ t ∈ r.head.args, ofT nms0 t ∈ ns := by
      intro t ht
      by_cases he : t.name = eB
      · obtain ⟨a, ha, _⟩ := h.safe r hr t ht he
        rw [hb] at ha; simp at ha
      · rw [ofT_name he]; exact hnr r hr t ht he
    refine ⟨mem_uni.2 ⟨List.mem_map.2 ⟨r.head, head_mem hr, rfl⟩, ?_, ?_⟩, hao⟩
    · show xOf nms0 r.head.args ∈ ns
      match ha : r.head.args, hro.2 with
      | t :: l, _ => exact hnm t (by rw [ha]; simp)
    · show yOf nms0 r.head.args = eB ∨ yOf nms0 r.head.args ∈ ns
      match ha : r.head.args, hro.2 with
      | [t], _ => exact .inl rfl
      | t :: u :: l, _ => exact .inr (hnm u (by rw [ha]; simp))
  · cases hx
theorem ls_ok {rs : List Rl} (h : RsOk rs) {ns : List ByteArray} (h8 : ns.length ≤ 8) (hn : ∀ x ∈ ns, x.size ≤ 1200) (hnr : ∀ r ∈ rs, ∀ t ∈ r.head.args, t.name ≠ eB → t.name ∈ ns) {F : List (Gd × Int)} (hF : FcOk rs ns F) : LsOk (arR rs) rs F (uni (relsR rs) ns) := by
  have hall : ∀ x ∈ F ++ givenL rs, x.1 ∈ uni (relsR rs) ns ∧ arOk (arR rs) x.1 := by
    intro x hx
    rcases List.mem_append.1 hx with hx | hx
    · exact ⟨(hF.2 x hx).1, (hF.2 x hx).2.1⟩
    · exact given_ok h hnr x hx
  have hok := uni_ok (rels := relsR rs) (NS := ns) (fun x hx => big (rels_size h x hx)) (fun x hx => big (hn x hx))
  exact ⟨arR_cases h, rls_ok h, use_ok h, h.r8, fun x hx => ⟨(hall x hx).2, hok _ (hall x hx).1⟩, fun x hx => (hall x hx).1, fun x hx => (hF.2 x hx).2.2, uni_closed (rls_ok h) (fun r hr => List.mem_map.2 ⟨r.head, head_mem hr, rfl⟩) hnr, hok, uni_small h h8, hF.1⟩
theorem least_in {rs : List Rl} (h : RsOk rs) {ns : List ByteArray} (hnr : ∀ r ∈ rs, ∀ t ∈ r.head.args, t.name ≠ eB → t.name ∈ ns) {F : List (Gd × Int)} (hF : FcOk rs ns F) {M : Gd → Option Int} (hM : LeastM rs (F ++ givenL rs) M) : ∀ g, (M g).isSome = true → arOk (arR rs) g ∧ g ∈ uni (relsR rs) ns := by
  intro g hg
  obtain ⟨t, ht⟩ := Option.isSome_iff_exists.1 hg
  refine hM.sound g t ht (t - 1) (by omega) (fun g => arOk (arR rs) g ∧ g ∈ uni (relsR rs) ns) (fun x hx _ => ?_) (fun r hr h0 p hb => ?_)
  · rcases List.mem_append.1 hx with hx | hx
    · exact ⟨(hF.2 x hx).2.1, (hF.2 x hx).1⟩
    · exact ⟨(given_ok h hnr x hx).2, (given_ok h hnr x hx).1⟩
  · exact ⟨head_ok (arR_cases h) (rls_ok h r hr).1 (rls_ok h r hr).2 (fun a ha => (hb a ha).1), uni_closed (rls_ok h) (fun r hr => List.mem_map.2 ⟨r.head, head_mem hr, rfl⟩) hnr r hr h0 p (fun a ha => ⟨(hb a ha).2, (hb a ha).1⟩)⟩
theorem uni_mono {rels ns ns' : List ByteArray} (h : ∀ x ∈ ns, x ∈ ns') {g : Gd} (hg : g ∈ uni rels ns) : g ∈ uni rels ns' := by
  obtain ⟨h1, h2, h3⟩ := mem_uni.1 hg
  exact mem_uni.2 ⟨h1, h _ h2, h3.imp id (h _)⟩
theorem fit_few {M : Gd → Option Int} {a : Am} {gs : List Gd} {rels ns : List ByteArray} (h : fitP M a gs) (hM : ∀ g, (M g).isSome = true → g ∈ uni rels ns) (h8 : ns.length ≤ 8) : gs.length ≤ 72 := by
  obtain ⟨ks, k1, k2, rfl⟩ := h
  have h1 : ks.length ≤ (ns.flatMap fun x => (eB :: ns).map fun y => (x, y)).length := by
    refine List.Nodup.length_le_of_subset k1 (fun k hk => ?_)
    obtain ⟨_, _, h3⟩ := (k2 k.1 k.2).1 hk
    obtain ⟨_, m2, m3⟩ := mem_uni.1 (hM _ h3)
    refine List.mem_flatMap.2 ⟨k.1, m2, List.mem_map.2 ⟨k.2, ?_, rfl⟩⟩
    rcases m3 with e | e
    · simp only [List.mem_cons]; left; exact e
    · exact List.mem_cons_of_mem _ e
  have h2 : (ns.flatMap fun x => (eB :: ns).map fun y => (x, y)).length = ns.length * (ns.length + 1) := by
    have : ∀ (l m : List ByteArray), (l.flatMap fun x => m.map fun y => (x, y)).length = l.length * m.length := by
      intro l m
      induction l with
      | nil => simp
      | cons x l ih => rw [List.flatMap_cons, List.length_append, ih, List.length_map, List.length_cons, Nat.succ_mul]; omega
    rw [this]; rfl
  have h3 : ns.length * (ns.length + 1) ≤ 8 * 9 := Nat.mul_le_mul h8 (by omega)
  have h4 : ((ks.filterMap (fun k => matchA nms0 a k.1 k.2)).map (fun p => groundA p a)).length ≤ ks.length := by rw [List.length_map]; exact List.length_filterMap_le _ _
  omega

end Go.Proofs.YtjajnhemgphefaaGreatDoor

namespace Go.Proofs.YtjajnhemgphefaaGreatDoor
open Go.RowKit Go.Shelf
set_option linter.unusedVariables false
set_option linter.unusedSimpArgs false

def termTxt (t : Tm) : List UInt8 := if t.name.toList.isEmpty = true then 88 :: Lib.decDigits t.num else t.name.data.toList
def argsTxt : Nat → List Tm → List UInt8
  | _, [] => []
  | i, t :: l => (if i = 0 then [] else [44]) ++ termTxt t ++ argsTxt (i + 1) l
def atomTxt (a : Am) : List UInt8 := a.rel.data.toList ++ 40 :: argsTxt 0 a.args ++ [41]
def bodyTxt : Nat → List Am → List UInt8
  | _, [] => []
  | i, a :: l => (if i = 0 then [32, 58, 45, 32] else [44, 32]) ++ atomTxt a ++ bodyTxt (i + 1) l
def ruleTxt (r : Rl) : List UInt8 := atomTxt r.head ++ bodyTxt 0 r.body ++ [46, 10]
def rulesTxt (rs : List Rl) : List UInt8 := rs.flatMap ruleTxt

end Go.Proofs.YtjajnhemgphefaaGreatDoor

namespace Go.Proofs.YtjajnhemgphefaaGreatDoor
open Go.RowKit Go.Shelf
set_option linter.unusedVariables false
set_option linter.unusedSimpArgs false

set_option maxHeartbeats 400000 in
theorem check_any (v : Value) (rs : List Rl) (base b45 b87 : Nat) (w : World) (hR : RulesAt w base b45 b87 v rs) (hrow : ∀ g, v.ownBlock = some g → g < w.heap.size) (h8 : rs.length ≤ 8) (hok : ∀ r ∈ rs, RuleOk r) :
    Calls Tryz.prog 61 #[v] w fun e w' => e = .returned (.tuple #[.int .i64 (checkS rs).1, .int .i64 (checkS rs).2]) ∧ Below w.heap.size w w' := by
  have h1 := findArity_any v rs base b45 b87 w hR hrow h8 hok
  have h2 : ∀ W, Below w.heap.size w W → Calls Tryz.prog 101 #[v, .func (.func 102) #[] #[]] W fun e w' => e = .returned (.int .i64 (firstLoose rs)) ∧ Below w.heap.size w w' := fun W hb =>
    (idxRules_any v rs base b45 b87 W (hR.rk (RuleKept.ofBelow hb)) (fun g hg => Nat.lt_of_lt_of_le (hrow g hg) hb.size) h8 hok).mono (fun e w' h => ⟨h.1, hb.trans (h.2.mono hb.size)⟩)
  have h3 : ∀ W, Below w.heap.size w W → Calls Tryz.prog 103 #[v] W fun e w' => e = .returned (.int .i64 (manyFrom [] 0 rs)) ∧ Below w.heap.size w w' := fun W hb =>
    (findManyNames_any v rs base b45 b87 W (hR.rk (RuleKept.ofBelow hb)) (fun g hg => Nat.lt_of_lt_of_le (hrow g hg) hb.size) h8 hok).mono (fun e w' h => ⟨h.1, hb.trans (h.2.mono hb.size)⟩)
  obtain ⟨a, c, rfl⟩ := hR.form
  have hcs : Hid (checkS rs = if 0 ≤ arityFrom [] 0 rs then (4, arityFrom [] 0 rs) else if 0 ≤ firstLoose rs then (5, firstLoose rs) else if 0 ≤ manyFrom [] 0 rs then (3, manyFrom [] 0 rs) else (0, 0)) := rfl
  have H1 : Hid _ := h1
  have H2 : Hid _ := h2
  have H3 : Hid _ := h3
  clear h1 h2 h3 hR hrow hok
  generalize arityFrom [] 0 rs = ar at *
  generalize firstLoose rs = fu at *
  generalize manyFrom [] 0 rs = mn at *
  generalize checkS rs = cs at *
  by_cases ha : 0 ≤ ar
  · have hfin : Hid (cs = (4, ar)) := by show _ = _; rw [hcs.out, if_pos ha]
    go_enter Tryz.func61, Tryz.ntmps61
    go_wp2_with fail
    refine Calls.mono H1.out ?_
    rintro e w1 ⟨rfl, hb1⟩
    go_wp2
    go_ret2
    rw [hfin.out]
    exact ⟨rfl, hb1⟩
  have ha' : ¬ (0 ≤ ar) := ha
  by_cases hu : 0 ≤ fu
  · have hfin : Hid (cs = (5, fu)) := by show _ = _; rw [hcs.out, if_neg ha, if_pos hu]
    go_enter Tryz.func61, Tryz.ntmps61
    go_wp2_with fail
    refine Calls.mono H1.out ?_
    rintro e w1 ⟨rfl, hb1⟩
    go_wp2_with fail
    refine Calls.mono (H2.out w1 hb1) ?_
    rintro e w2 ⟨rfl, hb2⟩
    go_wp2
    go_ret2
    rw [hfin.out]
    exact ⟨rfl, hb2⟩
  by_cases hm : 0 ≤ mn
  · have hfin : Hid (cs = (3, mn)) := by show _ = _; rw [hcs.out, if_neg ha, if_neg hu, if_pos hm]
    go_enter Tryz.func61, Tryz.ntmps61
    go_wp2_with fail
    refine Calls.mono H1.out ?_
    rintro e w1 ⟨rfl, hb1⟩
    go_wp2_with fail
    refine Calls.mono (H2.out w1 hb1) ?_
    rintro e w2 ⟨rfl, hb2⟩
    go_wp2_with fail
    refine Calls.mono (H3.out w2 hb2) ?_
    rintro e w3 ⟨rfl, hb3⟩
    go_wp2
    go_ret2
    rw [hfin.out]
    exact ⟨rfl, hb3⟩
  · have hfin : Hid (cs = (0, 0)) := by show _ = _; rw [hcs.out, if_neg ha, if_neg hu, if_neg hm]
    go_enter Tryz.func61, Tryz.ntmps61
    go_wp2_with fail
    refine Calls.mono H1.out ?_
    rintro e w1 ⟨rfl, hb1⟩
    go_wp2_with fail
    refine Calls.mono (H2.out w1 hb1) ?_
    rintro e w2 ⟨rfl, hb2⟩
    go_wp2_with fail
    refine Calls.mono (H3.out w2 hb2) ?_
    rintro e w3 ⟨rfl, hb3⟩
    go_wp2
    go_ret2
    rw [hfin.out]
    exact ⟨rfl, hb3⟩

end Go.Proofs.YtjajnhemgphefaaGreatDoor
