/-
  The least model in plain data, for the statements: a relation that is another; what is told of a form.
  The engine in memory.
-/
import Derived.Test.YtjajnhemgphefaaGreatDoorJcLsP
import Derived.Test.YtjajnhemgphefaaGreatDoorJcTxt2
import Derived.Test.YtjajnhemgphefaaGreatDoorJcEgJ
import Derived.Test.YtjajnhemgphefaaGreatDoorJcApI
namespace Go.Proofs.YtjajnhemgphefaaGreatDoor
open Go.RowKit Go.Shelf Go.Maps
set_option linter.unusedVariables false
set_option linter.unusedSimpArgs false

def v0T : Tm := ⟨eB, 0⟩
def v1T : Tm := ⟨eB, 1⟩
theorem of_v0 (p : Nms) : ofT p v0T = p.a0 := ofT_var rfl p
theorem of_v1 (p : Nms) : ofT p v1T = p.a1 := ofT_var rfl p
theorem ground_vv (p : Nms) (P : ByteArray) : groundA p ⟨P, [v0T, v1T]⟩ = ⟨P, p.a0, p.a1⟩ := by
  show (⟨P, ofT p v0T, ofT p v1T⟩ : Gd) = _
  rw [of_v0, of_v1]
theorem sortT_perm {l l' : List (List UInt8)} (h : l.Perm l') : sortT l = sortT l' := by
  have hs : ∀ l : List (List UInt8), (sortT l).Pairwise (fun a b => decide (a ≤ b) = true) := fun l =>
    List.pairwise_mergeSort (le := fun x y => decide (x ≤ y)) (fun a b c h1 h2 => by simp only [decide_eq_true_eq] at *; exact List.le_trans h1 h2) (fun a b => by simp only [Bool.or_eq_true, decide_eq_true_eq]; exact List.le_total a b) l
  refine List.Perm.eq_of_pairwise (le := fun a b => decide (a ≤ b) = true) (fun a b _ _ h1 h2 => ?_) (hs l) (hs l') (((List.mergeSort_perm l _).trans h).trans (List.mergeSort_perm l' _).symm)
  simp only [decide_eq_true_eq] at h1 h2
  exact List.le_antisymm h1 h2

/-- Nothing follows from nothing. -/
theorem der_some {R : List Rl} {F : List (Gd × Int)} {e : Int} {g : Gd} (hd : Der R F e g) : ∃ x ∈ F, e < x.2 := by
  refine hd (fun _ => ∃ x ∈ F, e < x.2) (fun x hx he => ⟨x, hx, he⟩) (fun r hr h0 p hb => ?_)
  obtain ⟨a, ha⟩ := List.exists_mem_of_ne_nil _ h0
  exact hb a ha
def v2T : Tm := ⟨eB, 2⟩
theorem of_v2 (p : Nms) : ofT p v2T = p.a2 := ofT_var rfl p
/-- Who can be reached. -/
def pathR (P E : ByteArray) : List Rl := [⟨⟨P, [v0T, v1T]⟩, [⟨E, [v0T, v1T]⟩]⟩, ⟨⟨P, [v0T, v1T]⟩, [⟨P, [v0T, v2T]⟩, ⟨E, [v2T, v1T]⟩]⟩]
theorem ground_02 (p : Nms) (P : ByteArray) : groundA p ⟨P, [v0T, v2T]⟩ = ⟨P, p.a0, p.a2⟩ := by
  show (⟨P, ofT p v0T, ofT p v2T⟩ : Gd) = _
  rw [of_v0, of_v2]
theorem ground_21 (p : Nms) (P : ByteArray) : groundA p ⟨P, [v2T, v1T]⟩ = ⟨P, p.a2, p.a1⟩ := by
  show (⟨P, ofT p v2T, ofT p v1T⟩ : Gd) = _
  rw [of_v2, of_v1]
/-- A way of steps. -/
def Way (E : ByteArray → ByteArray → Prop) (x y : ByteArray) : Prop := ∀ S : ByteArray → ByteArray → Prop, (∀ x y, E x y → S x y) → (∀ x y z, S x y → E y z → S x z) → S x y
theorem path_der {P E : ByteArray} (hne : P ≠ E) {X : List Rl} (hX : ∀ r ∈ X, r.body = []) (F : List (Gd × Int)) (hF : ∀ x ∈ F, x.1.rel = E) (e : Int) (x y : ByteArray) : Der (pathR P E ++ X) F e ⟨P, x, y⟩ ↔ Way (fun a b => ∃ t, (⟨E, a, b⟩, t) ∈ F ∧ e < t) x y := by
  constructor
  · intro hd S h1 h2
    have := hd (fun g => (g.rel = E → ∃ t, (⟨E, g.x, g.y⟩, t) ∈ F ∧ e < t) ∧ (g.rel = P → S g.x g.y)) (fun z hz he => ⟨fun hr => ⟨z.2, by
        have : (⟨E, z.1.x, z.1.y⟩ : Gd) = z.1 := by rw [← hr]
        rw [this]; exact hz, he⟩, fun hr => absurd (hr.symm.trans (hF z hz)) hne⟩) (by
      intro r hr h0 p hb
      rcases List.mem_append.1 hr with hr | hr
      · simp only [pathR, List.mem_cons, List.not_mem_nil, or_false] at hr
        rcases hr with rfl | rfl
        · have k1 := (hb ⟨E, [v0T, v1T]⟩ (by simp)).1
          rw [ground_vv] at k1 ⊢
          exact ⟨fun h => absurd h hne, fun _ => h1 _ _ (k1 rfl)⟩
        · have k1 := (hb ⟨P, [v0T, v2T]⟩ (by simp)).2
          have k2 := (hb ⟨E, [v2T, v1T]⟩ (by simp)).1
          rw [ground_02] at k1
          rw [ground_21] at k2
          rw [ground_vv]
          exact ⟨fun h => absurd h hne, fun _ => h2 _ _ _ (k1 rfl) (k2 rfl)⟩
      · exact absurd (hX r hr) h0)
    exact this.2 rfl
  · intro hw
    refine hw (fun x y => Der (pathR P E ++ X) F e ⟨P, x, y⟩) (fun a b ⟨t, h1, h2⟩ => ?_) (fun a b c hd ⟨t, h1, h2⟩ => ?_)
    · have := Der.rule (R := pathR P E ++ X) (F := F) (e := e) (r := ⟨⟨P, [v0T, v1T]⟩, [⟨E, [v0T, v1T]⟩]⟩) (by simp [pathR]) (by simp) (p := ⟨a, b, eB, eB, eB, eB⟩) (by
        intro q hq
        simp only [List.mem_cons, List.not_mem_nil, or_false] at hq
        subst hq
        rw [ground_vv]
        exact Der.fact (x := (⟨E, a, b⟩, t)) h1 h2)
      rw [ground_vv] at this
      exact this
    · have := Der.rule (R := pathR P E ++ X) (F := F) (e := e) (r := ⟨⟨P, [v0T, v1T]⟩, [⟨P, [v0T, v2T]⟩, ⟨E, [v2T, v1T]⟩]⟩) (by simp [pathR]) (by simp) (p := ⟨a, c, b, eB, eB, eB⟩) (by
        intro q hq
        simp only [List.mem_cons, List.not_mem_nil, or_false] at hq
        rcases hq with rfl | rfl
        · rw [ground_02]; exact hd
        · rw [ground_21]; exact Der.fact (x := (⟨E, b, c⟩, t)) h1 h2)
      rw [ground_vv] at this
      exact this

end Go.Proofs.YtjajnhemgphefaaGreatDoor

namespace Go.Proofs.YtjajnhemgphefaaGreatDoor
open Go.RowKit Go.Shelf Go.Maps
set_option linter.unusedVariables false
set_option linter.unusedSimpArgs false

/-- An engine. -/
structure Eg where
  rs : List Rl
  win : Int
  lat : Int
  que : Int
  mark : Int
  names : List ByteArray
  kept : List (Gd × Int)
  M : Gd → Option Int
  fds : List Fs

/-- A block of a type that engines write. -/
def WTy (W : World) (k : Nat) : Prop := ∃ c t, W.heap[k]? = some (Obj.cells c t (0, 0)) ∧ (t = 101 ∨ t = 161 ∨ t = 120 ∨ t = 198 ∨ t = 71 ∨ t = 9)
/-- A block of a type that feeds write. -/
def FTy (W : World) (k : Nat) : Prop := ∃ c t, W.heap[k]? = some (Obj.cells c t (0, 0)) ∧ (t = 198 ∨ t = 71)
theorem FTy.w {W : World} {k : Nat} (h : FTy W k) : WTy W k := by
  obtain ⟨c, t, h1, h2 | h2⟩ := h
  · exact ⟨c, t, h1, by simp [h2]⟩
  · exact ⟨c, t, h1, by simp [h2]⟩
theorem WTy.lt {W : World} {k : Nat} (h : WTy W k) : k < W.heap.size := by
  obtain ⟨c, t, h1, _⟩ := h
  exact (Array.getElem?_eq_some_iff.1 h1).1
theorem FTy.lt {W : World} {k : Nat} (h : FTy W k) : k < W.heap.size := h.w.lt
theorem WTy.same {W W' : World} {k : Nat} (h : WTy W k) (hk : W'.heap[k]? = W.heap[k]?) : WTy W' k := by
  obtain ⟨c, t, h1, h2⟩ := h
  exact ⟨c, t, hk.trans h1, h2⟩
theorem FTy.same {W W' : World} {k : Nat} (h : FTy W k) (hk : W'.heap[k]? = W.heap[k]?) : FTy W' k := by
  obtain ⟨c, t, h1, h2⟩ := h
  exact ⟨c, t, hk.trans h1, h2⟩
theorem WTy.not {W : World} {k : Nat} {c : Array Value} {t : TypeId} (h : W.heap[k]? = some (Obj.cells c t (0, 0))) (ht : t ≠ 101 ∧ t ≠ 161 ∧ t ≠ 120 ∧ t ≠ 198 ∧ t ≠ 71 ∧ t ≠ 9) : ¬ WTy W k := by
  rintro ⟨c', t', h1, h2⟩
  rw [h] at h1
  cases h1
  rcases h2 with h2 | h2 | h2 | h2 | h2 | h2
  · exact ht.1 h2
  · exact ht.2.1 h2
  · exact ht.2.2.1 h2
  · exact ht.2.2.2.1 h2
  · exact ht.2.2.2.2.1 h2
  · exact ht.2.2.2.2.2 h2
theorem WTy.notMap {W : World} {k : Nat} {es : Array MapEntry} {c : Nat} (h : W.heap[k]? = some (Obj.map es c)) : ¬ WTy W k := by
  rintro ⟨c', t', h1, _⟩
  rw [h] at h1
  cases h1

def ptrV (b : Nat) : Value := .pointer (some ⟨b, 0, none⟩)

/-- Block be is an engine; S: the blocks that it may write. -/
structure EngV (W : World) (S : Nat → Prop) (be : Nat) (e : Eg) (vr vn vk vf : Value) (bm rb b45 b87 : Nat) (bfs : List Nat) (Sf : Nat → Nat → Prop) : Prop where
  blk : W.heap[be]? = some (Obj.cells #[vr, .int .i64 e.win, .int .i64 e.lat, .int .i64 e.que, .int .i64 e.mark, vn, vk, .map (some bm), vf] 101 (0, 0))
  rules : RulesAt W rb b45 b87 vr e.rs
  names : W.ownsRow 0 9 1 vn e.names.length (e.names.map Value.string)
  kept : W.ownsRow 0 161 4 vk e.kept.length (e.kept.flatMap lastC)
  md : MdAt W bm 5000 e.M
  len : bfs.length = e.fds.length
  frow : W.ownsRow 0 120 1 vf bfs.length (bfs.map ptrV)
  feed : ∀ i (h : i < bfs.length) (h' : i < e.fds.length), ∃ b, FdAt W (Sf i) bfs[i] b e.fds[i]
  sep : ∀ i j, i ≠ j → ∀ k, Sf i k → ¬ Sf j k
  sub : ∀ i, ∀ k, Sf i k → S k ∧ FTy W k
  own : S be ∧ (∀ g, vk.ownBlock = some g → S g) ∧ (∀ g, vf.ownBlock = some g → S g) ∧ ∀ g, vn.ownBlock = some g → S g
  typ : ∀ k, S k → WTy W k
def EngAt (W : World) (S : Nat → Prop) (be : Nat) (e : Eg) : Prop := ∃ vr vn vk vf bm rb b45 b87 bfs Sf, EngV W S be e vr vn vk vf bm rb b45 b87 bfs Sf

theorem FdAt.narrow {W : World} {S : Nat → Prop} {bf b87 : Nat} {f : Fs} (h : FdAt W S bf b87 f) : FdAt W (fun k => S k ∧ FTy W k) bf b87 f := by
  obtain ⟨va, vs, vq, h1, h2, h3, h4, h5, h6, h7⟩ := h
  refine ⟨va, vs, vq, h1, h2, h3, h4, fun g hg => ⟨⟨(h5 g hg).1, ?_⟩, (h5 g hg).2⟩, fun g hg => ⟨h6 g hg, ?_⟩, h7, ?_⟩
  · obtain ⟨_, c, hc⟩ := owns_block h3 hg
    exact ⟨c, _, hc, .inr rfl⟩
  · obtain ⟨_, c, hc⟩ := owns_block h4 hg
    exact ⟨c, _, hc, .inr rfl⟩
  · exact ⟨_, _, h1, .inl rfl⟩

/-- A block of a type that no rule is laid in. -/
def NTy (W : World) (k : Nat) : Prop := ∃ c t, W.heap[k]? = some (Obj.cells c t (0, 0)) ∧ t ≠ 136 ∧ t ≠ 92 ∧ t ≠ 166
theorem WTy.n {W : World} {k : Nat} (h : WTy W k) : NTy W k := by
  obtain ⟨c, t, h1, h2⟩ := h
  exact ⟨c, t, h1, by rcases h2 with rfl | rfl | rfl | rfl | rfl | rfl <;> decide⟩
theorem NTy.not {W : World} {k : Nat} {c : Array Value} {t : TypeId} (h : W.heap[k]? = some (Obj.cells c t (0, 0))) (ht : t = 136 ∨ t = 92 ∨ t = 166) : ¬ NTy W k := by
  rintro ⟨c', t', h1, h2, h3, h4⟩
  rw [h] at h1
  cases h1
  rcases ht with ht | ht | ht
  · exact h2 ht
  · exact h3 ht
  · exact h4 ht
theorem NTy.notMap {W : World} {k : Nat} {es : Array MapEntry} {c : Nat} (h : W.heap[k]? = some (Obj.map es c)) : ¬ NTy W k := by
  rintro ⟨c', t', h1, _⟩
  rw [h] at h1
  cases h1
/-- What is no engine's to write abides. -/
theorem EngV.keepN {W W' : World} {S : Nat → Prop} {be : Nat} {e : Eg} {vr vn vk vf : Value} {bm rb b45 b87 : Nat} {bfs : List Nat} {Sf : Nat → Nat → Prop} (h : EngV W S be e vr vn vk vf bm rb b45 b87 bfs Sf) {ex : Nat → Prop} (hc : Chg W W' ex) (hS : ∀ k, S k → ¬ ex k) (hT : ∀ k, k < W.heap.size → ex k → NTy W k) : EngV W' S be e vr vn vk vf bm rb b45 b87 bfs Sf := by
  have hk : ∀ k, k < W.heap.size → ¬ ex k → W'.heap[k]? = W.heap[k]? := hc.block
  have hkS : ∀ k, S k → W'.heap[k]? = W.heap[k]? := fun k hs => hk k (h.typ k hs).lt (hS k hs)
  have hkT : ∀ (k : Nat) (c : Array Value) (t : TypeId), W.heap[k]? = some (Obj.cells c t (0, 0)) → (t = 136 ∨ t = 92 ∨ t = 166) → W'.heap[k]? = some (Obj.cells c t (0, 0)) := fun k c t hc ht => (hk k (Array.getElem?_eq_some_iff.1 hc).1 (fun he => NTy.not hc ht (hT k (Array.getElem?_eq_some_iff.1 hc).1 he))).trans hc
  have hbe := (Array.getElem?_eq_some_iff.1 h.blk).1
  refine ⟨(hkS be h.own.1).trans h.blk, h.rules.keep (fun k c t ht hc => hkT k c t hc ht), own_keep h.names (fun g hg hlt => hkS g (h.own.2.2.2 g hg)), own_keep h.kept (fun g hg hlt => hkS g (h.own.2.1 g hg)), h.md.kept (fun k es c hm => (hk k (Array.getElem?_eq_some_iff.1 hm).1 (fun he => NTy.notMap hm (hT k (Array.getElem?_eq_some_iff.1 hm).1 he))).trans hm), h.len, own_keep h.frow (fun g hg hlt => hkS g (h.own.2.2.1 g hg)), fun i hi hi' => ?_, h.sep, fun i k hs => ⟨(h.sub i k hs).1, (h.sub i k hs).2.same (hkS k (h.sub i k hs).1)⟩, h.own, fun k hs => (h.typ k hs).same (hkS k hs)⟩
  obtain ⟨b, hf⟩ := h.feed i hi hi'
  exact ⟨b, hf.keep (ex := ex) hk (fun k hs => hS k (h.sub i k hs).1) (fun k c hc he => NTy.not hc (.inr (.inr rfl)) (hT k (Array.getElem?_eq_some_iff.1 hc).1 he))⟩
theorem EngV.keep {W W' : World} {S : Nat → Prop} {be : Nat} {e : Eg} {vr vn vk vf : Value} {bm rb b45 b87 : Nat} {bfs : List Nat} {Sf : Nat → Nat → Prop} (h : EngV W S be e vr vn vk vf bm rb b45 b87 bfs Sf) {ex : Nat → Prop} (hc : Chg W W' ex) (hS : ∀ k, S k → ¬ ex k) (hT : ∀ k, k < W.heap.size → ex k → WTy W k) : EngV W' S be e vr vn vk vf bm rb b45 b87 bfs Sf :=
  h.keepN hc hS (fun k h1 h2 => (hT k h1 h2).n)
theorem EngAt.keepN {W W' : World} {S : Nat → Prop} {be : Nat} {e : Eg} (h : EngAt W S be e) {ex : Nat → Prop} (hc : Chg W W' ex) (hS : ∀ k, S k → ¬ ex k) (hT : ∀ k, k < W.heap.size → ex k → NTy W k) : EngAt W' S be e := by
  obtain ⟨vr, vn, vk, vf, bm, rb, b45, b87, bfs, Sf, hv⟩ := h
  exact ⟨vr, vn, vk, vf, bm, rb, b45, b87, bfs, Sf, hv.keepN hc hS hT⟩
theorem EngAt.keep {W W' : World} {S : Nat → Prop} {be : Nat} {e : Eg} (h : EngAt W S be e) {ex : Nat → Prop} (hc : Chg W W' ex) (hS : ∀ k, S k → ¬ ex k) (hT : ∀ k, k < W.heap.size → ex k → WTy W k) : EngAt W' S be e :=
  h.keepN hc hS (fun k h1 h2 => (hT k h1 h2).n)
theorem EngV.below {W W' : World} {S : Nat → Prop} {be : Nat} {e : Eg} {vr vn vk vf : Value} {bm rb b45 b87 : Nat} {bfs : List Nat} {Sf : Nat → Nat → Prop} (h : EngV W S be e vr vn vk vf bm rb b45 b87 bfs Sf) (hb : Below W.heap.size W W') : EngV W' S be e vr vn vk vf bm rb b45 b87 bfs Sf :=
  h.keep (Chg.ofBelow (fun _ => False) hb) (fun _ _ => id) (fun _ _ => False.elim)
theorem EngAt.below {W W' : World} {S : Nat → Prop} {be : Nat} {e : Eg} (h : EngAt W S be e) (hb : Below W.heap.size W W') : EngAt W' S be e :=
  h.keep (Chg.ofBelow (fun _ => False) hb) (fun _ _ => id) (fun _ _ => False.elim)

/-- All relations that stand in rules. -/
def relsR (rs : List Rl) : List ByteArray := (rs.flatMap ruleAms).map (·.rel)
/-- What is asked of rules: true of all that are let in. -/
structure RsOk (rs : List Rl) : Prop where
  r8 : rs.length ≤ 8
  rok : ∀ r ∈ rs, RuleOk r
  arity : ∀ a ∈ rs.flatMap ruleAms, a.args.length = arR rs a.rel ∧ (a.args.length = 1 ∨ a.args.length = 2)
  nums : ∀ a ∈ rs.flatMap ruleAms, ∀ t ∈ a.args, t.num < 6
  safe : ∀ r ∈ rs, ∀ t ∈ r.head.args, t.name = eB → ∃ a ∈ r.body, ∃ u ∈ a.args, u.name = eB ∧ u.num = t.num
/-- What holds of an engine's data. -/
structure EgOk (e : Eg) : Prop where
  rs : RsOk e.rs
  win : 1 ≤ e.win ∧ e.win ≤ 1000
  lat : 0 ≤ e.lat ∧ e.lat ≤ 1000
  que : 1 ≤ e.que ∧ e.que ≤ 50
  mark : 0 ≤ e.mark ∧ e.mark ≤ 1000000
  n8 : e.names.length ≤ 8
  nsz : ∀ x ∈ e.names, x.size ≤ 1200
  nrs : ∀ r ∈ e.rs, ∀ t ∈ r.head.args, t.name ≠ eB → t.name ∈ e.names
  k24 : e.kept.length ≤ 24
  kept : ∀ d ∈ e.kept, d.1 ∈ uni (relsR e.rs) e.names ∧ arOk (arR e.rs) d.1 ∧ 0 ≤ d.2 ∧ d.2 ≤ 1000000
  md : ∀ g, (e.M g).isSome = true → arOk (arR e.rs) g ∧ g ∈ uni (relsR e.rs) e.names
  f3 : e.fds.length ≤ 3
  fds : ∀ f ∈ e.fds, FormOk f.form ∧ f.snap.length ≤ 1000 ∧ f.que.length ≤ 50

end Go.Proofs.YtjajnhemgphefaaGreatDoor
