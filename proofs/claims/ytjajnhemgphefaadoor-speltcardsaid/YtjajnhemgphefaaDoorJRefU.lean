/-
  Rows of the call's own that hold a list of things, each of a fixed number of cells: what lies at which place. (Of any program.)
-/
import Derived.Test.YtjajnhemgphefaaDoorJRef3
namespace Go.Proofs.YtjajnhemgphefaaDoor
open Go.RowKit Go.Shelf
set_option linter.unusedVariables false
set_option linter.unusedSimpArgs false

theorem flat_get {α : Type} (f : α → List Value) (k : Nat) (hk : ∀ x, (f x).length = k) : ∀ (l : List α) (j o : Nat) (hj : j < l.length), o < k → (l.flatMap f)[j * k + o]? = (f l[j])[o]?
  | [], j, o, hj, _ => by simp at hj
  | x :: l, 0, o, hj, ho => by
    rw [List.flatMap_cons, List.getElem?_append_left (by rw [hk]; omega)]
    simp
  | x :: l, j + 1, o, hj, ho => by
    have hj' : j < l.length := by simpa using hj
    have e : (j + 1) * k + o = k + (j * k + o) := by rw [Nat.succ_mul]; omega
    rw [List.flatMap_cons, List.getElem?_append_right (by rw [hk, e]; omega), hk, e, Nat.add_sub_cancel_left]
    simpa using flat_get f k hk l j o hj' ho

theorem flat_len {α : Type} (f : α → List Value) (k : Nat) (hk : ∀ x, (f x).length = k) (l : List α) : (l.flatMap f).length = l.length * k := by
  induction l with
  | nil => simp
  | cons x l ih => rw [List.flatMap_cons, List.length_append, hk, ih, List.length_cons, Nat.succ_mul]; omega

/-- The form of an owned row that holds a list. -/
theorem own_form {W : World} {B T k n : Nat} {v : Value} {xs : List Value} (h : W.ownsRow B T k v n xs) : ∃ a c, v = .slice a n c := by
  obtain ⟨_, ⟨hv, hn⟩ | ⟨g, cap, cur, hv, _⟩⟩ := h
  · exact ⟨none, 0, by rw [hv, hn]⟩
  · exact ⟨_, _, hv⟩

theorem own_get {W : World} {B T k : Nat} {v : Value} {α : Type} {f : α → List Value} {l : List α} (h : W.ownsRow B T k v l.length (l.flatMap f)) (hk : ∀ x, (f x).length = k) (hne : 0 < l.length) :
    ∃ g cap, v = .slice (some ⟨g, 0, none⟩) l.length cap ∧ B ≤ g ∧ g < W.heap.size ∧ l.length ≤ cap ∧ ∀ (j o : Nat) (hj : j < l.length) (u : Value), o < k → (f l[j])[o]? = some u → W.cell? ⟨g, j * k + o, none⟩ = some u := by
  obtain ⟨_, ⟨hv, hn⟩ | ⟨g, cap, cur, hv, hb, hw, h1, h2, h3, h4⟩⟩ := h
  · omega
  · refine ⟨g, cap, hv, hb, (Array.getElem?_eq_some_iff.1 hw).1, h1, fun j o hj u ho hu => ?_⟩
    have h5 : (cur.toList.take (l.length * k))[j * k + o]? = some u := by rw [h4, flat_get f k hk l j o hj ho, hu]
    have hlt : j * k + o < l.length * k := by
      have : (j + 1) * k ≤ l.length * k := Nat.mul_le_mul_right k hj
      rw [Nat.succ_mul] at this; omega
    rw [List.getElem?_take, if_pos hlt] at h5
    simp only [World.cell?, hw]
    simpa using h5

/-- An owned row abides what keeps its own block. -/
theorem own_keep {W W' : World} {B T k n : Nat} {v : Value} {xs : List Value} (h : W.ownsRow B T k v n xs) (hk : ∀ g, v.ownBlock = some g → g < W.heap.size → W'.heap[g]? = W.heap[g]?) : W'.ownsRow B T k v n xs := by
  obtain ⟨h0, ⟨hv, hn⟩ | ⟨g, cap, cur, hv, hb, hh, h1, h2, h3, h4⟩⟩ := h
  · exact ⟨h0, .inl ⟨hv, hn⟩⟩
  · exact ⟨h0, .inr ⟨g, cap, cur, hv, hb, (hk g (by rw [hv]; rfl) (Array.getElem?_eq_some_iff.1 hh).1).trans hh, h1, h2, h3, h4⟩⟩

theorem own_below {W W' : World} {B T k n : Nat} {v : Value} {xs : List Value} (h : W.ownsRow B T k v n xs) (hb : Below W.heap.size W W') : W'.ownsRow B T k v n xs := own_keep h (fun g _ hg => hb.block g hg)

theorem own_down {W : World} {B B' T k n : Nat} {v : Value} {xs : List Value} (h : W.ownsRow B T k v n xs) (hB : B' ≤ B) : W.ownsRow B' T k v n xs := by
  obtain ⟨h0, ⟨hv, hn⟩ | ⟨g, cap, cur, hv, hb, hw⟩⟩ := h
  · exact ⟨h0, .inl ⟨hv, hn⟩⟩
  · exact ⟨h0, .inr ⟨g, cap, cur, hv, by omega, hw⟩⟩

/-- What was laid ahead of B lies there still. -/
theorem below_heap {B : Nat} {W W' : World} (h : Below B W W') {k : Nat} (hk : k < B) : W'.heap[k]? = W.heap[k]? := h.block k hk

theorem four_new (w : World) (x y z u : Value) (t : TypeId) : ∀ j q, [x, y, z, u][j]? = some q → (w.alloc (.cells #[x, y, z, u] t)).cell? ((⟨w.heap.size, 0, none⟩ : Addr).add j) = some q := by
  intro j q hj
  match j, hj with
  | 0, hj => simp at hj; subst hj; simp [Addr.add]
  | 1, hj => simp at hj; subst hj; simp [Addr.add]
  | 2, hj => simp at hj; subst hj; simp [Addr.add]
  | 3, hj => simp at hj; subst hj; simp [Addr.add]
  | j + 4, hj => simp at hj

/-- The first runes of a kind up to 3: how many. -/
theorem tw_go (l : List Rn) : ∀ m, m ≤ (tw l).length → ∀ hm : m < l.length, l[m].kind ≤ 3 → m + 1 ≤ (tw l).length := by
  induction l with
  | nil => intro m _ hm; simp at hm
  | cons x l ih =>
    intro m h hm hk
    unfold tw at h ⊢
    rw [List.takeWhile_cons] at h ⊢
    cases m with
    | zero => rw [if_pos (by simpa using hk)]; simp
    | succ m =>
      split at h
      · rename_i hx
        rw [if_pos hx]
        simp only [List.length_cons] at h ⊢
        have := ih m (by unfold tw; omega) (by simpa using hm) (by simpa using hk)
        unfold tw at this
        omega
      · simp at h

theorem tw_stop (l : List Rn) : ∀ m, m ≤ (tw l).length → (∀ hm : m < l.length, ¬ l[m].kind ≤ 3) → m = (tw l).length := by
  induction l with
  | nil => intro m h _; simpa [tw] using h
  | cons x l ih =>
    intro m h hk
    cases m with
    | zero =>
      have := hk (by simp)
      unfold tw
      rw [List.takeWhile_cons, if_neg (by simpa using this)]
      simp
    | succ m =>
      unfold tw at h ⊢
      rw [List.takeWhile_cons] at h ⊢
      split at h
      · rename_i hx
        rw [if_pos hx]
        simp only [List.length_cons] at h ⊢
        have := ih m (by unfold tw; omega) (fun hm => by have := hk (by simpa using hm); simpa using this)
        unfold tw at this
        omega
      · simp at h

theorem cat_snoc (l : List Rn) (x : Rn) : cat (l ++ [x]) = cat l ++ x.text := by
  induction l with
  | nil =>
    show x.text ++ ByteArray.empty = ByteArray.empty ++ x.text
    simp
  | cons y l ih => simp only [List.cons_append, cat, ih, ByteArray.append_assoc]

theorem refT_fuel : ∀ (f g : Nat) (l : List Rn) (i : Nat), l.length ≤ f → l.length ≤ g → refT f l i = refT g l i
  | 0, g, [], i, _, _ => by cases g <;> rfl
  | 0, g, r :: l, i, h, _ => by simp at h
  | f + 1, 0, [], i, _, _ => rfl
  | f + 1, 0, r :: l, i, _, h => by simp at h
  | f + 1, g + 1, [], i, _, _ => rfl
  | f + 1, g + 1, r :: l, i, h, h' => by
    simp only [List.length_cons] at h h'
    unfold refT
    rw [refT_fuel f g (l.drop (tw l).length) _ (by simp; omega) (by simp; omega), refT_fuel f g l _ (by omega) (by omega), refT_fuel f g (l.drop 1) _ (by simp; omega) (by simp; omega)]

theorem R_size (s : ByteArray) : ∀ (f i : Nat), s.size ≤ i + f → ∀ r ∈ R s i, 1 ≤ r.text.size ∧ r.text.size ≤ 4
  | 0, i, h, r, hr => by rw [R_end s i (by omega)] at hr; cases hr
  | f + 1, i, h, r, hr => by
    by_cases hi : i < s.size
    · have hw := width_le_at s i hi
      have hp := width_pos s i
      have h4 : (Utf8.decode s i).2 ≤ 4 := by
        rw [size_ref]; unfold sizeR
        split
        · decide
        · split
          · decide
          · split <;> decide
      rw [R_cons s i hi] at hr
      rcases List.mem_cons.1 hr with rfl | hr
      · have hz : (s.extract i (i + (Utf8.decode s i).2)).size = (Utf8.decode s i).2 := by simp; omega
        simp only
        rw [hz]; omega
      · exact R_size s f _ (by omega) r hr
    · rw [R_end s i hi] at hr; cases hr

end Go.Proofs.YtjajnhemgphefaaDoor
