/-
  rules.parse: the text is read token by token.
-/
import Derived.Test.YtpfknibkdiebaaaDoorInv
namespace Go.Proofs.YtpfknibkdiebaaaDoor
open Go.RowKit Go.Shelf
set_option linter.unusedVariables false
set_option linter.unusedSimpArgs false
attribute [local go_sem] Oper.semAt_some

def foldP : PSt → List Tok → PSt × Option (Int × Nat)
  | s, [] => (s, none)
  | s, x :: l => if (takeS s x.kind x.text x.runes x.ok).1 = 0 then foldP (takeS s x.kind x.text x.runes x.ok).2 l else (s, some ((takeS s x.kind x.text x.runes x.ok).1, x.place))

def pst0 : PSt := ⟨0, [], []⟩

theorem decode_width_le (s : ByteArray) (i : Nat) : (Utf8.decode s i).2 ≤ 4 := by
  unfold Utf8.decode
  dsimp only
  repeat' split
  all_goals simp

theorem size_le_from (s : ByteArray) : ∀ f pos, s.size ≤ pos + f → s.size ≤ pos + 4 * Lib.runeCountFrom s f pos
  | 0, pos, h => by simp [Lib.runeCountFrom]; omega
  | f + 1, pos, h => by
    unfold Lib.runeCountFrom
    split
    · rename_i hp
      have h1 := Lib.decode_width_pos s pos hp
      have h2 := decode_width_le s pos
      have := size_le_from s f (pos + (Utf8.decode s pos).2) (by omega)
      omega
    · omega

theorem size_le_runes (s : ByteArray) : s.size ≤ 4 * Lib.runeCount s := by
  have := size_le_from s s.size 0 (by omega)
  unfold Lib.runeCount; omega

theorem runeCount_any (s : ByteArray) (w : World) (hs : s.size < 9223372036854775807) :
    Calls Tryd.prog 15 #[.string s] w fun e w' => e = .returned (.int .i64 (Lib.runeCount s)) ∧ ∃ pos, w' = w.alloc (.stringIter s pos) := Tryd.utf8_RuneCountInString s w hs

set_option maxHeartbeats 1000000 in
theorem parse_long (s : ByteArray) (w : World) (hs : s.size ≤ 4611686018427387904) (hlong : 300 < Lib.runeCount s) :
    Calls Tryd.prog 11 #[.string s] w fun e w' => e = .returned (.tuple #[.slice none 0 0, .int .i64 1, .int .i64 0]) ∧ Below w.heap.size w w' := by
  have hl : (300 : Int) < (Lib.runeCount s : Int) := by omega
  refine (callsIn_wide (n := 6)).1 ?_
  refine callsIn_of_wp_marks Tryd.func11 rfl trivial ?_ rfl
  simp only [Tryd.ntmps11, List.size_toArray, List.length_cons, List.length_nil, Nat.reduceAdd, Nat.reduceSub, Array.replicate_succ, Array.replicate_zero, List.push_toArray, List.append_toArray, List.nil_append, List.cons_append]
  gi_wp2_with (refine ⟨trivial, ?_⟩; gi_at_call 15; refine (callsIn_wide.2 (runeCount_any _ _ (by omega))).mono ?_; rintro e w' ⟨rfl, pos, rfl⟩)
  refine ⟨.tuple #[.slice none 0 0, .int .i64 1, .int .i64 0], by simp [results, Tryd.results11, go_sem], rfl, ?_⟩
  exact (((((Below.refl _ _).alloc (Nat.le_refl _) _).alloc (by simp) _).alloc (by simp; omega) _).alloc (by simp; omega) _)


/-- What the parser's memory stands on are cells: whatever keeps these keeps it. -/
theorem PAt.keptAll {base : Nat} {W W' : World} {bp : Nat} {s : PSt} (h : PAt base W bp s) (hk : ∀ (k : Nat) (c : Array Value) (t : TypeId), W.heap[k]? = some (Obj.cells c t (0, 0)) → W'.heap[k]? = some (Obj.cells c t (0, 0))) (hsz : W.heap.size ≤ W'.heap.size) : PAt base W' bp s := by
  obtain ⟨vr, va, b45, b87, h1, h2, h3, h4, h5, hh, hR, ps, e1, e2, e3, e4⟩ := h
  exact ⟨vr, va, b45, b87, h1, h2, Nat.le_trans h3 hsz, Nat.le_trans h4 hsz, h5, hk _ _ _ hh, hR.kept (fun g c _ hc => hk g c _ hc) (fun k c _ hc => hk k c _ hc) (fun k c _ hc => hk k c _ hc),
    ps, e1, owns_kept e2 (fun g c _ hc => hk g c _ hc), fun p hp => (e3 p hp).kept (fun k c _ hc => hk k c _ hc), fun p hp => owns_kept (e4 p hp) (fun g c _ hc => hk g c _ hc)⟩

theorem kept_of_grown {W W' : World} {row : Option Nat} (hg : W.grownBy W' row) (hr : ∀ r, row = some r → ∃ o : Obj, W.heap[r]? = some o ∧ o.isCells = false) :
    ∀ (k : Nat) (c : Array Value) (t : TypeId) (fz : Nat × Nat), W.heap[k]? = some (Obj.cells c t fz) → W'.heap[k]? = some (Obj.cells c t fz) := by
  intro k c t fz hk
  rw [hg.block k (Array.getElem?_eq_some_iff.1 hk).1 (fun e => ?_)]
  · exact hk
  · obtain ⟨o, ho, hc⟩ := hr k e.symm
    rw [hk] at ho; cases ho; simp [Obj.isCells] at hc

theorem foldP_append (s : PSt) (pre l : List Tok) (s' : PSt) (h : foldP s pre = (s', none)) : foldP s (pre ++ l) = foldP s' l := by
  induction pre generalizing s with
  | nil => simp [foldP] at h; rw [h]; rfl
  | cons x pre ih =>
    simp only [List.cons_append, foldP] at h ⊢
    split at h
    · rename_i h0; rw [if_pos h0]; exact ih _ h
    · simp at h

theorem below_size_le {N : Nat} {w W : World} (h : Below N w W) (hN : w.heap.size = N) : N ≤ W.heap.size := by have := h.size; omega

theorem boxed_set {W : World} {B : Nat} {t : TypeId} {v : Value} (h : Boxed W B t v) (u : Value) : Boxed (W.setCell ⟨B, 0, none⟩ u) B t u := heap_set h 0 u

/-- The three result cells, stored one after the other. -/
theorem three_set {W : World} {N t0 t1 t2 : Nat} {x y z : Value} (h0 : Boxed W N t0 x) (h1 : Boxed W (N + 1) t1 y) (h2 : Boxed W (N + 2) t2 z) (a b c : Value) :
    Boxed (((W.setCell ⟨N, 0, none⟩ a).setCell ⟨N + 1, 0, none⟩ b).setCell ⟨N + 1 + 1, 0, none⟩ c) N t0 a ∧ Boxed (((W.setCell ⟨N, 0, none⟩ a).setCell ⟨N + 1, 0, none⟩ b).setCell ⟨N + 1 + 1, 0, none⟩ c) (N + 1) t1 b ∧
    Boxed (((W.setCell ⟨N, 0, none⟩ a).setCell ⟨N + 1, 0, none⟩ b).setCell ⟨N + 1 + 1, 0, none⟩ c) (N + 2) t2 c ∧ Chg W (((W.setCell ⟨N, 0, none⟩ a).setCell ⟨N + 1, 0, none⟩ b).setCell ⟨N + 1 + 1, 0, none⟩ c) (fun j => j = N ∨ j = N + 1 ∨ j = N + 2) ∧ KeepsOthers W (((W.setCell ⟨N, 0, none⟩ a).setCell ⟨N + 1, 0, none⟩ b).setCell ⟨N + 1 + 1, 0, none⟩ c) := by
  refine ⟨((boxed_set h0 a).other (by omega) _).other (by omega) _, (boxed_set (h1.other (by omega) _) b).other (by omega) _, boxed_set (B := N + 2) ((h2.other (by omega) _).other (by omega) _) c, ?_, ?_⟩
  · exact (((Chg.refl W _).setCell ⟨N, 0, none⟩ a (fun _ => .inl rfl)).setCell ⟨N + 1, 0, none⟩ b (fun _ => .inr (.inl rfl))).setCell ⟨N + 1 + 1, 0, none⟩ c (fun _ => .inr (.inr rfl))
  · exact ((KeepsOthers.setCell _ _ _).trans (KeepsOthers.setCell _ _ _)).trans (KeepsOthers.setCell _ _ _)

theorem RulesAt.keep {W W' : World} {base b45 b87 : Nat} {v : Value} {l : List ARule} (h : RulesAt W base b45 b87 v l)
    (hk : ∀ (k : Nat) (c : Array Value) (t : TypeId), (t = 48 ∨ t = 45 ∨ t = 87) → W.heap[k]? = some (Obj.cells c t (0, 0)) → W'.heap[k]? = some (Obj.cells c t (0, 0))) : RulesAt W' base b45 b87 v l :=
  h.kept (fun g c _ hc => hk g c _ (.inl rfl) hc) (fun k c _ hc => hk k c _ (.inr (.inl rfl)) hc) (fun k c _ hc => hk k c _ (.inr (.inr rfl)) hc)

theorem fin_cells {W2 : World} {D N t0 t1 t2 : Nat} {x y z : Value} (h0 : Boxed W2 N t0 x) (h1 : Boxed W2 (N + 1) t1 y) (h2 : Boxed W2 (N + 2) t2 z) (hK : W2.heap[D]? = some (.deferred (some []))) :
    (W2.putObj D (.deferred none)).cell? ⟨N, 0, none⟩ = some x ∧ (W2.putObj D (.deferred none)).cell? ⟨N + 1, 0, none⟩ = some y ∧ (W2.putObj D (.deferred none)).cell? ⟨N + 1 + 1, 0, none⟩ = some z ∧
    ∀ (k : Nat) (c : Array Value) (t : TypeId) (fz : Nat × Nat), W2.heap[k]? = some (Obj.cells c t fz) → (W2.putObj D (.deferred none)).heap[k]? = some (Obj.cells c t fz) := by
  have hk := kept_of_grown (grownBy_putObj' W2 D (.deferred none)) (fun r e => by cases e; exact ⟨_, hK, rfl⟩)
  exact ⟨Boxed.cell (t := t0) (hk _ _ _ _ h0), Boxed.cell (t := t1) (hk _ _ _ _ h1), Boxed.cell (t := t2) (hk _ _ _ _ h2), hk⟩

theorem below_put {N : Nat} {w W : World} {D : Nat} {o : Obj} (h : Below N w W) (hN : N ≤ D) (hsz : N ≤ W.heap.size) : Below N w (W.putObj D o) :=
  h.grown (grownBy_putObj' W D o) hsz (fun k e => by cases e; exact hN)

/-- A block that the three result cells are not. -/
theorem not_three {W : World} {N t0 t1 t2 : Nat} {x y z : Value} (h0 : Boxed W N t0 x) (h1 : Boxed W (N + 1) t1 y) (h2 : Boxed W (N + 2) t2 z) {k : Nat} {c : Array Value} {t : TypeId} (hk : W.heap[k]? = some (Obj.cells c t (0, 0))) (a0 : t ≠ t0) (a1 : t ≠ t1) (a2 : t ≠ t2) : ¬ (k = N ∨ k = N + 1 ∨ k = N + 2) := by
  unfold Boxed at h0 h1 h2
  rintro (rfl | rfl | rfl)
  · rw [hk] at h0; cases h0; exact a0 rfl
  · rw [hk] at h1; cases h1; exact a1 rfl
  · rw [hk] at h2; cases h2; exact a2 rfl

def parseR (s : ByteArray) : Except (Int × Nat) (List ARule) :=
  match foldP pst0 (toks s.size s 0) with
  | (_, some ep) => .error ep
  | (st, none) => if st.st = 0 then .ok st.rules else .error (2, Lib.runeCount s)

def ParsePost (s : ByteArray) (w : World) (e : Ending) (w' : World) : Prop :=
  Below w.heap.size w w' ∧ match parseR s with
  | .error (c, p) => e = .returned (.tuple #[.slice none 0 0, .int .i64 c, .int .i64 p])
  | .ok rs => ∃ vr b45 b87, e = .returned (.tuple #[vr, .int .i64 0, .int .i64 0]) ∧ b45 ≤ w'.heap.size ∧ b87 ≤ w'.heap.size ∧ RulesAt w' w.heap.size b45 b87 vr rs ∧ rs.length ≤ 8 ∧ ∀ r ∈ rs, RuleOk r

set_option maxHeartbeats 2000000 in
theorem parse_short (s : ByteArray) (w : World) (hshort : Lib.runeCount s ≤ 300) (hT : Lib.Utf8Tabs 0 1 w) :
    Calls Tryd.prog 11 #[.string s] w (ParsePost s w) := by
  have hs : s.size ≤ 1200 := by have := size_le_runes s; omega
  have hl : decide ((300 : Int) < (Lib.runeCount s : Int)) = false := by simp; omega
  refine (callsIn_wide (n := 6)).1 ?_
  refine callsIn_of_wp_marks Tryd.func11 rfl trivial ?_ rfl
  simp only [Tryd.ntmps11, List.size_toArray, List.length_cons, List.length_nil, Nat.reduceAdd, Nat.reduceSub, Array.replicate_succ, Array.replicate_zero, List.push_toArray, List.append_toArray, List.nil_append, List.cons_append]
  gi_wp2_with (first | (refine ⟨trivial, ?_⟩; gi_at_call 15; refine (callsIn_wide.2 (runeCount_any _ _ (by omega))).mono ?_; rintro e w' ⟨rfl, pos, rfl⟩) | (refine ⟨trivial, ?_⟩; gi_at_call 16; refine (callsIn_wide.2 (all_any _ _)).mono ?_; rintro e w' ⟨rfl, rfl⟩))
  have hm1 : Lib.runeCount s ≤ s.size := Lib.runeCount_le s
  generalize hrc : Lib.runeCount s = rc at *
  have HRC : Hid (Lib.runeCount s = rc) := hrc
  clear hrc
  obtain ⟨N, hN⟩ : ∃ N, w.heap.size = N := ⟨_, rfl⟩
  obtain ⟨W0, hW0⟩ : ∃ W0, ((((((w.alloc (.cells #[.slice none 0 0] 33)).alloc (.cells #[.int .i64 0] 26)).alloc (.cells #[.int .i64 0] 3)).alloc (.stringIter s pos)).alloc (.cells #[.int .i64 0, .slice none 0 0, .slice none 0 0] 54)).alloc (.cells #[.string s] 9)) = W0 := ⟨_, rfl⟩
  have hsz : W0.heap.size = N + 6 := by rw [← hW0, ← hN]; simp
  have hB0 : Below N w W0 := by
    rw [← hW0, ← hN]
    exact ((((((Below.refl _ _).alloc (Nat.le_refl _) _).alloc (by simp) _).alloc (by simp; omega) _).alloc (by simp; omega) _).alloc (by simp; omega) _).alloc (by simp; omega) _
  have b0 : Boxed W0 N 33 (.slice none 0 0) := by
    rw [← hW0, ← hN]; exact (((((Boxed.new w _ _).alloc _).alloc _).alloc _).alloc _).alloc _
  have b1 : Boxed W0 (N + 1) 26 (.int .i64 0) := by
    have := ((((Boxed.new (w.alloc (.cells #[.slice none 0 0] 33)) 26 (.int .i64 0)).alloc (.cells #[.int .i64 0] 3)).alloc (.stringIter s pos)).alloc (.cells #[.int .i64 0, .slice none 0 0, .slice none 0 0] 54)).alloc (.cells #[.string s] 9)
    rw [World.size_alloc, hN, hW0] at this; exact this
  have b2 : Boxed W0 (N + 2) 3 (.int .i64 0) := by
    have := (((Boxed.new ((w.alloc (.cells #[.slice none 0 0] 33)).alloc (.cells #[.int .i64 0] 26)) 3 (.int .i64 0)).alloc (.stringIter s pos)).alloc (.cells #[.int .i64 0, .slice none 0 0, .slice none 0 0] 54)).alloc (.cells #[.string s] 9)
    rw [World.size_alloc, World.size_alloc, hN, hW0] at this; exact this
  have b5 : Boxed W0 (N + 5) 9 (.string s) := by
    have := Boxed.new (((((w.alloc (.cells #[.slice none 0 0] 33)).alloc (.cells #[.int .i64 0] 26)).alloc (.cells #[.int .i64 0] 3)).alloc (.stringIter s pos)).alloc (.cells #[.int .i64 0, .slice none 0 0, .slice none 0 0] 54)) 9 (.string s)
    simp only [World.size_alloc] at this
    rw [hN, hW0] at this; exact this
  have hp4 : W0.heap[N + 4]? = some (Obj.cells #[.int .i64 0, .slice none 0 0, .slice none 0 0] 54 (0, 0)) := by
    rw [← hW0, Below.heap_alloc _ _ _ (by simp; omega)]
    have := World.alloc_heap_new ((((w.alloc (.cells #[.slice none 0 0] 33)).alloc (.cells #[.int .i64 0] 26)).alloc (.cells #[.int .i64 0] 3)).alloc (.stringIter s pos)) (.cells #[.int .i64 0, .slice none 0 0, .slice none 0 0] 54)
    simp only [World.size_alloc] at this
    rw [hN] at this; exact this
  have hP0 : PAt N W0 (N + 4) pst0 := ⟨_, _, N, N, Nat.le_refl _, Nat.le_refl _, by omega, by omega, by omega, hp4, ⟨[], rfl, World.ownsRow_nil _ _ _ _, by simp⟩, [], rfl, World.ownsRow_nil _ _ _ _, by simp, by simp⟩
  simp only [hN]
  rw [hW0]
  clear hW0 hp4
  have hTB : Below w.heap.size w W0 := by rw [hN]; exact hB0
  refine wpIn_rangeFunc_ownH rfl (by decide) (gf := 25) (lb := #[.pointer (some ⟨N + 5, 0, none⟩)]) rfl trivial (enters_of Tryd.func25 (by kernel_rfl) rfl)
    (all_stops 5 (by decide) (N + 5) s hs w hT W0 hTB (by omega) b5.cell) RoundKept.tr (RoundKept.put (by omega)) (Below.refl _ _) (fun _ => rfl)
    (fun pre W => ∃ st, foldP pst0 pre = (st, none) ∧ PInv st ∧ PAt N W (N + 4) st ∧ Boxed W N 33 (.slice none 0 0) ∧ Boxed W (N + 1) 26 (.int .i64 0) ∧ Boxed W (N + 2) 3 (.int .i64 0) ∧ Below N w W)
    (fun c pre W => c = .ret ∧ ∃ (st : PSt) (pre' : List Tok) (x : Tok), pre = pre' ++ [x] ∧ foldP pst0 pre' = (st, none) ∧ (takeS st x.kind x.text x.runes x.ok).1 ≠ 0 ∧ Boxed W N 33 (.slice none 0 0) ∧ Boxed W (N + 1) 26 (.int .i64 (takeS st x.kind x.text x.runes x.ok).1) ∧ Boxed W (N + 2) 3 (.int .i64 x.place) ∧ Below N w W)
    ?hI ?hIx ?h0
    (fun x a' W => ∃ Bx, W.heap[Bx]? = some (Obj.cells (tokC x.kind x.text x.place x.runes) 60 (0, 0)) ∧ a' = { tmps := #[.string s, undef, .pointer (some ⟨N, 0, none⟩), .pointer (some ⟨N + 1, 0, none⟩), .pointer (some ⟨N + 1 + 1, 0, none⟩), .int .i64 rc, .pointer (some ⟨N + 1 + 1 + 1 + 1, 0, none⟩), .pointer (some ⟨Bx, 0, none⟩), undef, .string s, .int .i64 rc, .int .i64 rc, .bool false, .string s, .func (.func 25) #[] #[.pointer (some ⟨N + 1 + 1 + 1 + 1 + 1, 0, none⟩)], x.v, undef, undef, undef, undef, undef, undef, undef, undef, undef, undef, undef, undef, undef], defers := [] })
    ?hAx ?assign ?body ?done ?stop
  case hI =>
    rintro pre W W' row ⟨st, h1, h2, h3, h4, h5, h6, h7⟩ hg hr
    have hk := kept_of_grown hg (fun r e => (hr r e).2)
    exact ⟨st, h1, h2, h3.keptAll (fun k c t h => hk k c t _ h) hg.size, hk _ _ _ _ h4, hk _ _ _ _ h5, hk _ _ _ _ h6, h7.grown hg (below_size_le h7 hN) (fun k e => by have := (hr k e).1; omega)⟩
  case hIx =>
    rintro c pre W W' row ⟨rfl, st, pre', x, h1, h2, h3, h4, h5, h6, h7⟩ hg hr
    have hk := kept_of_grown hg (fun r e => (hr r e).2)
    exact ⟨rfl, st, pre', x, h1, h2, h3, hk _ _ _ _ h4, hk _ _ _ _ h5, hk _ _ _ _ h6, h7.grown hg (below_size_le h7 hN) (fun k e => by have := (hr k e).1; omega)⟩
  case h0 => exact ⟨pst0, rfl, ⟨by decide, by decide, by simp [pst0], fun _ => rfl, fun h => absurd rfl h, fun h => absurd rfl h, by simp [pst0]⟩, hP0, b0, b1, b2, hB0⟩
  case hAx =>
    rintro x a' _ W W' row ⟨Bx, h2, h3⟩ hg hr
    exact ⟨Bx, kept_of_grown hg (fun r e => (hr r e).2) _ _ _ _ h2, h3⟩
  case assign =>
    rintro l pre x W K ⟨st, h1, h2, h3, h4, h5, h6, h7⟩ hK
    have HK : Hid _ := hK
    clear hK
    unfold Tok.v tokV tokC
    gi_wp2
    have hbl : Below W.heap.size W (W.alloc (.cells #[.int .i64 x.kind, .string x.text, .int .i64 x.place, .int .i64 x.runes] 60)) := (Below.refl _ W).alloc (Nat.le_refl _) _
    refine HK.out _ _ ((KeepsOthers.alloc _ _).from _) ⟨by rw [hN]; exact hbl.mono (below_size_le h7 hN), fun k c fz hk => (Below.heap_alloc _ _ _ (Array.getElem?_eq_some_iff.1 hk).1).trans hk⟩ ⟨st, h1, h2, h3.below hbl, h4.alloc _, h5.alloc _, h6.alloc _, h7.alloc (below_size_le h7 hN) _⟩ ⟨W.heap.size, World.alloc_heap_new W _, rfl⟩
  case body =>
    rintro l pre x a' W hl ⟨r, hr⟩ ⟨st, h1, h2, h3, h4, h5, h6, h7⟩ ⟨Bx, hbx, rfl⟩ hlt
    have HT := take_S N (N + 4) st x.kind x.text x.ok x.place x.runes W h3 h2
    generalize hts : takeS st x.kind x.text x.runes x.ok = ts at HT
    obtain ⟨ec, st'⟩ := ts
    have k0 : W.cell? ⟨Bx, 0, none⟩ = some (.int .i64 x.kind) := by simp [World.cell?, hbx, tokC]
    have k1 : W.cell? ⟨Bx, 1, none⟩ = some (.string x.text) := by simp [World.cell?, hbx, tokC]
    have k2 : W.cell? ⟨Bx, 2, none⟩ = some (.int .i64 x.place) := by simp [World.cell?, hbx, tokC]
    have k3 : W.cell? ⟨Bx, 3, none⟩ = some (.int .i64 x.runes) := by simp [World.cell?, hbx, tokC]
    unfold tokV tokC at HT
    have HTS : Hid (takeS st x.kind x.text x.runes x.ok = (ec, st')) := hts
    have H1 : Hid (foldP pst0 pre = (st, none)) := h1
    clear hts h1
    gi_wp2_with fail
    refine ⟨trivial, ?_⟩
    refine (CallsIn.inRound l (callsIn_wide.2 HT)).mono ?_
    rintro e W1 ⟨rfl, hP1, hF1⟩
    have hnp : ∀ (B : Nat) (c : Array Value) (t : TypeId), t ≠ 54 → t ≠ 48 → t ≠ 45 → t ≠ 87 → W.heap[B]? = some (Obj.cells c t (0, 0)) → W1.heap[B]? = some (Obj.cells c t (0, 0)) := by
      intro B c t a1 a2 a3 a4 hB
      exact hF1.2 B _ hB (fun c' t' fz' e => by cases e; exact ⟨a1, a2, a3, a4⟩)
    have g4 : Boxed W1 N 33 (.slice none 0 0) := hnp _ _ _ (by decide) (by decide) (by decide) (by decide) h4
    have g5 : Boxed W1 (N + 1) 26 (.int .i64 0) := hnp _ _ _ (by decide) (by decide) (by decide) (by decide) h5
    have g6 : Boxed W1 (N + 2) 3 (.int .i64 0) := hnp _ _ _ (by decide) (by decide) (by decide) (by decide) h6
    have gx := hnp _ _ _ (by decide) (by decide) (by decide) (by decide) hbx
    have hKF : KeepsFrom W0.heap.size W W1 := ⟨hF1.1.size, fun k o _ hk ho => hF1.2 k o hk (fun c t fz e => by subst e; simp [Obj.isCells] at ho)⟩
    have hRK : RoundKept w.heap.size W W1 := ⟨by rw [hN]; exact hF1.1, fun k c fz hk => hF1.2 k _ hk (fun c' t' fz' e => by cases e; exact ⟨by decide, by decide, by decide, by decide⟩)⟩
    have hBN : Below N w W1 := h7.trans hF1.1
    by_cases hec : ec = 0
    · subst hec
      clear hF1 hnp HT
      gi_wp2
      refine ⟨hKF, hRK, st', ?_, ?_, hP1, g4, g5, g6, hBN⟩
      · rw [foldP_append _ _ _ _ H1.out]; simp [foldP, HTS.out]
      · have := takeS_inv st x.kind x.text x.runes x.ok h2 (by rw [HTS.out])
        rw [HTS.out] at this; exact this
    · have hec' : (ec == 0) = false := by simp [hec]
      have c4 := g4.cell
      have c5 := g5.cell
      have c6 := g6.cell
      have f4 := g4.frozen
      have f5 := g5.frozen
      have f6 := g6.frozen
      have cx : W1.cell? ⟨Bx, 2, none⟩ = some (.int .i64 x.place) := by simp [World.cell?, gx, tokC]
      have n0 : N ≠ Bx := by intro e; subst e; unfold Boxed at g4; rw [gx] at g4; simp at g4
      have n1 : N + 1 ≠ Bx := by intro e; subst e; unfold Boxed at g5; rw [gx] at g5; simp at g5
      have n2 : N + 2 ≠ Bx := by intro e; subst e; unfold Boxed at g6; rw [gx] at g6; simp at g6
      clear hF1 hnp HT k0 k1 k2 k3
      gi_wp2
      gi_region
      all_goals
        gi_wp2
        obtain ⟨t0, t1, t2, tc, tk⟩ := three_set g4 g5 g6 (.slice none 0 0) (.int .i64 ec) (.int .i64 x.place)
        refine ⟨⟨Nat.le_trans hKF.size tk.size, fun k o hk ho hc => tk.same k o (hKF.same k o hk ho hc) hc⟩, rfl, st, pre, x, rfl, H1.out, by rw [HTS.out]; exact hec, t0, by rw [HTS.out]; exact t1, t2, (hBN.trans (tc.below (below_size_le hBN hN) (fun k e => by omega))).drew⟩
  case done =>
    rintro D xs W hD rfl ⟨st, h1, h2, h3, h4, h5, h6, h7⟩ hK
    obtain ⟨vr, va, b45, b87, q1, q2, q3, q4, q5, hh, hR, hA⟩ := h3
    have c0 : W.cell? ⟨N + 4, 0, none⟩ = some (.int .i64 st.st) := by simp [World.cell?, hh]
    have c1 : W.cell? ⟨N + 4, 1, none⟩ = some vr := by simp [World.cell?, hh]
    have c4 := h4.cell
    have c5 := h5.cell
    have c6 := h6.cell
    have f4 := h4.frozen
    have f5 := h5.frozen
    have f6 := h6.frozen
    obtain ⟨ar, nr, cr, rfl⟩ : ∃ a n c, vr = .slice a n c := by obtain ⟨qs, r1, r2, r3⟩ := hR; obtain ⟨a, c, e⟩ := owns_form r2; exact ⟨a, _, c, e⟩
    have hnN : ∀ (j : Nat) (t : TypeId) (v : Value), Boxed W j t v → j ≠ D := by intro j t v hb e; subst e; unfold Boxed at hb; rw [hK] at hb; cases hb
    by_cases hst : st.st = 0
    · have hres : Hid (parseR s = .ok st.rules) := by show _ = _; unfold parseR; rw [h1]; simp [hst]
      rw [hst] at c0
      have H1 : Hid (foldP pst0 (toks s.size s 0) = (st, none)) := h1
      clear h1
      gi_wp2
      obtain ⟨t0, t1, t2, tc, tk⟩ := three_set h4 h5 h6 (.slice ar nr cr) (.int .i64 0) (.int .i64 0)
      refine ⟨by simp, .inl ⟨_, _, rfl, run_takeDeferred (tk.same D _ hK rfl), ?_⟩⟩
      obtain ⟨d0, d1, d2, dk⟩ := fin_cells t0 t1 t2 (tk.same D _ hK rfl)
      refine ⟨.tuple #[.slice ar nr cr, .int .i64 0, .int .i64 0], by simp [results, Tryd.results11, go_sem, d0, d1, d2], ?_⟩
      have hBf := below_put (D := D) (o := .deferred none) (h7.trans (tc.below (below_size_le h7 hN) (fun k e => by omega))) (by omega) (Nat.le_trans (below_size_le h7 hN) tc.size)
      refine ⟨by rw [hN]; exact hBf, ?_⟩
      rw [hres.out]
      refine ⟨.slice ar nr cr, b45, b87, rfl, ?_, ?_, ?_, h2.rules, h2.good⟩
      · exact Nat.le_trans q3 (Nat.le_trans tc.size (grownBy_putObj' _ D _).size)
      · exact Nat.le_trans q4 (Nat.le_trans tc.size (grownBy_putObj' _ D _).size)
      · rw [hN]
        refine hR.keep (fun k c t ht hc => dk k c t _ ?_)
        rw [tc.block k (Array.getElem?_eq_some_iff.1 hc).1 (not_three h4 h5 h6 hc (by rcases ht with rfl | rfl | rfl <;> decide) (by rcases ht with rfl | rfl | rfl <;> decide) (by rcases ht with rfl | rfl | rfl <;> decide))]
        exact hc
    · have hres : Hid (parseR s = .error (2, rc)) := by show _ = _; unfold parseR; rw [h1]; simp [hst, HRC.out]
      have hst' : (st.st == 0) = false := by simp [hst]
      have H1 : Hid (foldP pst0 (toks s.size s 0) = (st, none)) := h1
      clear h1
      gi_wp2
      obtain ⟨t0, t1, t2, tc, tk⟩ := three_set h4 h5 h6 (.slice none 0 0) (.int .i64 2) (.int .i64 rc)
      refine ⟨by simp, .inl ⟨_, _, rfl, run_takeDeferred (tk.same D _ hK rfl), ?_⟩⟩
      obtain ⟨d0, d1, d2, dk⟩ := fin_cells t0 t1 t2 (tk.same D _ hK rfl)
      refine ⟨.tuple #[.slice none 0 0, .int .i64 2, .int .i64 rc], by simp [results, Tryd.results11, go_sem, d0, d1, d2], ?_⟩
      have hBf := below_put (D := D) (o := .deferred none) (h7.trans (tc.below (below_size_le h7 hN) (fun k e => by omega))) (by omega) (Nat.le_trans (below_size_le h7 hN) tc.size)
      refine ⟨by rw [hN]; exact hBf, ?_⟩
      rw [hres.out]
  case stop =>
    rintro D c pre W hD hpre ⟨rfl, st, pre', x, rfl, h1, h2, h4, h5, h6, h7⟩ hK
    have hres : Hid (parseR s = .error ((takeS st x.kind x.text x.runes x.ok).1, x.place)) := by
      show _ = _
      obtain ⟨tl, htl⟩ := hpre
      unfold parseR
      rw [← htl, List.append_assoc, foldP_append _ _ _ _ h1]
      simp [foldP, h2]
    generalize (takeS st x.kind x.text x.runes x.ok).1 = ec at *
    gi_wp2
    refine ⟨by simp, .inl ⟨_, _, rfl, run_takeDeferred hK, ?_⟩⟩
    obtain ⟨d0, d1, d2, dk⟩ := fin_cells h4 h5 h6 hK
    refine ⟨.tuple #[.slice none 0 0, .int .i64 ec, .int .i64 x.place], by simp [results, Tryd.results11, go_sem, d0, d1, d2], ?_⟩
    refine ⟨by rw [hN]; exact below_put h7 (by omega) (below_size_le h7 hN), ?_⟩
    rw [hres.out]

end Go.Proofs.YtpfknibkdiebaaaDoor
