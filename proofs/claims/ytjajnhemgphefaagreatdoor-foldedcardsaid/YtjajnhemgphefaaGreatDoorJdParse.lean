/-
  rules.parse: the text is read token by token.
-/
import Derived.Test.YtjajnhemgphefaaGreatDoorJdTake2
namespace Go.Proofs.YtjajnhemgphefaaGreatDoor
open Go.RowKit Go.Shelf
set_option linter.unusedVariables false
set_option linter.unusedSimpArgs false
attribute [local go_sem] Oper.semAt_some

theorem decode_width_le (s : ByteArray) (i : Nat) : (Utf8.decode s i).2 ≤ 4 := by
  unfold Utf8.decode
  dsimp only
  repeat' split
  all_goals simp

theorem size_le_from (s : ByteArray) : ∀ f pos, s.size ≤ pos + f → s.size ≤ pos + 4 * Lib.runeCountFrom s f pos
  | 0, pos, h => by simp [Lib.runeCountFrom]; omega
  | f + 1, pos, h => by
    unfold Lib.runeCountFrom
    split
    · rename_i hp
      have h1 := Lib.decode_width_pos s pos hp
      have h2 := decode_width_le s pos
      have := size_le_from s f (pos + (Utf8.decode s pos).2) (by omega)
      omega
    · omega

theorem size_le_runes (s : ByteArray) : s.size ≤ 4 * Lib.runeCount s := by
  have := size_le_from s s.size 0 (by omega)
  unfold Lib.runeCount; omega

theorem runeCount_any (s : ByteArray) (w : World) (hs : s.size < 9223372036854775807) :
    Calls Tryz.prog 95 #[.string s] w fun e w' => e = .returned (.int .i64 (Lib.runeCount s)) ∧ ∃ pos, w' = w.alloc (.stringIter s pos) := Tryz.utf8_RuneCountInString s w hs

/-- What the parser's memory stands on are cells: whatever keeps these keeps it. -/
theorem PAt.keptAll {base bS : Nat} {W W' : World} {bp : Nat} {s : PSt} (h : PAt base bS W bp s) (hk : ∀ (k : Nat) (c : Array Value) (t : TypeId), W.heap[k]? = some (Obj.cells c t (0, 0)) → W'.heap[k]? = some (Obj.cells c t (0, 0))) (hsz : W.heap.size ≤ W'.heap.size) : PAt base bS W' bp s := by
  obtain ⟨vr, va, vv, b45, b87, h1, h2, h3, h4, h5, h6, h7, hh, hV, hR, ps, e1, e2, e3, e4⟩ := h
  exact ⟨vr, va, vv, b45, b87, h1, h2, Nat.le_trans h3 hsz, Nat.le_trans h4 hsz, h5, h6, Nat.le_trans h7 hsz, hk _ _ _ hh, owns_kept hV (fun g c _ hc => hk g c _ hc), hR.kept (fun g c _ hc => hk g c _ hc) (fun k c _ hc => hk k c _ hc) (fun k c _ hc => hk k c _ hc),
    ps, e1, owns_kept e2 (fun g c _ hc => hk g c _ hc), fun p hp => (e3 p hp).kept (fun k c _ hc => hk k c _ hc), fun p hp => owns_kept (e4 p hp) (fun g c _ hc => hk g c _ hc)⟩

theorem kept_of_grown {W W' : World} {row : Option Nat} (hg : W.grownBy W' row) (hr : ∀ r, row = some r → ∃ o : Obj, W.heap[r]? = some o ∧ o.isCells = false) :
    ∀ (k : Nat) (c : Array Value) (t : TypeId) (fz : Nat × Nat), W.heap[k]? = some (Obj.cells c t fz) → W'.heap[k]? = some (Obj.cells c t fz) := by
  intro k c t fz hk
  rw [hg.block k (Array.getElem?_eq_some_iff.1 hk).1 (fun e => ?_)]
  · exact hk
  · obtain ⟨o, ho, hc⟩ := hr k e.symm
    rw [hk] at ho; cases ho; simp [Obj.isCells] at hc

theorem below_size_le {N : Nat} {w W : World} (h : Below N w W) (hN : w.heap.size = N) : N ≤ W.heap.size := by have := h.size; omega

theorem boxed_set {W : World} {B : Nat} {t : TypeId} {v : Value} (h : Boxed W B t v) (u : Value) : Boxed (W.setCell ⟨B, 0, none⟩ u) B t u := heap_set h 0 u

/-- The two result cells, stored one after the other. -/
theorem two_set {W : World} {A t1 t2 : Nat} {y z : Value} (h1 : Boxed W A t1 y) (h2 : Boxed W (A + 1) t2 z) (b c : Value) :
    Boxed ((W.setCell ⟨A, 0, none⟩ b).setCell ⟨A + 1, 0, none⟩ c) A t1 b ∧ Boxed ((W.setCell ⟨A, 0, none⟩ b).setCell ⟨A + 1, 0, none⟩ c) (A + 1) t2 c ∧
    Chg W ((W.setCell ⟨A, 0, none⟩ b).setCell ⟨A + 1, 0, none⟩ c) (fun j => j = A ∨ j = A + 1) ∧ KeepsOthers W ((W.setCell ⟨A, 0, none⟩ b).setCell ⟨A + 1, 0, none⟩ c) := by
  refine ⟨(boxed_set h1 b).other (by omega) _, boxed_set (h2.other (by omega) _) c, ?_, ?_⟩
  · exact ((Chg.refl W _).setCell ⟨A, 0, none⟩ b (fun _ => .inl rfl)).setCell ⟨A + 1, 0, none⟩ c (fun _ => .inr rfl)
  · exact (KeepsOthers.setCell _ _ _).trans (KeepsOthers.setCell _ _ _)

theorem RulesAt.keep {W W' : World} {base b45 b87 : Nat} {v : Value} {l : List Rl} (h : RulesAt W base b45 b87 v l)
    (hk : ∀ (k : Nat) (c : Array Value) (t : TypeId), (t = 136 ∨ t = 92 ∨ t = 166) → W.heap[k]? = some (Obj.cells c t (0, 0)) → W'.heap[k]? = some (Obj.cells c t (0, 0))) : RulesAt W' base b45 b87 v l :=
  h.kept (fun g c _ hc => hk g c _ (.inl rfl) hc) (fun k c _ hc => hk k c _ (.inr (.inl rfl)) hc) (fun k c _ hc => hk k c _ (.inr (.inr rfl)) hc)

theorem fin_cells {W2 : World} {D A t1 t2 : Nat} {y z : Value} (h1 : Boxed W2 A t1 y) (h2 : Boxed W2 (A + 1) t2 z) (hK : W2.heap[D]? = some (.deferred (some []))) :
    (W2.putObj D (.deferred none)).cell? ⟨A, 0, none⟩ = some y ∧ (W2.putObj D (.deferred none)).cell? ⟨A + 1, 0, none⟩ = some z ∧
    ∀ (k : Nat) (c : Array Value) (t : TypeId) (fz : Nat × Nat), W2.heap[k]? = some (Obj.cells c t fz) → (W2.putObj D (.deferred none)).heap[k]? = some (Obj.cells c t fz) := by
  have hk := kept_of_grown (grownBy_putObj' W2 D (.deferred none)) (fun r e => by cases e; exact ⟨_, hK, rfl⟩)
  exact ⟨Boxed.cell (t := t1) (hk _ _ _ _ h1), Boxed.cell (t := t2) (hk _ _ _ _ h2), hk⟩

theorem below_put {N : Nat} {w W : World} {D : Nat} {o : Obj} (h : Below N w W) (hN : N ≤ D) (hsz : N ≤ W.heap.size) : Below N w (W.putObj D o) :=
  h.grown (grownBy_putObj' W D o) hsz (fun k e => by cases e; exact hN)

/-- A block that the two result cells are not. -/
theorem not_two {W : World} {A t1 t2 : Nat} {y z : Value} (h1 : Boxed W A t1 y) (h2 : Boxed W (A + 1) t2 z) {k : Nat} {c : Array Value} {t : TypeId} (hk : W.heap[k]? = some (Obj.cells c t (0, 0))) (a1 : t ≠ t1) (a2 : t ≠ t2) : ¬ (k = A ∨ k = A + 1) := by
  unfold Boxed at h1 h2
  rintro (rfl | rfl)
  · rw [hk] at h1; cases h1; exact a1 rfl
  · rw [hk] at h2; cases h2; exact a2 rfl

/-- What PAt says is of cells of five types; whatever keeps these keeps it. -/
theorem PAt.keptT {base bS : Nat} {W W' : World} {bp : Nat} {s : PSt} (h : PAt base bS W bp s) (hk : ∀ (k : Nat) (c : Array Value) (t : TypeId), t = 179 ∨ t = 136 ∨ t = 92 ∨ t = 166 ∨ t = 9 → W.heap[k]? = some (Obj.cells c t (0, 0)) → W'.heap[k]? = some (Obj.cells c t (0, 0))) (hsz : W.heap.size ≤ W'.heap.size) : PAt base bS W' bp s := by
  obtain ⟨vr, va, vv, b45, b87, h1, h2, h3, h4, h5, h6, h7, hh, hV, hR, ps, e1, e2, e3, e4⟩ := h
  exact ⟨vr, va, vv, b45, b87, h1, h2, Nat.le_trans h3 hsz, Nat.le_trans h4 hsz, h5, h6, Nat.le_trans h7 hsz, hk _ _ _ (by simp) hh, owns_kept hV (fun g c _ hc => hk g c _ (by simp) hc), hR.kept (fun g c _ hc => hk g c _ (by simp) hc) (fun k c _ hc => hk k c _ (by simp) hc) (fun k c _ hc => hk k c _ (by simp) hc),
    ps, e1, owns_kept e2 (fun g c _ hc => hk g c _ (by simp) hc), fun p hp => (e3 p hp).kept (fun k c _ hc => hk k c _ (by simp) hc), fun p hp => owns_kept (e4 p hp) (fun g c _ hc => hk g c _ (by simp) hc)⟩

/-- What takeAll answers. -/
def TakePost (s : ByteArray) (base bp : Nat) (w : World) (e : Ending) (w' : World) : Prop :=
  Below base w w' ∧ match foldP pst0 (toks s.size s 0) with
  | (_, some (c, p)) => e = .returned (.tuple #[.int .i64 c, .int .i64 p])
  | (st, none) => e = .returned (.tuple #[.int .i64 0, .int .i64 0]) ∧ PInv st ∧ ∃ bS, PAt base bS w' bp st

set_option maxHeartbeats 1000000 in
theorem takeAll_long (s : ByteArray) (bp : Nat) (w : World) (hs : s.size ≤ 4611686018427387904) (hlong : 300 < Lib.runeCount s) :
    Calls Tryz.prog 90 #[.pointer (some ⟨bp, 0, none⟩), .string s] w fun e w' => e = .returned (.tuple #[.int .i64 1, .int .i64 0]) ∧ Below w.heap.size w w' := by
  have hl : (300 : Int) < (Lib.runeCount s : Int) := by omega
  refine (callsIn_wide (n := 6)).1 ?_
  refine callsIn_of_wp_marks Tryz.func90 rfl trivial ?_ rfl
  simp only [Tryz.ntmps90, List.size_toArray, List.length_cons, List.length_nil, Nat.reduceAdd, Nat.reduceSub, Array.replicate_succ, Array.replicate_zero, List.push_toArray, List.append_toArray, List.nil_append, List.cons_append]
  gi_wp2_with (refine ⟨trivial, ?_⟩; gi_at_call 95; refine (callsIn_wide.2 (runeCount_any _ _ (by omega))).mono ?_; rintro e w' ⟨rfl, pos, rfl⟩)
  refine ⟨.tuple #[.int .i64 1, .int .i64 0], by simp [results, Tryz.results90, go_sem], rfl, ?_⟩
  exact (((((Below.refl _ _).alloc (Nat.le_refl _) _).alloc (by simp) _).alloc (by simp; omega) _).alloc (by simp; omega) _)

set_option maxHeartbeats 2000000 in
theorem takeAll_short (s : ByteArray) (w00 : World) (base bp : Nat) (w : World) (hshort : Lib.runeCount s ≤ 300) (hT : Lib.Utf8Tabs 0 1 w00) (hw00 : w00.heap.size = base) (hB00 : Below base w00 w) (hbw : base ≤ bp) (hh0 : w.heap[bp]? = some (Obj.cells #[.int .i64 0, .slice none 0 0, .slice none 0 0, .slice none 0 0] 179 (0, 0))) :
    Calls Tryz.prog 90 #[.pointer (some ⟨bp, 0, none⟩), .string s] w (TakePost s base bp w) := by
  have hs : s.size ≤ 1200 := by have := size_le_runes s; omega
  have hl : decide ((300 : Int) < (Lib.runeCount s : Int)) = false := by simp; omega
  have hbpw : bp < w.heap.size := (Array.getElem?_eq_some_iff.1 hh0).1
  have hbase : base ≤ w.heap.size := by omega
  refine (callsIn_wide (n := 6)).1 ?_
  refine callsIn_of_wp_marks Tryz.func90 rfl trivial ?_ rfl
  simp only [Tryz.ntmps90, List.size_toArray, List.length_cons, List.length_nil, Nat.reduceAdd, Nat.reduceSub, Array.replicate_succ, Array.replicate_zero, List.push_toArray, List.append_toArray, List.nil_append, List.cons_append]
  gi_wp2_with (first | (refine ⟨trivial, ?_⟩; gi_at_call 95; refine (callsIn_wide.2 (runeCount_any _ _ (by omega))).mono ?_; rintro e w' ⟨rfl, pos, rfl⟩) | (refine ⟨trivial, ?_⟩; gi_at_call 96; refine (callsIn_wide.2 (all_any _ _)).mono ?_; rintro e w' ⟨rfl, rfl⟩))
  have hm1 : Lib.runeCount s ≤ s.size := Lib.runeCount_le s
  generalize hrc : Lib.runeCount s = rc at *
  have HRC : Hid (Lib.runeCount s = rc) := hrc
  clear hrc
  obtain ⟨N, hN⟩ : ∃ N, w.heap.size = N := ⟨_, rfl⟩
  obtain ⟨W0, hW0⟩ : ∃ W0, (((((w.alloc (.cells #[.pointer (some ⟨bp, 0, none⟩)] 268)).alloc (.cells #[.int .i64 0] 23)).alloc (.cells #[.int .i64 0] 3)).alloc (.stringIter s pos)).alloc (.cells #[.string s] 9)) = W0 := ⟨_, rfl⟩
  have hsz : W0.heap.size = N + 5 := by rw [← hW0, ← hN]; simp
  have hBw : Below w.heap.size w W0 := by
    rw [← hW0]
    exact (((((Below.refl _ _).alloc (Nat.le_refl _) _).alloc (by simp) _).alloc (by simp; omega) _).alloc (by simp; omega) _).alloc (by simp; omega) _
  have hB0 : Below base w W0 := hBw.mono hbase
  have b0 : Boxed W0 N 268 (.pointer (some ⟨bp, 0, none⟩)) := by
    rw [← hW0, ← hN]; exact ((((Boxed.new w _ _).alloc _).alloc _).alloc _).alloc _
  have b1 : Boxed W0 (N + 1) 23 (.int .i64 0) := by
    have := (((Boxed.new (w.alloc (.cells #[.pointer (some ⟨bp, 0, none⟩)] 268)) 23 (.int .i64 0)).alloc (.cells #[.int .i64 0] 3)).alloc (.stringIter s pos)).alloc (.cells #[.string s] 9)
    rw [World.size_alloc, hN, hW0] at this; exact this
  have b2 : Boxed W0 (N + 1 + 1) 3 (.int .i64 0) := by
    have := ((Boxed.new ((w.alloc (.cells #[.pointer (some ⟨bp, 0, none⟩)] 268)).alloc (.cells #[.int .i64 0] 23)) 3 (.int .i64 0)).alloc (.stringIter s pos)).alloc (.cells #[.string s] 9)
    rw [World.size_alloc, World.size_alloc, hN, hW0] at this; exact this
  have b5 : Boxed W0 (N + 4) 9 (.string s) := by
    have := Boxed.new ((((w.alloc (.cells #[.pointer (some ⟨bp, 0, none⟩)] 268)).alloc (.cells #[.int .i64 0] 23)).alloc (.cells #[.int .i64 0] 3)).alloc (.stringIter s pos)) 9 (.string s)
    simp only [World.size_alloc] at this
    rw [hN, hW0] at this; exact this
  have hP0 : PAt base (N + 5) W0 bp pst0 := ⟨_, _, _, base, base, Nat.le_refl _, Nat.le_refl _, by omega, by omega, hbw, by omega, by omega, (hBw.block bp hbpw).trans hh0, World.ownsRow_nil _ _ _ _, ⟨[], rfl, World.ownsRow_nil _ _ _ _, by simp⟩, [], rfl, World.ownsRow_nil _ _ _ _, by simp, by simp⟩
  simp only [hN]
  rw [hW0]
  clear hW0 hh0
  have hTB : Below w00.heap.size w00 W0 := by rw [hw00]; exact hB00.trans hB0
  refine wpIn_rangeFunc_ownH rfl (by decide) (gf := 158) (lb := #[.pointer (some ⟨N + 4, 0, none⟩)]) rfl trivial (enters_of Tryz.func158 (by kernel_rfl) rfl)
    (all_stops 5 (by decide) (N + 4) s hs w00 hT W0 hTB (by omega) b5.cell) RoundKept.tr (RoundKept.put (by omega)) (Below.refl _ _) (fun _ => rfl)
    (fun pre W => ∃ st, foldP pst0 pre = (st, none) ∧ PInv st ∧ PAt base (N + 5) W bp st ∧ Boxed W N 268 (.pointer (some ⟨bp, 0, none⟩)) ∧ Boxed W (N + 1) 23 (.int .i64 0) ∧ Boxed W (N + 1 + 1) 3 (.int .i64 0) ∧ Below base w W ∧ N ≤ W.heap.size)
    (fun c pre W => c = .ret ∧ ∃ (st : PSt) (pre' : List Tok) (x : Tok), pre = pre' ++ [x] ∧ foldP pst0 pre' = (st, none) ∧ (takeS st x.kind x.text x.runes).1 ≠ 0 ∧ Boxed W (N + 1) 23 (.int .i64 (takeS st x.kind x.text x.runes).1) ∧ Boxed W (N + 1 + 1) 3 (.int .i64 x.place) ∧ Below base w W ∧ N ≤ W.heap.size)
    ?hI ?hIx ?h0
    (fun x a' W => ∃ Bx, W.heap[Bx]? = some (Obj.cells (tokC x.kind x.text x.place x.runes) 191 (0, 0)) ∧ a' = { tmps := #[.pointer (some ⟨bp, 0, none⟩), .string s, .pointer (some ⟨N, 0, none⟩), undef, .pointer (some ⟨N + 1, 0, none⟩), .pointer (some ⟨N + 1 + 1, 0, none⟩), .pointer (some ⟨Bx, 0, none⟩), undef, .string s, .int .i64 rc, .bool false, .string s, .func (.func 158) #[] #[.pointer (some ⟨N + 1 + 1 + 1 + 1, 0, none⟩)], x.v, undef, undef, undef, undef, undef, undef, undef, undef], defers := [] })
    ?hAx ?assign ?body ?done ?stop
  case hI =>
    rintro pre W W' row ⟨st, h1, h2, h3, h4, h5, h6, h7, h8⟩ hg hr
    have hk := kept_of_grown hg (fun r e => (hr r e).2)
    exact ⟨st, h1, h2, h3.keptAll (fun k c t h => hk k c t _ h) hg.size, hk _ _ _ _ h4, hk _ _ _ _ h5, hk _ _ _ _ h6, h7.grown hg (by omega) (fun k e => by have := (hr k e).1; omega), Nat.le_trans h8 hg.size⟩
  case hIx =>
    rintro c pre W W' row ⟨rfl, st, pre', x, h1, h2, h3, h5, h6, h7, h8⟩ hg hr
    have hk := kept_of_grown hg (fun r e => (hr r e).2)
    exact ⟨rfl, st, pre', x, h1, h2, h3, hk _ _ _ _ h5, hk _ _ _ _ h6, h7.grown hg (by omega) (fun k e => by have := (hr k e).1; omega), Nat.le_trans h8 hg.size⟩
  case h0 => exact ⟨pst0, rfl, ⟨by decide, by decide, by simp [pst0], fun _ => rfl, fun h => absurd rfl h, fun h => absurd rfl h, by simp [pst0], by simp [pst0]⟩, hP0, b0, b1, b2, hB0, by omega⟩
  case hAx =>
    rintro x a' _ W W' row ⟨Bx, h2, h3⟩ hg hr
    exact ⟨Bx, kept_of_grown hg (fun r e => (hr r e).2) _ _ _ _ h2, h3⟩
  case assign =>
    rintro l pre x W K ⟨st, h1, h2, h3, h4, h5, h6, h7, h8⟩ hK
    have HK : Hid _ := hK
    clear hK
    unfold Tok.v tokV tokC
    gi_wp2
    have hbl : Below W.heap.size W (W.alloc (.cells #[.int .i64 x.kind, .string x.text, .int .i64 x.place, .int .i64 x.runes] 191)) := (Below.refl _ W).alloc (Nat.le_refl _) _
    refine HK.out _ _ ((KeepsOthers.alloc _ _).from _) ⟨hbl.mono (by omega), fun k c fz hk => (Below.heap_alloc _ _ _ (Array.getElem?_eq_some_iff.1 hk).1).trans hk⟩ ⟨st, h1, h2, h3.below hbl, h4.alloc _, h5.alloc _, h6.alloc _, h7.alloc (by omega) _, by simp; omega⟩ ⟨W.heap.size, World.alloc_heap_new W _, rfl⟩
  case body =>
    rintro l pre x a' W hl ⟨r, hr⟩ ⟨st, h1, h2, h3, h4, h5, h6, h7, h8⟩ ⟨Bx, hbx, rfl⟩ hlt
    have HT := take_S base (N + 5) bp st x.kind x.text x.ok x.place x.runes W h3 h2
    generalize hts : takeS st x.kind x.text x.runes = ts at HT
    obtain ⟨ec, st'⟩ := ts
    have kp := h4.cell
    have k0 : W.cell? ⟨Bx, 0, none⟩ = some (.int .i64 x.kind) := by simp [World.cell?, hbx, tokC]
    have k1 : W.cell? ⟨Bx, 1, none⟩ = some (.string x.text) := by simp [World.cell?, hbx, tokC]
    have k2 : W.cell? ⟨Bx, 2, none⟩ = some (.int .i64 x.place) := by simp [World.cell?, hbx, tokC]
    have k3 : W.cell? ⟨Bx, 3, none⟩ = some (.int .i64 x.runes) := by simp [World.cell?, hbx, tokC]
    unfold tokV tokC at HT
    have HTS : Hid (takeS st x.kind x.text x.runes = (ec, st')) := hts
    have H1 : Hid (foldP pst0 pre = (st, none)) := h1
    clear hts h1
    gi_wp2_with fail
    refine ⟨trivial, ?_⟩
    refine (CallsIn.inRound l (callsIn_wide.2 HT)).mono ?_
    rintro e W1 ⟨rfl, hP1, hF1⟩
    have hnp : ∀ (B : Nat) (c : Array Value) (t : TypeId), t ≠ 179 → t ≠ 136 → t ≠ 92 → t ≠ 166 → t ≠ 9 → W.heap[B]? = some (Obj.cells c t (0, 0)) → W1.heap[B]? = some (Obj.cells c t (0, 0)) := by
      intro B c t a1 a2 a3 a4 a5 hB
      exact hF1.same B _ hB (fun c' t' fz' e => by cases e; exact ⟨a1, a2, a3, a4, a5⟩)
    have g4 : Boxed W1 N 268 (.pointer (some ⟨bp, 0, none⟩)) := hnp _ _ _ (by decide) (by decide) (by decide) (by decide) (by decide) h4
    have g5 : Boxed W1 (N + 1) 23 (.int .i64 0) := hnp _ _ _ (by decide) (by decide) (by decide) (by decide) (by decide) h5
    have g6 : Boxed W1 (N + 1 + 1) 3 (.int .i64 0) := hnp _ _ _ (by decide) (by decide) (by decide) (by decide) (by decide) h6
    have gx := hnp _ _ _ (by decide) (by decide) (by decide) (by decide) (by decide) hbx
    have hKF : KeepsFrom W0.heap.size W W1 := ⟨hF1.low.size, fun k o _ hk ho => hF1.same k o hk (fun c t fz e => by subst e; simp [Obj.isCells] at ho)⟩
    have hRK : RoundKept w00.heap.size W W1 := ⟨by rw [hw00]; exact hF1.low, fun k c fz hk => hF1.same k _ hk (fun c' t' fz' e => by cases e; exact ⟨by decide, by decide, by decide, by decide, by decide⟩)⟩
    have hBN : Below base w W1 := h7.trans hF1.low
    have hN1 : N ≤ W1.heap.size := Nat.le_trans h8 hF1.low.size
    by_cases hec : ec = 0
    · subst hec
      clear hF1 hnp HT
      gi_wp2
      refine ⟨hKF, hRK, st', ?_, ?_, hP1, g4, g5, g6, hBN, hN1⟩
      · rw [foldP_append _ _ _ _ H1.out]; simp [foldP, HTS.out]
      · have := takeS_inv st x.kind x.text x.runes x.ok h2 (by rw [HTS.out])
        rw [HTS.out] at this; exact this
    · have hec' : (ec == 0) = false := by simp [hec]
      have c5 := g5.cell
      have c6 := g6.cell
      have f5 := g5.frozen
      have f6 := g6.frozen
      have cx : W1.cell? ⟨Bx, 2, none⟩ = some (.int .i64 x.place) := by simp [World.cell?, gx, tokC]
      have n1 : N + 1 ≠ Bx := by intro e; subst e; unfold Boxed at g5; rw [gx] at g5; simp at g5
      have n2 : N + 1 + 1 ≠ Bx := by intro e; subst e; unfold Boxed at g6; rw [gx] at g6; simp at g6
      clear hF1 hnp HT k0 k1 k2 k3 kp
      gi_wp2
      gi_region
      all_goals
        gi_wp2
        obtain ⟨t1, t2, tc, tk⟩ := two_set g5 g6 (.int .i64 ec) (.int .i64 x.place)
        refine ⟨⟨Nat.le_trans hKF.size tk.size, fun k o hk ho hc => tk.same k o (hKF.same k o hk ho hc) hc⟩, rfl, st, pre, x, rfl, H1.out, by rw [HTS.out]; exact hec, by rw [HTS.out]; exact t1, t2, (hBN.trans (tc.below (by omega) (fun k e => by omega))).drew, ?_⟩
        exact Nat.le_trans hN1 tc.size
  case done =>
    rintro D xs W hD rfl ⟨st, h1, h2, h3, h4, h5, h6, h7, h8⟩ hK
    have c5 := h5.cell
    have c6 := h6.cell
    have f5 := h5.frozen
    have f6 := h6.frozen
    have H1 : Hid (foldP pst0 (toks s.size s 0) = (st, none)) := h1
    clear h1
    gi_wp2
    obtain ⟨t1, t2, tc, tk⟩ := two_set h5 h6 (.int .i64 0) (.int .i64 0)
    refine ⟨by simp, .inl ⟨_, _, rfl, run_takeDeferred (tk.same D _ hK rfl), ?_⟩⟩
    obtain ⟨d1, d2, dk⟩ := fin_cells t1 t2 (tk.same D _ hK rfl)
    refine ⟨.tuple #[.int .i64 0, .int .i64 0], by simp [results, Tryz.results90, go_sem, d1, d2], ?_⟩
    have hBf := below_put (D := D) (o := .deferred none) (h7.trans (tc.below (by omega) (fun k e => by omega))) (by omega) (Nat.le_trans (by omega) tc.size)
    refine ⟨hBf, ?_⟩
    rw [H1.out]
    refine ⟨rfl, h2, N + 5, h3.keptT (fun k c t ht hc => dk k c t _ ?_) (Nat.le_trans tc.size (grownBy_putObj' _ D _).size)⟩
    rw [tc.block k (Array.getElem?_eq_some_iff.1 hc).1 (not_two h5 h6 hc (by rcases ht with rfl | rfl | rfl | rfl | rfl <;> decide) (by rcases ht with rfl | rfl | rfl | rfl | rfl <;> decide))]
    exact hc
  case stop =>
    rintro D c pre W hD hpre ⟨rfl, st, pre', x, rfl, h1, h2, h5, h6, h7, h8⟩ hK
    have hres : Hid (foldP pst0 (toks s.size s 0) = (st, some ((takeS st x.kind x.text x.runes).1, x.place))) := by
      show _ = _
      obtain ⟨tl, htl⟩ := hpre
      rw [← htl, List.append_assoc, foldP_append _ _ _ _ h1]
      simp [foldP, h2]
    generalize (takeS st x.kind x.text x.runes).1 = ec at *
    gi_wp2
    refine ⟨by simp, .inl ⟨_, _, rfl, run_takeDeferred hK, ?_⟩⟩
    obtain ⟨d1, d2, dk⟩ := fin_cells h5 h6 hK
    refine ⟨.tuple #[.int .i64 ec, .int .i64 x.place], by simp [results, Tryz.results90, go_sem, d1, d2], ?_⟩
    refine ⟨below_put h7 (by omega) (by omega), ?_⟩
    rw [hres.out]

end Go.Proofs.YtjajnhemgphefaaGreatDoor
