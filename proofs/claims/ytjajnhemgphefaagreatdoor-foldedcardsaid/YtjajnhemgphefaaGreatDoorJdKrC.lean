/-
  The statement Folded in memory: an engine, two who follow it, and what was seen.
  The statement Folded, call by call.
-/
import Derived.Test.YtjajnhemgphefaaGreatDoorJdKqT
import Derived.Test.YtjajnhemgphefaaGreatDoorJdTerm
namespace Go.Proofs.YtjajnhemgphefaaGreatDoor
open Go.RowKit Go.Shelf Go.Maps
set_option linter.unusedVariables false
set_option linter.unusedSimpArgs false

def snC (d : Int × Value) : List Value := [.int .i64 d.1, d.2]
/-- What was seen: a row of the caller's, and the rows of texts. -/
def SeenO (w : World) (bs : List Nat) (vs : Value) (S : List (Int × List ByteArray)) (W : World) : Prop :=
  ∃ vals : List (Int × Value), vals.length = S.length ∧ W.ownsRow w.heap.size 64 2 vs S.length (vals.flatMap snC) ∧ (∀ g, vs.ownBlock = some g → g ∈ bs) ∧ ∀ k (h : k < S.length) (h' : k < vals.length), (vals[k]).1 = (S[k]).1 ∧ W.ownsRow 0 9 1 (vals[k]).2 (S[k]).2.length ((S[k]).2.map Value.string) ∧ ∀ g, (vals[k]).2.ownBlock = some g → g ∈ bs
section
variable {w W W' : World} {bs bs' : List Nat} {vs : Value} {S : List (Int × List ByteArray)}
theorem SeenO.kept (h : SeenO w bs vs S W) (hk : Kept bs W W') : SeenO w bs vs S W' := by
  obtain ⟨vals, h1, h2, h3, h4⟩ := h
  refine ⟨vals, h1, own_keep h2 (fun g hg _ => hk g (h3 g hg)), h3, fun k a b => ?_⟩
  obtain ⟨g1, g2, g3⟩ := h4 k a b
  exact ⟨g1, own_keep g2 (fun g hg _ => hk g (g3 g hg)), g3⟩
theorem SeenO.more (h : SeenO w bs vs S W) (hs : ∀ b ∈ bs, b ∈ bs') : SeenO w bs' vs S W := by
  obtain ⟨vals, h1, h2, h3, h4⟩ := h
  exact ⟨vals, h1, h2, fun g hg => hs g (h3 g hg), fun k a b => ⟨(h4 k a b).1, (h4 k a b).2.1, fun g hg => hs g ((h4 k a b).2.2 g hg)⟩⟩
theorem flat_at : ∀ (l : List (Int × Value)) i (hi : i < l.length) k (hk : k < 2), (l.flatMap snC)[i * 2 + k]? = (snC l[i])[k]?
  | [], i, hi, _, _ => by simp at hi
  | y :: l, i, hi, k, hk => by
    rw [List.flatMap_cons]
    cases i with
    | zero => rw [List.getElem?_append_left (by show _ < 2; omega)]; simp
    | succ i =>
      rw [List.getElem?_append_right (by show 2 ≤ _; omega)]
      have : (i + 1) * 2 + k - (snC y).length = i * 2 + k := by show (i + 1) * 2 + k - 2 = _; omega
      rw [this, flat_at l i (by simpa using hi) k hk]
      simp
theorem SeenO.rd (h : SeenO w bs vs S W) : SeenT W vs S := by
  obtain ⟨vals, h1, h2, h3, h4⟩ := h
  refine ⟨vals, ?_, h1, fun k a b => ⟨(h4 k a b).1, .own (h4 k a b).2.1⟩⟩
  obtain ⟨_, ⟨hv, hz⟩ | ⟨g, c, cur, hv, _, hw, _, _, _, htk⟩⟩ := h2
  · exact ⟨none, 0, by rw [hv, h1, hz], fun k hk => by omega⟩
  · refine ⟨_, _, by rw [hv, h1], fun k hk => ⟨g, rfl, (Array.getElem?_eq_some_iff.1 hw).1, ?_, ?_, ?_⟩⟩
    · have e1 := flat_at vals k hk 0 (by decide)
      rw [← htk, List.getElem?_take, if_pos (by omega)] at e1
      simp only [World.cell?, hw]
      simpa [snC] using e1
    · have e1 := flat_at vals k hk 1 (by decide)
      rw [← htk, List.getElem?_take, if_pos (by omega)] at e1
      simp only [World.cell?, hw]
      simpa [snC] using e1
    · obtain ⟨a, c, e1⟩ := owns_form (h4 k (by omega) hk).2.1
      exact ⟨a, _, c, e1⟩
theorem SeenO.k (h : SeenO w bs vs S W) : SeenK bs W vs S := fun W' hk => (h.kept hk).rd
end
/-- The blocks of one who follows: none of these. -/
def FoB (w : World) (bs : List Nat) (B : Nat) (v : Value) : Prop := (w.heap.size ≤ B ∧ B ∉ bs) ∧ ∀ g, v.ownBlock = some g → w.heap.size ≤ g ∧ g ∉ bs
def FoM (w : World) (be B1 B2 : Nat) (bs : List Nat) (vs : Value) (S : List (Int × List ByteArray)) (f1 f2 : Fo) (e : Eg) (W : World) : Prop :=
  ∃ v1 v2, KSt w be (B1 :: (v1.ownBlock.toList ++ (B2 :: (v2.ownBlock.toList ++ bs)))) e W ∧ FoAt W B1 f1 v1 ∧ FoAt W B2 f2 v2 ∧ FoB w (B2 :: (v2.ownBlock.toList ++ bs)) B1 v1 ∧ FoB w bs B2 v2 ∧ SeenO w bs vs S W
section
variable {w W W' : World} {be B1 B2 : Nat} {bs bs' : List Nat} {vs : Value} {S : List (Int × List ByteArray)} {f1 f2 : Fo} {e e' : Eg}
theorem FoM.of {v1 v2 : Value} (h2 : FoAt W B1 f1 v1) (h3 : FoAt W B2 f2 v2) (h4 : FoB w (B2 :: (v2.ownBlock.toList ++ bs)) B1 v1) (h5 : FoB w bs B2 v2) (h6 : SeenO w bs vs S W) (k1 : KSt w be (B1 :: (v1.ownBlock.toList ++ (B2 :: (v2.ownBlock.toList ++ bs)))) e' W') (k2 : Kept (B1 :: (v1.ownBlock.toList ++ (B2 :: (v2.ownBlock.toList ++ bs)))) W W') : FoM w be B1 B2 bs vs S f1 f2 e' W' :=
  ⟨v1, v2, k1, fo_kept h2 k2, fo_kept h3 (k2.fewer (fun b hb => List.mem_cons_of_mem _ (List.mem_append_right _ hb))), h4, h5, h6.kept (k2.fewer (fun b hb => List.mem_cons_of_mem _ (List.mem_append_right _ (List.mem_cons_of_mem _ (List.mem_append_right _ hb)))))⟩
theorem FoM.same (h : FoM w be B1 B2 bs vs S f1 f2 e W) (hb : Below W.heap.size W W') : FoM w be B1 B2 bs vs S f1 f2 e W' := by
  obtain ⟨v1, v2, h1, h2, h3, h4, h5, h6⟩ := h
  obtain ⟨k1, k2⟩ := h1.same hb
  exact .of h2 h3 h4 h5 h6 k1 k2
theorem FoM.swap (h : FoM w be B1 B2 bs vs S f1 f2 e W) : FoM w be B2 B1 bs vs S f2 f1 e W := by
  obtain ⟨v1, v2, h1, h2, h3, ⟨⟨a1, a2⟩, a3⟩, ⟨⟨b1, b2⟩, b3⟩, h6⟩ := h
  refine ⟨v2, v1, h1.fewer (fun b hb => ?_), h3, h2, ⟨⟨b1, fun hm => ?_⟩, fun g hg => ⟨(b3 g hg).1, fun hm => ?_⟩⟩, ⟨⟨a1, fun hm => a2 (List.mem_cons_of_mem _ (List.mem_append_right _ hm))⟩, fun g hg => ⟨(a3 g hg).1, fun hm => (a3 g hg).2 (List.mem_cons_of_mem _ (List.mem_append_right _ hm))⟩⟩, h6⟩
  · simp only [List.mem_cons, List.mem_append] at hb ⊢
    rcases hb with rfl | hb | rfl | hb | hb
    · exact .inr (.inr (.inl rfl))
    · exact .inr (.inr (.inr (.inl hb)))
    · exact .inl rfl
    · exact .inr (.inl hb)
    · exact .inr (.inr (.inr (.inr hb)))
  · simp only [List.mem_cons, List.mem_append, Option.mem_toList] at hm
    rcases hm with rfl | hm | hm
    · exact a2 List.mem_cons_self
    · exact (a3 _ hm).2 List.mem_cons_self
    · exact b2 hm
  · simp only [List.mem_cons, List.mem_append, Option.mem_toList] at hm
    have hg' : g ∈ v2.ownBlock.toList := by rw [hg]; simp
    rcases hm with rfl | hm | hm
    · exact a2 (List.mem_cons_of_mem _ (List.mem_append_left _ hg'))
    · exact (a3 _ hm).2 (List.mem_cons_of_mem _ (List.mem_append_left _ hg'))
    · exact (b3 g hg).2 hm
/-- The first of the two draws. -/
theorem FoM.draw {k most : Nat} {F : Fs} {va : Option Addr} {vn vc : Nat} (h : FoM w be B1 B2 bs (.slice va vn vc) S f1 f2 e W) (hc : DrC k S e) (hF : e.fds[k]? = some F) (hfl : Flw f1 F e.M e.mark S) (hm : most ≤ 1000000) :
    Calls Tryz.prog 27 #[.pointer (some ⟨be, 0, none⟩), .int .i64 (k : Int), .pointer (some ⟨B1, 0, none⟩), .slice va vn vc, .int .i64 (most : Int)] W fun en W' => ∃ b f F', en = .returned (.tuple #[.bool true, .bool b]) ∧ Flw f F' e.M e.mark S ∧ FoM w be B1 B2 bs (.slice va vn vc) S f f2 { e with fds := e.fds.set k F' } W' ∧ (b = true → f.any = true ∧ Like f.L (HoldM e.M)) ∧ (leftF F < most → b = true) := by
  obtain ⟨v1, v2, h1, h2, h3, h4, h5, h6⟩ := h
  have hsk : SeenK (B2 :: (v2.ownBlock.toList ++ bs)) W (.slice va vn vc) S := fun W' hk => h6.k W' (hk.fewer (fun b hb => List.mem_cons_of_mem _ (List.mem_append_right _ hb)))
  refine (drawn_any (B := B1) (bs := B2 :: (v2.ownBlock.toList ++ bs)) most hc ⟨v1, h1, h2, h4.1, h4.2⟩ hF hfl hsk hm).mono ?_
  rintro en W' ⟨b, k1, ⟨f, F', ⟨v, d1, d2, d3, d4⟩, g2, g3, g4⟩, k3⟩
  exact ⟨b, f, F', k1, g2, ⟨v, v2, d1, d2, fo_kept h3 g3, ⟨d3, d4⟩, h5, h6.kept (g3.fewer (fun b hb => List.mem_cons_of_mem _ (List.mem_append_right _ hb)))⟩, g4, k3⟩
theorem FoM.like {va : Value} {l : List ByteArray} (h : FoM w be B1 B2 bs vs S f1 f2 e W) (hv : StrRd W va l) (hl : l.length ≤ 100000) (hf : f1.L.length ≤ 100000) :
    Calls Tryz.prog 28 #[.pointer (some ⟨B1, 0, none⟩), va] W fun en W' => en = .returned (.bool (likeR f1.L l)) ∧ Below W.heap.size W W' := by
  obtain ⟨v1, v2, h1, h2, h3, h4, h5, h6⟩ := h
  exact like_any B1 f1 v1 va l W h2 hv hl hf
theorem tx_str (gs : List Gd) : (textsOf gs).map strV = (txL gs).map Value.string := by
  unfold textsOf txL
  rw [List.map_map]; rfl
theorem tx_len (gs : List Gd) : (txL gs).length = gs.length := by rw [(tx_perm gs).length_eq, List.length_map]
/-- What holds is asked for: the row of the answer is the caller's. -/
theorem FoM.ask (h : FoM w be B1 B2 bs vs S f1 f2 e W) (hT : Lib.Utf8Tabs 0 1 w) (hrs : e.rs = rsP) (hon : OnPts e.M) :
    Calls Tryz.prog 25 #[.pointer (some ⟨be, 0, none⟩), .string txtXY] W fun en W' => ∃ (oa : Option Addr) (n oc : Nat) (l : List ByteArray), en = .returned (.tuple #[.slice oa n oc, .int .i64 0]) ∧ Like l (HoldM e.M) ∧ W'.ownsRow 0 9 1 (.slice oa n oc) l.length (l.map Value.string) ∧ FoM w be B1 B2 ((Value.slice oa n oc).ownBlock.toList ++ bs) vs S f1 f2 e W' := by
  obtain ⟨v1, v2, h1, h2, h3, h4, h5, h6⟩ := h
  refine (kask2 h1 hT txtXY (by decide) aPX atom_xy (by intro t ht; simp only [aPX, List.mem_cons, List.not_mem_nil, or_false] at ht; rcases ht with rfl | rfl <;> decide) (by
    unfold ckR
    show (if arR e.rs bPa = 0 then (7 : Int) else if arR e.rs bPa = 2 then 0 else 4) = 0
    rw [hrs, p_arP]; rfl)).mono ?_
  rintro en W' ⟨oa, oc, gs, k1, k2, k3, k4, k5⟩
  rw [tx_str] at k3
  have hnew : ∀ g ∈ (Value.slice oa gs.length oc).ownBlock.toList, W.heap.size ≤ g := fun g hg => by
    have hg' : (Value.slice oa gs.length oc).ownBlock = some g := by simpa using hg
    exact (owns_block k3 hg').1
  have hold : ∀ b ∈ (B1 :: (v1.ownBlock.toList ++ (B2 :: (v2.ownBlock.toList ++ bs)))), b ∉ (Value.slice oa gs.length oc).ownBlock.toList := fun b hb hm => by
    have := hnew b hm
    have := h1.lt b hb
    omega
  have hm1 : B1 ∈ (B1 :: (v1.ownBlock.toList ++ (B2 :: (v2.ownBlock.toList ++ bs)))) := List.mem_cons_self
  have hm2 : B2 ∈ (B1 :: (v1.ownBlock.toList ++ (B2 :: (v2.ownBlock.toList ++ bs)))) := List.mem_cons_of_mem _ (List.mem_append_right _ List.mem_cons_self)
  have hm3 : ∀ g, v1.ownBlock = some g → g ∈ (B1 :: (v1.ownBlock.toList ++ (B2 :: (v2.ownBlock.toList ++ bs)))) := fun g hg => List.mem_cons_of_mem _ (List.mem_append_left _ (by rw [hg]; simp))
  have hm4 : ∀ g, v2.ownBlock = some g → g ∈ (B1 :: (v1.ownBlock.toList ++ (B2 :: (v2.ownBlock.toList ++ bs)))) := fun g hg => List.mem_cons_of_mem _ (List.mem_append_right _ (List.mem_cons_of_mem _ (List.mem_append_left _ (by rw [hg]; simp))))
  have hne : ∀ (o : List Nat) b, b ∉ B2 :: (o ++ bs) → b ∉ (Value.slice oa gs.length oc).ownBlock.toList → b ∉ B2 :: (o ++ ((Value.slice oa gs.length oc).ownBlock.toList ++ bs)) := fun o b x1 x2 hm => by
    simp only [List.mem_cons, List.mem_append] at x1 hm
    rcases hm with hm | hm | hm | hm
    · exact x1 (.inl hm)
    · exact x1 (.inr (.inl hm))
    · exact x2 hm
    · exact x1 (.inr (.inr hm))
  have hne' : ∀ b, b ∉ bs → b ∉ (Value.slice oa gs.length oc).ownBlock.toList → b ∉ (Value.slice oa gs.length oc).ownBlock.toList ++ bs := fun b x1 x2 hm => by
    rcases List.mem_append.1 hm with hm | hm
    · exact x2 hm
    · exact x1 hm
  refine ⟨oa, gs.length, oc, txL gs, k1, tx_hold k2 hon, owns_rebase (by rw [tx_len]; exact k3) (fun _ _ => Nat.zero_le _), v1, v2, k4.fewer (fun b hb => ?_), fo_kept h2 k5, fo_kept h3 (k5.fewer (fun b hb => List.mem_cons_of_mem _ (List.mem_append_right _ hb))), ⟨⟨h4.1.1, hne _ _ h4.1.2 (hold _ hm1)⟩, fun g hg => ⟨(h4.2 g hg).1, hne _ _ (h4.2 g hg).2 (hold _ (hm3 g hg))⟩⟩, ⟨⟨h5.1.1, hne' _ h5.1.2 (hold _ hm2)⟩, fun g hg => ⟨(h5.2 g hg).1, hne' _ (h5.2 g hg).2 (hold _ (hm4 g hg))⟩⟩, (h6.kept (k5.fewer (fun b hb => List.mem_cons_of_mem _ (List.mem_append_right _ (List.mem_cons_of_mem _ (List.mem_append_right _ hb)))))).more (fun b hb => List.mem_append_right _ hb)⟩
  simp only [List.mem_cons, List.mem_append] at hb ⊢
  rcases hb with hb | hb | hb | hb | hb | hb
  · exact .inr (.inl hb)
  · exact .inr (.inr (.inl hb))
  · exact .inr (.inr (.inr (.inl hb)))
  · exact .inr (.inr (.inr (.inr (.inl hb))))
  · exact .inl hb
  · exact .inr (.inr (.inr (.inr (.inr hb))))
/-- What was seen is put into the row. -/
theorem FoM.put {va vl : Value} {n : Nat} {m : Int} {l : List ByteArray} (h : FoM w be B1 B2 bs vs S f1 f2 e W) (hr : W.ownsRow 0 9 1 vl l.length (l.map Value.string)) (hb : ∀ g, vl.ownBlock = some g → g ∈ bs) :
    ∃ xs : List Value, W.ownsRow w.heap.size 64 2 vs S.length xs ∧ w.heap.size ≤ W.heap.size ∧ ∀ (O : Obj) (w1 : World) (v' : Value), w1.ownsRow w.heap.size 64 2 v' (S.length + 1) (xs ++ [.int .i64 m, vl]) → (W.alloc O).grownBy w1 vs.ownBlock → (v'.ownBlock = vs.ownBlock ∨ v'.ownBlock = some (W.alloc O).heap.size) → ∃ bs', FoM w be B1 B2 bs' v' (S ++ [(m, l)]) f1 f2 e w1 := by
  obtain ⟨v1, v2, h1, h2, h3, h4, h5, vals, s1, s2, s3, s4⟩ := h
  refine ⟨vals.flatMap snC, s2, h1.below.size, fun O w1 v' ho hg hat => ?_⟩
  have hch : Chg W w1 (fun k => vs.ownBlock = some k) := ((Chg.refl W _).alloc O).grown hg (fun k hk _ => hk)
  have hlt := h1.lt
  have hbs : ∀ b ∈ bs, b ∈ (B1 :: (v1.ownBlock.toList ++ (B2 :: (v2.ownBlock.toList ++ bs)))) := fun b hb => List.mem_cons_of_mem _ (List.mem_append_right _ (List.mem_cons_of_mem _ (List.mem_append_right _ hb)))
  have hty : ∀ {b : Nat} {c : Array Value} {t : TypeId} {z : Nat × Nat}, W.heap[b]? = some (Obj.cells c t (0, 0)) → t ≠ 64 → vs.ownBlock ≠ some b := fun hb' ht hs => by
    obtain ⟨_, c', hc'⟩ := owns_block s2 hs
    rw [hb'] at hc'
    simp only [Option.some.injEq, Obj.cells.injEq] at hc'
    exact ht hc'.2.1
  have hold : ∀ b, b ∈ v'.ownBlock.toList → b ∈ bs ∨ W.heap.size ≤ b := fun b hb' => by
    have hv : v'.ownBlock = some b := by simpa using hb'
    rcases hat with e1 | e1
    · exact .inl (s3 b (e1.symm.trans hv))
    · right
      rw [e1] at hv
      have := Option.some.inj hv
      simp at this
      omega
  have hrow : ∀ {v : Value} {L : List ByteArray}, W.ownsRow 0 9 1 v L.length (L.map Value.string) → w1.ownsRow 0 9 1 v L.length (L.map Value.string) := fun ho' => own_keep ho' (fun g hg' hl => by
    obtain ⟨_, c, hc⟩ := owns_block ho' hg'
    exact hch.block g hl (hty (z := (0, 0)) hc (by decide)))
  have hfo : ∀ {B : Nat} {f : Fo} {v : Value}, FoAt W B f v → FoAt w1 B f v := fun hf =>
    ⟨(hch.block _ (Array.getElem?_eq_some_iff.1 hf.1).1 (hty (z := (0, 0)) hf.1 (by decide))).trans hf.1, hrow hf.2⟩
  have hne : ∀ b, b < W.heap.size → b ∉ bs → b ∉ v'.ownBlock.toList := fun b hl hn hm => by
    rcases hold b hm with h | h
    · exact hn h
    · omega
  have hsub : ∀ b ∈ bs, b ∈ v'.ownBlock.toList ++ bs := fun b hb => List.mem_append_right _ hb
  have hn1 : ∀ b, b < W.heap.size → b ∉ bs → b ∉ v'.ownBlock.toList ++ bs := fun b hl hn hm => (List.mem_append.1 hm).elim (hne b hl hn) hn
  have hn2 : ∀ (o : List Nat) b, b < W.heap.size → b ∉ B2 :: (o ++ bs) → b ∉ B2 :: (o ++ (v'.ownBlock.toList ++ bs)) := fun o b hl hn hm => by
    simp only [List.mem_cons, List.mem_append] at hn hm
    rcases hm with hm | hm | hm | hm
    · exact hn (.inl hm)
    · exact hn (.inr (.inl hm))
    · exact hne b hl (fun hh => hn (.inr (.inr hh))) hm
    · exact hn (.inr (.inr hm))
  have hl1 : B1 < W.heap.size := hlt B1 List.mem_cons_self
  have hl2 : B2 < W.heap.size := hlt B2 (List.mem_cons_of_mem _ (List.mem_append_right _ List.mem_cons_self))
  have hl3 : ∀ g, v1.ownBlock = some g → g < W.heap.size := fun g hg => hlt g (List.mem_cons_of_mem _ (List.mem_append_left _ (by rw [hg]; simp)))
  have hl4 : ∀ g, v2.ownBlock = some g → g < W.heap.size := fun g hg => hlt g (List.mem_cons_of_mem _ (List.mem_append_right _ (List.mem_cons_of_mem _ (List.mem_append_left _ (by rw [hg]; simp)))))
  refine ⟨v'.ownBlock.toList ++ bs, v1, v2, h1.put hch (fun k hk he => ?_) (fun b hb' => ?_), hfo h2, hfo h3, ⟨⟨h4.1.1, hn2 _ _ hl1 h4.1.2⟩, fun g hg => ⟨(h4.2 g hg).1, hn2 _ _ (hl3 g hg) (h4.2 g hg).2⟩⟩, ⟨⟨h5.1.1, hn1 _ hl2 h5.1.2⟩, fun g hg => ⟨(h5.2 g hg).1, hn1 _ (hl4 g hg) (h5.2 g hg).2⟩⟩, vals ++ [(m, vl)], by simp [s1], ?_, fun g hg => List.mem_append_left _ (by rw [hg]; simp), fun k a b => ?_⟩
  · obtain ⟨g1, c, hc⟩ := owns_block s2 he
    exact ⟨hbs k (s3 k he), g1, _, _, hc, by decide⟩
  · have hall : b ∈ v'.ownBlock.toList ∨ b ∈ (B1 :: (v1.ownBlock.toList ++ (B2 :: (v2.ownBlock.toList ++ bs)))) := by
      simp only [List.mem_cons, List.mem_append] at hb' ⊢
      rcases hb' with hb | hb | hb | hb | hb | hb
      · exact .inr (.inl hb)
      · exact .inr (.inr (.inl hb))
      · exact .inr (.inr (.inr (.inl hb)))
      · exact .inr (.inr (.inr (.inr (.inl hb))))
      · exact .inl hb
      · exact .inr (.inr (.inr (.inr (.inr hb))))
    rcases hall with hb | hb
    · have hv : v'.ownBlock = some b := by simpa using hb
      obtain ⟨_, c, hc⟩ := owns_block ho hv
      exact ⟨(hold b hb).imp (hbs b) id, (Array.getElem?_eq_some_iff.1 hc).1⟩
    · exact ⟨.inl hb, Nat.lt_of_lt_of_le (hlt b hb) hch.size⟩
  · have hl : (S ++ [(m, l)]).length = S.length + 1 := by simp
    rw [hl, List.flatMap_append]
    simpa [snC] using ho
  · by_cases hk : k < S.length
    · have hk' : k < vals.length := by omega
      obtain ⟨g1, g2, g3⟩ := s4 k hk hk'
      rw [List.getElem_append_left hk, List.getElem_append_left hk']
      exact ⟨g1, hrow g2, fun g hg => hsub g (g3 g hg)⟩
    · have hk0 : k = S.length := by simp at a; omega
      subst hk0
      have e1 : (S ++ [(m, l)])[S.length] = (m, l) := by simp
      have e2 : (vals ++ [(m, vl)])[S.length] = (m, vl) := by simp [← s1]
      rw [e1, e2]
      exact ⟨rfl, hrow hr, fun g hg => hsub g (hb g hg)⟩
theorem FoM.any (h : FoM w be B1 B2 bs vs S f1 f2 e W) : W.cell? ⟨B1, 2, none⟩ = some (.bool f1.any) := by
  obtain ⟨v1, v2, h1, h2, h3, h4, h5, h6⟩ := h
  simp [World.cell?, h2.1]
theorem FoM.below (h : FoM w be B1 B2 bs vs S f1 f2 e W) : Below w.heap.size w W ∧ EgOk e ∧ ∃ a c, vs = .slice a S.length c := by
  obtain ⟨v1, v2, h1, h2, h3, h4, h5, _, _, s2, _⟩ := h
  exact ⟨h1.below, h1.ok, owns_form s2⟩
/-- Two who follow begin. -/
theorem fom_new (h : KSt w be [] e W) : FoM w be W.heap.size (W.heap.size + 1) [] (.slice none 0 0) [] f0 f0 e ((W.alloc (.cells #[.slice none 0 0, .int .i64 0, .bool false] 61)).alloc (.cells #[.slice none 0 0, .int .i64 0, .bool false] 61)) := by
  obtain ⟨a1, a2⟩ := h.alloc (.cells #[.slice none 0 0, .int .i64 0, .bool false] 61)
  obtain ⟨b1, b2⟩ := a1.alloc (.cells #[.slice none 0 0, .int .i64 0, .bool false] 61)
  have hs := h.below.size
  rw [World.size_alloc] at b1
  refine ⟨.slice none 0 0, .slice none 0 0, b1.fewer (fun b hb => ?_), ⟨(b2 _ List.mem_cons_self).trans (World.alloc_heap_new W _), ⟨rfl, .inl ⟨rfl, rfl⟩⟩⟩, ⟨?_, ⟨rfl, .inl ⟨rfl, rfl⟩⟩⟩, ⟨⟨hs, fun hm => ?_⟩, fun g hg => (by cases hg)⟩, ⟨⟨by omega, fun hm => (by cases hm)⟩, fun g hg => (by cases hg)⟩, [], rfl, ⟨rfl, .inl ⟨rfl, rfl⟩⟩, fun g hg => (by cases hg), fun k a b => absurd a (Nat.not_lt_zero _)⟩
  · simp only [Value.ownBlock, Option.map_none, Option.toList_none, List.nil_append, List.mem_cons, List.not_mem_nil, or_false] at hb ⊢
    rcases hb with rfl | rfl
    · exact .inr rfl
    · exact .inl rfl
  · have := World.alloc_heap_new (W.alloc (.cells #[.slice none 0 0, .int .i64 0, .bool false] 61)) (.cells #[.slice none 0 0, .int .i64 0, .bool false] 61)
    rw [World.size_alloc] at this
    exact this
  · simp only [Value.ownBlock, Option.map_none, Option.toList_none, List.nil_append, List.mem_cons, List.not_mem_nil, or_false] at hm
    omega
end

end Go.Proofs.YtjajnhemgphefaaGreatDoor

namespace Go.Proofs.YtjajnhemgphefaaGreatDoor
open Go.RowKit Go.Shelf Go.Maps
set_option linter.unusedVariables false
set_option linter.unusedSimpArgs false

/-- One who has just what holds. -/
def Done (f : Fo) (e : Eg) : Prop := f.any = true ∧ Like f.L (HoldM e.M)
/-- The engine of Folded, the two who follow it, and what was seen. -/
def FoX (w : World) (be B1 B2 : Nat) (vs : Value) (m : Int) (d1 d2 : Bool) (W : World) : Prop :=
  ∃ e f1 f2 S bs, FoE f1 f2 S e ∧ e.mark = m ∧ FoM w be B1 B2 bs vs S f1 f2 e W ∧ (d1 = true → Done f1 e) ∧ (d2 = true → Done f2 e)
/-- .. what holds being still to be seen. -/
def FoT (w : World) (be B1 B2 : Nat) (vs : Value) (m : Int) (W : World) : Prop :=
  ∃ e f1 f2 S bs, e.mark = m ∧ e.rs = rsP ∧ OnPts e.M ∧ (∀ l, Like l (HoldM e.M) → FoE f1 f2 (S ++ [(m, l)]) e) ∧ FoM w be B1 B2 bs vs S f1 f2 e W
/-- .. what holds being still to be put into the row. -/
def FoP (w : World) (be B1 B2 : Nat) (vs : Value) (m : Int) (vl : Value) (W : World) : Prop :=
  ∃ e f1 f2 S bs l, e.mark = m ∧ FoE f1 f2 (S ++ [(m, l)]) e ∧ FoM w be B1 B2 bs vs S f1 f2 e W ∧ W.ownsRow 0 9 1 vl l.length (l.map Value.string) ∧ ∀ g, vl.ownBlock = some g → g ∈ bs
/-- At the end. -/
def FoL (w : World) (be B1 B2 : Nat) (vl : Value) (W : World) : Prop :=
  ∃ e f1 f2 S bs vs l, FoM w be B1 B2 bs vs S f1 f2 e W ∧ Done f1 e ∧ Done f2 e ∧ Like l (HoldM e.M) ∧ StrRd W vl l
section
variable {w W W' : World} {be B1 B2 : Nat} {vs vl : Value} {m : Int} {d1 d2 : Bool}
theorem FoX.same (h : FoX w be B1 B2 vs m d1 d2 W) (hb : Below W.heap.size W W') : FoX w be B1 B2 vs m d1 d2 W' := by
  obtain ⟨e, f1, f2, S, bs, h1, h2, h3, h4, h5⟩ := h
  exact ⟨e, f1, f2, S, bs, h1, h2, h3.same hb, h4, h5⟩
theorem FoT.same (h : FoT w be B1 B2 vs m W) (hb : Below W.heap.size W W') : FoT w be B1 B2 vs m W' := by
  obtain ⟨e, f1, f2, S, bs, h1, h2, h3, h4, h5⟩ := h
  exact ⟨e, f1, f2, S, bs, h1, h2, h3, h4, h5.same hb⟩
theorem FoP.same (h : FoP w be B1 B2 vs m vl W) (hb : Below W.heap.size W W') : FoP w be B1 B2 vs m vl W' := by
  obtain ⟨e, f1, f2, S, bs, l, h1, h2, h3, h4, h5⟩ := h
  exact ⟨e, f1, f2, S, bs, l, h1, h2, h3.same hb, own_below h4 hb, h5⟩
theorem FoL.same (h : FoL w be B1 B2 vl W) (hb : Below W.heap.size W W') : FoL w be B1 B2 vl W' := by
  obtain ⟨e, f1, f2, S, bs, vs, l, h1, h2, h3, h4, h5⟩ := h
  exact ⟨e, f1, f2, S, bs, vs, l, h1.same hb, h2, h3, h4, h5.below hb⟩
theorem FoX.below (h : FoX w be B1 B2 vs m d1 d2 W) : Below w.heap.size w W ∧ 0 ≤ m := by
  obtain ⟨e, f1, f2, S, bs, h1, h2, h3, h4, h5⟩ := h
  obtain ⟨k1, k2, _⟩ := h3.below
  exact ⟨k1, by rw [← h2]; exact k2.mark.1⟩
theorem FoX.fewer (h : FoX w be B1 B2 vs m d1 d2 W) : FoX w be B1 B2 vs m false false W := by
  obtain ⟨e, f1, f2, S, bs, h1, h2, h3, h4, h5⟩ := h
  exact ⟨e, f1, f2, S, bs, h1, h2, h3, fun h => (by cases h), fun h => (by cases h)⟩
/-- .. with a block of the caller's beside it. -/
def FoK (w : World) (be B1 B2 : Nat) (vs : Value) (m : Int) (k : Nat) (W : World) : Prop :=
  ∃ e f1 f2 S bs, FoE f1 f2 S e ∧ e.mark = m ∧ FoM w be B1 B2 bs vs S f1 f2 e W ∧ k ∈ bs
theorem FoM.alloc {bs : List Nat} {S : List (Int × List ByteArray)} {f1 f2 : Fo} {e : Eg} (h : FoM w be B1 B2 bs vs S f1 f2 e W) (O : Obj) : FoM w be B1 B2 (W.heap.size :: bs) vs S f1 f2 e (W.alloc O) := by
  obtain ⟨v1, v2, h1, h2, h3, ⟨⟨a1, a2⟩, a3⟩, ⟨⟨b1, b2⟩, b3⟩, h6⟩ := h
  obtain ⟨k1, k2⟩ := h1.alloc O
  have hlt := h1.lt
  have hl1 : B1 < W.heap.size := hlt B1 List.mem_cons_self
  have hl2 : B2 < W.heap.size := hlt B2 (List.mem_cons_of_mem _ (List.mem_append_right _ List.mem_cons_self))
  have hl3 : ∀ g, v1.ownBlock = some g → g < W.heap.size := fun g hg => hlt g (List.mem_cons_of_mem _ (List.mem_append_left _ (by rw [hg]; simp)))
  have hl4 : ∀ g, v2.ownBlock = some g → g < W.heap.size := fun g hg => hlt g (List.mem_cons_of_mem _ (List.mem_append_right _ (List.mem_cons_of_mem _ (List.mem_append_left _ (by rw [hg]; simp)))))
  have hn1 : ∀ b, b < W.heap.size → b ∉ bs → b ∉ W.heap.size :: bs := fun b hl hn hm => by
    rcases List.mem_cons.1 hm with hm | hm
    · omega
    · exact hn hm
  have hn2 : ∀ (o : List Nat) b, b < W.heap.size → b ∉ B2 :: (o ++ bs) → b ∉ B2 :: (o ++ W.heap.size :: bs) := fun o b hl hn hm => by
    simp only [List.mem_cons, List.mem_append] at hn hm
    rcases hm with hm | hm | hm | hm
    · exact hn (.inl hm)
    · exact hn (.inr (.inl hm))
    · omega
    · exact hn (.inr (.inr hm))
  refine ⟨v1, v2, k1.fewer (fun b hb => ?_), fo_kept h2 k2, fo_kept h3 (k2.fewer (fun b hb => List.mem_cons_of_mem _ (List.mem_append_right _ hb))), ⟨⟨a1, hn2 _ _ hl1 a2⟩, fun g hg => ⟨(a3 g hg).1, hn2 _ _ (hl3 g hg) (a3 g hg).2⟩⟩, ⟨⟨b1, hn1 _ hl2 b2⟩, fun g hg => ⟨(b3 g hg).1, hn1 _ (hl4 g hg) (b3 g hg).2⟩⟩, (h6.kept (k2.fewer (fun b hb => List.mem_cons_of_mem _ (List.mem_append_right _ (List.mem_cons_of_mem _ (List.mem_append_right _ hb)))))).more (fun b hb => List.mem_cons_of_mem _ hb)⟩
  simp only [List.mem_cons, List.mem_append] at hb ⊢
  rcases hb with hb | hb | hb | hb | hb | hb
  · exact .inr (.inl hb)
  · exact .inr (.inr (.inl hb))
  · exact .inr (.inr (.inr (.inl hb)))
  · exact .inr (.inr (.inr (.inr (.inl hb))))
  · exact .inl hb
  · exact .inr (.inr (.inr (.inr (.inr hb))))
theorem FoX.alloc (h : FoX w be B1 B2 vs m d1 d2 W) (O : Obj) : FoK w be B1 B2 vs m W.heap.size (W.alloc O) := by
  obtain ⟨e, f1, f2, S, bs, h1, h2, h3, h4, h5⟩ := h
  exact ⟨e, f1, f2, S, _, h1, h2, h3.alloc O, List.mem_cons_self⟩
theorem FoK.same {k : Nat} (h : FoK w be B1 B2 vs m k W) (hb : Below W.heap.size W W') : FoK w be B1 B2 vs m k W' := by
  obtain ⟨e, f1, f2, S, bs, h1, h2, h3, h4⟩ := h
  exact ⟨e, f1, f2, S, bs, h1, h2, h3.same hb, h4⟩
theorem FoK.x {k : Nat} (h : FoK w be B1 B2 vs m k W) : FoX w be B1 B2 vs m false false W := by
  obtain ⟨e, f1, f2, S, bs, h1, h2, h3, h4⟩ := h
  exact ⟨e, f1, f2, S, bs, h1, h2, h3, fun h => (by cases h), fun h => (by cases h)⟩
theorem fo_insertK {k : Nat} (h : FoK w be B1 B2 vs m k W) (hT : Lib.Utf8Tabs 0 1 w) {a b : Nat} (ha : a < 6) (hb : b < 6) {t : Int} (ht : 0 ≤ t ∧ t ≤ 1000000) :
    Calls Tryz.prog 20 #[.pointer (some ⟨be, 0, none⟩), .string (ofB bEd a b), .int .i64 t] W fun en W' => ∃ r : Int, en = .returned (.int .i64 r) ∧ W'.heap[k]? = W.heap[k]? ∧ Hid (FoX w be B1 B2 vs m false false W') := by
  obtain ⟨e, f1, f2, S, bs, h1, h2, ⟨v1, v2, g1, g2, g3, g4, g5, g6⟩, h4⟩ := h
  refine (kinsert g1 hT (ofB bEd a b) t (by show (4 + 5 : Nat) ≤ _; decide) (fun c hc => by rw [atom_e ha hb] at hc; cases hc; exact ⟨am_ok _ (by decide) _ _, am_nums _ _ _⟩)).mono ?_
  rintro en W' ⟨k1, k2, k3⟩
  obtain ⟨q1, q2⟩ := fo_ins h1 ha hb ht
  exact ⟨_, k1, k3 k (List.mem_cons_of_mem _ (List.mem_append_right _ (List.mem_cons_of_mem _ (List.mem_append_right _ h4)))), _, f1, f2, S, bs, q1, q2.trans h2, .of g2 g3 g4 g5 g6 k2 k3, fun h => (by cases h), fun h => (by cases h)⟩
theorem fo_tk (h : FoX w be B1 B2 vs m d1 d2 W) {c : Int} (hc : 0 ≤ c ∧ c ≤ 1000000) :
    Calls Tryz.prog 22 #[.pointer (some ⟨be, 0, none⟩), .int .i64 c] W fun en W' => ∃ r : Int, en = .returned (.tuple #[.int .i64 r, .int .i64 0]) ∧ Hid ((r = m → FoX w be B1 B2 vs m false false W') ∧ (r ≠ m → FoT w be B1 B2 vs r W')) := by
  obtain ⟨e, f1, f2, S, bs, h1, h2, ⟨v1, v2, g1, g2, g3, g4, g5, g6⟩, h4, h5⟩ := h
  refine (ktick g1 c).mono ?_
  rintro en W' ⟨e', r, k1, k2, k3, k4⟩
  obtain ⟨q1, q2, q3⟩ := fo_tick h1 g1.ok k3.ok hc k1
  rw [q1, q2] at k2
  refine ⟨e'.mark, k2, fun hr => ?_, fun hr => ?_⟩
  · rcases q3 with ⟨_, rfl⟩ | ⟨q4, _⟩
    · exact ⟨e', f1, f2, S, bs, h1, h2, .of g2 g3 g4 g5 g6 k3 k4, fun h => (by cases h), fun h => (by cases h)⟩
    · exfalso; omega
  · rcases q3 with ⟨q4, _⟩ | ⟨q4, q5, q6, q7⟩
    · exfalso; omega
    · exact ⟨e', f1, f2, S, bs, rfl, q5, q6, q7, .of g2 g3 g4 g5 g6 k3 k4⟩
theorem fo_askT (h : FoT w be B1 B2 vs m W) (hT : Lib.Utf8Tabs 0 1 w) :
    Calls Tryz.prog 25 #[.pointer (some ⟨be, 0, none⟩), .string txtXY] W fun en W' => ∃ (oa : Option Addr) (n oc : Nat), en = .returned (.tuple #[.slice oa n oc, .int .i64 0]) ∧ Hid (FoP w be B1 B2 vs m (.slice oa n oc) W') := by
  obtain ⟨e, f1, f2, S, bs, h1, h2, h3, h4, h5⟩ := h
  refine (h5.ask hT h2 h3).mono ?_
  rintro en W' ⟨oa, n, oc, l, k1, k2, k3, k4⟩
  exact ⟨oa, n, oc, k1, e, f1, f2, S, _, l, h1, h4 l k2, k4, k3, fun g hg => List.mem_append_left _ (by rw [hg]; simp)⟩
theorem fo_row {ka : Option Addr} {n kc : Nat} (h : FoP w be B1 B2 (.slice ka n kc) m vl W) : ∃ xs : List Value, W.ownsRow w.heap.size 64 2 (.slice ka n kc) n xs ∧ n ≤ 1000000000 ∧ w.heap.size ≤ W.heap.size ∧ ∀ (O : Obj) (w1 : World) (v' : Value), w1.ownsRow w.heap.size 64 2 v' (n + 1) (xs ++ [.int .i64 m, vl]) → (W.alloc O).grownBy w1 (Value.slice ka n kc).ownBlock → (v'.ownBlock = (Value.slice ka n kc).ownBlock ∨ v'.ownBlock = some (W.alloc O).heap.size) → FoX w be B1 B2 v' m false false w1 := by
  obtain ⟨e, f1, f2, S, bs, l, h1, h2, h3, h4, h5⟩ := h
  obtain ⟨_, k2, a, c, k3⟩ := h3.below
  have hn : S.length = n := by
    simp only [Value.slice.injEq] at k3
    omega
  have hm := k2.mark
  have hf := h2.few
  simp only [List.length_append, List.length_cons, List.length_nil] at hf
  obtain ⟨xs, x1, x2, x3⟩ := h3.put (va := vl) (n := 0) (m := m) h4 h5
  rw [hn] at x1
  refine ⟨xs, x1, by omega, x2, fun O w1 v' y1 y2 y3 => ?_⟩
  obtain ⟨bs', z⟩ := x3 O w1 v' (by rw [hn]; exact y1) y2 y3
  exact ⟨e, f1, f2, _, bs', h2, h1, z, fun h => (by cases h), fun h => (by cases h)⟩
theorem fo_draw0 {va : Option Addr} {vn vc : Nat} (h : FoX w be B1 B2 (.slice va vn vc) m d1 d2 W) {most : Nat} (hm : most ≤ 1000000) :
    Calls Tryz.prog 27 #[.pointer (some ⟨be, 0, none⟩), .int .i64 0, .pointer (some ⟨B1, 0, none⟩), .slice va vn vc, .int .i64 (most : Int)] W fun en W' => ∃ b, en = .returned (.tuple #[.bool true, .bool b]) ∧ (1000 ≤ most → b = true) ∧ Hid (FoX w be B1 B2 (.slice va vn vc) m b d2 W') := by
  obtain ⟨e, f1, f2, S, bs, h1, h2, h3, h4, h5⟩ := h
  obtain ⟨_, hok, _⟩ := h3.below
  obtain ⟨F1, F2, hfd, g1, g2⟩ := h1.two
  refine (h3.draw (k := 0) (fo_drc h1 hok (by decide)) (F := F1) (by rw [hfd]; rfl) g1 hm).mono ?_
  rintro en W' ⟨b, f, F', k1, k2, k3, k4, k5⟩
  exact ⟨b, k1, fun hl => k5 (Nat.lt_of_lt_of_le (fo_left g1) hl), _, f, f2, S, bs, fo_set0 h1 k2, h2, k3, k4, h5⟩
theorem fo_draw1 {va : Option Addr} {vn vc : Nat} (h : FoX w be B1 B2 (.slice va vn vc) m d1 d2 W) {most : Nat} (hm : most ≤ 1000000) :
    Calls Tryz.prog 27 #[.pointer (some ⟨be, 0, none⟩), .int .i64 1, .pointer (some ⟨B2, 0, none⟩), .slice va vn vc, .int .i64 (most : Int)] W fun en W' => ∃ b, en = .returned (.tuple #[.bool true, .bool b]) ∧ (1000 ≤ most → b = true) ∧ Hid (FoX w be B1 B2 (.slice va vn vc) m d1 b W') := by
  obtain ⟨e, f1, f2, S, bs, h1, h2, h3, h4, h5⟩ := h
  obtain ⟨_, hok, _⟩ := h3.below
  obtain ⟨F1, F2, hfd, g1, g2⟩ := h1.two
  refine (h3.swap.draw (k := 1) (fo_drc h1 hok (by decide)) (F := F2) (by rw [hfd]; rfl) g2 hm).mono ?_
  rintro en W' ⟨b, f, F', k1, k2, k3, k4, k5⟩
  exact ⟨b, k1, fun hl => k5 (Nat.lt_of_lt_of_le (fo_left g2) hl), _, f1, f, S, bs, fo_set1 h1 k2, h2, k3.swap, h4, k4⟩
theorem fo_askE (h : FoX w be B1 B2 vs m true true W) (hT : Lib.Utf8Tabs 0 1 w) :
    Calls Tryz.prog 25 #[.pointer (some ⟨be, 0, none⟩), .string txtXY] W fun en W' => ∃ (oa : Option Addr) (n oc : Nat), en = .returned (.tuple #[.slice oa n oc, .int .i64 0]) ∧ Hid (FoL w be B1 B2 (.slice oa n oc) W') := by
  obtain ⟨e, f1, f2, S, bs, h1, h2, h3, h4, h5⟩ := h
  refine (h3.ask hT h1.pe.rs h1.on).mono ?_
  rintro en W' ⟨oa, n, oc, l, k1, k2, k3, k4⟩
  exact ⟨oa, n, oc, k1, e, f1, f2, S, _, vs, l, k4, h4 rfl, h5 rfl, k2, .own k3⟩
theorem fo_like1 (h : FoL w be B1 B2 vl W) :
    Calls Tryz.prog 28 #[.pointer (some ⟨B1, 0, none⟩), vl] W fun en W' => en = .returned (.bool true) ∧ Hid (FoL w be B1 B2 vl W') := by
  have h' := h
  obtain ⟨e, f1, f2, S, bs, vs, l, h1, h2, h3, h4, h5⟩ := h
  refine (h1.like h5 (like_few h4) (like_few h2.2)).mono ?_
  rintro en W' ⟨k1, k2⟩
  rw [like_like h2.2 h4] at k1
  exact ⟨k1, h'.same k2⟩
theorem fo_like2 (h : FoL w be B1 B2 vl W) :
    Calls Tryz.prog 28 #[.pointer (some ⟨B2, 0, none⟩), vl] W fun en W' => en = .returned (.bool true) ∧ Hid (FoL w be B1 B2 vl W') := by
  have h' := h
  obtain ⟨e, f1, f2, S, bs, vs, l, h1, h2, h3, h4, h5⟩ := h
  refine (h1.swap.like h5 (like_few h4) (like_few h3.2)).mono ?_
  rintro en W' ⟨k1, k2⟩
  rw [like_like h3.2 h4] at k1
  exact ⟨k1, h'.same k2⟩
theorem fo_end (h : FoL w be B1 B2 vl W) : W.cell? ⟨B1, 2, none⟩ = some (.bool true) ∧ W.cell? ⟨B2, 2, none⟩ = some (.bool true) ∧ Below w.heap.size w W := by
  obtain ⟨e, f1, f2, S, bs, vs, l, h1, h2, h3, h4, h5⟩ := h
  refine ⟨?_, ?_, h1.below.1⟩
  · rw [h1.any, h2.1]
  · rw [h1.swap.any, h3.1]
end
theorem fot_new {w W : World} {be : Nat} {q : Int} {M : Gd → Option Int} (hM : LeastM rsP (givenL rsP) M) (h : KSt w be [] (eFF q M) W) : FoT w be W.heap.size (W.heap.size + 1) (.slice none 0 0) 0 ((W.alloc (.cells #[.slice none 0 0, .int .i64 0, .bool false] 61)).alloc (.cells #[.slice none 0 0, .int .i64 0, .bool false] 61)) :=
  ⟨_, f0, f0, [], [], rfl, rfl, fo_on hM, fun l hl => fo_new hM hl, fom_new h⟩

end Go.Proofs.YtjajnhemgphefaaGreatDoor
