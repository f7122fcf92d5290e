/-
  The statement Lasts in plain data: what holds as the watermark goes on and nothing more comes.
  Ask and Until as the statements of ebbkeep use them.
  The rules of Ebbed: the paths', and one path that is said.
  Two engines side by side, as Shuffled uses them.
  The statement Shuffled in plain data: facts in another order come to the same.
  The statement Reached in plain data: the ends that are reckoned point by point are the engine's.
  What Folded and Ebbed call beside the program: take of a Remove.
  One who follows a feed, in memory.
-/
import Derived.Test.YtjajnhemgphefaaGreatDoorJdKpI
import Derived.Test.YtjajnhemgphefaaGreatDoorJdTerm
import Derived.Test.YtjajnhemgphefaaGreatDoorJdKqD
import Derived.Test.YtjajnhemgphefaaGreatDoorJdEgO
namespace Go.Proofs.YtjajnhemgphefaaGreatDoor
open Go.RowKit Go.Shelf Go.Maps
set_option linter.unusedVariables false
set_option linter.unusedSimpArgs false

end Go.Proofs.YtjajnhemgphefaaGreatDoor

namespace Go.Proofs.YtjajnhemgphefaaGreatDoor
open Go.RowKit Go.Shelf Go.Maps
set_option linter.unusedVariables false
set_option linter.unusedSimpArgs false

section
variable {w W : World} {be : Nat} {bs : List Nat} {e : Eg}
end
theorem am_nums (r : ByteArray) (a b : Nat) : ∀ t ∈ (amB r a b).args, t.num < 6 := by
  intro t ht
  simp only [amB, List.mem_cons, List.not_mem_nil, or_false] at ht
  rcases ht with rfl | rfl <;> exact Nat.zero_lt_succ 5
end Go.Proofs.YtjajnhemgphefaaGreatDoor

namespace Go.Proofs.YtjajnhemgphefaaGreatDoor
open Go.RowKit Go.Shelf Go.Maps
set_option linter.unusedVariables false
set_option linter.unusedSimpArgs false

/-- An engine of rules in which edges are given: no more than tb is the time of any fact. -/
structure PeE (rs : List Rl) (tb : Int) (e : Eg) : Prop where
  rs : e.rs = rs
  win : e.win = 20
  lat : e.lat = 3
  names : PtsOk e.names
  kept : ∀ d ∈ e.kept, d.1.rel = bEd ∧ 0 ≤ d.2 ∧ d.2 ≤ tb
/-- An edge is brought: it is kept, or the engine is as it was. -/
theorem pe_ins {rs : List Rl} (hd : derB rs bEd = false) (hA : arR rs bEd = 2) {tb : Int} {e : Eg} (h : PeE rs tb e) {a b : Nat} (ha : a < 6) (hb : b < 6) {t : Int} (ht : 0 ≤ t ∧ t ≤ 1000000) :
    let r := insR e (ofB bEd a b) t
    (r.2 = e ∧ (r.1 = 8 ∨ r.1 = 9 ∨ r.1 = 10) ∧ (r.1 = 8 ↔ t + 20 ≤ e.mark) ∧ (r.1 = 9 → (⟨bEd, ptB a, ptB b⟩, t) ∈ e.kept) ∧ (r.1 = 10 → e.kept.length = 24)) ∨
    (r.1 = 0 ∧ e.mark < t + 20 ∧ (⟨bEd, ptB a, ptB b⟩, t) ∉ e.kept ∧ e.kept.length ≠ 24 ∧ r.2 = { e with names := nmL e.names (amB bEd a b).args, kept := e.kept ++ [(⟨bEd, ptB a, ptB b⟩, t)] }) := by
  intro r
  have hr : r = accR e (amB bEd a b) t := by
    show insR e (ofB bEd a b) t = _
    unfold insR
    rw [atom_e ha hb]
    simp only
    rw [if_neg (by rw [am_ground]; decide), if_neg (by rw [h.rs]; show ¬ derB rs bEd = true; rw [hd]; decide), if_neg (by
      have : ckR e.rs (amB bEd a b) = 0 := by
        unfold ckR
        show (if arR e.rs bEd = 0 then (7 : Int) else if arR e.rs bEd = 2 then 0 else 4) = 0
        rw [h.rs, hA]; rfl
      rw [this]; decide), if_neg (by simp; omega)]
  rw [hr]
  unfold accR
  rw [ground_am, h.win]
  by_cases ho : overB 20 e.mark t = true
  · rw [if_pos ho]
    have ho' : t + 20 ≤ e.mark := by unfold overB at ho; simpa using ho
    exact .inl ⟨rfl, .inl rfl, ⟨fun _ => ho', fun _ => rfl⟩, fun h => by simp at h, fun h => by simp at h⟩
  · rw [if_neg ho]
    have ho' : ¬ t + 20 ≤ e.mark := by unfold overB at ho; simpa using ho
    by_cases hh : hasD e.kept (⟨bEd, ptB a, ptB b⟩, t) = true
    · rw [if_pos hh]
      exact .inl ⟨rfl, .inr (.inl rfl), ⟨fun h => by simp at h, fun h => absurd h ho'⟩, fun _ => (hasD_iff _ _).1 hh, fun h => by simp at h⟩
    · rw [if_neg hh]
      have h6 := pts_six (pts_add h.names bEd ha hb)
      by_cases hf : e.kept.length = 24 ∨ 8 < (nmL e.names (amB bEd a b).args).length
      · rw [if_pos hf]
        exact .inl ⟨rfl, .inr (.inr rfl), ⟨fun h => by simp at h, fun h => absurd h ho'⟩, fun h => by simp at h, fun _ => by omega⟩
      · rw [if_neg hf]
        exact .inr ⟨rfl, by omega, fun hm => hh ((hasD_iff _ _).2 hm), by omega, rfl⟩
theorem pe_kept {rs : List Rl} (hd : derB rs bEd = false) (hA : arR rs bEd = 2) {tb : Int} {e : Eg} (h : PeE rs tb e) {a b : Nat} (ha : a < 6) (hb : b < 6) {t : Int} (ht : 0 ≤ t ∧ t ≤ tb) (hb6 : tb ≤ 1000000) : PeE rs tb (insR e (ofB bEd a b) t).2 := by
  rcases pe_ins hd hA h ha hb (t := t) (by omega) with ⟨h1, _⟩ | ⟨_, _, _, _, h1⟩
  · rw [h1]; exact h
  · rw [h1]
    refine ⟨h.rs, h.win, h.lat, pts_add h.names bEd ha hb, fun d hd => ?_⟩
    rcases List.mem_append.1 hd with hd | hd
    · exact h.kept d hd
    · simp only [List.mem_cons, List.not_mem_nil, or_false] at hd
      subst hd
      exact ⟨rfl, ht⟩

end Go.Proofs.YtjajnhemgphefaaGreatDoor

namespace Go.Proofs.YtjajnhemgphefaaGreatDoor
open Go.RowKit Go.Shelf Go.Maps
set_option linter.unusedVariables false
set_option linter.unusedSimpArgs false

/-- Two engines, made behind the world w, that share no block that either may write. -/
structure K2 (w : World) (bx by' : Nat) (ex ey : Eg) (W : World) : Prop where
  eng : ∃ Sx Sy : Nat → Prop, EngAt W Sx bx ex ∧ EngAt W Sy by' ey ∧ (∀ k, Sx k → ¬ Sy k) ∧ (∀ k, Sx k → w.heap.size ≤ k) ∧ ∀ k, Sy k → w.heap.size ≤ k
  below : Below w.heap.size w W
  okx : EgOk ex
  oky : EgOk ey
theorem EngAt.ty {W : World} {S : Nat → Prop} {be : Nat} {e : Eg} (h : EngAt W S be e) : ∀ k, S k → WTy W k := by
  obtain ⟨_, _, _, _, _, _, _, _, _, _, hv⟩ := h
  exact hv.typ
theorem K2.swap {w W : World} {bx by' : Nat} {ex ey : Eg} (h : K2 w bx by' ex ey W) : K2 w by' bx ey ex W := by
  obtain ⟨⟨Sx, Sy, h1, h2, h3, h4, h5⟩, h6, h7, h8⟩ := h
  exact ⟨⟨Sy, Sx, h2, h1, fun k hk hx => h3 k hx hk, h5, h4⟩, h6, h8, h7⟩
theorem K2.step {w W W' : World} {bx by' : Nat} {ex ey ex' : Eg} (h : K2 w bx by' ex ey W) {Sx Sy : Nat → Prop} (h1 : EngAt W Sx bx ex) (h2 : EngAt W Sy by' ey) (h3 : ∀ k, Sx k → ¬ Sy k) (h4 : ∀ k, Sx k → w.heap.size ≤ k) (h5 : ∀ k, Sy k → w.heap.size ≤ k) (hp : EngPost Sx bx ex' W W') (hok : EgOk ex') : K2 w bx by' ex' ey W' := by
  obtain ⟨S', j1, j2, j3⟩ := hp
  refine ⟨⟨S', Sy, j1, h2.keep j3 (fun k hy hx => h3 k hx hy) (fun k _ hx => h1.ty k hx), fun k hk hy => ?_, fun k hk => ?_, h5⟩, ?_, hok, h.oky⟩
  · rcases j2 k hk with hs | hs
    · exact h3 k hs hy
    · have := (h2.ty k hy).lt; omega
  · rcases j2 k hk with hs | hs
    · exact h4 k hs
    · exact Nat.le_trans h.below.size hs
  · exact h.below.trans (Chg.below j3 h.below.size h4)
/-- Boxes of edges abide. -/
def EdK (W W' : World) : Prop := ∀ (k : Nat) (c : Array Value), W.heap[k]? = some (Obj.cells c 46 (0, 0)) → W'.heap[k]? = some (Obj.cells c 46 (0, 0))
theorem EdK.post {W W' : World} {S : Nat → Prop} {be : Nat} {e e' : Eg} (h : EngAt W S be e) (hp : EngPost S be e' W W') : EdK W W' := by
  obtain ⟨_, _, _, hc⟩ := hp
  exact fun k c hk => (hc.block k (Array.getElem?_eq_some_iff.1 hk).1 (fun hs => WTy.not hk (by decide) (h.ty k hs))).trans hk
/-- Both begin. -/
theorem K2.two {w W W' : World} {bx by' : Nat} {ex ey : Eg} (hx : KSt w bx [] ex W) (hy : KSt W by' [] ey W') : K2 w bx by' ex ey W' := by
  obtain ⟨Sx, h1, h2⟩ := hx.eng
  obtain ⟨Sy, k1, k2⟩ := hy.eng
  refine ⟨⟨Sx, Sy, h1.below hy.below, k1, fun k hk hs => ?_, fun k hk => (h2 k hk).1, fun k hk => Nat.le_trans hx.below.size (k2 k hk).1⟩, hx.below.trans (hy.below.mono hx.below.size), hx.ok, hy.ok⟩
  have := (h1.ty k hk).lt
  have := (k2 k hs).1
  omega

section
variable {w W : World} {bx by' : Nat} {ex ey : Eg}
end

end Go.Proofs.YtjajnhemgphefaaGreatDoor

namespace Go.Proofs.YtjajnhemgphefaaGreatDoor
open Go.RowKit Go.Shelf Go.Maps
set_option linter.unusedVariables false
set_option linter.unusedSimpArgs false

end Go.Proofs.YtjajnhemgphefaaGreatDoor

namespace Go.Proofs.YtjajnhemgphefaaGreatDoor
open Go.RowKit Go.Shelf Go.Maps
set_option linter.unusedVariables false
set_option linter.unusedSimpArgs false

theorem on_pts {e : Eg} (h : EgOk e) (hp : PtsOk e.names) (hr : arR e.rs bPa = 2) : OnPts e.M := fun x y hs => by
  obtain ⟨h1, h2⟩ := h.md _ hs
  obtain ⟨_, h3, h4⟩ := mem_uni.1 h2
  obtain ⟨i, hi, e1⟩ := hp.2 x h3
  rcases h1.2 with ⟨h5, _⟩ | ⟨_, h5⟩
  · have h6 : arR e.rs bPa = 1 := h5
    rw [hr] at h6; cases h6
  · rcases h4 with h4 | h4
    · exact absurd h4 h5
    · obtain ⟨j, hj, e2⟩ := hp.2 y h4
      exact ⟨i, j, hi, hj, e1, e2⟩
end Go.Proofs.YtjajnhemgphefaaGreatDoor

namespace Go.Proofs.YtjajnhemgphefaaGreatDoor
open Go.RowKit Go.Shelf Go.Maps
set_option linter.unusedVariables false
set_option linter.unusedSimpArgs false

set_option maxRecDepth 100000 in
set_option maxHeartbeats 4000000 in
theorem take_remove (B : Nat) (f : Fo) (v : Value) (x : ByteArray) (w : World) (h : FoAt w B f v) (hany : f.any = true) (hn : f.next ≤ 1000000000) (hl : f.L.length ≤ 100000) (hx : x ∈ f.L) :
    Calls Tryz.prog 56 #[.pointer (some ⟨B, 0, none⟩), .agg #[.int .i64 3, .int .i64 f.next, .string x, .int .i64 0]] w fun e w' => e = .returned (.bool true) ∧ TkPost B v ⟨delR f.L x, f.next + 1, true⟩ w w' := by
  have hL0 : 0 < f.L.length := List.length_pos_of_mem hx
  obtain ⟨g, fc, hff, hcap⟩ : ∃ (g fc : Nat), v = .slice (some ⟨g, 0, none⟩) f.L.length fc ∧ f.L.length ≤ fc := by
    obtain ⟨_, ⟨_, hz⟩ | ⟨g, c, cur, hv, _, hw, h1, h2, h3, h4⟩⟩ := h.2
    · omega
    · exact ⟨g, c, hv, by first | exact h1 | exact h2 | exact h3 | omega⟩
  subst hff
  have hB := (Array.getElem?_eq_some_iff.1 h.1).1
  obtain ⟨N, hN⟩ : ∃ N, w.heap.size = N := ⟨_, rfl⟩
  have hne : B ≠ N := by omega
  obtain ⟨W0, hW0⟩ : ∃ W0, w.alloc (.cells #[.int .i64 3, .int .i64 f.next, .string x, .int .i64 0] 71) = W0 := ⟨_, rfl⟩
  have hb0 : Below w.heap.size w W0 := by rw [← hW0]; exact (Below.refl _ w).alloc (Nat.le_refl _) _
  have eB := (hb0.block B hB).trans h.1
  have eN : W0.heap[N]? = some (Obj.cells #[.int .i64 3, .int .i64 f.next, .string x, .int .i64 0] 71 (0, 0)) := by rw [← hW0, ← hN]; exact World.alloc_heap_new w _
  have c0 : W0.cell? ⟨B, 0, none⟩ = some (.slice (some ⟨g, 0, none⟩) f.L.length fc) := by simp [World.cell?, eB]
  have c1 : W0.cell? ⟨B, 1, none⟩ = some (.int .i64 f.next) := by simp [World.cell?, eB]
  have c2 : W0.cell? ⟨B, 2, none⟩ = some (.bool true) := by simp [World.cell?, eB, hany]
  have y1 : W0.frozen? ⟨B, 1, none⟩ = false := by simp [World.frozen?, eB]
  have d0 : W0.cell? ⟨N, 0, none⟩ = some (.int .i64 3) := by simp [World.cell?, eN]
  have d1 : W0.cell? ⟨N, 1, none⟩ = some (.int .i64 f.next) := by simp [World.cell?, eN]
  have d2 : W0.cell? ⟨N, 2, none⟩ = some (.string x) := by simp [World.cell?, eN]
  have hw1 : IntKind.i64.wrap ((f.next : Int) + 1) = (f.next : Int) + 1 := wrap_small _ (by omega) (by omega)
  obtain ⟨k, hk⟩ : ∃ k, f.L.findIdx (sameB x) = k := ⟨_, rfl⟩
  have hkl : k < f.L.length := by rw [← hk, List.findIdx_lt_length]; exact ⟨x, hx, (sameB_iff _ _).2 rfl⟩
  have hpl : placeR f.L x = k := by unfold placeR; rw [hk, if_pos hkl]
  have hdel : delR f.L x = f.L.take k ++ f.L.drop (k + 1) := by
    rw [← hk]; exact del_split f.L x
  obtain ⟨ad, had⟩ : ∃ ad : Addr, (if fc = k + 1 then some (⟨g, 0, none⟩ : Addr) else some ⟨g, k + 1, none⟩) = some ad := by split <;> exact ⟨_, rfl⟩
  have hall : Hid (∀ q, let W1 := (W0.drewN q).setCell ⟨B, 1, none⟩ (.int .i64 ((f.next : Int) + 1)); W1.cell? ⟨B, 0, none⟩ = some (.slice (some ⟨g, 0, none⟩) f.L.length fc) ∧ W1.cell? ⟨N, 0, none⟩ = some (.int .i64 3) ∧ W1.cell? ⟨N, 2, none⟩ = some (.string x) ∧ W1.cell? ⟨N, 3, none⟩ = some (.int .i64 0) ∧ Hid (∀ W, Below W1.heap.size W1 W → Calls Tryz.prog 58 #[.slice (some ⟨g, 0, none⟩) f.L.length fc, .string x] W fun e w' => e = .returned (.int .i64 (k : Int)) ∧ W = w') ∧ ∀ V, Below W1.heap.size W1 V → V.cell? ⟨B, 0, none⟩ = some (.slice (some ⟨g, 0, none⟩) f.L.length fc) ∧ (∀ j u, ((f.L.take k).map Value.string)[j]? = some u → V.cell? ((⟨g, 0, none⟩ : Addr).add j) = some u) ∧ Hid (∀ w1, V.grownBy w1 none →
      w1.cell? ⟨B, 0, none⟩ = some (.slice (some ⟨g, 0, none⟩) f.L.length fc) ∧ (∀ j u, ((f.L.drop (k + 1)).map Value.string)[j]? = some u → w1.cell? (ad.add j) = some u) ∧
      Hid (∀ b w2 v2, (∀ t, b = some t → V.heap.size ≤ t) → w1.grownBy w2 b → w2.ownsRow V.heap.size 9 1 v2 (k + (f.L.length - (k + 1))) ((f.L.take k).map Value.string ++ (f.L.drop (k + 1)).map Value.string) →
        w2.cell? ⟨B, 0, none⟩ = some (.slice (some ⟨g, 0, none⟩) f.L.length fc) ∧ w2.frozen? ⟨B, 0, none⟩ = false ∧ (∀ u, (w2.setCell ⟨B, 0, none⟩ u).cell? ⟨N, 3, none⟩ = some (.int .i64 0)) ∧ Hid (TkPost B (.slice (some ⟨g, 0, none⟩) f.L.length fc) ⟨delR f.L x, f.next + 1, true⟩ w (w2.setCell ⟨B, 0, none⟩ v2))))) := by
    intro q W1
    obtain ⟨n1, n2, n3⟩ := fo_next h (.cells #[.int .i64 3, .int .i64 f.next, .string x, .int .i64 0] 71) ((f.next : Int) + 1)
    rw [hW0] at n1 n2 n3
    have hb1 : Below (W0.setCell ⟨B, 1, none⟩ (.int .i64 ((f.next : Int) + 1))).heap.size (W0.setCell ⟨B, 1, none⟩ (.int .i64 ((f.next : Int) + 1))) W1 := ⟨rfl, rfl, rfl, Nat.le_refl _, fun _ _ => rfl⟩
    have m1 : W1.heap[B]? = _ := n1
    have m2 := own_below n2 hb1
    have m3 : Chg w W1 (fun k => k = B ∨ (Value.slice (some ⟨g, 0, none⟩) f.L.length fc).ownBlock = some k) := ⟨n3.os, n3.tape, n3.output, n3.size, n3.block⟩
    have eN1 : W1.heap[N]? = some (Obj.cells #[.int .i64 3, .int .i64 f.next, .string x, .int .i64 0] 71 (0, 0)) := (Below.heap_setCell W0 _ _ _ (by show N ≠ B; omega)).trans eN
    refine ⟨by simp [World.cell?, m1], by simp [World.cell?, eN1], by simp [World.cell?, eN1], by simp [World.cell?, eN1], fun W hb => (place_any _ f.L _ W (StrRd.own (own_below m2 hb)) hl).mono (by rintro e w' ⟨h1, h2⟩; rw [hpl] at h1; exact ⟨h1, h2.symm⟩), fun V hb => ?_⟩
    have hB1 := (Array.getElem?_eq_some_iff.1 m1).1
    have hN1 := (Array.getElem?_eq_some_iff.1 eN1).1
    have hBk : g ≠ B := fun e => by
      obtain ⟨_, c, hcc⟩ := owns_block m2 (g := g) rfl
      rw [e, m1] at hcc; cases hcc
    obtain ⟨a', c', e1, hst⟩ := StrRd.own (own_below m2 hb)
    simp only [Value.slice.injEq] at e1
    obtain ⟨rfl, _, rfl⟩ := e1
    have hcell : ∀ j (hj : j < f.L.length), V.cell? ⟨g, j, none⟩ = some (.string f.L[j]) := fun j hj => by
      obtain ⟨g', e2, _, hc⟩ := hst j hj
      cases e2; exact hc
    have hgV : g < V.heap.size := by
      obtain ⟨g', e2, hlt, _⟩ := hst 0 hL0
      cases e2; exact hlt
    have vB := (hb.block B hB1).trans m1
    have vN := (hb.block N hN1).trans eN1
    have hBV : B < V.heap.size := Nat.lt_of_lt_of_le hB1 hb.size
    have hNV : N < V.heap.size := Nat.lt_of_lt_of_le hN1 hb.size
    have hcV : Chg w V (fun k => k = B ∨ (Value.slice (some ⟨g, 0, none⟩) f.L.length fc).ownBlock = some k) := ⟨hb.os.trans m3.os, hb.tape.trans m3.tape, hb.output.trans m3.output, Nat.le_trans m3.size hb.size, fun k hk hx => (hb.block k (Nat.lt_of_lt_of_le hk m3.size)).trans (m3.block k hk hx)⟩
    refine ⟨by simp [World.cell?, vB], fun j u hj => ?_, fun w1 hg1 => ?_⟩
    · rw [List.getElem?_map] at hj
      obtain ⟨y, hy, rfl⟩ := Option.map_eq_some_iff.1 hj
      obtain ⟨hjl, rfl⟩ := List.getElem?_eq_some_iff.1 hy
      rw [List.length_take] at hjl
      rw [List.getElem_take]
      have := hcell j (by omega)
      rw [add_off, Nat.zero_add]; exact this
    have b1 := (hg1.block B hBV (by simp)).trans vB
    have n1' := (hg1.block N hNV (by simp)).trans vN
    refine ⟨by simp [World.cell?, b1], fun j u hj => ?_, fun b w2 v2 hbt hg2 ho2 => ?_⟩
    · rw [List.getElem?_map] at hj
      obtain ⟨y, hy, rfl⟩ := Option.map_eq_some_iff.1 hj
      obtain ⟨hjl, rfl⟩ := List.getElem?_eq_some_iff.1 hy
      rw [List.length_drop] at hjl
      rw [if_neg (by omega)] at had
      cases had
      rw [List.getElem_drop, add_off]
      exact (World.cell?_of_block (a := ⟨g, k + 1 + j, none⟩) (hg1.block g hgV (by simp))).trans (hcell _ (by omega))
    have hBb : some B ≠ b := fun e => by have := hbt B e.symm; omega
    have hNb : some N ≠ b := fun e => by have := hbt N e.symm; omega
    have b2 := (hg2.block B (Nat.lt_of_lt_of_le hBV hg1.size) hBb).trans b1
    have n2' := (hg2.block N (Nat.lt_of_lt_of_le hNV hg1.size) hNb).trans n1'
    have hc2 : Chg w w2 (fun k => k = B ∨ (Value.slice (some ⟨g, 0, none⟩) f.L.length fc).ownBlock = some k) := (hcV.grown hg1 (fun k hk _ => by cases hk)).grown hg2 (fun k hk hlt => by have := hbt k hk; have := hcV.size; omega)
    refine ⟨by simp [World.cell?, b2], by simp [World.frozen?, b2], fun u => (World.cell?_of_block (a := ⟨N, 3, none⟩) (Below.heap_setCell _ _ _ _ (by show N ≠ B; omega))).trans (by simp [World.cell?, n2']), v2, ⟨?_, ?_⟩, hc2.setCell ⟨B, 0, none⟩ _ (fun _ => .inl rfl), fun t ht => .inr ?_⟩
    · have := heap_set b2 0 v2
      rw [hany] at this
      exact this
    · show World.ownsRow _ 0 _ 1 v2 (delR f.L x).length ((delR f.L x).map Value.string)
      have hlen : (delR f.L x).length = k + (f.L.length - (k + 1)) := by rw [hdel, List.length_append, List.length_take, List.length_drop]; omega
      rw [hlen, hdel, List.map_append]
      exact owns_set (own_down ho2 (Nat.zero_le _)) ⟨B, 0, none⟩ v2 (owns_ne ho2 b2 (by decide))
    · have := (owns_block ho2 ht).1
      have := hcV.size
      omega
  clear h eB eN hb0 hpl
  have hk0 : ¬ ((k : Int) < 0) := by omega
  obtain ⟨i0, hi, hz0, hz1, hz2⟩ := info_parts Tryz.info9
  have hb1' : 0 + k ≤ maxLen := by unfold maxLen; omega
  have hb2' : (0 + k) * 16 ≤ 140737488355328 := by omega
  have hl1 : ((f.L.take k).map Value.string).length = k * 1 := by rw [List.length_map, List.length_take]; omega
  have hl2 : ((f.L.drop (k + 1)).map Value.string).length = (f.L.length - (k + 1)) * 1 := by rw [List.length_map, List.length_drop]; omega
  have h12 : ∀ u ∈ (f.L.drop (k + 1)).map Value.string, u.oneCell' = true := fun u hu => by obtain ⟨y, _, rfl⟩ := List.mem_map.1 hu; rfl
  have hb3' : k + (f.L.length - (k + 1)) ≤ maxLen := by unfold maxLen; omega
  have hb4' : (k + (f.L.length - (k + 1))) * 16 ≤ 140737488355328 := by omega
  have h11 : ∀ u ∈ (f.L.take k).map Value.string, u.oneCell' = true := fun u hu => by obtain ⟨y, _, rfl⟩ := List.mem_map.1 hu; rfl
  go_enter Tryz.func56, Tryz.ntmps56
  go_wp2_with fail
  go_quiet (fail)
  obtain ⟨g0, q0, q2, q3, hpl, hrow⟩ := hall.out nq
  obtain ⟨W1, hW1⟩ : ∃ W1, (W0.drewN nq).setCell ⟨B, 1, none⟩ (.int .i64 ((f.next : Int) + 1)) = W1 := ⟨_, rfl⟩
  rw [hW1] at g0 q0 q2 q3 hpl hrow
  have hpd : Hid _ := hpl.out W1.drew (Below.refl _ W1).drew
  clear hall
  go_wp2_with fail
  first | (go_region_with (go_at_call 58; refine Calls.mono hpd.out ?_; rintro e' w' ⟨rfl, hw'⟩; subst hw')) | fail
  all_goals (
    obtain ⟨r0, hn1, hnext⟩ := hrow W1.drew (Below.refl _ W1).drew
    have s0 : W1.drew.cell? ⟨N, 0, none⟩ = some (.int .i64 3) := q0
    have s2 : W1.drew.cell? ⟨N, 2, none⟩ = some (.string x) := q2
    have s3 : W1.drew.cell? ⟨N, 3, none⟩ = some (.int .i64 0) := q3
    clear hrow g0 q0 q2 q3
    generalize hV5 : W1.drew = V5 at *
    have hsl : (k : Int) + 1 ≤ (f.L.length : Int) := by omega
    go_wp2_with (first | (at_builtin; refine wpList_append_own _ rfl (.tmp 82) (.tmp 88) 22 rfl V5.heap.size 9 i0 (.string ⟨#[]⟩) 1 16 Tryz.underlying22 hi hz0 hz1 hz2 rfl (by decide) _ 0 [] rfl ⟨rfl, .inl ⟨rfl, rfl⟩⟩ ⟨g, 0, none⟩ k _ ((f.L.take k).map Value.string) rfl hl1 hn1 h11 hb1' hb2' (Nat.le_refl _) ?_; intro v1 w1 hown1 hgrow1 hnil1; obtain ⟨t0, hn2, hlast⟩ := hnext.out w1 hgrow1; clear hnil1; rw [Nat.zero_add, List.nil_append] at hown1; obtain ⟨xa, xc, hxf⟩ := owns_form hown1; subst hxf) | (at_builtin; refine wpList_append_own _ rfl (.tmp 90) (.tmp 97) 22 rfl V5.heap.size 9 i0 (.string ⟨#[]⟩) 1 16 Tryz.underlying22 hi hz0 hz1 hz2 rfl (by decide) _ k ((f.L.take k).map Value.string) rfl hown1 ad (f.L.length - (k + 1)) _ ((f.L.drop (k + 1)).map Value.string) rfl hl2 hn2 h12 hb3' hb4' hgrow1.size ?_; intro v2 w2 hown2 hgrow2 hnil2; obtain ⟨u0, z0, u3, hpost⟩ := hlast.out _ w2 v2 (fun t ht => (owns_block hown1 ht).1) hgrow2 hown2; clear hnil2; obtain ⟨ya, yc, hyf⟩ := owns_form hown2; subst hyf))
    all_goals (
      go_wp2
      go_ret
      exact ⟨rfl, hpost.out⟩))

end Go.Proofs.YtjajnhemgphefaaGreatDoor

namespace Go.Proofs.YtjajnhemgphefaaGreatDoor
open Go.RowKit Go.Shelf Go.Maps
set_option linter.unusedVariables false
set_option linter.unusedSimpArgs false

/-- The caller's own blocks are changed. -/
theorem KSt.put {w W W' : World} {be : Nat} {bs bs' : List Nat} {e : Eg} (h : KSt w be bs e W) {ex : Nat → Prop} (hc : Chg W W' ex) (hx : ∀ k, k < W.heap.size → ex k → k ∈ bs ∧ w.heap.size ≤ k ∧ NTy W k) (hb : ∀ b ∈ bs', (b ∈ bs ∨ W.heap.size ≤ b) ∧ b < W'.heap.size) : KSt w be bs' e W' := by
  obtain ⟨⟨S, h1, h2⟩, h3, h4, h5⟩ := h
  have hlt : ∀ k, S k → k < W.heap.size := fun k hk => by
    obtain ⟨_, _, _, _, _, _, _, _, _, _, hv⟩ := h1
    exact (hv.typ k hk).lt
  refine ⟨⟨S, h1.keepN hc (fun k hk he => (h2 k hk).2 (hx k (hlt k hk) he).1) (fun k hk he => (hx k hk he).2.2), fun k hk => ⟨(h2 k hk).1, fun hm => ?_⟩⟩, fun b hm => (hb b hm).2, h4.trans (Chg.below hc h4.size (fun k hk => ?_)), h5⟩
  · rcases (hb k hm).1 with h | h
    · exact (h2 k hk).2 h
    · have := hlt k hk; omega
  · rcases Nat.lt_or_ge k W.heap.size with hl | hl
    · exact (hx k hl hk).2.1
    · have := h4.size; omega
theorem Kept.trans {bs : List Nat} {W1 W2 W3 : World} (h : Kept bs W1 W2) (h' : Kept bs W2 W3) : Kept bs W1 W3 := fun b hb => (h' b hb).trans (h b hb)
theorem Kept.fewer {bs bs' : List Nat} {W1 W2 : World} (h : Kept bs W1 W2) (hs : ∀ b ∈ bs', b ∈ bs) : Kept bs' W1 W2 := fun b hb => h b (hs b hb)

/-- An engine, and one who follows it; bs: what is neither's. -/
def DrI (w : World) (be : Nat) (bs : List Nat) (B : Nat) (e : Eg) (f : Fo) (W : World) : Prop :=
  ∃ v, KSt w be (B :: (v.ownBlock.toList ++ bs)) e W ∧ FoAt W B f v ∧ (w.heap.size ≤ B ∧ B ∉ bs) ∧ ∀ g, v.ownBlock = some g → w.heap.size ≤ g ∧ g ∉ bs
theorem fo_kept {W W' : World} {B : Nat} {bs : List Nat} {f : Fo} {v : Value} (h : FoAt W B f v) (hk : Kept (B :: (v.ownBlock.toList ++ bs)) W W') : FoAt W' B f v :=
  ⟨(hk B List.mem_cons_self).trans h.1, own_keep h.2 (fun g hg _ => hk g (List.mem_cons_of_mem _ (List.mem_append_left _ (by rw [hg]; simp))))⟩
section
variable {w W : World} {be B : Nat} {bs : List Nat} {e : Eg} {f : Fo}
theorem DrI.later {W' : World} (h : DrI w be bs B e f W) (hb : Below W.heap.size W W') : DrI w be bs B e f W' ∧ Kept bs W W' := by
  obtain ⟨v, h1, h2, h3, h4⟩ := h
  obtain ⟨k1, k2⟩ := h1.same hb
  exact ⟨⟨v, k1, fo_kept h2 k2, h3, h4⟩, k2.fewer (fun b hb => List.mem_cons_of_mem _ (List.mem_append_right _ hb))⟩
theorem DrI.fewer {bs' : List Nat} (h : DrI w be bs B e f W) (hs : ∀ b ∈ bs', b ∈ bs) : DrI w be bs' B e f W := by
  obtain ⟨v, h1, h2, h3, h4⟩ := h
  refine ⟨v, h1.fewer (fun b hb => ?_), h2, ⟨h3.1, fun hm => h3.2 (hs _ hm)⟩, fun g hg => ⟨(h4 g hg).1, fun hm => (h4 g hg).2 (hs _ hm)⟩⟩
  rcases List.mem_cons.1 hb with rfl | hb
  · exact List.mem_cons_self
  · rcases List.mem_append.1 hb with hb | hb
    · exact List.mem_cons_of_mem _ (List.mem_append_left _ hb)
    · exact List.mem_cons_of_mem _ (List.mem_append_right _ (hs _ hb))
theorem DrI.alloc (h : DrI w be bs B e f W) (O : Obj) : DrI w be (W.heap.size :: bs) B e f (W.alloc O) ∧ Kept bs W (W.alloc O) := by
  obtain ⟨v, h1, h2, h3, h4⟩ := h
  have hb : Below W.heap.size W (W.alloc O) := (Below.refl _ W).alloc (Nat.le_refl _) O
  obtain ⟨k1, k2⟩ := h1.alloc O
  have hlt := h1.lt
  refine ⟨⟨v, k1.fewer (fun b hb => ?_), fo_kept h2 k2, ⟨h3.1, fun hm => ?_⟩, fun g hg => ⟨(h4 g hg).1, fun hm => ?_⟩⟩, k2.fewer (fun b hb => List.mem_cons_of_mem _ (List.mem_append_right _ hb))⟩
  · rcases List.mem_cons.1 hb with rfl | hb
    · exact List.mem_cons_of_mem _ List.mem_cons_self
    · rcases List.mem_append.1 hb with hb | hb
      · exact List.mem_cons_of_mem _ (List.mem_cons_of_mem _ (List.mem_append_left _ hb))
      · rcases List.mem_cons.1 hb with rfl | hb
        · exact List.mem_cons_self
        · exact List.mem_cons_of_mem _ (List.mem_cons_of_mem _ (List.mem_append_right _ hb))
  · rcases List.mem_cons.1 hm with e | hm
    · have := hlt B List.mem_cons_self; omega
    · exact h3.2 hm
  · rcases List.mem_cons.1 hm with e | hm
    · have := hlt g (List.mem_cons_of_mem _ (List.mem_append_left _ (by rw [hg]; simp))); omega
    · exact (h4 g hg).2 hm
theorem dr_poll (h : DrI w be bs B e f W) {k : Nat} (hk : k < e.fds.length) (ht : ∀ f ∈ e.fds, f.told ≤ 1000000000000) :
    Calls Tryz.prog 29 #[.pointer (some ⟨be, 0, none⟩), .int .i64 (k : Int)] W fun en W' => ∃ r f', PollR e.M e.mark e.fds[k] r f' ∧ en = .returned (.tuple #[.agg #[.int .i64 r.kind, .int .i64 r.seq, .string r.text, .int .i64 r.time], .int .i64 0]) ∧ DrI w be bs B { e with fds := e.fds.set k f' } f W' ∧ Kept bs W W' := by
  obtain ⟨v, h1, h2, h3, h4⟩ := h
  refine (kpoll h1 k hk ht).mono ?_
  rintro en W' ⟨r, f', k1, k2, k3, k4⟩
  exact ⟨r, f', k1, k2, ⟨v, k3, fo_kept h2 k4, h3, h4⟩, k4.fewer (fun b hb => List.mem_cons_of_mem _ (List.mem_append_right _ hb))⟩
theorem dr_take {W' : World} {v : Value} {f' : Fo} (h1 : KSt w be (B :: (v.ownBlock.toList ++ bs)) e W) (h2 : FoAt W B f v) (h3 : w.heap.size ≤ B ∧ B ∉ bs) (h4 : ∀ g, v.ownBlock = some g → w.heap.size ≤ g ∧ g ∉ bs) (ht : TkPost B v f' W W') : DrI w be bs B e f' W' ∧ Kept bs W W' := by
  obtain ⟨v', k1, k2, k3⟩ := ht
  have hlt : ∀ b ∈ bs, b < W.heap.size := fun b hb => h1.lt b (List.mem_cons_of_mem _ (List.mem_append_right _ hb))
  refine ⟨⟨v', h1.put k2 (fun k hk he => ?_) (fun b hb => ?_), k1, h3, fun g hg => ?_⟩, fun b hb => k2.block b (hlt b hb) (fun he => ?_)⟩
  · rcases he with rfl | he
    · exact ⟨List.mem_cons_self, h3.1, _, _, h2.1, by decide⟩
    · obtain ⟨_, c, hc⟩ := owns_block h2.2 he
      exact ⟨List.mem_cons_of_mem _ (List.mem_append_left _ (by rw [he]; simp)), (h4 k he).1, _, _, hc, by decide⟩
  · rcases List.mem_cons.1 hb with rfl | hb
    · exact ⟨.inl List.mem_cons_self, (Array.getElem?_eq_some_iff.1 k1.1).1⟩
    · rcases List.mem_append.1 hb with hb | hb
      · have hv : v'.ownBlock = some b := by simpa using hb
        obtain ⟨_, c, hc⟩ := owns_block k1.2 hv
        refine ⟨?_, (Array.getElem?_eq_some_iff.1 hc).1⟩
        rcases k3 b hv with e | e
        · exact .inl (List.mem_cons_of_mem _ (List.mem_append_left _ (by rw [e]; simp)))
        · exact .inr e
      · exact ⟨.inl (List.mem_cons_of_mem _ (List.mem_append_right _ hb)), Nat.lt_of_lt_of_le (hlt b hb) k2.size⟩
  · rcases k3 g hg with e | e
    · exact h4 g e
    · exact ⟨Nat.le_trans h1.below.size e, fun hm => by have := hlt g hm; omega⟩
  · rcases he with rfl | he
    · exact h3.2 hb
    · exact (h4 b he).2 hb
theorem dr_mark (h : DrI w be bs B e f W) (t : Int) (hany : f.any = true) (hn : f.next ≤ 1000000000) (hl : f.L.length ≤ 100000) :
    Calls Tryz.prog 56 #[.pointer (some ⟨B, 0, none⟩), .agg #[.int .i64 4, .int .i64 f.next, .string ⟨#[]⟩, .int .i64 t]] W fun en W' => en = .returned (.bool true) ∧ DrI w be bs B e { f with next := f.next + 1 } W' ∧ Kept bs W W' := by
  obtain ⟨v, h1, h2, h3, h4⟩ := h
  refine (take_mark B f v t W h2 hany hn hl).mono ?_
  rintro en W' ⟨k1, k2⟩
  exact ⟨k1, dr_take h1 h2 h3 h4 k2⟩
theorem dr_reset (h : DrI w be bs B e f W) (hn : f.next ≤ 1000000000) (hl : f.L.length ≤ 100000) :
    Calls Tryz.prog 56 #[.pointer (some ⟨B, 0, none⟩), .agg #[.int .i64 1, .int .i64 f.next, .string ⟨#[]⟩, .int .i64 0]] W fun en W' => en = .returned (.bool true) ∧ DrI w be bs B e ⟨[], f.next + 1, true⟩ W' ∧ Kept bs W W' := by
  obtain ⟨v, h1, h2, h3, h4⟩ := h
  refine (take_reset B f v W h2 hn hl).mono ?_
  rintro en W' ⟨k1, k2⟩
  exact ⟨k1, dr_take h1 h2 h3 h4 k2⟩
theorem dr_add (h : DrI w be bs B e f W) (x : ByteArray) (hany : f.any = true) (hn : f.next ≤ 1000000000) (hl : f.L.length ≤ 100000) (hx : x ∉ f.L) :
    Calls Tryz.prog 56 #[.pointer (some ⟨B, 0, none⟩), .agg #[.int .i64 2, .int .i64 f.next, .string x, .int .i64 0]] W fun en W' => en = .returned (.bool true) ∧ DrI w be bs B e ⟨f.L ++ [x], f.next + 1, true⟩ W' ∧ Kept bs W W' := by
  obtain ⟨v, h1, h2, h3, h4⟩ := h
  refine (take_add B f v x W h2 hany hn hl hx).mono ?_
  rintro en W' ⟨k1, k2⟩
  exact ⟨k1, dr_take h1 h2 h3 h4 k2⟩
theorem dr_remove (h : DrI w be bs B e f W) (x : ByteArray) (hany : f.any = true) (hn : f.next ≤ 1000000000) (hl : f.L.length ≤ 100000) (hx : x ∈ f.L) :
    Calls Tryz.prog 56 #[.pointer (some ⟨B, 0, none⟩), .agg #[.int .i64 3, .int .i64 f.next, .string x, .int .i64 0]] W fun en W' => en = .returned (.bool true) ∧ DrI w be bs B e ⟨delR f.L x, f.next + 1, true⟩ W' ∧ Kept bs W W' := by
  obtain ⟨v, h1, h2, h3, h4⟩ := h
  refine (take_remove B f v x W h2 hany hn hl hx).mono ?_
  rintro en W' ⟨k1, k2⟩
  exact ⟨k1, dr_take h1 h2 h3 h4 k2⟩
theorem dr_like (h : DrI w be bs B e f W) (v : Value) (l : List ByteArray) (hv : StrRd W v l) (hl : l.length ≤ 100000) (hf : f.L.length ≤ 100000) :
    Calls Tryz.prog 28 #[.pointer (some ⟨B, 0, none⟩), v] W fun en W' => en = .returned (.bool (likeR f.L l)) ∧ DrI w be bs B e f W' ∧ Kept bs W W' := by
  have h' := h
  obtain ⟨vf, h1, h2, h3, h4⟩ := h
  refine (like_any B f vf v l W h2 hv hl hf).mono ?_
  rintro en W' ⟨k1, k2⟩
  exact ⟨k1, h'.later k2⟩
end
/-- What was seen can be read. -/
def SeenT (W : World) (vs : Value) (S : List (Int × List ByteArray)) : Prop := ∃ vals : List (Int × Value), SeenRd W vs vals ∧ vals.length = S.length ∧ ∀ k (h : k < S.length) (h' : k < vals.length), (vals[k]).1 = (S[k]).1 ∧ StrRd W (vals[k]).2 (S[k]).2
/-- .. as long as these blocks abide. -/
def SeenK (bs : List Nat) (W : World) (vs : Value) (S : List (Int × List ByteArray)) : Prop := ∀ W', Kept bs W W' → SeenT W' vs S
theorem SeenK.next {bs : List Nat} {W W' : World} {vs : Value} {S : List (Int × List ByteArray)} (h : SeenK bs W vs S) (hk : Kept bs W W') : SeenK bs W' vs S :=
  fun W2 k2 => h W2 (hk.trans k2)
theorem find_zip : ∀ (vals : List (Int × Value)) (S : List (Int × List ByteArray)) (W : World) (t : Int), vals.length = S.length → (∀ k (h : k < S.length) (h' : k < vals.length), (vals[k]).1 = (S[k]).1 ∧ StrRd W (vals[k]).2 (S[k]).2) → ∀ l, findS S t = some l → ∃ v, findR vals t = some v ∧ StrRd W v l
  | [], [], _, _, _, _, l, h => by cases h
  | [], _ :: _, _, _, h, _, _, _ => by cases h
  | _ :: _, [], _, _, h, _, _, _ => by cases h
  | d :: vals, s :: S, W, t, hlen, hall, l, hf => by
    have h0 := hall 0 (by simp) (by simp)
    simp only [List.getElem_cons_zero] at h0
    unfold findS at hf
    unfold findR
    by_cases hd : (s.1 == t) = true
    · rw [List.find?_cons_of_pos (by exact hd)] at hf
      rw [List.find?_cons_of_pos (by show (d.1 == t) = true; rw [h0.1]; exact hd)]
      simp only [Option.map_some, Option.some.injEq] at hf
      exact ⟨d.2, rfl, by rw [← hf]; exact h0.2⟩
    · rw [List.find?_cons_of_neg (by exact hd)] at hf
      rw [List.find?_cons_of_neg (by show ¬ (d.1 == t) = true; rw [h0.1]; exact hd)]
      exact find_zip vals S W t (by simpa using hlen) (fun k h h' => by
        have := hall (k + 1) (by simp; omega) (by simp; omega)
        simpa using this) l hf

end Go.Proofs.YtjajnhemgphefaaGreatDoor
