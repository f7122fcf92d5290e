/-
  What Folded and Ebbed call beside the program: take of an Add.
  A text is taken away from a list.
  The engine: one of its feeds is changed; Poll.
-/
import Derived.Test.YtjajnhemgphefaaGreatDoorJdEgT
import Derived.Test.YtjajnhemgphefaaGreatDoorJdEgU
import Derived.Test.YtjajnhemgphefaaGreatDoorJdKpQ
namespace Go.Proofs.YtjajnhemgphefaaGreatDoor
open Go.RowKit Go.Shelf Go.Maps
set_option linter.unusedVariables false
set_option linter.unusedSimpArgs false

theorem TkPost.drew {B : Nat} {v : Value} {f' : Fo} {w w' : World} (h : TkPost B v f' w w') : TkPost B v f' w w'.drew := by
  obtain ⟨v', h1, h2, h3⟩ := h
  exact ⟨v', ⟨h1.1, ⟨h1.2.1, h1.2.2⟩⟩, h2.drew, h3⟩

set_option maxRecDepth 100000 in
set_option maxHeartbeats 4000000 in
theorem take_add (B : Nat) (f : Fo) (v : Value) (x : ByteArray) (w : World) (h : FoAt w B f v) (hany : f.any = true) (hn : f.next ≤ 1000000000) (hl : f.L.length ≤ 100000) (hx : x ∉ f.L) :
    Calls Tryz.prog 56 #[.pointer (some ⟨B, 0, none⟩), .agg #[.int .i64 2, .int .i64 f.next, .string x, .int .i64 0]] w fun e w' => e = .returned (.bool true) ∧ TkPost B v ⟨f.L ++ [x], f.next + 1, true⟩ w w' := by
  obtain ⟨fa, fc, hff⟩ := owns_form h.2
  subst hff
  have hB := (Array.getElem?_eq_some_iff.1 h.1).1
  obtain ⟨N, hN⟩ : ∃ N, w.heap.size = N := ⟨_, rfl⟩
  have hne : B ≠ N := by omega
  obtain ⟨W0, hW0⟩ : ∃ W0, w.alloc (.cells #[.int .i64 2, .int .i64 f.next, .string x, .int .i64 0] 71) = W0 := ⟨_, rfl⟩
  have hb0 : Below w.heap.size w W0 := by rw [← hW0]; exact (Below.refl _ w).alloc (Nat.le_refl _) _
  have eB := (hb0.block B hB).trans h.1
  have eN : W0.heap[N]? = some (Obj.cells #[.int .i64 2, .int .i64 f.next, .string x, .int .i64 0] 71 (0, 0)) := by rw [← hW0, ← hN]; exact World.alloc_heap_new w _
  have c0 : W0.cell? ⟨B, 0, none⟩ = some (.slice fa f.L.length fc) := by simp [World.cell?, eB]
  have c1 : W0.cell? ⟨B, 1, none⟩ = some (.int .i64 f.next) := by simp [World.cell?, eB]
  have c2 : W0.cell? ⟨B, 2, none⟩ = some (.bool true) := by simp [World.cell?, eB, hany]
  have y1 : W0.frozen? ⟨B, 1, none⟩ = false := by simp [World.frozen?, eB]
  have d0 : W0.cell? ⟨N, 0, none⟩ = some (.int .i64 2) := by simp [World.cell?, eN]
  have d1 : W0.cell? ⟨N, 1, none⟩ = some (.int .i64 f.next) := by simp [World.cell?, eN]
  have d2 : W0.cell? ⟨N, 2, none⟩ = some (.string x) := by simp [World.cell?, eN]
  have hw1 : IntKind.i64.wrap ((f.next : Int) + 1) = (f.next : Int) + 1 := wrap_small _ (by omega) (by omega)
  have hall : Hid (∀ q, let W1 := (W0.drewN q).setCell ⟨B, 1, none⟩ (.int .i64 ((f.next : Int) + 1)); W1.cell? ⟨B, 0, none⟩ = some (.slice fa f.L.length fc) ∧ W1.cell? ⟨N, 0, none⟩ = some (.int .i64 2) ∧ W1.cell? ⟨N, 2, none⟩ = some (.string x) ∧ W1.cell? ⟨N, 3, none⟩ = some (.int .i64 0) ∧ Hid (∀ W, Below W1.heap.size W1 W → Calls Tryz.prog 58 #[.slice fa f.L.length fc, .string x] W fun e w' => e = .returned (.int .i64 (placeR f.L x)) ∧ W = w') ∧ (∀ W, Below W1.heap.size W1 W → W.ownsRow 0 9 1 (.slice fa f.L.length fc) f.L.length (f.L.map Value.string) ∧ W.cell? ⟨B, 0, none⟩ = some (.slice fa f.L.length fc) ∧ W.cell? ⟨N, 2, none⟩ = some (.string x) ∧ (∀ O, (W.alloc O).cell? ⟨B, 0, none⟩ = some (.slice fa f.L.length fc))) ∧ Hid (∀ W O w1 v', Below W1.heap.size W1 W → w1.ownsRow 0 9 1 v' (f.L.length + 1) (f.L.map Value.string ++ [.string x]) → (W.alloc O).grownBy w1 (Value.slice fa f.L.length fc).ownBlock → (v'.ownBlock = (Value.slice fa f.L.length fc).ownBlock ∨ v'.ownBlock = some (W.alloc O).heap.size) → w1.cell? ⟨B, 0, none⟩ = some (.slice fa f.L.length fc) ∧ w1.frozen? ⟨B, 0, none⟩ = false ∧ (∀ u, (w1.setCell ⟨B, 0, none⟩ u).cell? ⟨N, 3, none⟩ = some (.int .i64 0)) ∧ Hid (TkPost B (.slice fa f.L.length fc) ⟨f.L ++ [x], f.next + 1, true⟩ w (w1.setCell ⟨B, 0, none⟩ v')))) := by
    intro q W1
    obtain ⟨n1, n2, n3⟩ := fo_next h (.cells #[.int .i64 2, .int .i64 f.next, .string x, .int .i64 0] 71) ((f.next : Int) + 1)
    rw [hW0] at n1 n2 n3
    have hb1 : Below (W0.setCell ⟨B, 1, none⟩ (.int .i64 ((f.next : Int) + 1))).heap.size (W0.setCell ⟨B, 1, none⟩ (.int .i64 ((f.next : Int) + 1))) W1 := ⟨rfl, rfl, rfl, Nat.le_refl _, fun _ _ => rfl⟩
    have m1 : W1.heap[B]? = _ := n1
    have m2 := own_below n2 hb1
    have m3 : Chg w W1 (fun k => k = B ∨ (Value.slice fa f.L.length fc).ownBlock = some k) := ⟨n3.os, n3.tape, n3.output, n3.size, n3.block⟩
    have eN1 : W1.heap[N]? = some (Obj.cells #[.int .i64 2, .int .i64 f.next, .string x, .int .i64 0] 71 (0, 0)) := (Below.heap_setCell W0 _ _ _ (by show N ≠ B; omega)).trans eN
    have hBk : (Value.slice fa f.L.length fc).ownBlock ≠ some B := fun hs => by
      obtain ⟨_, c, hcc⟩ := owns_block m2 hs
      rw [m1] at hcc; cases hcc
    have hNk : (Value.slice fa f.L.length fc).ownBlock ≠ some N := fun hs => by
      obtain ⟨_, c, hcc⟩ := owns_block m2 hs
      rw [eN1] at hcc; cases hcc
    have hB1 := (Array.getElem?_eq_some_iff.1 m1).1
    have hN1 := (Array.getElem?_eq_some_iff.1 eN1).1
    refine ⟨by simp [World.cell?, m1], by simp [World.cell?, eN1], by simp [World.cell?, eN1], by simp [World.cell?, eN1], fun W hb => (place_any _ f.L _ W (StrRd.own (own_below m2 hb)) hl).mono (by rintro e w' ⟨h1, h2⟩; exact ⟨h1, h2.symm⟩), fun W hb => ?_, fun W O w1 v' hb k1 k2 k3 => ?_⟩
    · have p1 := (hb.block B hB1).trans m1
      have p2 := (hb.block N hN1).trans eN1
      exact ⟨own_below m2 hb, by simp [World.cell?, p1], by simp [World.cell?, p2], fun O => cell_later ((Below.refl W.heap.size W).alloc (Nat.le_refl _) O) (by simp [World.cell?, p1])⟩
    · have hBW : B < W.heap.size := Nat.lt_of_lt_of_le hB1 hb.size
      have hNW : N < W.heap.size := Nat.lt_of_lt_of_le hN1 hb.size
      have p1 := (k2.block B (by simp; omega) (fun e => hBk e.symm)).trans ((Below.heap_alloc _ _ _ hBW).trans ((hb.block B hB1).trans m1))
      have p2 := (k2.block N (by simp; omega) (fun e => hNk e.symm)).trans ((Below.heap_alloc _ _ _ hNW).trans ((hb.block N hN1).trans eN1))
      have hc : Chg w W (fun k => k = B ∨ (Value.slice fa f.L.length fc).ownBlock = some k) := ⟨hb.os.trans m3.os, hb.tape.trans m3.tape, hb.output.trans m3.output, Nat.le_trans m3.size hb.size, fun k hk hx => (hb.block k (Nat.lt_of_lt_of_le hk m3.size)).trans (m3.block k hk hx)⟩
      refine ⟨by simp [World.cell?, p1], by simp [World.frozen?, p1], fun u => (cell_other _ _ _ _ _ _ (Ne.symm hne)).trans (by simp [World.cell?, p2]), v', ⟨?_, ?_⟩, ((hc.alloc O).grown k2 (fun k hk _ => .inr hk)).setCell ⟨B, 0, none⟩ _ (fun _ => .inl rfl), fun g hg => ?_⟩
      · have := heap_set p1 0 v'
        rw [hany] at this
        exact this
      · show World.ownsRow _ 0 _ 1 v' (f.L ++ [x]).length ((f.L ++ [x]).map Value.string)
        rw [List.length_append, List.map_append]
        exact owns_set k1 ⟨B, 0, none⟩ v' (owns_ne k1 p1 (by decide))
      · rcases k3 with e | e
        · exact .inl (e.symm.trans hg)
        · right
          rw [e] at hg
          have := Option.some.inj hg
          have := hc.size
          simp at *
          omega
  clear h eB eN hb0
  have hpx : placeR f.L x < 0 := (placeR_neg _ _).2 hx
  generalize placeR f.L x = px at *
  clear hx
  obtain ⟨i0, hi, hz0, hz1, hz2⟩ := info_parts Tryz.info9
  have hb1' : f.L.length + 1 ≤ maxLen := by unfold maxLen; omega
  have hb2' : (f.L.length + 1) * 16 ≤ 140737488355328 := by omega
  go_enter Tryz.func56, Tryz.ntmps56
  go_wp2_with fail
  go_quiet (fail)
  obtain ⟨g0, q0, q2, q3, hpl, hrow, hfin⟩ := hall.out nq
  obtain ⟨W1, hW1⟩ : ∃ W1, (W0.drewN nq).setCell ⟨B, 1, none⟩ (.int .i64 ((f.next : Int) + 1)) = W1 := ⟨_, rfl⟩
  rw [hW1] at g0 q0 q2 q3 hpl hrow hfin
  have hpd : Hid _ := hpl.out W1.drew (Below.refl _ W1).drew
  have hbd : Hid (Below W1.heap.size W1 W1.drew) := (Below.refl _ W1).drew
  clear hall
  go_wp2_with fail
  first | (go_region_with (go_at_call 58; refine Calls.mono hpd.out ?_; rintro e' w' ⟨rfl, hw'⟩; subst hw')) | fail
  all_goals go_wp2_with fail
  all_goals (
    have hbv : Hid (Below W1.heap.size W1 W1.drew.drew) := (Below.refl _ W1).drew.drew
    obtain ⟨r1, r2, r3, r4⟩ := hrow W1.drew.drew hbv.out
    clear hrow
    generalize hV5 : W1.drew.drew = V5 at *
    go_region_law (first | (refine step_append_at rfl (.tmp 64) (.tmp 67) 22 rfl 0 9 i0 (.string ⟨#[]⟩) 1 16 Tryz.underlying22 hi hz0 hz1 hz2 rfl (by decide) (.slice fa f.L.length fc) f.L.length (f.L.map Value.string) (by simp [Act.eval, Act.put]) (World.ownsRow.alloc r1 _) ⟨V5.heap.size, 0, none⟩ 1 1 [.string x] (by simp [Act.eval, Act.put]) rfl (cell_one_new _ _ _) (by simp [Value.oneCell']) hb1' hb2' (Nat.zero_le _) ?_; intro v' w1 hown1 hgrow1 hat1; obtain ⟨g', cap', hv'⟩ := ownsRow_succ hown1; subst hv'; obtain ⟨s0, t0, u3, hpost⟩ := hfin.out V5 _ w1 _ hbv.out hown1 hgrow1 hat1) | go_simp))
  all_goals (
    go_wp2
    go_ret
    exact ⟨rfl, hpost.out⟩)

end Go.Proofs.YtjajnhemgphefaaGreatDoor

namespace Go.Proofs.YtjajnhemgphefaaGreatDoor
open Go.RowKit Go.Shelf Go.Maps
set_option linter.unusedVariables false
set_option linter.unusedSimpArgs false

theorem add_off {b off k : Nat} : (⟨b, off, none⟩ : Addr).add k = ⟨b, off + k, none⟩ := by
  unfold Addr.add
  split
  · rename_i h; subst h; rfl
  · rfl
/-- A text is taken away. -/
def delR (L : List ByteArray) (x : ByteArray) : List ByteArray := L.eraseP (sameB x)
theorem del_split : ∀ (L : List ByteArray) (x : ByteArray), delR L x = L.take (L.findIdx (sameB x)) ++ L.drop (L.findIdx (sameB x) + 1)
  | [], x => rfl
  | a :: l, x => by
    unfold delR
    rw [List.findIdx_cons]
    cases hs : sameB x a with
    | true => rw [List.eraseP_cons_of_pos hs]; simp
    | false =>
      rw [List.eraseP_cons_of_neg (by rw [hs]; decide)]
      have := del_split l x
      unfold delR at this
      rw [this]
      simp

end Go.Proofs.YtjajnhemgphefaaGreatDoor

namespace Go.Proofs.YtjajnhemgphefaaGreatDoor
open Go.RowKit Go.Shelf Go.Maps
set_option linter.unusedVariables false
set_option linter.unusedSimpArgs false

/-- The blocks of the feeds behind a change of one of them. -/
def sfSet (Sf : Nat → Nat → Prop) (w w' : World) (k : Nat) : Nat → Nat → Prop := fun i j => if i = k then (Sf k j ∨ w.heap.size ≤ j) ∧ FTy w' j else Sf i j
def sSet (S : Nat → Prop) (Sf : Nat → Nat → Prop) (w w' : World) (k : Nat) : Nat → Prop := fun j => (S j ∧ ¬ Sf k j) ∨ sfSet Sf w w' k k j
theorem sfSet_same {Sf : Nat → Nat → Prop} {w w' : World} {k j : Nat} : sfSet Sf w w' k k j ↔ ((Sf k j ∨ w.heap.size ≤ j) ∧ FTy w' j) := by unfold sfSet; rw [if_pos rfl]
theorem sfSet_ne {Sf : Nat → Nat → Prop} {w w' : World} {k i j : Nat} (h : i ≠ k) : sfSet Sf w w' k i j ↔ Sf i j := by unfold sfSet; rw [if_neg h]

theorem EngV.feedSet {w w' : World} {S : Nat → Prop} {be : Nat} {e : Eg} {vr vn vk vf : Value} {bm rb b45 b87 : Nat} {bfs : List Nat} {Sf : Nat → Nat → Prop} (h : EngV w S be e vr vn vk vf bm rb b45 b87 bfs Sf)
    {k : Nat} (hk : k < bfs.length) {b : Nat} {f' : Fs} (hf : FdAt w' (fun j => Sf k j ∨ w.heap.size ≤ j) bfs[k] b f') (hc : Chg w w' (Sf k)) :
    EngV w' (sSet S Sf w w' k) be { e with fds := e.fds.set k f' } vr vn vk vf bm rb b45 b87 bfs (sfSet Sf w w' k) := by
  have hty : ∀ (j : Nat) (c : Array Value) (t : TypeId), w.heap[j]? = some (Obj.cells c t (0, 0)) → t ≠ 198 → t ≠ 71 → ¬ Sf k j := by
    intro j c t hj h1 h2 hs
    obtain ⟨c', t', e1, e2⟩ := (h.sub k j hs).2
    rw [hj] at e1; cases e1
    exact e2.elim h1 h2
  have hkT : ∀ (j : Nat) (c : Array Value) (t : TypeId), w.heap[j]? = some (Obj.cells c t (0, 0)) → t ≠ 198 → t ≠ 71 → w'.heap[j]? = some (Obj.cells c t (0, 0)) := fun j c t hj h1 h2 => (hc.block j (Array.getElem?_eq_some_iff.1 hj).1 (hty j c t hj h1 h2)).trans hj
  have hkS : ∀ j, S j → ¬ Sf k j → w'.heap[j]? = w.heap[j]? := fun j hs hn => hc.block j (h.typ j hs).lt hn
  have hkept : ∀ g, vk.ownBlock = some g → ¬ Sf k g := fun g hg => by
    obtain ⟨_, c, hcc⟩ := owns_block h.kept hg
    exact hty g c _ hcc (by decide) (by decide)
  have hnames : ∀ g, vn.ownBlock = some g → ¬ Sf k g := fun g hg => by
    obtain ⟨_, c, hcc⟩ := owns_block h.names hg
    exact hty g c _ hcc (by decide) (by decide)
  have hfrow : ∀ g, vf.ownBlock = some g → ¬ Sf k g := fun g hg => by
    obtain ⟨_, c, hcc⟩ := owns_block h.frow hg
    exact hty g c _ hcc (by decide) (by decide)
  refine ⟨hkT _ _ _ h.blk (by decide) (by decide), h.rules.keep (fun j c t ht hj => hkT j c t hj (by rcases ht with rfl | rfl | rfl <;> decide) (by rcases ht with rfl | rfl | rfl <;> decide)), owns_kept h.names (fun g c _ hj => hkT g c _ hj (by decide) (by decide)), own_keep h.kept (fun g hg hlt => hkS g (h.own.2.1 g hg) (hkept g hg)), h.md.kept (fun j es c hm => (hc.block j (Array.getElem?_eq_some_iff.1 hm).1 (fun hs => ?_)).trans hm), by simp [h.len], own_keep h.frow (fun g hg hlt => hkS g (h.own.2.2.1 g hg) (hfrow g hg)), fun i hi hi' => ?_, fun i j hij m h1 h2 => ?_, fun i m hm => ?_, ⟨.inl ⟨h.own.1, hty _ _ _ h.blk (by decide) (by decide)⟩, fun g hg => .inl ⟨h.own.2.1 g hg, hkept g hg⟩, fun g hg => .inl ⟨h.own.2.2.1 g hg, hfrow g hg⟩, fun g hg => .inl ⟨h.own.2.2.2 g hg, hnames g hg⟩⟩, fun m hm => ?_⟩
  · exact WTy.notMap hm (h.sub k j hs).2.w
  · by_cases hik : i = k
    · subst hik
      refine ⟨b, ?_⟩
      have hfe : (e.fds.set i f')[i]'hi' = f' := List.getElem_set_self _
      rw [hfe]
      exact (hf.narrow).wider (fun j hj => sfSet_same.2 hj)
    · obtain ⟨b', hf'⟩ := h.feed i hi (by simpa using hi')
      refine ⟨b', ?_⟩
      have hfe : (e.fds.set k f')[i]'hi' = e.fds[i]'(by simpa using hi') := List.getElem_set_ne (by omega) _
      rw [hfe]
      exact (hf'.keep (ex := Sf k) hc.block (fun j hj hk' => h.sep i k hik j hj hk') (fun j c hj hs => hty j c _ hj (by decide) (by decide) hs)).wider (fun j hj => (sfSet_ne hik).2 hj)
  · by_cases hik : i = k
    · subst hik
      rw [sfSet_ne (Ne.symm hij)] at h2
      rw [sfSet_same] at h1
      rcases h1.1 with h1 | h1
      · exact h.sep i j hij m h1 h2
      · have := (h.sub j m h2).2.lt; omega
    · rw [sfSet_ne hik] at h1
      by_cases hjk : j = k
      · subst hjk
        rw [sfSet_same] at h2
        rcases h2.1 with h2 | h2
        · exact h.sep i j hij m h1 h2
        · have := (h.sub i m h1).2.lt; omega
      · rw [sfSet_ne hjk] at h2
        exact h.sep i j hij m h1 h2
  · by_cases hik : i = k
    · subst hik
      exact ⟨.inr hm, (sfSet_same.1 hm).2⟩
    · rw [sfSet_ne hik] at hm
      exact ⟨.inl ⟨(h.sub i m hm).1, h.sep i k hik m hm⟩, (h.sub i m hm).2.same (hkS m (h.sub i m hm).1 (h.sep i k hik m hm))⟩
  · rcases hm with ⟨h1, h2⟩ | hm
    · exact (h.typ m h1).same (hkS m h1 h2)
    · exact (sfSet_same.1 hm).2.w
theorem sSet_sub {S : Nat → Prop} {Sf : Nat → Nat → Prop} {w w' : World} {k : Nat} (hs : ∀ j, Sf k j → S j) : ∀ j, sSet S Sf w w' k j → S j ∨ w.heap.size ≤ j := by
  rintro j (⟨h, _⟩ | h)
  · exact .inl h
  · exact (sfSet_same.1 h).1.imp (hs j) id


/-- What Poll answers. -/
def PollE (S : Nat → Prop) (be : Nat) (e : Eg) (i : Int) (w : World) (en : Ending) (w' : World) : Prop :=
  (¬ (0 ≤ i ∧ i < e.fds.length) ∧ en = .returned (.tuple #[.agg #[.int .i64 0, .int .i64 0, .string ⟨#[]⟩, .int .i64 0], .int .i64 6]) ∧ Below w.heap.size w w') ∨
  ∃ (k : Nat) (hk : k < e.fds.length), i = k ∧ ∃ r f', PollR e.M e.mark e.fds[k] r f' ∧ en = .returned (.tuple #[.agg #[.int .i64 r.kind, .int .i64 r.seq, .string r.text, .int .i64 r.time], .int .i64 0]) ∧ EngPost S be { e with fds := e.fds.set k f' } w w'

theorem ptr_cell {W : World} {b T : Nat} {v : Value} {l : List Nat} (h : W.ownsRow b T 1 v l.length (l.map ptrV)) {k : Nat} (hk : k < l.length) :
    ∃ (g c : Nat), v = .slice (some ⟨g, 0, none⟩) l.length c ∧ W.cell? ⟨g, k, none⟩ = some (.pointer (some ⟨l[k], 0, none⟩)) ∧ g < W.heap.size := by
  obtain ⟨_, ⟨_, hz⟩ | ⟨g, c, cur, hv, _, hw, _, _, _, htk⟩⟩ := h
  · omega
  refine ⟨g, c, hv, ?_, (Array.getElem?_eq_some_iff.1 hw).1⟩
  have e1 : (l.map ptrV)[k]? = some (ptrV l[k]) := by rw [List.getElem?_map, List.getElem?_eq_getElem hk]; rfl
  rw [← htk, List.getElem?_take, if_pos (by omega)] at e1
  simp only [World.cell?, hw]
  have e2 : cur[k]? = some (ptrV l[k]) := by simpa using e1
  exact e2

theorem putRc_box (W : World) (N : Nat) (r : Rc) (h : W.heap[N]? = some (Obj.cells #[.int .i64 0, .int .i64 0, .string ⟨#[]⟩, .int .i64 0] 71 (0, 0))) : (putRc W N r).heap[N]? = some (Obj.cells #[.int .i64 r.kind, .int .i64 r.seq, .string r.text, .int .i64 r.time] 71 (0, 0)) :=
  heap_set (heap_set (heap_set (heap_set h 0 (.int .i64 r.kind)) 1 (.int .i64 r.seq)) 2 (.string r.text)) 3 (.int .i64 r.time)
set_option maxRecDepth 100000 in
set_option maxHeartbeats 4000000 in
theorem epoll_any (S : Nat → Prop) (be : Nat) (e : Eg) (i : Int) (w : World) (h : EngAt w S be e) (hok : EgOk e) (ht : ∀ f ∈ e.fds, f.told ≤ 1000000000000) :
    Calls Tryz.prog 29 #[.pointer (some ⟨be, 0, none⟩), .int .i64 i] w (PollE S be e i w) := by
  obtain ⟨vr, vn, vk, vf, bm, rb, b45, b87, bfs, Sf, hv⟩ := h
  obtain ⟨fa, fc, hff⟩ := owns_form hv.frow
  subst hff
  obtain ⟨N, hN⟩ : ∃ N, w.heap.size = N := ⟨_, rfl⟩
  have hf3 := hok.f3
  have HLEN : Hid _ := hv.len
  have hlen : bfs.length ≤ 3 := by rw [hv.len]; exact hf3
  have hw1 : IntKind.i64.wrap ((bfs.length : Int) - 1) = (bfs.length : Int) - 1 := wrap_small _ (by omega) (by omega)
  have hblk := hv.blk
  have hbe := hv.lt
  have c8 : ∀ O, (w.alloc O).cell? ⟨be, 8, none⟩ = some (.slice fa bfs.length fc) := fun O => cell_later ((Below.refl _ w).alloc (Nat.le_refl _) O) (by simp [World.cell?, hblk])
  obtain ⟨W0, hW0⟩ : ∃ W0, w.alloc (.cells #[.int .i64 0, .int .i64 0, .string ⟨#[]⟩, .int .i64 0] 71) = W0 := ⟨_, rfl⟩
  have hb0 : Below w.heap.size w W0 := by rw [← hW0]; exact (Below.refl _ w).alloc (Nat.le_refl _) _
  have hs0 : W0.heap.size = N + 1 := by rw [← hW0, ← hN]; simp
  have eN : W0.heap[N]? = some (Obj.cells #[.int .i64 0, .int .i64 0, .string ⟨#[]⟩, .int .i64 0] 71 (0, 0)) := by rw [← hW0, ← hN]; exact World.alloc_heap_new w _
  have c8' : W0.cell? ⟨be, 8, none⟩ = some (.slice fa bfs.length fc) := by rw [← hW0]; exact c8 _
  have z0 : W0.cell? ⟨N, 0, none⟩ = some (.int .i64 0) := by simp [World.cell?, eN]
  have z1 : W0.cell? ⟨N, 1, none⟩ = some (.int .i64 0) := by simp [World.cell?, eN]
  have z2 : W0.cell? ⟨N, 2, none⟩ = some (.string ⟨#[]⟩) := by simp [World.cell?, eN]
  have z3 : W0.cell? ⟨N, 3, none⟩ = some (.int .i64 0) := by simp [World.cell?, eN]
  have x0 : W0.frozen? ⟨N, 0, none⟩ = false := by simp [World.frozen?, eN]
  have x1 : W0.frozen? ⟨N, 1, none⟩ = false := by simp [World.frozen?, eN]
  have x2 : W0.frozen? ⟨N, 2, none⟩ = false := by simp [World.frozen?, eN]
  have x3 : W0.frozen? ⟨N, 3, none⟩ = false := by simp [World.frozen?, eN]
  by_cases hi : 0 ≤ i ∧ i < e.fds.length
  · obtain ⟨k, rfl⟩ : ∃ k : Nat, i = k := ⟨i.toNat, by omega⟩
    have hk : k < e.fds.length := by omega
    have hkb : k < bfs.length := by rw [hv.len]; exact hk
    have hwi : Hid (∀ W, Calls Tryz.prog 43 #[.int .i64 (k : Int), .int .i64 0, .int .i64 ((bfs.length : Int) - 1)] W fun e' w' => e' = .returned (.bool true) ∧ W = w') := fun W => by
      refine (isWithin_any k 0 ((bfs.length : Int) - 1) W).mono ?_
      rintro e' w' ⟨rfl, rfl⟩
      refine ⟨ret_bool ?_, rfl⟩
      rw [Bool.and_eq_true]
      simp only [decide_eq_true_eq]
      omega
    have hv0 : EngV W0.drew S be e vr vn vk (.slice fa bfs.length fc) bm rb b45 b87 bfs Sf := hv.below hb0.drew
    obtain ⟨bb, hfd⟩ := hv0.feed k hkb hk
    have hmem := List.getElem_mem hk
    have hfo := hok.fds _ hmem
    have hpo : Hid (Calls Tryz.prog 59 #[.pointer (some ⟨bfs[k], 0, none⟩), .map (some bm), .int .i64 e.mark] W0.drew fun e' w' => ∃ r f', e' = .returned (.agg #[.int .i64 r.kind, .int .i64 r.seq, .string r.text, .int .i64 r.time]) ∧ PollR e.M e.mark e.fds[k] r f' ∧ FdAt w' (fun j => Sf k j ∨ W0.drew.heap.size ≤ j) bfs[k] bb f' ∧ Chg W0.drew w' (Sf k)) :=
      fpoll_any (Sf k) bfs[k] bb e.fds[k] bm 5000 e.M e.mark W0.drew hfd (fun j hj => (hv0.sub k j hj).2.lt) ⟨by have := hfo.2.1; omega, by have := hfo.2.2; omega⟩ hfo.1 hv0.md (by decide) (fun x y hx => md_size hok _ x y hx) (ht _ hmem)
    obtain ⟨g, cap, hg1, ck, hg2⟩ := ptr_cell (W := W0) hv0.frow hkb
    cases hg1
    have c7 : W0.cell? ⟨be, 7, none⟩ = some (.map (some bm)) := by have := hv0.blk; have h2 : W0.heap[be]? = _ := this; simp [World.cell?, h2]
    have c4 : W0.cell? ⟨be, 4, none⟩ = some (.int .i64 e.mark) := by have := hv0.blk; have h2 : W0.heap[be]? = _ := this; simp [World.cell?, h2]
    have hSN : ∀ j, S j → j < N := fun j hj => by rw [← hN]; exact (hv.typ j hj).lt
    have hfin : Hid (∀ W1 r f', PollR e.M e.mark e.fds[k] r f' → FdAt W1 (fun j => Sf k j ∨ W0.drew.heap.size ≤ j) bfs[k] bb f' → Chg W0.drew W1 (Sf k) → W1.heap[N]? = some (Obj.cells #[.int .i64 0, .int .i64 0, .string ⟨#[]⟩, .int .i64 0] 71 (0, 0)) ∧ EngPost S be { e with fds := e.fds.set k f' } w (putRc W1 N r)) := fun W1 r f' hp hf hc => by
      have hSfN : ¬ Sf k N := fun hs => by have := hSN N (hv.sub k N hs).1; omega
      have hWN : W1.heap[N]? = some (Obj.cells #[.int .i64 0, .int .i64 0, .string ⟨#[]⟩, .int .i64 0] 71 (0, 0)) := (hc.block N (by show N < W0.heap.size; omega) hSfN).trans eN
      refine ⟨hWN, sSet S Sf W0.drew W1 k, ⟨_, _, _, _, _, _, _, _, _, _, (hv0.feedSet hkb hf hc).keep (ex := fun j => j = N) ⟨rfl, rfl, rfl, by simp [putRc], fun j _ hj => putRc_other W1 N r hj⟩ (fun j hj e => ?_) (fun j _ e => ?_)⟩, fun j hj => ?_, ?_⟩
      · subst e
        rcases hj with ⟨hj, _⟩ | hj
        · have := hSN _ hj; omega
        · rcases (sfSet_same.1 hj).1 with h1 | h1
          · exact hSfN h1
          · have h2 : W0.heap.size ≤ j := h1
            omega
      · subst e; exact ⟨_, _, hWN, by simp⟩
      · rcases sSet_sub (fun j hj => (hv0.sub k j hj).1) j hj with h1 | h1
        · exact .inl h1
        · right
          have h2 : W0.heap.size ≤ j := h1
          omega
      · refine putRc_chg ⟨hc.os.trans hb0.os, hc.tape.trans hb0.tape, hc.output.trans hb0.output, ?_, fun j hj hx => (hc.block j ?_ (fun hs => hx (hv.sub k j hs).1)).trans (hb0.block j hj)⟩ (by omega) r
        · have h1 : W0.heap.size ≤ W1.heap.size := hc.size
          omega
        · show j < W0.heap.size
          omega
    have HOK : Hid (∀ en w' r f', PollR e.M e.mark e.fds[k] r f' → en = .returned (.tuple #[.agg #[.int .i64 r.kind, .int .i64 r.seq, .string r.text, .int .i64 r.time], .int .i64 0]) → EngPost S be { e with fds := e.fds.set k f' } w w' → PollE S be e k w en w') := fun en w' r f' h1 h2 h3 => .inr ⟨k, hk, rfl, r, f', h1, h2, h3⟩
    have hkb' : (k : Int) < (bfs.length : Int) := by omega
    clear hi hv hblk hv0 hfd hfo hmem hok ht hSN c8
    generalize hbk : bfs[k] = bfk at *
    clear hbk
    go_enter Tryz.func29, Tryz.ntmps29
    go_wp2_with (go_at_call 43; refine (hwi.out _).mono ?_; rintro e' w' ⟨rfl, hw'⟩; subst hw')
    have hpc : Hid (∀ W1 r f', PollR e.M e.mark e.fds[k] r f' → FdAt W1 (fun j => Sf k j ∨ W0.drew.heap.size ≤ j) bfk bb f' → Chg W0.drew W1 (Sf k) → W1.cell? ⟨N, 0, none⟩ = some (.int .i64 0) ∧ W1.cell? ⟨N, 1, none⟩ = some (.int .i64 0) ∧ W1.cell? ⟨N, 2, none⟩ = some (.string ⟨#[]⟩) ∧ W1.cell? ⟨N, 3, none⟩ = some (.int .i64 0) ∧ W1.frozen? ⟨N, 0, none⟩ = false ∧ W1.frozen? ⟨N, 1, none⟩ = false ∧ W1.frozen? ⟨N, 2, none⟩ = false ∧ W1.frozen? ⟨N, 3, none⟩ = false) := fun W1 r f' h1 h2 h3 => by
      have p1 := (hfin.out W1 r f' h1 h2 h3).1
      exact ⟨by simp [World.cell?, p1], by simp [World.cell?, p1], by simp [World.cell?, p1], by simp [World.cell?, p1], by simp [World.frozen?, p1], by simp [World.frozen?, p1], by simp [World.frozen?, p1], by simp [World.frozen?, p1]⟩
    refine wp_mono (Q := fun en a' W2 => match en with | Exit.normal => (∃ W1 r f', PollR e.M e.mark e.fds[k] r f' ∧ FdAt W1 (fun j => Sf k j ∨ W0.drew.heap.size ≤ j) bfk bb f' ∧ Chg W0.drew W1 (Sf k) ∧ W2 = putRc W1 N r ∧ a' = { tmps := #[.pointer (some ⟨be, 0, none⟩), .int .i64 k, undef, undef, .pointer (some ⟨N, 0, none⟩), .int .i64 0, .int .i64 k, .pointer (some ⟨be, 0, none⟩), .pointer (some ⟨be, 0, none⟩), .pointer (some ⟨be, 8, none⟩), .slice (some ⟨g, 0, none⟩) bfs.length fc, .int .i64 bfs.length, .int .i64 ((bfs.length : Int) - 1), .bool true, .bool false, undef, .pointer (some ⟨be, 0, none⟩), .pointer (some ⟨be, 0, none⟩), .pointer (some ⟨be, 8, none⟩), .slice (some ⟨g, 0, none⟩) bfs.length fc, .int .i64 k, .pointer (some ⟨g, k, none⟩), .pointer (some ⟨bfk, 0, none⟩), .pointer (some ⟨be, 0, none⟩), .pointer (some ⟨be, 0, none⟩), .pointer (some ⟨be, 7, none⟩), .map (some bm), .pointer (some ⟨be, 0, none⟩), .pointer (some ⟨be, 0, none⟩), .pointer (some ⟨be, 4, none⟩), .int .i64 e.mark, .agg #[.int .i64 r.kind, .int .i64 r.seq, .string r.text, .int .i64 r.time]], defers := [] }) | _ => False) ?reg ?rest
    case reg =>
      first | (go_region_with (go_at_call 59; refine Calls.mono hpo.out ?_; rintro e' W1 ⟨r, f', rfl, hp, hf, hc⟩; obtain ⟨u0, u1, u2, u3, y0, y1, y2, y3⟩ := hpc.out W1 r f' hp hf hc)) | fail
      all_goals exact ⟨W1, r, f', hp, hf, hc, rfl, rfl⟩
    case rest =>
      rintro (_ | _ | _ | _ | _ | _) a' W2 hq
      all_goals first | exact hq.elim | skip
      obtain ⟨W1, r, f', hp, hf, hc, rfl, rfl⟩ := hq
      obtain ⟨p1, hE⟩ := hfin.out W1 r f' hp hf hc
      have q1 := putRc_box W1 N r p1
      have u0 : (putRc W1 N r).cell? ⟨N, 0, none⟩ = some (.int .i64 r.kind) := by simp [World.cell?, q1]
      have u1 : (putRc W1 N r).cell? ⟨N, 1, none⟩ = some (.int .i64 r.seq) := by simp [World.cell?, q1]
      have u2 : (putRc W1 N r).cell? ⟨N, 2, none⟩ = some (.string r.text) := by simp [World.cell?, q1]
      have u3 : (putRc W1 N r).cell? ⟨N, 3, none⟩ = some (.int .i64 r.time) := by simp [World.cell?, q1]
      clear p1 q1
      generalize hW3 : putRc W1 N r = W3 at *
      go_wp2
      refine bodyPost_ret (v := .tuple #[.agg #[.int .i64 r.kind, .int .i64 r.seq, .string r.text, .int .i64 r.time], .int .i64 0]) (by simp [results, Tryz.results29, go_sem, u0, u1, u2, u3]) rfl ?_
      exact HOK.out _ _ r f' hp rfl hE
  · have hwi : Hid (∀ W, Calls Tryz.prog 43 #[.int .i64 i, .int .i64 0, .int .i64 ((bfs.length : Int) - 1)] W fun e' w' => e' = .returned (.bool false) ∧ W = w') := fun W => by
      refine (isWithin_any i 0 ((bfs.length : Int) - 1) W).mono ?_
      rintro e' w' ⟨rfl, rfl⟩
      refine ⟨ret_bool ?_, rfl⟩
      rw [Bool.and_eq_false_iff]
      simp only [decide_eq_false_iff_not]
      have hle := hv.len
      omega
    have HI : Hid _ := hi
    clear hi hv hblk c8
    go_enter Tryz.func29, Tryz.ntmps29
    go_wp2_with (go_at_call 43; refine (hwi.out _).mono ?_; rintro e' w' ⟨rfl, hw'⟩; subst hw')
    refine bodyPost_ret (v := .tuple #[.agg #[.int .i64 0, .int .i64 0, .string ⟨#[]⟩, .int .i64 0], .int .i64 6]) (by simp [results, Tryz.results29, go_sem, z0, z1, z2, z3]) rfl ?_
    refine .inl ⟨HI.out, rfl, ?_⟩
    exact (((hb0.setCell (p := ⟨N, 0, none⟩) (by simp; omega) _).setCell (p := ⟨N, 1, none⟩) (by simp; omega) _).setCell (p := ⟨N, 2, none⟩) (by simp; omega) _).setCell (p := ⟨N, 3, none⟩) (by simp; omega) _

end Go.Proofs.YtjajnhemgphefaaGreatDoor
