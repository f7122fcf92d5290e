/-
  What Folded and Ebbed call beside the program: take, of a Reset, an Add and a Marker.
  The engine in memory: its block and the row of its facts are changed; a feed is added.
  The engine in memory: a feed is added, a fact is kept.
  The engine: what accept and move call: the names copied, no facts to delete.
-/
import Derived.Test.YtjajnhemgphefaaGreatDoorJdKpQ
import Derived.Test.YtjajnhemgphefaaGreatDoorJdEgK
import Derived.Test.YtjajnhemgphefaaGreatDoorJdMoB
import Derived.Test.YtjajnhemgphefaaGreatDoorJdEgF
import Derived.Test.YtjajnhemgphefaaGreatDoorJdGr
namespace Go.Proofs.YtjajnhemgphefaaGreatDoor
open Go.RowKit Go.Shelf Go.Maps
set_option linter.unusedVariables false
set_option linter.unusedSimpArgs false

/-- What take leaves in memory. -/
def TkPost (B : Nat) (v : Value) (f' : Fo) (w w' : World) : Prop := ∃ v', FoAt w' B f' v' ∧ Chg w w' (fun k => k = B ∨ v.ownBlock = some k) ∧ ∀ g, v'.ownBlock = some g → v.ownBlock = some g ∨ w.heap.size ≤ g

/-- A Fold's block with its number raised. -/
theorem fo_next {w : World} {B : Nat} {f : Fo} {v : Value} (h : FoAt w B f v) (O : Obj) (n : Int) : ((w.alloc O).setCell ⟨B, 1, none⟩ (.int .i64 n)).heap[B]? = some (Obj.cells #[v, .int .i64 n, .bool f.any] 61 (0, 0)) ∧ ((w.alloc O).setCell ⟨B, 1, none⟩ (.int .i64 n)).ownsRow 0 9 1 v f.L.length (f.L.map Value.string) ∧ Chg w ((w.alloc O).setCell ⟨B, 1, none⟩ (.int .i64 n)) (fun k => k = B ∨ v.ownBlock = some k) := by
  have hB := (Array.getElem?_eq_some_iff.1 h.1).1
  have h1 : (w.alloc O).heap[B]? = _ := (Below.heap_alloc w O B hB).trans h.1
  have h2 := World.ownsRow.alloc h.2 O
  exact ⟨heap_set h1 1 _, owns_set h2 ⟨B, 1, none⟩ _ (owns_ne h2 h1 (by decide)), ((Chg.refl w _).alloc O).setCell ⟨B, 1, none⟩ _ (fun _ => .inl rfl)⟩

set_option maxRecDepth 100000 in
set_option maxHeartbeats 4000000 in
theorem take_mark (B : Nat) (f : Fo) (v : Value) (t : Int) (w : World) (h : FoAt w B f v) (hany : f.any = true) (hn : f.next ≤ 1000000000) (hl : f.L.length ≤ 100000) :
    Calls Tryz.prog 56 #[.pointer (some ⟨B, 0, none⟩), .agg #[.int .i64 4, .int .i64 f.next, .string ⟨#[]⟩, .int .i64 t]] w fun e w' => e = .returned (.bool true) ∧ TkPost B v { f with next := f.next + 1 } w w' := by
  obtain ⟨fa, fc, hff⟩ := owns_form h.2
  subst hff
  have hB := (Array.getElem?_eq_some_iff.1 h.1).1
  obtain ⟨N, hN⟩ : ∃ N, w.heap.size = N := ⟨_, rfl⟩
  have hne : B ≠ N := by omega
  obtain ⟨W0, hW0⟩ : ∃ W0, w.alloc (.cells #[.int .i64 4, .int .i64 f.next, .string ⟨#[]⟩, .int .i64 t] 71) = W0 := ⟨_, rfl⟩
  have hb0 : Below w.heap.size w W0 := by rw [← hW0]; exact (Below.refl _ w).alloc (Nat.le_refl _) _
  have eB := (hb0.block B hB).trans h.1
  have eN : W0.heap[N]? = some (Obj.cells #[.int .i64 4, .int .i64 f.next, .string ⟨#[]⟩, .int .i64 t] 71 (0, 0)) := by rw [← hW0, ← hN]; exact World.alloc_heap_new w _
  have c0 : W0.cell? ⟨B, 0, none⟩ = some (.slice fa f.L.length fc) := by simp [World.cell?, eB]
  have c1 : W0.cell? ⟨B, 1, none⟩ = some (.int .i64 f.next) := by simp [World.cell?, eB]
  have c2 : W0.cell? ⟨B, 2, none⟩ = some (.bool true) := by simp [World.cell?, eB, hany]
  have y1 : W0.frozen? ⟨B, 1, none⟩ = false := by simp [World.frozen?, eB]
  have d0 : W0.cell? ⟨N, 0, none⟩ = some (.int .i64 4) := by simp [World.cell?, eN]
  have d1 : W0.cell? ⟨N, 1, none⟩ = some (.int .i64 f.next) := by simp [World.cell?, eN]
  have d2 : W0.cell? ⟨N, 2, none⟩ = some (.string ⟨#[]⟩) := by simp [World.cell?, eN]
  have hw1 : IntKind.i64.wrap ((f.next : Int) + 1) = (f.next : Int) + 1 := wrap_small _ (by omega) (by omega)
  have hall : Hid (∀ q, let W1 := (W0.drewN q).setCell ⟨B, 1, none⟩ (.int .i64 ((f.next : Int) + 1)); W1.cell? ⟨B, 0, none⟩ = some (.slice fa f.L.length fc) ∧ W1.cell? ⟨N, 0, none⟩ = some (.int .i64 4) ∧ W1.cell? ⟨N, 2, none⟩ = some (.string ⟨#[]⟩) ∧ Hid (∀ W, Below W1.heap.size W1 W → Calls Tryz.prog 58 #[.slice fa f.L.length fc, .string ⟨#[]⟩] W fun e w' => e = .returned (.int .i64 (placeR f.L ⟨#[]⟩)) ∧ W = w') ∧ Hid (∀ W, Below W1.heap.size W1 W → TkPost B (.slice fa f.L.length fc) { f with next := f.next + 1 } w W)) := by
    intro q W1
    obtain ⟨n1, n2, n3⟩ := fo_next h (.cells #[.int .i64 4, .int .i64 f.next, .string ⟨#[]⟩, .int .i64 t] 71) ((f.next : Int) + 1)
    rw [hW0] at n1 n2 n3
    have hb1 : Below (W0.setCell ⟨B, 1, none⟩ (.int .i64 ((f.next : Int) + 1))).heap.size (W0.setCell ⟨B, 1, none⟩ (.int .i64 ((f.next : Int) + 1))) W1 := ⟨rfl, rfl, rfl, Nat.le_refl _, fun _ _ => rfl⟩
    have m1 : W1.heap[B]? = _ := n1
    have m2 := own_below n2 hb1
    have m3 : Chg w W1 (fun k => k = B ∨ (Value.slice fa f.L.length fc).ownBlock = some k) := ⟨n3.os, n3.tape, n3.output, n3.size, n3.block⟩
    have eN1 : W1.heap[N]? = some (Obj.cells #[.int .i64 4, .int .i64 f.next, .string ⟨#[]⟩, .int .i64 t] 71 (0, 0)) := (Below.heap_setCell W0 _ _ _ (by show N ≠ B; omega)).trans eN
    refine ⟨by simp [World.cell?, m1], by simp [World.cell?, eN1], by simp [World.cell?, eN1], fun W hb => (place_any _ f.L _ W (StrRd.own (own_below m2 hb)) hl).mono (by rintro e w' ⟨h1, h2⟩; exact ⟨h1, h2.symm⟩), fun W hb => ⟨_, ⟨(hb.block B (Array.getElem?_eq_some_iff.1 m1).1).trans m1, own_below m2 hb⟩, ⟨hb.os.trans m3.os, hb.tape.trans m3.tape, hb.output.trans m3.output, Nat.le_trans m3.size hb.size, fun k hk hx => (hb.block k (Nat.lt_of_lt_of_le hk m3.size)).trans (m3.block k hk hx)⟩, fun g hg => .inl hg⟩⟩
  clear h eB eN hb0
  generalize placeR f.L ⟨#[]⟩ = px at *
  go_enter Tryz.func56, Tryz.ntmps56
  go_wp2_with fail
  go_quiet (fail)
  obtain ⟨g0, q0, q2, hpl, hfin⟩ := hall.out nq
  obtain ⟨W1, hW1⟩ : ∃ W1, (W0.drewN nq).setCell ⟨B, 1, none⟩ (.int .i64 ((f.next : Int) + 1)) = W1 := ⟨_, rfl⟩
  rw [hW1] at g0 q0 q2 hpl hfin
  have hpd : Hid _ := hpl.out W1.drew (Below.refl _ W1).drew
  have hbd : Hid (Below W1.heap.size W1 W1.drew) := (Below.refl _ W1).drew
  clear hall
  go_wp2_with fail
  first | (go_region_with (go_at_call 58; refine Calls.mono hpd.out ?_; rintro e' w' ⟨rfl, hw'⟩; subst hw')) | fail
  all_goals (
    go_wp2
    go_ret
    exact ⟨rfl, hfin.out _ hbd.out⟩)

set_option maxRecDepth 100000 in
set_option maxHeartbeats 4000000 in
theorem take_reset (B : Nat) (f : Fo) (v : Value) (w : World) (h : FoAt w B f v) (hn : f.next ≤ 1000000000) (hl : f.L.length ≤ 100000) :
    Calls Tryz.prog 56 #[.pointer (some ⟨B, 0, none⟩), .agg #[.int .i64 1, .int .i64 f.next, .string ⟨#[]⟩, .int .i64 0]] w fun e w' => e = .returned (.bool true) ∧ TkPost B v ⟨[], f.next + 1, true⟩ w w' := by
  obtain ⟨fa, fc, hff⟩ := owns_form h.2
  subst hff
  have hB := (Array.getElem?_eq_some_iff.1 h.1).1
  obtain ⟨N, hN⟩ : ∃ N, w.heap.size = N := ⟨_, rfl⟩
  have hne : B ≠ N := by omega
  obtain ⟨W0, hW0⟩ : ∃ W0, w.alloc (.cells #[.int .i64 1, .int .i64 f.next, .string ⟨#[]⟩, .int .i64 0] 71) = W0 := ⟨_, rfl⟩
  have hb0 : Below w.heap.size w W0 := by rw [← hW0]; exact (Below.refl _ w).alloc (Nat.le_refl _) _
  have eB := (hb0.block B hB).trans h.1
  have eN : W0.heap[N]? = some (Obj.cells #[.int .i64 1, .int .i64 f.next, .string ⟨#[]⟩, .int .i64 0] 71 (0, 0)) := by rw [← hW0, ← hN]; exact World.alloc_heap_new w _
  have c0 : W0.cell? ⟨B, 0, none⟩ = some (.slice fa f.L.length fc) := by simp [World.cell?, eB]
  have c1 : W0.cell? ⟨B, 1, none⟩ = some (.int .i64 f.next) := by simp [World.cell?, eB]
  have c2 : W0.cell? ⟨B, 2, none⟩ = some (.bool f.any) := by simp [World.cell?, eB]
  have y1 : W0.frozen? ⟨B, 1, none⟩ = false := by simp [World.frozen?, eB]
  have d0 : W0.cell? ⟨N, 0, none⟩ = some (.int .i64 1) := by simp [World.cell?, eN]
  have d1 : W0.cell? ⟨N, 1, none⟩ = some (.int .i64 f.next) := by simp [World.cell?, eN]
  have d2 : W0.cell? ⟨N, 2, none⟩ = some (.string ⟨#[]⟩) := by simp [World.cell?, eN]
  have hw1 : IntKind.i64.wrap ((f.next : Int) + 1) = (f.next : Int) + 1 := wrap_small _ (by omega) (by omega)
  have hall : Hid (∀ q, let W1 := (W0.drewN q).setCell ⟨B, 1, none⟩ (.int .i64 ((f.next : Int) + 1)); W1.cell? ⟨B, 0, none⟩ = some (.slice fa f.L.length fc) ∧ W1.cell? ⟨N, 0, none⟩ = some (.int .i64 1) ∧ W1.cell? ⟨N, 2, none⟩ = some (.string ⟨#[]⟩) ∧ W1.cell? ⟨N, 3, none⟩ = some (.int .i64 0) ∧ W1.frozen? ⟨B, 0, none⟩ = false ∧ W1.cell? ⟨B, 2, none⟩ = some (.bool f.any) ∧ W1.frozen? ⟨B, 2, none⟩ = false ∧ Hid (∀ W, Below W1.heap.size W1 W → Calls Tryz.prog 58 #[.slice fa f.L.length fc, .string ⟨#[]⟩] W fun e w' => e = .returned (.int .i64 (placeR f.L ⟨#[]⟩)) ∧ W = w') ∧ Hid (TkPost B (.slice fa f.L.length fc) ⟨[], f.next + 1, true⟩ w ((W1.drew.setCell ⟨B, 0, none⟩ (.slice none 0 0)).setCell ⟨B, 2, none⟩ (.bool true)))) := by
    intro q W1
    obtain ⟨n1, n2, n3⟩ := fo_next h (.cells #[.int .i64 1, .int .i64 f.next, .string ⟨#[]⟩, .int .i64 0] 71) ((f.next : Int) + 1)
    rw [hW0] at n1 n2 n3
    have hb1 : Below (W0.setCell ⟨B, 1, none⟩ (.int .i64 ((f.next : Int) + 1))).heap.size (W0.setCell ⟨B, 1, none⟩ (.int .i64 ((f.next : Int) + 1))) W1 := ⟨rfl, rfl, rfl, Nat.le_refl _, fun _ _ => rfl⟩
    have m1 : W1.heap[B]? = _ := n1
    have m2 := own_below n2 hb1
    have m3 : Chg w W1 (fun k => k = B ∨ (Value.slice fa f.L.length fc).ownBlock = some k) := ⟨n3.os, n3.tape, n3.output, n3.size, n3.block⟩
    have eN1 : W1.heap[N]? = some (Obj.cells #[.int .i64 1, .int .i64 f.next, .string ⟨#[]⟩, .int .i64 0] 71 (0, 0)) := (Below.heap_setCell W0 _ _ _ (by show N ≠ B; omega)).trans eN
    refine ⟨by simp [World.cell?, m1], by simp [World.cell?, eN1], by simp [World.cell?, eN1], by simp [World.cell?, eN1], by simp [World.frozen?, m1], by simp [World.cell?, m1], by simp [World.frozen?, m1], fun W hb => (place_any _ f.L _ W (StrRd.own (own_below m2 hb)) hl).mono (by rintro e w' ⟨h1, h2⟩; exact ⟨h1, h2.symm⟩), .slice none 0 0, ⟨heap_set (heap_set (w := W1.drew) m1 0 (.slice none 0 0)) 2 (.bool true), ⟨rfl, .inl ⟨rfl, rfl⟩⟩⟩, (m3.drew.setCell ⟨B, 0, none⟩ _ (fun _ => .inl rfl)).setCell ⟨B, 2, none⟩ _ (fun _ => .inl rfl), fun g hg => by cases hg⟩
  clear h eB eN hb0
  generalize placeR f.L ⟨#[]⟩ = px at *
  generalize f.any = fan at *
  cases fan
  · go_enter Tryz.func56, Tryz.ntmps56
    go_wp2_with fail
    go_quiet (fail)
    obtain ⟨g0, q0, q2, q3, z0, g2, z2, hpl, hfin⟩ := hall.out nq
    obtain ⟨W1, hW1⟩ : ∃ W1, (W0.drewN nq).setCell ⟨B, 1, none⟩ (.int .i64 ((f.next : Int) + 1)) = W1 := ⟨_, rfl⟩
    rw [hW1] at g0 q0 q2 q3 z0 g2 z2 hpl hfin
    have hpd : Hid _ := hpl.out W1.drew (Below.refl _ W1).drew
    have hbd : Hid (Below W1.heap.size W1 W1.drew) := (Below.refl _ W1).drew
    clear hall
    go_wp2_with fail
    first | (go_region_with (go_at_call 58; refine Calls.mono hpd.out ?_; rintro e' w' ⟨rfl, hw'⟩; subst hw')) | fail
    all_goals (
      go_wp2
      go_ret
      exact ⟨rfl, hfin.out⟩)
  · go_enter Tryz.func56, Tryz.ntmps56
    go_wp2_with fail
    go_quiet (fail)
    obtain ⟨g0, q0, q2, q3, z0, g2, z2, hpl, hfin⟩ := hall.out nq
    obtain ⟨W1, hW1⟩ : ∃ W1, (W0.drewN nq).setCell ⟨B, 1, none⟩ (.int .i64 ((f.next : Int) + 1)) = W1 := ⟨_, rfl⟩
    rw [hW1] at g0 q0 q2 q3 z0 g2 z2 hpl hfin
    have hpd : Hid _ := hpl.out W1.drew (Below.refl _ W1).drew
    have hbd : Hid (Below W1.heap.size W1 W1.drew) := (Below.refl _ W1).drew
    clear hall
    go_wp2_with fail
    first | (go_region_with (go_at_call 58; refine Calls.mono hpd.out ?_; rintro e' w' ⟨rfl, hw'⟩; subst hw')) | fail
    all_goals (
      go_wp2
      go_ret
      exact ⟨rfl, hfin.out⟩)

end Go.Proofs.YtjajnhemgphefaaGreatDoor

namespace Go.Proofs.YtjajnhemgphefaaGreatDoor
open Go.RowKit Go.Shelf Go.Maps
set_option linter.unusedVariables false
set_option linter.unusedSimpArgs false

/-- The engine's own block, and the row of its facts, are changed. -/
theorem EngV.put {W W' : World} {S : Nat → Prop} {be : Nat} {e e' : Eg} {vr vn vk vf vn' vk' : Value} {bm bm' rb b45 b87 : Nat} {bfs : List Nat} {Sf : Nat → Nat → Prop} (h : EngV W S be e vr vn vk vf bm rb b45 b87 bfs Sf)
    (hc : Chg W W' (fun k => k = be ∨ vk.ownBlock = some k)) (hrs : e'.rs = e.rs) (hfds : e'.fds = e.fds)
    (blk : W'.heap[be]? = some (Obj.cells #[vr, .int .i64 e'.win, .int .i64 e'.lat, .int .i64 e'.que, .int .i64 e'.mark, vn', vk', .map (some bm'), vf] 101 (0, 0)))
    (names : W'.ownsRow 0 9 1 vn' e'.names.length (e'.names.map Value.string)) (kept : W'.ownsRow 0 161 4 vk' e'.kept.length (e'.kept.flatMap lastC)) (md : MdAt W' bm' 5000 e'.M) :
    EngV W' (fun k => (S k ∧ vk.ownBlock ≠ some k) ∨ vk'.ownBlock = some k ∨ vn'.ownBlock = some k) be e' vr vn' vk' vf bm' rb b45 b87 bfs Sf := by
  have hex : ∀ (j : Nat) (c : Array Value) (t : TypeId), W.heap[j]? = some (Obj.cells c t (0, 0)) → t ≠ 101 → t ≠ 161 → ¬ (j = be ∨ vk.ownBlock = some j) := by
    rintro j c t hj h1 h2 (rfl | hs)
    · rw [h.blk] at hj; cases hj; exact h1 rfl
    · obtain ⟨_, c', hcc⟩ := owns_block h.kept hs
      rw [hj] at hcc; cases hcc; exact h2 rfl
  have hkT : ∀ (j : Nat) (c : Array Value) (t : TypeId), W.heap[j]? = some (Obj.cells c t (0, 0)) → t ≠ 101 → t ≠ 161 → W'.heap[j]? = some (Obj.cells c t (0, 0)) := fun j c t hj h1 h2 => (hc.block j (Array.getElem?_eq_some_iff.1 hj).1 (hex j c t hj h1 h2)).trans hj
  have hF : ∀ j, FTy W j → ¬ (j = be ∨ vk.ownBlock = some j) := by
    rintro j ⟨c, t, h1, h2⟩
    exact hex j c t h1 (by rcases h2 with rfl | rfl <;> decide) (by rcases h2 with rfl | rfl <;> decide)
  have hv : ∀ g, vf.ownBlock = some g → ¬ (g = be ∨ vk.ownBlock = some g) := by
    intro g hg
    obtain ⟨_, c, hcc⟩ := owns_block h.frow hg
    exact hex g c _ hcc (by decide) (by decide)
  have hbk : vk.ownBlock ≠ some be := fun hs => by
    obtain ⟨_, c, hcc⟩ := owns_block h.kept hs
    rw [h.blk] at hcc; cases hcc
  refine ⟨blk, ?_, names, kept, md, by rw [hfds]; exact h.len, own_keep h.frow (fun g hg hlt => hc.block g hlt (hv g hg)), fun i hi hi' => ?_, h.sep, fun i k hk => ⟨.inl ⟨(h.sub i k hk).1, fun e => hF k (h.sub i k hk).2 (.inr e)⟩, (h.sub i k hk).2.same (hc.block k (h.sub i k hk).2.lt (hF k (h.sub i k hk).2))⟩, ⟨.inl ⟨h.own.1, hbk⟩, fun g hg => .inr (.inl hg), fun g hg => .inl ⟨h.own.2.2.1 g hg, fun e => hv g hg (.inr e)⟩, fun g hg => .inr (.inr hg)⟩, fun k hk => ?_⟩
  · rw [hrs]
    exact h.rules.keep (fun j c t ht hj => hkT j c t hj (by rcases ht with rfl | rfl | rfl <;> decide) (by rcases ht with rfl | rfl | rfl <;> decide))
  · obtain ⟨b, hf⟩ := h.feed i hi (by rw [← hfds]; exact hi')
    refine ⟨b, ?_⟩
    have he : e'.fds[i]'hi' = e.fds[i]'(by rw [← hfds]; exact hi') := by simp only [hfds]
    rw [he]
    exact hf.keep (ex := fun k => k = be ∨ vk.ownBlock = some k) hc.block (fun k hs => hF k (h.sub i k hs).2) (fun k c hj => hex k c _ hj (by decide) (by decide))
  · rcases hk with ⟨h1, h2⟩ | hk | hk
    · by_cases hke : k = be
      · subst hke; exact ⟨_, _, blk, .inl rfl⟩
      · exact (h.typ k h1).same (hc.block k (h.typ k h1).lt (fun e => e.elim hke h2))
    · obtain ⟨_, c, hcc⟩ := owns_block kept hk
      exact ⟨_, _, hcc, .inr (.inl rfl)⟩
    · obtain ⟨_, c, hcc⟩ := owns_block names hk
      exact ⟨_, _, hcc, .inr (.inr (.inr (.inr (.inr rfl))))⟩

/-- A feed is added. -/
theorem EngV.addFeed {W W' : World} {S : Nat → Prop} {be : Nat} {e : Eg} {vr vn vk vf vf' : Value} {bm rb b45 b87 : Nat} {bfs : List Nat} {Sf : Nat → Nat → Prop} (h : EngV W S be e vr vn vk vf bm rb b45 b87 bfs Sf) {B b : Nat} {f : Fs} {SB : Nat → Prop}
    (hc : Chg W W' (fun k => k = be ∨ vf.ownBlock = some k))
    (blk : W'.heap[be]? = some (Obj.cells #[vr, .int .i64 e.win, .int .i64 e.lat, .int .i64 e.que, .int .i64 e.mark, vn, vk, .map (some bm), vf'] 101 (0, 0)))
    (frow : W'.ownsRow 0 120 1 vf' (bfs.length + 1) ((bfs ++ [B]).map ptrV)) (hf : FdAt W' SB B b f) (hSB : ∀ k, SB k → W.heap.size ≤ k ∧ FTy W' k) :
    EngV W' (fun k => ((S k ∧ vf.ownBlock ≠ some k) ∨ vf'.ownBlock = some k) ∨ SB k) be { e with fds := e.fds ++ [f] } vr vn vk vf' bm rb b45 b87 (bfs ++ [B]) (fun i k => if i = bfs.length then SB k else Sf i k) := by
  have hex : ∀ (j : Nat) (c : Array Value) (t : TypeId), W.heap[j]? = some (Obj.cells c t (0, 0)) → t ≠ 101 → t ≠ 120 → ¬ (j = be ∨ vf.ownBlock = some j) := by
    rintro j c t hj h1 h2 (rfl | hs)
    · rw [h.blk] at hj; cases hj; exact h1 rfl
    · obtain ⟨_, c', hcc⟩ := owns_block h.frow hs
      rw [hj] at hcc; cases hcc; exact h2 rfl
  have hkT : ∀ (j : Nat) (c : Array Value) (t : TypeId), W.heap[j]? = some (Obj.cells c t (0, 0)) → t ≠ 101 → t ≠ 120 → W'.heap[j]? = some (Obj.cells c t (0, 0)) := fun j c t hj h1 h2 => (hc.block j (Array.getElem?_eq_some_iff.1 hj).1 (hex j c t hj h1 h2)).trans hj
  have hF : ∀ j, FTy W j → ¬ (j = be ∨ vf.ownBlock = some j) := by
    rintro j ⟨c, t, h1, h2⟩
    exact hex j c t h1 (by rcases h2 with rfl | rfl <;> decide) (by rcases h2 with rfl | rfl <;> decide)
  have hv : ∀ g, vk.ownBlock = some g → ¬ (g = be ∨ vf.ownBlock = some g) := by
    intro g hg
    obtain ⟨_, c, hcc⟩ := owns_block h.kept hg
    exact hex g c _ hcc (by decide) (by decide)
  have hvn : ∀ g, vn.ownBlock = some g → ¬ (g = be ∨ vf.ownBlock = some g) := by
    intro g hg
    obtain ⟨_, c, hcc⟩ := owns_block h.names hg
    exact hex g c _ hcc (by decide) (by decide)
  have hbk : vf.ownBlock ≠ some be := fun hs => by
    obtain ⟨_, c, hcc⟩ := owns_block h.frow hs
    rw [h.blk] at hcc; cases hcc
  refine ⟨blk, h.rules.keep (fun j c t ht hj => hkT j c t hj (by rcases ht with rfl | rfl | rfl <;> decide) (by rcases ht with rfl | rfl | rfl <;> decide)), owns_kept h.names (fun g c _ hj => hkT g c _ hj (by decide) (by decide)), own_keep h.kept (fun g hg hlt => hc.block g hlt (hv g hg)), h.md.kept (fun j es c hm => (hc.block j (Array.getElem?_eq_some_iff.1 hm).1 (fun hs => ?_)).trans hm), by simp [h.len], by rw [List.length_append]; exact frow, fun i hi hi' => ?_, fun i j hij k h1 h2 => ?_, fun i k hk => ?_, ⟨.inl (.inl ⟨h.own.1, hbk⟩), fun g hg => .inl (.inl ⟨h.own.2.1 g hg, fun e => hv g hg (.inr e)⟩), fun g hg => .inl (.inr hg), fun g hg => .inl (.inl ⟨h.own.2.2.2 g hg, fun e => hvn g hg (.inr e)⟩)⟩, fun k hk => ?_⟩
  · rcases hs with rfl | hs
    · rw [h.blk] at hm; cases hm
    · obtain ⟨_, c', hcc⟩ := owns_block h.frow hs
      rw [hm] at hcc; cases hcc
  · have hle := h.len
    by_cases hib : i = bfs.length
    · subst hib
      refine ⟨b, ?_⟩
      have e1 : (bfs ++ [B])[bfs.length]'hi = B := by simp
      have e2 : (e.fds ++ [f])[bfs.length]'hi' = f := by simp [hle]
      rw [e1, e2]
      simpa using hf
    · have hi2 : i < bfs.length := by simp at hi; omega
      obtain ⟨b', hf'⟩ := h.feed i hi2 (by omega)
      refine ⟨b', ?_⟩
      have e1 : (bfs ++ [B])[i]'hi = bfs[i] := List.getElem_append_left hi2
      have e2 : (e.fds ++ [f])[i]'hi' = e.fds[i]'(by omega) := List.getElem_append_left (by omega)
      rw [e1, e2]
      simp only [if_neg hib]
      exact hf'.keep (ex := fun k => k = be ∨ vf.ownBlock = some k) hc.block (fun k hs => hF k (h.sub i k hs).2) (fun k c hj => hex k c _ hj (by decide) (by decide))
  · by_cases hib : i = bfs.length
    · have hjb : j ≠ bfs.length := by omega
      simp only [if_pos hib] at h1
      simp only [if_neg hjb] at h2
      have := (hSB k h1).1
      have := (h.sub j k h2).2.lt
      omega
    · simp only [if_neg hib] at h1
      by_cases hjb : j = bfs.length
      · simp only [if_pos hjb] at h2
        have := (hSB k h2).1
        have := (h.sub i k h1).2.lt
        omega
      · simp only [if_neg hjb] at h2
        exact h.sep i j hij k h1 h2
  · by_cases hib : i = bfs.length
    · simp only [if_pos hib] at hk
      exact ⟨.inr hk, (hSB k hk).2⟩
    · simp only [if_neg hib] at hk
      have hs := h.sub i k hk
      exact ⟨.inl (.inl ⟨hs.1, fun e => hF k hs.2 (.inr e)⟩), hs.2.same (hc.block k hs.2.lt (hF k hs.2))⟩
  · rcases hk with (⟨h1, h2⟩ | hk) | hk
    · by_cases hke : k = be
      · subst hke; exact ⟨_, _, blk, .inl rfl⟩
      · exact (h.typ k h1).same (hc.block k (h.typ k h1).lt (fun e => e.elim hke h2))
    · obtain ⟨_, c, hcc⟩ := owns_block frow hk
      exact ⟨_, _, hcc, .inr (.inr (.inl rfl))⟩
    · exact (hSB k hk).2.w

end Go.Proofs.YtjajnhemgphefaaGreatDoor

namespace Go.Proofs.YtjajnhemgphefaaGreatDoor
open Go.RowKit Go.Shelf Go.Maps
set_option linter.unusedVariables false
set_option linter.unusedSimpArgs false

/-- What an engine's method does to memory: it is an engine still. -/
def EngPost (S : Nat → Prop) (be : Nat) (e' : Eg) (w w' : World) : Prop := ∃ S', EngAt w' S' be e' ∧ (∀ k, S' k → S k ∨ w.heap.size ≤ k) ∧ Chg w w' S
theorem EngPost.same {w w' : World} {S : Nat → Prop} {be : Nat} {e : Eg} (h : EngAt w S be e) (hb : Below w.heap.size w w') : EngPost S be e w w' := ⟨S, h.below hb, fun _ hk => .inl hk, Chg.ofBelow _ hb⟩
theorem EngPost.trans {w w1 w2 : World} {S : Nat → Prop} {be : Nat} {e1 e2 : Eg} (h : EngPost S be e1 w w1) (k : ∀ S1, EngAt w1 S1 be e1 → EngPost S1 be e2 w1 w2) : EngPost S be e2 w w2 := by
  obtain ⟨S1, h1, h2, h3⟩ := h
  obtain ⟨S2, k1, k2, k3⟩ := k S1 h1
  refine ⟨S2, k1, fun j hj => ?_, k3.os.trans h3.os, k3.tape.trans h3.tape, k3.output.trans h3.output, Nat.le_trans h3.size k3.size, fun j hj hs => (k3.block j (Nat.lt_of_lt_of_le hj h3.size) (fun e => ?_)).trans (h3.block j hj hs)⟩
  · rcases k2 j hj with e | e
    · exact h2 j e
    · exact .inr (Nat.le_trans h3.size e)
  · rcases h2 j e with e | e
    · exact hs e
    · omega

/-- A fact is kept. -/
theorem acc_mem {w W5 w1 : World} {S : Nat → Prop} {be : Nat} {e : Eg} {vr vn vk vf vn' v' : Value} {bm rb b45 b87 nb : Nat} {bfs : List Nat} {Sf : Nat → Nat → Prop} (hv : EngV w S be e vr vn vk vf bm rb b45 b87 bfs Sf) (hb : Below w.heap.size w W5)
    {ns : List ByteArray} (hnb : w.heap.size ≤ nb) (hnm : W5.ownsRow nb 9 1 vn' ns.length (ns.map Value.string)) {d : Gd × Int} (O : Obj) (hown1 : w1.ownsRow 0 161 4 v' (e.kept.length + 1) (e.kept.flatMap lastC ++ lastC d))
    (hgrow : ((W5.setCell ⟨be, 5, none⟩ vn').alloc O).grownBy w1 vk.ownBlock) (hat : v'.ownBlock = vk.ownBlock ∨ v'.ownBlock = some ((W5.setCell ⟨be, 5, none⟩ vn').alloc O).heap.size) :
    w1.cell? ⟨be, 6, none⟩ = some vk ∧ w1.frozen? ⟨be, 6, none⟩ = false ∧ EngPost S be { e with names := ns, kept := e.kept ++ [d] } w (w1.setCell ⟨be, 6, none⟩ v') := by
  have h5 := hv.below hb
  have hbe := (Array.getElem?_eq_some_iff.1 h5.blk).1
  have hbk : vk.ownBlock ≠ some be := fun hs => by
    obtain ⟨_, c, hcc⟩ := owns_block h5.kept hs
    rw [h5.blk] at hcc; cases hcc
  have hsz : ((W5.setCell ⟨be, 5, none⟩ vn').alloc O).heap.size = W5.heap.size + 1 := by simp
  have b1 : w1.heap[be]? = some (Obj.cells #[vr, .int .i64 e.win, .int .i64 e.lat, .int .i64 e.que, .int .i64 e.mark, vn', vk, .map (some bm), vf] 101 (0, 0)) := by
    refine (hgrow.block be (by rw [hsz]; omega) (fun e => hbk e.symm)).trans ?_
    exact (Below.heap_alloc _ _ _ (by simpa using hbe)).trans (heap_set h5.blk 5 vn')
  have hc1 : Chg W5 w1 (fun k => k = be ∨ vk.ownBlock = some k) := (((Chg.refl W5 _).setCell ⟨be, 5, none⟩ vn' (fun _ => .inl rfl)).alloc O).grown hgrow (fun k hk _ => .inr hk)
  have hc2 : Chg W5 (w1.setCell ⟨be, 6, none⟩ v') (fun k => k = be ∨ vk.ownBlock = some k) := hc1.setCell ⟨be, 6, none⟩ v' (fun _ => .inl rfl)
  have hty : ∀ (k : Nat) (c : Array Value) (t : TypeId), W5.heap[k]? = some (Obj.cells c t (0, 0)) → t ≠ 101 → t ≠ 161 → ¬ (k = be ∨ vk.ownBlock = some k) := by
    rintro j c t hj h1 h2 (rfl | hs)
    · rw [h5.blk] at hj; cases hj; exact h1 rfl
    · obtain ⟨_, c', hcc⟩ := owns_block h5.kept hs
      rw [hj] at hcc; cases hcc; exact h2 rfl
  have hput := h5.put (W' := w1.setCell ⟨be, 6, none⟩ v') (e' := { e with names := ns, kept := e.kept ++ [d] }) (vn' := vn') (vk' := v') (bm' := bm) hc2 rfl rfl (heap_set b1 6 v')
    (own_keep (ownsRow_lower hnm (Nat.zero_le _)) (fun g hg hlt => by
      obtain ⟨_, c, hcc⟩ := owns_block hnm hg
      exact hc2.block g hlt (hty g c _ hcc (by decide) (by decide))))
    (by
      show World.ownsRow _ 0 161 4 v' (e.kept ++ [d]).length ((e.kept ++ [d]).flatMap lastC)
      rw [List.length_append, List.flatMap_append]
      simp only [List.length_cons, List.length_nil, Nat.zero_add, List.flatMap_cons, List.flatMap_nil, List.append_nil]
      exact owns_set hown1 ⟨be, 6, none⟩ v' (owns_ne hown1 b1 (by decide)))
    (h5.md.kept (fun j es c hm => (hc2.block j (Array.getElem?_eq_some_iff.1 hm).1 (by
      rintro (rfl | hs)
      · rw [h5.blk] at hm; cases hm
      · obtain ⟨_, c', hcc⟩ := owns_block h5.kept hs
        rw [hm] at hcc; cases hcc)).trans hm))
  refine ⟨by simp [World.cell?, b1], by simp [World.frozen?, b1], _, ⟨_, _, _, _, _, _, _, _, _, _, hput⟩, fun k hk => ?_, ?_⟩
  · rcases hk with ⟨h1, _⟩ | h1 | h1
    · exact .inl h1
    · rcases hat with e1 | e1
      · exact .inl (hv.own.2.1 k (e1.symm.trans h1))
      · right
        rw [e1, hsz] at h1
        cases h1
        have := hb.size; omega
    · obtain ⟨hk1, _⟩ := owns_block hnm h1
      exact .inr (Nat.le_trans hnb hk1)
  · refine ⟨hc2.os.trans hb.os, hc2.tape.trans hb.tape, hc2.output.trans hb.output, Nat.le_trans hb.size hc2.size, fun k hk hs => (hc2.block k (Nat.lt_of_lt_of_le hk hb.size) (fun e => hs ?_)).trans (hb.block k hk)⟩
    rcases e with rfl | e
    · exact hv.own.1
    · exact hv.own.2.1 k e

/-- A feed is added. -/
theorem sub_mem {w W4 w1 : World} {S : Nat → Prop} {be : Nat} {e : Eg} {vr vn vk vf va v' : Value} {bm rb b45 b87 bt B : Nat} {bfs : List Nat} {Sf : Nat → Nat → Prop} (hv : EngV w S be e vr vn vk vf bm rb b45 b87 bfs Sf) (hb : Below w.heap.size w W4)
    {a : Am} (hB : w.heap.size ≤ B) (hB4 : W4.heap[B]? = some (Obj.cells #[.string a.rel, va, .bool true, .slice none 0 0, .slice none 0 0, .int .i64 0] 198 (0, 0))) (hs : SealT W4 bt va a.args) (O : Obj) (hown1 : w1.ownsRow 0 120 1 v' (bfs.length + 1) (bfs.map ptrV ++ [ptrV B]))
    (hgrow : (W4.alloc O).grownBy w1 vf.ownBlock) (hat : v'.ownBlock = vf.ownBlock ∨ v'.ownBlock = some (W4.alloc O).heap.size) :
    w1.cell? ⟨be, 8, none⟩ = some vf ∧ w1.frozen? ⟨be, 8, none⟩ = false ∧ EngPost S be { e with fds := e.fds ++ [⟨a, true, [], [], 0⟩] } w (w1.setCell ⟨be, 8, none⟩ v') := by
  have h4 := hv.below hb
  have hbe := (Array.getElem?_eq_some_iff.1 h4.blk).1
  have hbk : vf.ownBlock ≠ some be := fun hs => by
    obtain ⟨_, c, hcc⟩ := owns_block h4.frow hs
    rw [h4.blk] at hcc; cases hcc
  have hsz : (W4.alloc O).heap.size = W4.heap.size + 1 := by simp
  have b1 : w1.heap[be]? = some (Obj.cells #[vr, .int .i64 e.win, .int .i64 e.lat, .int .i64 e.que, .int .i64 e.mark, vn, vk, .map (some bm), vf] 101 (0, 0)) :=
    (hgrow.block be (by rw [hsz]; omega) (fun e => hbk e.symm)).trans ((Below.heap_alloc _ _ _ hbe).trans h4.blk)
  have hc1 : Chg W4 w1 (fun k => k = be ∨ vf.ownBlock = some k) := ((Chg.refl W4 _).alloc O).grown hgrow (fun k hk _ => .inr hk)
  have hc2 : Chg W4 (w1.setCell ⟨be, 8, none⟩ v') (fun k => k = be ∨ vf.ownBlock = some k) := hc1.setCell ⟨be, 8, none⟩ v' (fun _ => .inl rfl)
  have hty : ∀ (k : Nat) (c : Array Value) (t : TypeId), W4.heap[k]? = some (Obj.cells c t (0, 0)) → t ≠ 101 → t ≠ 120 → (w1.setCell ⟨be, 8, none⟩ v').heap[k]? = some (Obj.cells c t (0, 0)) := by
    intro j c t hj h1 h2
    refine (hc2.block j (Array.getElem?_eq_some_iff.1 hj).1 ?_).trans hj
    rintro (rfl | hs)
    · rw [h4.blk] at hj; cases hj; exact h1 rfl
    · obtain ⟨_, c', hcc⟩ := owns_block h4.frow hs
      rw [hj] at hcc; cases hcc; exact h2 rfl
  have hcw : Chg w (w1.setCell ⟨be, 8, none⟩ v') (fun k => k = be ∨ vf.ownBlock = some k) := ⟨hc2.os.trans hb.os, hc2.tape.trans hb.tape, hc2.output.trans hb.output, Nat.le_trans hb.size hc2.size, fun k hk hs => (hc2.block k (Nat.lt_of_lt_of_le hk hb.size) hs).trans (hb.block k hk)⟩
  have hBB := hty B _ _ hB4 (by decide) (by decide)
  have hadd := hv.addFeed (W' := w1.setCell ⟨be, 8, none⟩ v') (vf' := v') (B := B) (b := bt) (f := ⟨a, true, [], [], 0⟩) (SB := fun k => k = B) hcw (heap_set b1 8 v')
    (by rw [List.map_append]; exact owns_set hown1 ⟨be, 8, none⟩ v' (owns_ne hown1 b1 (by decide)))
    ⟨va, _, _, hBB, hs.kept (fun k c _ hc => hty k c _ hc (by decide) (by decide)), ⟨rfl, .inl ⟨rfl, rfl⟩⟩, ⟨rfl, .inl ⟨rfl, rfl⟩⟩, fun g hg => (by cases hg), fun g hg => (by cases hg), rfl⟩
    (fun k hk => by subst hk; exact ⟨hB, _, _, hBB, .inl rfl⟩)
  refine ⟨by simp [World.cell?, b1], by simp [World.frozen?, b1], _, ⟨_, _, _, _, _, _, _, _, _, _, hadd⟩, fun k hk => ?_, ?_⟩
  · rcases hk with (⟨h1, _⟩ | h1) | h1
    · exact .inl h1
    · rcases hat with e1 | e1
      · exact .inl (hv.own.2.2.1 k (e1.symm.trans h1))
      · right
        rw [e1, hsz] at h1
        cases h1
        have := hb.size; omega
    · right; rw [h1]; exact hB
  · refine hcw.mono (fun k _ e => ?_)
    rcases e with rfl | e
    · exact hv.own.1
    · exact hv.own.2.2.1 k e

end Go.Proofs.YtjajnhemgphefaaGreatDoor

namespace Go.Proofs.YtjajnhemgphefaaGreatDoor
open Go.RowKit Go.Shelf Go.Maps
set_option linter.unusedVariables false
set_option linter.unusedSimpArgs false

theorem cloneN_any (v : Value) (ns : List ByteArray) (b : Nat) (w : World) (h : w.ownsRow b 9 1 v ns.length (ns.map Value.string)) (hl : ns.length ≤ 1000) :
    Calls Tryz.prog 83 #[v] w fun e w' => ∃ (oa : Option Addr) (oc : Nat), e = .returned (.slice oa ns.length oc) ∧ w'.ownsRow w.heap.size 9 1 (.slice oa ns.length oc) ns.length (ns.map Value.string) ∧ Below w.heap.size w w' := by
  obtain ⟨h0, ⟨hv, hn⟩ | ⟨g, cap, cur, hv, hb, hw, h1, h2, h3, h4⟩⟩ := h
  · subst hv
    have hz : ns = [] := List.eq_nil_of_length_eq_zero hn
    subst hz
    refine (Tryz.slices_Clone_string_nil 0 0 w).mono ?_
    rintro e w' ⟨rfl, rfl⟩
    exact ⟨none, 0, rfl, ⟨rfl, .inl ⟨rfl, rfl⟩⟩, Below.refl _ _⟩
  · subst hv
    refine (Tryz.slices_Clone_string g 0 ns.length cap ns w (Nat.le_refl _) (by omega) (fun j hj => ?_)).mono ?_
    · have e1 : (ns.map Value.string)[j]? = some (.string ns[j]) := by rw [List.getElem?_map, List.getElem?_eq_getElem hj]; rfl
      rw [← h4, List.getElem?_take, if_pos (by omega)] at e1
      simp only [World.cell?, hw, Nat.zero_add]
      have e2 : cur[j]? = some (.string ns[j]) := by simpa using e1
      rw [e2, List.getD_eq_getElem?_getD, List.getElem?_eq_getElem hj]
      rfl
    · rintro e w' ⟨v', rfl, ho, _, hb'⟩
      rw [List.take_length] at ho
      obtain ⟨oa, oc, hof⟩ := owns_form ho
      subst hof
      exact ⟨oa, oc, rfl, ho, hb'⟩

set_option maxHeartbeats 400000 in
theorem idxD_nil (f : Value) (w : World) : Calls Tryz.prog 145 #[.slice none 0 0, .func (.func 86) #[] #[f]] w fun e w' => e = .returned (.int .i64 (-1)) ∧ Below w.heap.size w w' := by
  go_enter Tryz.func145, Tryz.ntmps145
  go_wp2
  go_loopw [8] (fun i wr => i = .int .i64 0 ∧ Below w.heap.size w wr) (fun i _ => 0)
  case atStart => exact ⟨rfl, Below.refl _ _⟩
  case round =>
    obtain ⟨rfl, hb⟩ := hrel
    go_wp2
    go_ret
    exact ⟨rfl, hb⟩

theorem deleteD_nil (f : Value) (w : World) : Calls Tryz.prog 85 #[.slice none 0 0, .func (.func 86) #[] #[f]] w fun e w' => e = .returned (.slice none 0 0) ∧ Below w.heap.size w w' := by
  have hI : Hid (∀ W, Calls Tryz.prog 145 #[.slice none 0 0, .func (.func 86) #[] #[f]] W fun e w' => e = .returned (.int .i64 (-1)) ∧ Below W.heap.size W w') := fun W => idxD_nil f W
  go_enter Tryz.func85, Tryz.ntmps85
  go_wp2_with (go_at_call 145; refine (hI.out _).mono ?_; rintro e W1 ⟨rfl, hb1⟩)
  go_ret
  exact ⟨rfl, hb1⟩

/-- AddNames over the arguments of an atom. -/
theorem addArgs_any (v : Value) (ns : List ByteArray) (base Bs b : Nat) (va : Value) (ts : List Tm) (w : World) (hbox : w.heap[Bs]? = some (Obj.cells #[va] 90 (0, 0))) (hs : SealT w b va ts) (hl : ts.length ≤ 2) (hown : w.ownsRow base 9 1 v ns.length (ns.map Value.string)) (hbw : base ≤ w.heap.size) (hn : ns.length ≤ 900) :
    Calls Tryz.prog 76 #[v, .func (.func 144) #[] #[.pointer (some ⟨Bs, 0, none⟩)]] w fun e w' => ∃ (oa : Option Addr) (oc : Nat), e = .returned (.slice oa (nmL ns ts).length oc) ∧ w'.ownsRow base 9 1 (.slice oa (nmL ns ts).length oc) (nmL ns ts).length ((nmL ns ts).map Value.string) ∧ Below base w w' := by
  refine (addNames_seq 144 #[.pointer (some ⟨Bs, 0, none⟩)] ts (fun _ => True) ts.length v ns base w (enters_of Tryz.func144 (by kernel_rfl) rfl) (fun O => ?_) (by omega) hown hbw hn).mono ?_
  · have hb : Below w.heap.size w (w.alloc O) := (Below.refl _ w).alloc (Nat.le_refl _) O
    exact valuesT_seq Bs b va ts (w.alloc O) ((hb.block _ (Array.getElem?_eq_some_iff.1 hbox).1).trans hbox) (hs.rk (RuleKept.ofBelow hb)) (by omega)
  · rintro e w' ⟨v', rfl, ho, hso⟩
    obtain ⟨oa, oc, hof⟩ := owns_form ho
    subst hof
    exact ⟨oa, oc, rfl, ho, ⟨hso.os, hso.tape, hso.output, hso.size, fun k hk => hso.block k (by omega) (.inl hk)⟩⟩

theorem fnew_any (x : ByteArray) (va : Value) (ta : Option Addr) (tn tc : Nat) (hva : va = .slice ta tn tc) (w : World) :
    Calls Tryz.prog 54 #[.agg #[.string x, va]] w fun e w' => ∃ B, e = .returned (.pointer (some ⟨B, 0, none⟩)) ∧ w.heap.size ≤ B ∧ w'.heap[B]? = some (Obj.cells #[.string x, va, .bool true, .slice none 0 0, .slice none 0 0, .int .i64 0] 198 (0, 0)) ∧ Below w.heap.size w w' := by
  subst hva
  go_enter Tryz.func54, Tryz.ntmps54
  go_wp2
  go_ret
  refine ⟨w.heap.size + 1, rfl, by omega, ?_, ((Below.refl _ w).alloc (Nat.le_refl _) _).alloc (by simp) _⟩
  have := World.alloc_heap_new (w.alloc (.cells #[.string x, .slice ta tn tc] 92)) (.cells #[.string x, .slice ta tn tc, .bool true, .slice none 0 0, .slice none 0 0, .int .i64 0] 198)
  rw [World.size_alloc] at this
  exact this

end Go.Proofs.YtjajnhemgphefaaGreatDoor
