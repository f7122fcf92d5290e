/-
  The engine: move, its first half: the watermark, and the facts that are over.
-/
import Derived.Test.YtjajnhemgphefaaGreatDoorJEgX
import Derived.Test.YtjajnhemgphefaaGreatDoorJEgT
namespace Go.Proofs.YtjajnhemgphefaaGreatDoor
open Go.RowKit Go.Shelf Go.Maps
set_option linter.unusedVariables false
set_option linter.unusedSimpArgs false

/-- The facts of a list that have begun, with their ends. -/
def begF (win m : Int) (l : List (Gd × Int)) : List (Gd × Int) := (l.filter (fun d => decide (d.2 ≤ m))).map (fun d => (d.1, d.2 + win))
theorem begF_take (win m : Int) {l : List (Gd × Int)} {k : Nat} (h : k < l.length) : begF win m (l.take (k + 1)) = begF win m (l.take k) ++ (if (l[k]).2 ≤ m then [((l[k]).1, (l[k]).2 + win)] else []) := by
  unfold begF
  rw [List.take_succ_eq_append_getElem h, List.filter_append, List.map_append]
  congr 1
  by_cases hb : (l[k]).2 ≤ m
  · rw [if_pos hb]; simp [hb]
  · rw [if_neg hb]; simp [hb]
theorem begF_len (win m : Int) (l : List (Gd × Int)) : (begF win m l).length ≤ l.length := by unfold begF; rw [List.length_map]; exact List.length_filter_le _ _

theorem infoLa : (Tryz.prog.info? 172).map (fun i => (i.zero, i.size, i.bytes)) = some (some (.agg #[.string ⟨#[]⟩, .string ⟨#[]⟩, .string ⟨#[]⟩, .int .i64 0]), 4, 56) := by kernel_rfl
/-- DeleteFunc as move calls it, whether there is a row or none. -/
theorem delete_any (v : Value) (l : List (Gd × Int)) (Bx be : Nat) (win mark : Int) (w : World) (hS : w.ownsRow 0 161 4 v l.length (l.flatMap lastC)) (hl : l.length ≤ 1000) (hok : ∀ d ∈ l, 0 ≤ d.2 ∧ d.2 ≤ 1000000) (hw : 0 ≤ win ∧ win ≤ 1000)
    (hx : w.heap[Bx]? = some (Obj.cells #[.pointer (some ⟨be, 0, none⟩)] 40 (0, 0))) (cs : Array Value) (hb : w.heap[be]? = some (Obj.cells cs 101 (0, 0))) (h1 : cs[1]? = some (.int .i64 win)) (h4 : cs[4]? = some (.int .i64 mark)) :
    Calls Tryz.prog 85 #[v, .func (.func 86) #[] #[.pointer (some ⟨Bx, 0, none⟩)]] w fun e w' => ∃ (oa : Option Addr) (oc : Nat), e = .returned (.slice oa (l.filter (fun d => !overB win mark d.2)).length oc) ∧ w'.ownsRow 0 161 4 (.slice oa (l.filter (fun d => !overB win mark d.2)).length oc) (l.filter (fun d => !overB win mark d.2)).length ((l.filter (fun d => !overB win mark d.2)).flatMap lastC) ∧ (Value.slice oa (l.filter (fun d => !overB win mark d.2)).length oc).ownBlock = v.ownBlock ∧ Chg w w' (fun k => v.ownBlock = some k) := by
  obtain ⟨h0, ⟨hv, hn⟩ | ⟨g, cap, cur, hv, hbb, hh, k1, k2, k3, k4⟩⟩ := hS
  · subst hv
    have hz : l = [] := List.eq_nil_of_length_eq_zero hn
    subst hz
    refine (deleteD_nil _ w).mono ?_
    rintro e w' ⟨rfl, hbl⟩
    exact ⟨none, 0, rfl, ⟨rfl, .inl ⟨rfl, rfl⟩⟩, rfl, Chg.ofBelow _ hbl⟩
  · have hS : w.ownsRow 0 161 4 v l.length (l.flatMap lastC) := ⟨h0, .inr ⟨g, cap, cur, hv, hbb, hh, k1, k2, k3, k4⟩⟩
    have hgx : Bx ≠ g := fun e => by rw [e, hh] at hx; cases hx
    have hgb : be ≠ g := fun e => by rw [e, hh] at hb; cases hb
    refine (deleteD_any v l 0 g cap Bx (fun d => overB win mark d.2) (fun d => 0 ≤ d.2 ∧ d.2 ≤ 1000000) w hv hS hl hok (fun W hW d hd => ?_)).mono ?_
    · have hxl := (Array.getElem?_eq_some_iff.1 hx).1
      have hbl := (Array.getElem?_eq_some_iff.1 hb).1
      have x1 := (hW.block Bx hxl hgx).trans hx
      have x2 := (hW.block be hbl hgb).trans hb
      refine move1_any be Bx d win mark W (by simp [World.cell?, x1]) (by have := hW.size; omega) (by have := hW.size; omega) ?_ ?_ hd hw
      · simp only [World.cell?, x2]; simpa using h1
      · simp only [World.cell?, x2]; simpa using h4
    · rintro e w' ⟨rfl, ho, hc⟩
      subst hv
      exact ⟨_, _, rfl, ho, rfl, hc.mono (fun k _ hk => by rw [hk]; rfl)⟩

/-- The watermark is moved, and the facts that are over are gone: in memory. -/
theorem mv_mem {w W2 : World} {S : Nat → Prop} {be N : Nat} {e : Eg} {vr vn vk vf v' : Value} {bm rb b45 b87 : Nat} {bfs : List Nat} {Sf : Nat → Nat → Prop} (hv : EngV w S be e vr vn vk vf bm rb b45 b87 bfs Sf) (hN : w.heap.size = N) {m : Int} {l : List (Gd × Int)}
    (hc : Chg ((w.alloc (.cells #[.pointer (some ⟨be, 0, none⟩)] 40)).setCell ⟨be, 4, none⟩ (.int .i64 m)) W2 (fun k => vk.ownBlock = some k)) (ho : W2.ownsRow 0 161 4 v' l.length (l.flatMap lastC)) (hvb : v'.ownBlock = vk.ownBlock) :
    W2.cell? ⟨N, 0, none⟩ = some (.pointer (some ⟨be, 0, none⟩)) ∧ W2.cell? ⟨be, 6, none⟩ = some vk ∧ W2.frozen? ⟨be, 6, none⟩ = false ∧ ∃ S2 : Nat → Prop, EngV (W2.setCell ⟨be, 6, none⟩ v') S2 be { e with mark := m, kept := l } vr vn v' vf bm rb b45 b87 bfs Sf ∧ (∀ k, S2 k → S k) ∧ Chg w (W2.setCell ⟨be, 6, none⟩ v') S ∧ (W2.setCell ⟨be, 6, none⟩ v').heap[N]? = some (Obj.cells #[.pointer (some ⟨be, 0, none⟩)] 40 (0, 0)) := by
  have hb0 : Below w.heap.size w (w.alloc (.cells #[.pointer (some ⟨be, 0, none⟩)] 40)) := (Below.refl _ w).alloc (Nat.le_refl _) _
  have h0 := hv.below hb0
  have hbe := (Array.getElem?_eq_some_iff.1 hv.blk).1
  obtain ⟨W0, hW0⟩ : ∃ W0, w.alloc (.cells #[.pointer (some ⟨be, 0, none⟩)] 40) = W0 := ⟨_, rfl⟩
  have eN : W0.heap[N]? = some (Obj.cells #[.pointer (some ⟨be, 0, none⟩)] 40 (0, 0)) := by rw [← hW0, ← hN]; exact World.alloc_heap_new w _
  have hs0 : W0.heap.size = N + 1 := by rw [← hW0, ← hN]; simp
  rw [hW0] at hc h0 hb0
  have hbk : vk.ownBlock ≠ some be := fun hs => by
    obtain ⟨_, c, hcc⟩ := owns_block h0.kept hs
    rw [h0.blk] at hcc; cases hcc
  have hNk : vk.ownBlock ≠ some N := fun hs => by
    obtain ⟨_, c, hcc⟩ := owns_block h0.kept hs
    rw [eN] at hcc; cases hcc
  have b1 : W2.heap[be]? = some (Obj.cells #[vr, .int .i64 e.win, .int .i64 e.lat, .int .i64 e.que, .int .i64 m, vn, vk, .map (some bm), vf] 101 (0, 0)) :=
    (hc.block be (by simp; omega) hbk).trans (heap_set h0.blk 4 (.int .i64 m))
  have hc1 : Chg W0 W2 (fun k => k = be ∨ vk.ownBlock = some k) := by
    have h1 : Chg W0 (W0.setCell ⟨be, 4, none⟩ (.int .i64 m)) (fun k => k = be ∨ vk.ownBlock = some k) := (Chg.refl W0 _).setCell ⟨be, 4, none⟩ _ (fun _ => .inl rfl)
    exact h1.trans (hc.mono (fun k _ hk => .inr hk))
  have hc2 : Chg W0 (W2.setCell ⟨be, 6, none⟩ v') (fun k => k = be ∨ vk.ownBlock = some k) := hc1.setCell ⟨be, 6, none⟩ v' (fun _ => .inl rfl)
  have hty : ∀ (k : Nat) (o : Obj), W0.heap[k]? = some o → (∀ c, o ≠ Obj.cells c 101 (0, 0)) → (∀ c, o ≠ Obj.cells c 161 (0, 0)) → (W2.setCell ⟨be, 6, none⟩ v').heap[k]? = some o := by
    intro j o hj h1 h2
    refine (hc2.block j (Array.getElem?_eq_some_iff.1 hj).1 ?_).trans hj
    rintro (rfl | hs)
    · rw [h0.blk] at hj; cases hj; exact h1 _ rfl
    · obtain ⟨_, c', hcc⟩ := owns_block h0.kept hs
      rw [hj] at hcc; cases hcc; exact h2 _ rfl
  have hput := h0.put (W' := W2.setCell ⟨be, 6, none⟩ v') (e' := { e with mark := m, kept := l }) (vn' := vn) (vk' := v') (bm' := bm) hc2 rfl rfl (heap_set b1 6 v')
    (owns_kept h0.names (fun g c _ hcc => hty g _ hcc (by intro c' e; cases e) (by intro c' e; cases e)))
    (owns_set ho ⟨be, 6, none⟩ v' (owns_ne ho b1 (by decide)))
    (h0.md.kept (fun j es c hm => hty j _ hm (by intro c' e; cases e) (by intro c' e; cases e)))
  have bN : W2.heap[N]? = some (Obj.cells #[.pointer (some ⟨be, 0, none⟩)] 40 (0, 0)) := (hc1.block N (by omega) (fun e => e.elim (fun e => by rw [hN] at hbe; omega) hNk)).trans eN
  refine ⟨by simp [World.cell?, bN], by simp [World.cell?, b1], by simp [World.frozen?, b1], _, hput, fun k hk => ?_, ?_, hty N _ eN (by intro c' e; cases e) (by intro c' e; cases e)⟩
  · rcases hk with ⟨h1, _⟩ | h1 | h1
    · exact h1
    · exact hv.own.2.1 k (hvb.symm.trans h1)
    · exact hv.own.2.2.2 k h1
  · refine ⟨hc2.os.trans hb0.os, hc2.tape.trans hb0.tape, hc2.output.trans hb0.output, Nat.le_trans hb0.size hc2.size, fun k hk hs => (hc2.block k (Nat.lt_of_lt_of_le hk hb0.size) (fun e => hs ?_)).trans (hb0.block k hk)⟩
    rcases e with rfl | e
    · exact hv.own.1
    · exact hv.own.2.1 k e

set_option maxRecDepth 100000 in
set_option maxHeartbeats 4000000 in
theorem move_any (S : Nat → Prop) (be : Nat) (e : Eg) (m : Int) (w : World) (h : EngAt w S be e) (hok : EgOk e) (hm : 0 ≤ m ∧ m ≤ 1000000) :
    Calls Tryz.prog 46 #[.pointer (some ⟨be, 0, none⟩), .int .i64 m] w fun en w' => en = .returned (.tuple #[]) ∧ ∃ e', MoveE e m e' ∧ EngPost S be e' w w' := by
  obtain ⟨vr, vn, vk, vf, bm, rb, b45, b87, bfs, Sf, hv⟩ := h
  obtain ⟨N, hN⟩ : ∃ N, w.heap.size = N := ⟨_, rfl⟩
  have hbe := hv.lt
  obtain ⟨ka, kc, hkf⟩ := owns_form hv.kept
  subst hkf
  obtain ⟨fa, fc, hff⟩ := owns_form hv.frow
  subst hff
  obtain ⟨ra, rc, hrf⟩ := hv.rules.form
  subst hrf
  have hV : Hid (EngV w S be e (.slice ra e.rs.length rc) vn (.slice ka e.kept.length kc) (.slice fa bfs.length fc) bm rb b45 b87 bfs Sf) := hv
  have HOK : Hid (EgOk e) := hok
  have HN : Hid (w.heap.size = N) := hN
  obtain ⟨W0, hW0⟩ : ∃ W0, w.alloc (.cells #[.pointer (some ⟨be, 0, none⟩)] 40) = W0 := ⟨_, rfl⟩
  have hb0 : Below w.heap.size w W0 := by rw [← hW0]; exact (Below.refl _ w).alloc (Nat.le_refl _) _
  have h0 := hv.below hb0
  have eN : W0.heap[N]? = some (Obj.cells #[.pointer (some ⟨be, 0, none⟩)] 40 (0, 0)) := by rw [← hW0, ← hN]; exact World.alloc_heap_new w _
  have hne : N ≠ be := by omega
  have c4 : W0.cell? ⟨be, 4, none⟩ = some (.int .i64 e.mark) := by have := h0.blk; simp [World.cell?, this]
  have y4 : W0.frozen? ⟨be, 4, none⟩ = false := by have := h0.blk; simp [World.frozen?, this]
  have a0 : W0.cell? ⟨N, 0, none⟩ = some (.pointer (some ⟨be, 0, none⟩)) := by simp [World.cell?, eN]
  obtain ⟨W1, hW1⟩ : ∃ W1, W0.setCell ⟨be, 4, none⟩ (.int .i64 m) = W1 := ⟨_, rfl⟩
  have e1 : W1.heap[be]? = some (Obj.cells #[.slice ra e.rs.length rc, .int .i64 e.win, .int .i64 e.lat, .int .i64 e.que, .int .i64 m, vn, .slice ka e.kept.length kc, .map (some bm), .slice fa bfs.length fc] 101 (0, 0)) := by rw [← hW1]; exact heap_set h0.blk 4 (.int .i64 m)
  have eN1 : W1.heap[N]? = some (Obj.cells #[.pointer (some ⟨be, 0, none⟩)] 40 (0, 0)) := by rw [← hW1]; exact (Below.heap_setCell _ _ _ _ (by show N ≠ be; exact hne)).trans eN
  have c6 : W1.cell? ⟨be, 6, none⟩ = some (.slice ka e.kept.length kc) := by simp [World.cell?, e1]
  have a1 : W1.cell? ⟨N, 0, none⟩ = some (.pointer (some ⟨be, 0, none⟩)) := by simp [World.cell?, eN1]
  have hk1 : W1.ownsRow 0 161 4 (.slice ka e.kept.length kc) e.kept.length (e.kept.flatMap lastC) := by rw [← hW1]; exact owns_set h0.kept ⟨be, 4, none⟩ _ (owns_ne h0.kept h0.blk (by decide))
  have hdel : Hid (Calls Tryz.prog 85 #[.slice ka e.kept.length kc, .func (.func 86) #[] #[.pointer (some ⟨N, 0, none⟩)]] W1.drew fun e' w' => ∃ (oa : Option Addr) (oc : Nat), e' = .returned (.slice oa (e.kept.filter (fun d => !overB e.win m d.2)).length oc) ∧ w'.ownsRow 0 161 4 (.slice oa (e.kept.filter (fun d => !overB e.win m d.2)).length oc) (e.kept.filter (fun d => !overB e.win m d.2)).length ((e.kept.filter (fun d => !overB e.win m d.2)).flatMap lastC) ∧ (Value.slice oa (e.kept.filter (fun d => !overB e.win m d.2)).length oc).ownBlock = (Value.slice ka e.kept.length kc).ownBlock ∧ Chg W1.drew w' (fun k => (Value.slice ka e.kept.length kc).ownBlock = some k)) :=
    delete_any (.slice ka e.kept.length kc) e.kept N be e.win m W1.drew hk1 (by have := hok.k24; omega) (fun d hd => (hok.kept d hd).2.2) ⟨by have := hok.win; omega, hok.win.2⟩ eN1 _ e1 rfl rfl
  have hmem : Hid (∀ W2 (oa : Option Addr) (oc : Nat), Chg W1.drew W2 (fun k => (Value.slice ka e.kept.length kc).ownBlock = some k) → W2.ownsRow 0 161 4 (.slice oa (e.kept.filter (fun d => !overB e.win m d.2)).length oc) (e.kept.filter (fun d => !overB e.win m d.2)).length ((e.kept.filter (fun d => !overB e.win m d.2)).flatMap lastC) → (Value.slice oa (e.kept.filter (fun d => !overB e.win m d.2)).length oc).ownBlock = (Value.slice ka e.kept.length kc).ownBlock → W2.cell? ⟨N, 0, none⟩ = some (.pointer (some ⟨be, 0, none⟩)) ∧ W2.cell? ⟨be, 6, none⟩ = some (.slice ka e.kept.length kc) ∧ W2.frozen? ⟨be, 6, none⟩ = false ∧ Hid (∃ S2 : Nat → Prop, EngV (W2.setCell ⟨be, 6, none⟩ (.slice oa (e.kept.filter (fun d => !overB e.win m d.2)).length oc)) S2 be { e with mark := m, kept := e.kept.filter (fun d => !overB e.win m d.2) } (.slice ra e.rs.length rc) vn (.slice oa (e.kept.filter (fun d => !overB e.win m d.2)).length oc) (.slice fa bfs.length fc) bm rb b45 b87 bfs Sf ∧ (∀ k, S2 k → S k) ∧ Chg w (W2.setCell ⟨be, 6, none⟩ (.slice oa (e.kept.filter (fun d => !overB e.win m d.2)).length oc)) S ∧ (W2.setCell ⟨be, 6, none⟩ (.slice oa (e.kept.filter (fun d => !overB e.win m d.2)).length oc)).heap[N]? = some (Obj.cells #[.pointer (some ⟨be, 0, none⟩)] 40 (0, 0)))) := fun W2 oa oc hc ho hvb => by
    rw [← hW1, ← hW0] at hc
    exact mv_mem hV.out hN (l := e.kept.filter (fun d => !overB e.win m d.2)) ⟨hc.os, hc.tape, hc.output, hc.size, hc.block⟩ ho hvb
  obtain ⟨l, hl⟩ : ∃ l, e.kept.filter (fun d => !overB e.win m d.2) = l := ⟨_, rfl⟩
  have HL : Hid (e.kept.filter (fun d => !overB e.win m d.2) = l) := hl
  rw [hl] at hdel hmem
  clear hl hv h0 eN e1 eN1 hk1 hok hb0
  generalize hkl : l.length = kl at *
  have HKL : Hid (l.length = kl) := hkl
  clear hkl
  go_enter Tryz.func46, Tryz.ntmps46
  go_wp2_with fail
  refine wp_mono (Q := fun en a' W3 => match en with | Exit.normal => ∃ (oa : Option Addr) (oc : Nat), Hid (∃ S2 : Nat → Prop, EngV W3 S2 be { e with mark := m, kept := l } (.slice ra e.rs.length rc) vn (.slice oa kl oc) (.slice fa bfs.length fc) bm rb b45 b87 bfs Sf ∧ (∀ k, S2 k → S k) ∧ Chg w W3 S ∧ W3.heap[N]? = some (Obj.cells #[.pointer (some ⟨be, 0, none⟩)] 40 (0, 0))) ∧ a' = { tmps := List.toArray (.pointer (some ⟨be, 0, none⟩) :: .int .i64 m :: .pointer (some ⟨N, 0, none⟩) :: undef :: undef :: undef :: undef :: undef :: undef :: undef :: .pointer (some ⟨be, 0, none⟩) :: .int .i64 m :: .pointer (some ⟨be, 0, none⟩) :: .pointer (some ⟨be, 4, none⟩) :: .pointer (some ⟨be, 0, none⟩) :: .pointer (some ⟨be, 0, none⟩) :: .pointer (some ⟨be, 0, none⟩) :: .pointer (some ⟨be, 6, none⟩) :: .slice ka e.kept.length kc :: .func (.func 86) #[] #[.pointer (some ⟨N, 0, none⟩)] :: .slice oa kl oc :: .pointer (some ⟨be, 0, none⟩) :: .pointer (some ⟨be, 6, none⟩) :: undef :: undef :: undef :: undef :: undef :: undef :: undef :: undef :: undef :: undef :: undef :: undef :: undef :: undef :: undef :: undef :: undef :: undef :: undef :: undef :: undef :: undef :: undef :: undef :: undef :: undef :: undef :: undef :: undef :: undef :: undef :: undef :: undef :: undef :: undef :: undef :: undef :: undef :: undef :: undef :: undef :: undef :: undef :: undef :: undef :: undef :: undef :: undef :: undef :: undef :: undef :: undef :: undef :: undef :: undef :: undef :: undef :: undef :: undef :: []), defers := [] } | _ => False) ?reg ?rest
  case reg =>
    first | (go_region_with (go_at_call 85; refine Calls.mono hdel.out ?_; rintro e' W2 ⟨oa, oc, rfl, ho, hvb, hc⟩; obtain ⟨dN, d6, z6, hS2⟩ := hmem.out W2 oa oc hc ho hvb)) | fail
    all_goals exact ⟨oa, oc, hS2, rfl⟩
  case rest =>
    rintro (_ | _ | _ | _ | _ | _) a' W3 hq
    all_goals first | exact hq.elim | skip
    obtain ⟨oa, oc, ⟨S2, h3, hsub, hch, eN3⟩, rfl⟩ := hq
    clear c4 y4 a0 c6 a1 hdel hmem hW1 hW0
    have a3 : W3.cell? ⟨N, 0, none⟩ = some (.pointer (some ⟨be, 0, none⟩)) := by simp [World.cell?, eN3]
    have q3 := h3.blk
    have k6 : W3.cell? ⟨be, 6, none⟩ = some (.slice oa kl oc) := by simp [World.cell?, q3]
    clear q3
    have hlk : kl ≤ 24 := by
      have h1 := HL.out
      have h2 := List.length_filter_le (fun d : Gd × Int => !overB e.win m d.2) e.kept
      have h3 := HOK.out.k24
      rw [h1, HKL.out] at h2
      omega
    have hk3 : Hid (W3.ownsRow 0 161 4 (.slice oa l.length oc) l.length (l.flatMap lastC)) := by
      have h1 := h3.kept
      show World.ownsRow _ _ _ _ _ _ _
      rw [HKL.out]; rw [show ({ e with mark := m, kept := l } : Eg).kept.length = kl from HKL.out] at h1; exact h1
    have hEV : Hid (EngV W3 S2 be { e with mark := m, kept := l } (.slice ra e.rs.length rc) vn (.slice oa kl oc) (.slice fa bfs.length fc) bm rb b45 b87 bfs Sf) := h3
    have hlt : Hid (be < W3.heap.size ∧ N < W3.heap.size) := ⟨h3.lt, (Array.getElem?_eq_some_iff.1 eN3).1⟩
    have hcV : Hid (∀ V, Below W3.heap.size W3 V → V.cell? ⟨N, 0, none⟩ = some (.pointer (some ⟨be, 0, none⟩)) ∧ V.cell? ⟨be, 1, none⟩ = some (.int .i64 e.win) ∧ V.cell? ⟨be, 7, none⟩ = some (.map (some bm)) ∧ V.cell? ⟨be, 0, none⟩ = some (.slice ra e.rs.length rc) ∧ V.frozen? ⟨be, 7, none⟩ = false) := fun V hb => by
      have h1 := (hEV.out.below hb).blk
      have h2 := (hb.block N hlt.out.2).trans eN3
      exact ⟨by simp [World.cell?, h2], by simp [World.cell?, h1], by simp [World.cell?, h1], by simp [World.cell?, h1], by simp [World.frozen?, h1]⟩
    have hend : Hid (∀ V, Below W3.heap.size W3 V → ∀ t : Int, 0 ≤ t ∧ t ≤ 1000000 → Calls Tryz.prog 87 #[.pointer (some ⟨be, 0, none⟩), .int .i64 t] V fun e' w' => e' = .returned (.int .i64 (t + e.win)) ∧ V = w') := fun V hb t ht => by
      refine (eend_any be t e.win V (hcV.out V hb).2.1 ht ⟨by have := HOK.out.win; omega, HOK.out.win.2⟩).mono ?_
      rintro e' w' ⟨h1, h2⟩; exact ⟨h1, h2.symm⟩
    have hlok : Hid (∀ d ∈ l, 0 ≤ d.2 ∧ d.2 ≤ 1000000) := fun d hd => by
      rw [← HL.out] at hd
      exact (HOK.out.kept d (List.mem_filter.1 hd).1).2.2
    obtain ⟨i0, hi, hz0, hz1, hz2⟩ := info_parts infoLa
    have HSUB : Hid _ := hsub
    have HCH : Hid _ := hch
    have HEN : Hid _ := eN3
    clear h3 hsub hch eN3
    go_wp2_with fail
    go_loopw [4, 28] (fun vq vi wr => ∃ (k : Nat) (qa : Option Addr) (qc : Nat), vq = .slice qa (begF e.win m (l.take k)).length qc ∧ vi = .int .i64 k ∧ k ≤ kl ∧ wr.ownsRow W3.heap.size 172 4 (.slice qa (begF e.win m (l.take k)).length qc) (begF e.win m (l.take k)).length ((begF e.win m (l.take k)).flatMap lastC) ∧ Below W3.heap.size W3 wr) (fun _ vi _ => kl - (intOf vi).toNat)
    case atStart => exact ⟨0, none, 0, rfl, rfl, Nat.zero_le _, ⟨rfl, .inl ⟨rfl, rfl⟩⟩, Below.refl _ _⟩
    case round =>
      obtain ⟨k, qa, qc, rfl, rfl, hk, hown, hb⟩ := hrel
      have hszr : W3.heap.size ≤ wr.heap.size := hb.size
      by_cases hlk2 : k < kl
      · have i1 : (k : Int) < (kl : Int) := by omega
        have hkl2 : k < l.length := by rw [HKL.out]; exact hlk2
        obtain ⟨g, c, e0, x0, x1, x2, x3, hg⟩ := date_cell (own_below hk3.out hb) hkl2
        cases e0
        have hspec : Hid _ := begF_take e.win m hkl2
        have hfew : (begF e.win m (l.take k)).length ≤ 24 := by
          have := begF_len e.win m (l.take k)
          rw [List.length_take] at this
          omega
        have hd := hlok.out _ (List.getElem_mem hkl2)
        have HD : Hid _ := hd
        generalize hlkd : l[k] = d at *
        have hcr := hcV.out wr hb
        obtain ⟨n0, n1, _, _, _⟩ := hcr
        have HB : Hid _ := hb
        have HO : Hid _ := hown
        generalize hF : begF e.win m (l.take k) = F at *
        clear hF hlkd hd hkl2 hb hown
        by_cases hdm : d.2 ≤ m
        · rw [if_pos hdm] at hspec
          have hw2 : Hid (∀ O, Below W3.heap.size W3 (wr.alloc O).drew ∧ Below W3.heap.size W3 (wr.alloc O)) := fun O => ⟨(HB.out.alloc hszr O).drew, HB.out.alloc hszr O⟩
          have hne2 : N ≠ wr.heap.size := by have := hlt.out.2; omega
          obtain ⟨V1, hV1⟩ : ∃ V1, (wr.alloc (.cells #[.string d.1.rel, .string d.1.x, .string d.1.y, .int .i64 d.2] 161)).drew = V1 := ⟨_, rfl⟩
          have hbV : Below W3.heap.size W3 V1 := by rw [← hV1]; exact (hw2.out _).1
          have eV : V1.heap[wr.heap.size]? = some (Obj.cells #[.string d.1.rel, .string d.1.x, .string d.1.y, .int .i64 d.2] 161 (0, 0)) := by rw [← hV1]; exact World.alloc_heap_new wr _
          have p0 : V1.cell? ⟨wr.heap.size, 0, none⟩ = some (.string d.1.rel) := by simp [World.cell?, eV]
          have p1 : V1.cell? ⟨wr.heap.size, 1, none⟩ = some (.string d.1.x) := by simp [World.cell?, eV]
          have p2 : V1.cell? ⟨wr.heap.size, 2, none⟩ = some (.string d.1.y) := by simp [World.cell?, eV]
          have p3 : V1.cell? ⟨wr.heap.size, 3, none⟩ = some (.int .i64 d.2) := by simp [World.cell?, eV]
          obtain ⟨pn, _, _, _, _⟩ := hcV.out V1 hbV
          have hoV : V1.ownsRow W3.heap.size 172 4 (.slice qa F.length qc) F.length (F.flatMap lastC) := by
            rw [← hV1]
            have := World.ownsRow.alloc HO.out (.cells #[.string d.1.rel, .string d.1.x, .string d.1.y, .int .i64 d.2] 161)
            exact ⟨this.1, this.2⟩
          have hszV : W3.heap.size ≤ V1.heap.size := hbV.size
          have hb1' : F.length + 1 ≤ maxLen := by unfold maxLen; omega
          have hb2' : (F.length + 1) * 56 ≤ 140737488355328 := by omega
          have hgr : Hid (∀ O w1, (V1.alloc O).grownBy w1 (Value.slice qa F.length qc).ownBlock → Below W3.heap.size W3 w1) := fun O w1 hg => (hbV.alloc hszV O).grown hg (by simp; omega) (fun j e => (owns_block hoV e).1)
          clear eV
          go_wp2_with fail
          go_region_law (first | (refine step_append_own rfl (.tmp 36) (.tmp 44) 169 rfl W3.heap.size 172 i0 (.agg #[.string ⟨#[]⟩, .string ⟨#[]⟩, .string ⟨#[]⟩, .int .i64 0]) 4 56 Tryz.underlying169 hi hz0 hz1 hz2 rfl (by decide) (.slice qa F.length qc) F.length (F.flatMap lastC) (by simp [Act.eval, Act.put]) (World.ownsRow.alloc hoV _) ⟨V1.heap.size, 0, none⟩ 1 1 [.string d.1.rel, .string d.1.x, .string d.1.y, .int .i64 (d.2 + e.win)] (by simp [Act.eval, Act.put]) rfl (cell_four_new _ _ _ _ _ _) (by simp [Value.oneCell']) hb1' hb2' (by simp; omega) ?_; intro v' w1 hown1 hgrow1; obtain ⟨g', cap', hv'⟩ := ownsRow_succ hown1; subst hv') | (go_simp; go_wp2_with (go_at_call 87; refine (hend.out V1 hbV d.2 HD.out).mono ?_; rintro e' w' ⟨rfl, hw'⟩; subst hw')))
          all_goals (
            go_wp2
            refine ⟨⟨k + 1, some ⟨g', 0, none⟩, cap', ?_, by go_num, by omega, ?_, hgr.out _ w1 hgrow1⟩, by simp [intOf]; omega⟩
            · rw [hspec.out, List.length_append]; rfl
            · rw [hspec.out, List.length_append, List.flatMap_append]
              exact hown1)
        · rw [if_neg hdm, List.append_nil] at hspec
          go_wp2
          go_roundw
          case rel =>
            refine ⟨k + 1, qa, qc, ?_, by go_num, by omega, ?_, HB.out.alloc hszr _⟩
            · rw [hspec.out]
            · rw [hspec.out]
              exact World.ownsRow.alloc HO.out _
          case measure => simp [intOf]; omega
      · have hkk : k = kl := by omega
        subst hkk
        have hLL : Hid (begF e.win m (l.take k) = begF e.win m l) := by show _ = _; rw [List.take_of_length_le (by rw [HKL.out]; exact Nat.le_refl _)]
        rw [hLL.out] at hown ⊢
        obtain ⟨n0, n1, n7, n00, y7⟩ := hcV.out wr hb
        have hbD : Below W3.heap.size W3 wr.drew := hb.drew
        have hlea : Hid (Calls Tryz.prog 75 #[.slice ra e.rs.length rc, .slice qa (begF e.win m l).length qc] wr.drew fun e' w' => ∃ B M', e' = .returned (.map (some B)) ∧ MdAt w' B 5000 M' ∧ LeastM e.rs (begF e.win m l ++ givenL e.rs) M' ∧ Below wr.drew.heap.size wr.drew w') := by
          have hF : FcOk e.rs e.names (begF e.win m l) := by
            have := facts_ok HOK.out m
            unfold factsF at this
            rw [HL.out] at this
            exact this
          refine (least_any (arR e.rs) e.rs (begF e.win m l) (uni (relsR e.rs) e.names) _ _ rb b45 b87 W3.heap.size wr.drew (ls_ok HOK.out.rs HOK.out.n8 HOK.out.nsz HOK.out.nrs hF) (hEV.out.below hbD).rules ⟨hown.1, hown.2⟩).mono ?_
          rintro e' w' ⟨B, M', h1, h2, h3, _, h4⟩
          exact ⟨B, M', h1, MdL.at' h2, h3, h4⟩
        have hst : Hid (∀ W4 B M', Below wr.drew.heap.size wr.drew W4 → MdAt W4 B 5000 M' → W4.cell? ⟨N, 0, none⟩ = some (.pointer (some ⟨be, 0, none⟩)) ∧ W4.cell? ⟨be, 7, none⟩ = some (.map (some bm)) ∧ W4.frozen? ⟨be, 7, none⟩ = false ∧ MvI w S be N bm B e l M' (.slice ra e.rs.length rc) vn (.slice oa k oc) (.slice fa bfs.length fc) rb b45 b87 bfs m 0 (W4.setCell ⟨be, 7, none⟩ (.map (some B)))) := fun W4 B M' h1 h2 => mv_start hEV.out HSUB.out HCH.out HEN.out (hbD.trans (h1.mono hbD.size)) h2
        clear hown hb
        go_wp2_with fail
        refine wp_mono (Q := fun en a' W5 => match en with | Exit.normal => ∃ (B : Nat), Hid (∃ M', LeastM e.rs (begF e.win m l ++ givenL e.rs) M' ∧ MvI w S be N bm B e l M' (.slice ra e.rs.length rc) vn (.slice oa k oc) (.slice fa bfs.length fc) rb b45 b87 bfs m 0 W5) ∧ a' = { tmps := List.toArray (.pointer (some ⟨be, 0, none⟩) :: .int .i64 m :: .pointer (some ⟨N, 0, none⟩) :: undef :: .slice qa (begF e.win m l).length qc :: undef :: u6 :: .map (some bm) :: undef :: undef :: .pointer (some ⟨be, 0, none⟩) :: .int .i64 m :: .pointer (some ⟨be, 0, none⟩) :: .pointer (some ⟨be, 4, none⟩) :: .pointer (some ⟨be, 0, none⟩) :: .pointer (some ⟨be, 0, none⟩) :: .pointer (some ⟨be, 0, none⟩) :: .pointer (some ⟨be, 6, none⟩) :: .slice ka e.kept.length kc :: .func (.func 86) #[] #[.pointer (some ⟨N, 0, none⟩)] :: .slice oa k oc :: .pointer (some ⟨be, 0, none⟩) :: .pointer (some ⟨be, 6, none⟩) :: .pointer (some ⟨be, 0, none⟩) :: .pointer (some ⟨be, 0, none⟩) :: .pointer (some ⟨be, 6, none⟩) :: .slice oa k oc :: .int .i64 k :: .int .i64 k :: .bool false :: u30 :: u31 :: u32 :: u33 :: u34 :: u35 :: u36 :: u37 :: u38 :: u39 :: u40 :: u41 :: u42 :: u43 :: u44 :: u45 :: u46 :: .pointer (some ⟨be, 0, none⟩) :: .pointer (some ⟨be, 0, none⟩) :: .pointer (some ⟨be, 7, none⟩) :: .map (some bm) :: .pointer (some ⟨be, 0, none⟩) :: .pointer (some ⟨be, 0, none⟩) :: .pointer (some ⟨be, 0, none⟩) :: .pointer (some ⟨be, 0, none⟩) :: .slice ra e.rs.length rc :: .slice qa (begF e.win m l).length qc :: .map (some B) :: .pointer (some ⟨be, 0, none⟩) :: .pointer (some ⟨be, 7, none⟩) :: undef :: undef :: undef :: undef :: undef :: undef :: undef :: undef :: undef :: undef :: undef :: undef :: undef :: undef :: undef :: undef :: undef :: undef :: undef :: undef :: undef :: undef :: []), defers := [] } | _ => False) ?reg2 ?rest2
        case reg2 =>
          first | (go_region_with (go_at_call 75; refine Calls.mono hlea.out ?_; rintro e' W4 ⟨B, M', rfl, hmd, hlm, hb4⟩; obtain ⟨m0, m7, ym7, hmv⟩ := hst.out W4 B M' hb4 hmd)) | fail
          all_goals exact ⟨B, ⟨M', hlm, hmv⟩, rfl⟩
        case rest2 =>
          rintro (_ | _ | _ | _ | _ | _) a' W5 hq
          all_goals first | exact hq.elim | skip
          obtain ⟨B, ⟨M', hlm, hmv⟩, rfl⟩ := hq
          have HLM : Hid _ := hlm
          have HMV : Hid (MvI w S be N bm B e l M' (.slice ra e.rs.length rc) vn (.slice oa k oc) (.slice fa bfs.length fc) rb b45 b87 bfs m 0 W5) := hmv
          have o1 := hmv.blk.1
          have o2 := hmv.box
          have o0 : W5.cell? ⟨N, 0, none⟩ = some (.pointer (some ⟨be, 0, none⟩)) := by simp [World.cell?, o2]
          have o8 : W5.cell? ⟨be, 8, none⟩ = some (.slice fa bfs.length fc) := by simp [World.cell?, o1]
          have hfe : Hid (factsF e m = begF e.win m l) := by
            show _ = _
            unfold factsF
            rw [HL.out]; rfl
          have hMin : Hid (∀ g, (M' g).isSome = true → arOk (arR e.rs) g ∧ g ∈ uni (relsR e.rs) e.names) := by
            have h1 := facts_ok HOK.out m
            rw [hfe.out] at h1
            exact least_in HOK.out.rs HOK.out.nrs h1 HLM.out
          have hb3' : bfs.length ≤ 3 := by
            have h1 := hEV.out.len
            have h2 := HOK.out.f3
            rw [show ({ e with mark := m, kept := l } : Eg).fds.length = e.fds.length from rfl] at h1
            omega
          clear o1 o2 hmv hlm n0 n1 n7 n00 y7 hlea hst a3 k6
          go_wp2_with fail
          go_loopw [65] (fun vi wr => ∃ j : Nat, vi = .int .i64 j ∧ j ≤ bfs.length ∧ Hid (MvI w S be N bm B e l M' (.slice ra e.rs.length rc) vn (.slice oa k oc) (.slice fa bfs.length fc) rb b45 b87 bfs m j wr)) (fun vi _ => bfs.length - (intOf vi).toNat)
          case atStart => exact ⟨0, rfl, Nat.zero_le _, HMV⟩
          case round =>
            obtain ⟨j, rfl, hj, hmv⟩ := hrel
            by_cases hjl : j < bfs.length
            · have i1 : (j : Int) < (bfs.length : Int) := by omega
              have o1 := hmv.out.blk.1
              have o2 := hmv.out.box
              obtain ⟨g, c, e0, xj, hg⟩ := ptr_cell hmv.out.blk.2 hjl
              cases e0
              have o0 : wr.cell? ⟨N, 0, none⟩ = some (.pointer (some ⟨be, 0, none⟩)) := by simp [World.cell?, o2]
              have o3 : wr.cell? ⟨be, 3, none⟩ = some (.int .i64 e.que) := by simp [World.cell?, o1]
              have o7 : wr.cell? ⟨be, 7, none⟩ = some (.map (some B)) := by simp [World.cell?, o1]
              have hstep : Hid _ := mv_step hmv.out.drew hjl HOK.out hMin.out
              clear o1 o2
              generalize bfs[j] = bj at *
              go_wp2_with fail
              first | (go_region_with (go_at_call 88; refine Calls.mono hstep.out ?_; rintro e' W6 ⟨rfl, hmv6⟩; have HM6 : Hid _ := hmv6; clear hmv6)) | fail
              all_goals (
                go_wp2
                refine ⟨⟨j + 1, by go_num, by omega, HM6.out⟩, by simp [intOf]; omega⟩)
            · have hjj : j = bfs.length := by omega
              subst hjj
              have HD := hmv.out.done HL.out (by rw [hfe.out]; exact HLM.out)
              have HDD : Hid _ := HD
              clear HD
              go_wp2
              go_end0
              exact ⟨rfl, HDD.out⟩

end Go.Proofs.YtjajnhemgphefaaGreatDoor
