/-
  The engine in memory: its block and the row of its facts are changed; a feed is added.
  The engine in memory: a feed is added, a fact is kept.
  The engine: one of its feeds is changed; Poll.
-/
import Derived.Test.YtjajnhemgphefaaGreatDoorJCheck
import Derived.Test.YtjajnhemgphefaaGreatDoorJMoB
import Derived.Test.YtjajnhemgphefaaGreatDoorJEgN
namespace Go.Proofs.YtjajnhemgphefaaGreatDoor
open Go.RowKit Go.Shelf Go.Maps
set_option linter.unusedVariables false
set_option linter.unusedSimpArgs false

/-- The engine's own block, and the row of its facts, are changed. -/
theorem EngV.put {W W' : World} {S : Nat → Prop} {be : Nat} {e e' : Eg} {vr vn vk vf vn' vk' : Value} {bm bm' rb b45 b87 : Nat} {bfs : List Nat} {Sf : Nat → Nat → Prop} (h : EngV W S be e vr vn vk vf bm rb b45 b87 bfs Sf)
    (hc : Chg W W' (fun k => k = be ∨ vk.ownBlock = some k)) (hrs : e'.rs = e.rs) (hfds : e'.fds = e.fds)
    (blk : W'.heap[be]? = some (Obj.cells #[vr, .int .i64 e'.win, .int .i64 e'.lat, .int .i64 e'.que, .int .i64 e'.mark, vn', vk', .map (some bm'), vf] 101 (0, 0)))
    (names : W'.ownsRow 0 9 1 vn' e'.names.length (e'.names.map Value.string)) (kept : W'.ownsRow 0 161 4 vk' e'.kept.length (e'.kept.flatMap lastC)) (md : MdAt W' bm' 5000 e'.M) :
    EngV W' (fun k => (S k ∧ vk.ownBlock ≠ some k) ∨ vk'.ownBlock = some k ∨ vn'.ownBlock = some k) be e' vr vn' vk' vf bm' rb b45 b87 bfs Sf := by
  have hex : ∀ (j : Nat) (c : Array Value) (t : TypeId), W.heap[j]? = some (Obj.cells c t (0, 0)) → t ≠ 101 → t ≠ 161 → ¬ (j = be ∨ vk.ownBlock = some j) := by
    rintro j c t hj h1 h2 (rfl | hs)
    · rw [h.blk] at hj; cases hj; exact h1 rfl
    · obtain ⟨_, c', hcc⟩ := owns_block h.kept hs
      rw [hj] at hcc; cases hcc; exact h2 rfl
  have hkT : ∀ (j : Nat) (c : Array Value) (t : TypeId), W.heap[j]? = some (Obj.cells c t (0, 0)) → t ≠ 101 → t ≠ 161 → W'.heap[j]? = some (Obj.cells c t (0, 0)) := fun j c t hj h1 h2 => (hc.block j (Array.getElem?_eq_some_iff.1 hj).1 (hex j c t hj h1 h2)).trans hj
  have hF : ∀ j, FTy W j → ¬ (j = be ∨ vk.ownBlock = some j) := by
    rintro j ⟨c, t, h1, h2⟩
    exact hex j c t h1 (by rcases h2 with rfl | rfl <;> decide) (by rcases h2 with rfl | rfl <;> decide)
  have hv : ∀ g, vf.ownBlock = some g → ¬ (g = be ∨ vk.ownBlock = some g) := by
    intro g hg
    obtain ⟨_, c, hcc⟩ := owns_block h.frow hg
    exact hex g c _ hcc (by decide) (by decide)
  have hbk : vk.ownBlock ≠ some be := fun hs => by
    obtain ⟨_, c, hcc⟩ := owns_block h.kept hs
    rw [h.blk] at hcc; cases hcc
  refine ⟨blk, ?_, names, kept, md, by rw [hfds]; exact h.len, own_keep h.frow (fun g hg hlt => hc.block g hlt (hv g hg)), fun i hi hi' => ?_, h.sep, fun i k hk => ⟨.inl ⟨(h.sub i k hk).1, fun e => hF k (h.sub i k hk).2 (.inr e)⟩, (h.sub i k hk).2.same (hc.block k (h.sub i k hk).2.lt (hF k (h.sub i k hk).2))⟩, ⟨.inl ⟨h.own.1, hbk⟩, fun g hg => .inr (.inl hg), fun g hg => .inl ⟨h.own.2.2.1 g hg, fun e => hv g hg (.inr e)⟩, fun g hg => .inr (.inr hg)⟩, fun k hk => ?_⟩
  · rw [hrs]
    exact h.rules.keep (fun j c t ht hj => hkT j c t hj (by rcases ht with rfl | rfl | rfl <;> decide) (by rcases ht with rfl | rfl | rfl <;> decide))
  · obtain ⟨b, hf⟩ := h.feed i hi (by rw [← hfds]; exact hi')
    refine ⟨b, ?_⟩
    have he : e'.fds[i]'hi' = e.fds[i]'(by rw [← hfds]; exact hi') := by simp only [hfds]
    rw [he]
    exact hf.keep (ex := fun k => k = be ∨ vk.ownBlock = some k) hc.block (fun k hs => hF k (h.sub i k hs).2) (fun k c hj => hex k c _ hj (by decide) (by decide))
  · rcases hk with ⟨h1, h2⟩ | hk | hk
    · by_cases hke : k = be
      · subst hke; exact ⟨_, _, blk, .inl rfl⟩
      · exact (h.typ k h1).same (hc.block k (h.typ k h1).lt (fun e => e.elim hke h2))
    · obtain ⟨_, c, hcc⟩ := owns_block kept hk
      exact ⟨_, _, hcc, .inr (.inl rfl)⟩
    · obtain ⟨_, c, hcc⟩ := owns_block names hk
      exact ⟨_, _, hcc, .inr (.inr (.inr (.inr (.inr rfl))))⟩

/-- A feed is added. -/
theorem EngV.addFeed {W W' : World} {S : Nat → Prop} {be : Nat} {e : Eg} {vr vn vk vf vf' : Value} {bm rb b45 b87 : Nat} {bfs : List Nat} {Sf : Nat → Nat → Prop} (h : EngV W S be e vr vn vk vf bm rb b45 b87 bfs Sf) {B b : Nat} {f : Fs} {SB : Nat → Prop}
    (hc : Chg W W' (fun k => k = be ∨ vf.ownBlock = some k))
    (blk : W'.heap[be]? = some (Obj.cells #[vr, .int .i64 e.win, .int .i64 e.lat, .int .i64 e.que, .int .i64 e.mark, vn, vk, .map (some bm), vf'] 101 (0, 0)))
    (frow : W'.ownsRow 0 120 1 vf' (bfs.length + 1) ((bfs ++ [B]).map ptrV)) (hf : FdAt W' SB B b f) (hSB : ∀ k, SB k → W.heap.size ≤ k ∧ FTy W' k) :
    EngV W' (fun k => ((S k ∧ vf.ownBlock ≠ some k) ∨ vf'.ownBlock = some k) ∨ SB k) be { e with fds := e.fds ++ [f] } vr vn vk vf' bm rb b45 b87 (bfs ++ [B]) (fun i k => if i = bfs.length then SB k else Sf i k) := by
  have hex : ∀ (j : Nat) (c : Array Value) (t : TypeId), W.heap[j]? = some (Obj.cells c t (0, 0)) → t ≠ 101 → t ≠ 120 → ¬ (j = be ∨ vf.ownBlock = some j) := by
    rintro j c t hj h1 h2 (rfl | hs)
    · rw [h.blk] at hj; cases hj; exact h1 rfl
    · obtain ⟨_, c', hcc⟩ := owns_block h.frow hs
      rw [hj] at hcc; cases hcc; exact h2 rfl
  have hkT : ∀ (j : Nat) (c : Array Value) (t : TypeId), W.heap[j]? = some (Obj.cells c t (0, 0)) → t ≠ 101 → t ≠ 120 → W'.heap[j]? = some (Obj.cells c t (0, 0)) := fun j c t hj h1 h2 => (hc.block j (Array.getElem?_eq_some_iff.1 hj).1 (hex j c t hj h1 h2)).trans hj
  have hF : ∀ j, FTy W j → ¬ (j = be ∨ vf.ownBlock = some j) := by
    rintro j ⟨c, t, h1, h2⟩
    exact hex j c t h1 (by rcases h2 with rfl | rfl <;> decide) (by rcases h2 with rfl | rfl <;> decide)
  have hv : ∀ g, vk.ownBlock = some g → ¬ (g = be ∨ vf.ownBlock = some g) := by
    intro g hg
    obtain ⟨_, c, hcc⟩ := owns_block h.kept hg
    exact hex g c _ hcc (by decide) (by decide)
  have hvn : ∀ g, vn.ownBlock = some g → ¬ (g = be ∨ vf.ownBlock = some g) := by
    intro g hg
    obtain ⟨_, c, hcc⟩ := owns_block h.names hg
    exact hex g c _ hcc (by decide) (by decide)
  have hbk : vf.ownBlock ≠ some be := fun hs => by
    obtain ⟨_, c, hcc⟩ := owns_block h.frow hs
    rw [h.blk] at hcc; cases hcc
  refine ⟨blk, h.rules.keep (fun j c t ht hj => hkT j c t hj (by rcases ht with rfl | rfl | rfl <;> decide) (by rcases ht with rfl | rfl | rfl <;> decide)), owns_kept h.names (fun g c _ hj => hkT g c _ hj (by decide) (by decide)), own_keep h.kept (fun g hg hlt => hc.block g hlt (hv g hg)), h.md.kept (fun j es c hm => (hc.block j (Array.getElem?_eq_some_iff.1 hm).1 (fun hs => ?_)).trans hm), by simp [h.len], by rw [List.length_append]; exact frow, fun i hi hi' => ?_, fun i j hij k h1 h2 => ?_, fun i k hk => ?_, ⟨.inl (.inl ⟨h.own.1, hbk⟩), fun g hg => .inl (.inl ⟨h.own.2.1 g hg, fun e => hv g hg (.inr e)⟩), fun g hg => .inl (.inr hg), fun g hg => .inl (.inl ⟨h.own.2.2.2 g hg, fun e => hvn g hg (.inr e)⟩)⟩, fun k hk => ?_⟩
  · rcases hs with rfl | hs
    · rw [h.blk] at hm; cases hm
    · obtain ⟨_, c', hcc⟩ := owns_block h.frow hs
      rw [hm] at hcc; cases hcc
  · have hle := h.len
    by_cases hib : i = bfs.length
    · subst hib
      refine ⟨b, ?_⟩
      have e1 : (bfs ++ [B])[bfs.length]'hi = B := by simp
      have e2 : (e.fds ++ [f])[bfs.length]'hi' = f := by simp [hle]
      rw [e1, e2]
      simpa using hf
    · have hi2 : i < bfs.length := by simp at hi; omega
      obtain ⟨b', hf'⟩ := h.feed i hi2 (by omega)
      refine ⟨b', ?_⟩
      have e1 : (bfs ++ [B])[i]'hi = bfs[i] := List.getElem_append_left hi2
      have e2 : (e.fds ++ [f])[i]'hi' = e.fds[i]'(by omega) := List.getElem_append_left (by omega)
      rw [e1, e2]
      simp only [if_neg hib]
      exact hf'.keep (ex := fun k => k = be ∨ vf.ownBlock = some k) hc.block (fun k hs => hF k (h.sub i k hs).2) (fun k c hj => hex k c _ hj (by decide) (by decide))
  · by_cases hib : i = bfs.length
    · have hjb : j ≠ bfs.length := by omega
      simp only [if_pos hib] at h1
      simp only [if_neg hjb] at h2
      have := (hSB k h1).1
      have := (h.sub j k h2).2.lt
      omega
    · simp only [if_neg hib] at h1
      by_cases hjb : j = bfs.length
      · simp only [if_pos hjb] at h2
        have := (hSB k h2).1
        have := (h.sub i k h1).2.lt
        omega
      · simp only [if_neg hjb] at h2
        exact h.sep i j hij k h1 h2
  · by_cases hib : i = bfs.length
    · simp only [if_pos hib] at hk
      exact ⟨.inr hk, (hSB k hk).2⟩
    · simp only [if_neg hib] at hk
      have hs := h.sub i k hk
      exact ⟨.inl (.inl ⟨hs.1, fun e => hF k hs.2 (.inr e)⟩), hs.2.same (hc.block k hs.2.lt (hF k hs.2))⟩
  · rcases hk with (⟨h1, h2⟩ | hk) | hk
    · by_cases hke : k = be
      · subst hke; exact ⟨_, _, blk, .inl rfl⟩
      · exact (h.typ k h1).same (hc.block k (h.typ k h1).lt (fun e => e.elim hke h2))
    · obtain ⟨_, c, hcc⟩ := owns_block frow hk
      exact ⟨_, _, hcc, .inr (.inr (.inl rfl))⟩
    · exact (hSB k hk).2.w

end Go.Proofs.YtjajnhemgphefaaGreatDoor

namespace Go.Proofs.YtjajnhemgphefaaGreatDoor
open Go.RowKit Go.Shelf Go.Maps
set_option linter.unusedVariables false
set_option linter.unusedSimpArgs false

/-- What an engine's method does to memory: it is an engine still. -/
def EngPost (S : Nat → Prop) (be : Nat) (e' : Eg) (w w' : World) : Prop := ∃ S', EngAt w' S' be e' ∧ (∀ k, S' k → S k ∨ w.heap.size ≤ k) ∧ Chg w w' S
theorem EngPost.same {w w' : World} {S : Nat → Prop} {be : Nat} {e : Eg} (h : EngAt w S be e) (hb : Below w.heap.size w w') : EngPost S be e w w' := ⟨S, h.below hb, fun _ hk => .inl hk, Chg.ofBelow _ hb⟩
theorem EngPost.trans {w w1 w2 : World} {S : Nat → Prop} {be : Nat} {e1 e2 : Eg} (h : EngPost S be e1 w w1) (k : ∀ S1, EngAt w1 S1 be e1 → EngPost S1 be e2 w1 w2) : EngPost S be e2 w w2 := by
  obtain ⟨S1, h1, h2, h3⟩ := h
  obtain ⟨S2, k1, k2, k3⟩ := k S1 h1
  refine ⟨S2, k1, fun j hj => ?_, k3.os.trans h3.os, k3.tape.trans h3.tape, k3.output.trans h3.output, Nat.le_trans h3.size k3.size, fun j hj hs => (k3.block j (Nat.lt_of_lt_of_le hj h3.size) (fun e => ?_)).trans (h3.block j hj hs)⟩
  · rcases k2 j hj with e | e
    · exact h2 j e
    · exact .inr (Nat.le_trans h3.size e)
  · rcases h2 j e with e | e
    · exact hs e
    · omega

/-- A fact is kept. -/
theorem acc_mem {w W5 w1 : World} {S : Nat → Prop} {be : Nat} {e : Eg} {vr vn vk vf vn' v' : Value} {bm rb b45 b87 nb : Nat} {bfs : List Nat} {Sf : Nat → Nat → Prop} (hv : EngV w S be e vr vn vk vf bm rb b45 b87 bfs Sf) (hb : Below w.heap.size w W5)
    {ns : List ByteArray} (hnb : w.heap.size ≤ nb) (hnm : W5.ownsRow nb 9 1 vn' ns.length (ns.map Value.string)) {d : Gd × Int} (O : Obj) (hown1 : w1.ownsRow 0 161 4 v' (e.kept.length + 1) (e.kept.flatMap lastC ++ lastC d))
    (hgrow : ((W5.setCell ⟨be, 5, none⟩ vn').alloc O).grownBy w1 vk.ownBlock) (hat : v'.ownBlock = vk.ownBlock ∨ v'.ownBlock = some ((W5.setCell ⟨be, 5, none⟩ vn').alloc O).heap.size) :
    w1.cell? ⟨be, 6, none⟩ = some vk ∧ w1.frozen? ⟨be, 6, none⟩ = false ∧ EngPost S be { e with names := ns, kept := e.kept ++ [d] } w (w1.setCell ⟨be, 6, none⟩ v') := by
  have h5 := hv.below hb
  have hbe := (Array.getElem?_eq_some_iff.1 h5.blk).1
  have hbk : vk.ownBlock ≠ some be := fun hs => by
    obtain ⟨_, c, hcc⟩ := owns_block h5.kept hs
    rw [h5.blk] at hcc; cases hcc
  have hsz : ((W5.setCell ⟨be, 5, none⟩ vn').alloc O).heap.size = W5.heap.size + 1 := by simp
  have b1 : w1.heap[be]? = some (Obj.cells #[vr, .int .i64 e.win, .int .i64 e.lat, .int .i64 e.que, .int .i64 e.mark, vn', vk, .map (some bm), vf] 101 (0, 0)) := by
    refine (hgrow.block be (by rw [hsz]; omega) (fun e => hbk e.symm)).trans ?_
    exact (Below.heap_alloc _ _ _ (by simpa using hbe)).trans (heap_set h5.blk 5 vn')
  have hc1 : Chg W5 w1 (fun k => k = be ∨ vk.ownBlock = some k) := (((Chg.refl W5 _).setCell ⟨be, 5, none⟩ vn' (fun _ => .inl rfl)).alloc O).grown hgrow (fun k hk _ => .inr hk)
  have hc2 : Chg W5 (w1.setCell ⟨be, 6, none⟩ v') (fun k => k = be ∨ vk.ownBlock = some k) := hc1.setCell ⟨be, 6, none⟩ v' (fun _ => .inl rfl)
  have hty : ∀ (k : Nat) (c : Array Value) (t : TypeId), W5.heap[k]? = some (Obj.cells c t (0, 0)) → t ≠ 101 → t ≠ 161 → ¬ (k = be ∨ vk.ownBlock = some k) := by
    rintro j c t hj h1 h2 (rfl | hs)
    · rw [h5.blk] at hj; cases hj; exact h1 rfl
    · obtain ⟨_, c', hcc⟩ := owns_block h5.kept hs
      rw [hj] at hcc; cases hcc; exact h2 rfl
  have hput := h5.put (W' := w1.setCell ⟨be, 6, none⟩ v') (e' := { e with names := ns, kept := e.kept ++ [d] }) (vn' := vn') (vk' := v') (bm' := bm) hc2 rfl rfl (heap_set b1 6 v')
    (own_keep (ownsRow_lower hnm (Nat.zero_le _)) (fun g hg hlt => by
      obtain ⟨_, c, hcc⟩ := owns_block hnm hg
      exact hc2.block g hlt (hty g c _ hcc (by decide) (by decide))))
    (by
      show World.ownsRow _ 0 161 4 v' (e.kept ++ [d]).length ((e.kept ++ [d]).flatMap lastC)
      rw [List.length_append, List.flatMap_append]
      simp only [List.length_cons, List.length_nil, Nat.zero_add, List.flatMap_cons, List.flatMap_nil, List.append_nil]
      exact owns_set hown1 ⟨be, 6, none⟩ v' (owns_ne hown1 b1 (by decide)))
    (h5.md.kept (fun j es c hm => (hc2.block j (Array.getElem?_eq_some_iff.1 hm).1 (by
      rintro (rfl | hs)
      · rw [h5.blk] at hm; cases hm
      · obtain ⟨_, c', hcc⟩ := owns_block h5.kept hs
        rw [hm] at hcc; cases hcc)).trans hm))
  refine ⟨by simp [World.cell?, b1], by simp [World.frozen?, b1], _, ⟨_, _, _, _, _, _, _, _, _, _, hput⟩, fun k hk => ?_, ?_⟩
  · rcases hk with ⟨h1, _⟩ | h1 | h1
    · exact .inl h1
    · rcases hat with e1 | e1
      · exact .inl (hv.own.2.1 k (e1.symm.trans h1))
      · right
        rw [e1, hsz] at h1
        cases h1
        have := hb.size; omega
    · obtain ⟨hk1, _⟩ := owns_block hnm h1
      exact .inr (Nat.le_trans hnb hk1)
  · refine ⟨hc2.os.trans hb.os, hc2.tape.trans hb.tape, hc2.output.trans hb.output, Nat.le_trans hb.size hc2.size, fun k hk hs => (hc2.block k (Nat.lt_of_lt_of_le hk hb.size) (fun e => hs ?_)).trans (hb.block k hk)⟩
    rcases e with rfl | e
    · exact hv.own.1
    · exact hv.own.2.1 k e

/-- A feed is added. -/
theorem sub_mem {w W4 w1 : World} {S : Nat → Prop} {be : Nat} {e : Eg} {vr vn vk vf va v' : Value} {bm rb b45 b87 bt B : Nat} {bfs : List Nat} {Sf : Nat → Nat → Prop} (hv : EngV w S be e vr vn vk vf bm rb b45 b87 bfs Sf) (hb : Below w.heap.size w W4)
    {a : Am} (hB : w.heap.size ≤ B) (hB4 : W4.heap[B]? = some (Obj.cells #[.string a.rel, va, .bool true, .slice none 0 0, .slice none 0 0, .int .i64 0] 198 (0, 0))) (hs : SealT W4 bt va a.args) (O : Obj) (hown1 : w1.ownsRow 0 120 1 v' (bfs.length + 1) (bfs.map ptrV ++ [ptrV B]))
    (hgrow : (W4.alloc O).grownBy w1 vf.ownBlock) (hat : v'.ownBlock = vf.ownBlock ∨ v'.ownBlock = some (W4.alloc O).heap.size) :
    w1.cell? ⟨be, 8, none⟩ = some vf ∧ w1.frozen? ⟨be, 8, none⟩ = false ∧ EngPost S be { e with fds := e.fds ++ [⟨a, true, [], [], 0⟩] } w (w1.setCell ⟨be, 8, none⟩ v') := by
  have h4 := hv.below hb
  have hbe := (Array.getElem?_eq_some_iff.1 h4.blk).1
  have hbk : vf.ownBlock ≠ some be := fun hs => by
    obtain ⟨_, c, hcc⟩ := owns_block h4.frow hs
    rw [h4.blk] at hcc; cases hcc
  have hsz : (W4.alloc O).heap.size = W4.heap.size + 1 := by simp
  have b1 : w1.heap[be]? = some (Obj.cells #[vr, .int .i64 e.win, .int .i64 e.lat, .int .i64 e.que, .int .i64 e.mark, vn, vk, .map (some bm), vf] 101 (0, 0)) :=
    (hgrow.block be (by rw [hsz]; omega) (fun e => hbk e.symm)).trans ((Below.heap_alloc _ _ _ hbe).trans h4.blk)
  have hc1 : Chg W4 w1 (fun k => k = be ∨ vf.ownBlock = some k) := ((Chg.refl W4 _).alloc O).grown hgrow (fun k hk _ => .inr hk)
  have hc2 : Chg W4 (w1.setCell ⟨be, 8, none⟩ v') (fun k => k = be ∨ vf.ownBlock = some k) := hc1.setCell ⟨be, 8, none⟩ v' (fun _ => .inl rfl)
  have hty : ∀ (k : Nat) (c : Array Value) (t : TypeId), W4.heap[k]? = some (Obj.cells c t (0, 0)) → t ≠ 101 → t ≠ 120 → (w1.setCell ⟨be, 8, none⟩ v').heap[k]? = some (Obj.cells c t (0, 0)) := by
    intro j c t hj h1 h2
    refine (hc2.block j (Array.getElem?_eq_some_iff.1 hj).1 ?_).trans hj
    rintro (rfl | hs)
    · rw [h4.blk] at hj; cases hj; exact h1 rfl
    · obtain ⟨_, c', hcc⟩ := owns_block h4.frow hs
      rw [hj] at hcc; cases hcc; exact h2 rfl
  have hcw : Chg w (w1.setCell ⟨be, 8, none⟩ v') (fun k => k = be ∨ vf.ownBlock = some k) := ⟨hc2.os.trans hb.os, hc2.tape.trans hb.tape, hc2.output.trans hb.output, Nat.le_trans hb.size hc2.size, fun k hk hs => (hc2.block k (Nat.lt_of_lt_of_le hk hb.size) hs).trans (hb.block k hk)⟩
  have hBB := hty B _ _ hB4 (by decide) (by decide)
  have hadd := hv.addFeed (W' := w1.setCell ⟨be, 8, none⟩ v') (vf' := v') (B := B) (b := bt) (f := ⟨a, true, [], [], 0⟩) (SB := fun k => k = B) hcw (heap_set b1 8 v')
    (by rw [List.map_append]; exact owns_set hown1 ⟨be, 8, none⟩ v' (owns_ne hown1 b1 (by decide)))
    ⟨va, _, _, hBB, hs.kept (fun k c _ hc => hty k c _ hc (by decide) (by decide)), ⟨rfl, .inl ⟨rfl, rfl⟩⟩, ⟨rfl, .inl ⟨rfl, rfl⟩⟩, fun g hg => (by cases hg), fun g hg => (by cases hg), rfl⟩
    (fun k hk => by subst hk; exact ⟨hB, _, _, hBB, .inl rfl⟩)
  refine ⟨by simp [World.cell?, b1], by simp [World.frozen?, b1], _, ⟨_, _, _, _, _, _, _, _, _, _, hadd⟩, fun k hk => ?_, ?_⟩
  · rcases hk with (⟨h1, _⟩ | h1) | h1
    · exact .inl h1
    · rcases hat with e1 | e1
      · exact .inl (hv.own.2.2.1 k (e1.symm.trans h1))
      · right
        rw [e1, hsz] at h1
        cases h1
        have := hb.size; omega
    · right; rw [h1]; exact hB
  · refine hcw.mono (fun k _ e => ?_)
    rcases e with rfl | e
    · exact hv.own.1
    · exact hv.own.2.2.1 k e

end Go.Proofs.YtjajnhemgphefaaGreatDoor

namespace Go.Proofs.YtjajnhemgphefaaGreatDoor
open Go.RowKit Go.Shelf Go.Maps
set_option linter.unusedVariables false
set_option linter.unusedSimpArgs false

/-- The blocks of the feeds behind a change of one of them. -/
def sfSet (Sf : Nat → Nat → Prop) (w w' : World) (k : Nat) : Nat → Nat → Prop := fun i j => if i = k then (Sf k j ∨ w.heap.size ≤ j) ∧ FTy w' j else Sf i j
def sSet (S : Nat → Prop) (Sf : Nat → Nat → Prop) (w w' : World) (k : Nat) : Nat → Prop := fun j => (S j ∧ ¬ Sf k j) ∨ sfSet Sf w w' k k j
theorem sfSet_same {Sf : Nat → Nat → Prop} {w w' : World} {k j : Nat} : sfSet Sf w w' k k j ↔ ((Sf k j ∨ w.heap.size ≤ j) ∧ FTy w' j) := by unfold sfSet; rw [if_pos rfl]
theorem sfSet_ne {Sf : Nat → Nat → Prop} {w w' : World} {k i j : Nat} (h : i ≠ k) : sfSet Sf w w' k i j ↔ Sf i j := by unfold sfSet; rw [if_neg h]

theorem EngV.feedSet {w w' : World} {S : Nat → Prop} {be : Nat} {e : Eg} {vr vn vk vf : Value} {bm rb b45 b87 : Nat} {bfs : List Nat} {Sf : Nat → Nat → Prop} (h : EngV w S be e vr vn vk vf bm rb b45 b87 bfs Sf)
    {k : Nat} (hk : k < bfs.length) {b : Nat} {f' : Fs} (hf : FdAt w' (fun j => Sf k j ∨ w.heap.size ≤ j) bfs[k] b f') (hc : Chg w w' (Sf k)) :
    EngV w' (sSet S Sf w w' k) be { e with fds := e.fds.set k f' } vr vn vk vf bm rb b45 b87 bfs (sfSet Sf w w' k) := by
  have hty : ∀ (j : Nat) (c : Array Value) (t : TypeId), w.heap[j]? = some (Obj.cells c t (0, 0)) → t ≠ 198 → t ≠ 71 → ¬ Sf k j := by
    intro j c t hj h1 h2 hs
    obtain ⟨c', t', e1, e2⟩ := (h.sub k j hs).2
    rw [hj] at e1; cases e1
    exact e2.elim h1 h2
  have hkT : ∀ (j : Nat) (c : Array Value) (t : TypeId), w.heap[j]? = some (Obj.cells c t (0, 0)) → t ≠ 198 → t ≠ 71 → w'.heap[j]? = some (Obj.cells c t (0, 0)) := fun j c t hj h1 h2 => (hc.block j (Array.getElem?_eq_some_iff.1 hj).1 (hty j c t hj h1 h2)).trans hj
  have hkS : ∀ j, S j → ¬ Sf k j → w'.heap[j]? = w.heap[j]? := fun j hs hn => hc.block j (h.typ j hs).lt hn
  have hkept : ∀ g, vk.ownBlock = some g → ¬ Sf k g := fun g hg => by
    obtain ⟨_, c, hcc⟩ := owns_block h.kept hg
    exact hty g c _ hcc (by decide) (by decide)
  have hnames : ∀ g, vn.ownBlock = some g → ¬ Sf k g := fun g hg => by
    obtain ⟨_, c, hcc⟩ := owns_block h.names hg
    exact hty g c _ hcc (by decide) (by decide)
  have hfrow : ∀ g, vf.ownBlock = some g → ¬ Sf k g := fun g hg => by
    obtain ⟨_, c, hcc⟩ := owns_block h.frow hg
    exact hty g c _ hcc (by decide) (by decide)
  refine ⟨hkT _ _ _ h.blk (by decide) (by decide), h.rules.keep (fun j c t ht hj => hkT j c t hj (by rcases ht with rfl | rfl | rfl <;> decide) (by rcases ht with rfl | rfl | rfl <;> decide)), owns_kept h.names (fun g c _ hj => hkT g c _ hj (by decide) (by decide)), own_keep h.kept (fun g hg hlt => hkS g (h.own.2.1 g hg) (hkept g hg)), h.md.kept (fun j es c hm => (hc.block j (Array.getElem?_eq_some_iff.1 hm).1 (fun hs => ?_)).trans hm), by simp [h.len], own_keep h.frow (fun g hg hlt => hkS g (h.own.2.2.1 g hg) (hfrow g hg)), fun i hi hi' => ?_, fun i j hij m h1 h2 => ?_, fun i m hm => ?_, ⟨.inl ⟨h.own.1, hty _ _ _ h.blk (by decide) (by decide)⟩, fun g hg => .inl ⟨h.own.2.1 g hg, hkept g hg⟩, fun g hg => .inl ⟨h.own.2.2.1 g hg, hfrow g hg⟩, fun g hg => .inl ⟨h.own.2.2.2 g hg, hnames g hg⟩⟩, fun m hm => ?_⟩
  · exact WTy.notMap hm (h.sub k j hs).2.w
  · by_cases hik : i = k
    · subst hik
      refine ⟨b, ?_⟩
      have hfe : (e.fds.set i f')[i]'hi' = f' := List.getElem_set_self _
      rw [hfe]
      exact (hf.narrow).wider (fun j hj => sfSet_same.2 hj)
    · obtain ⟨b', hf'⟩ := h.feed i hi (by simpa using hi')
      refine ⟨b', ?_⟩
      have hfe : (e.fds.set k f')[i]'hi' = e.fds[i]'(by simpa using hi') := List.getElem_set_ne (by omega) _
      rw [hfe]
      exact (hf'.keep (ex := Sf k) hc.block (fun j hj hk' => h.sep i k hik j hj hk') (fun j c hj hs => hty j c _ hj (by decide) (by decide) hs)).wider (fun j hj => (sfSet_ne hik).2 hj)
  · by_cases hik : i = k
    · subst hik
      rw [sfSet_ne (Ne.symm hij)] at h2
      rw [sfSet_same] at h1
      rcases h1.1 with h1 | h1
      · exact h.sep i j hij m h1 h2
      · have := (h.sub j m h2).2.lt; omega
    · rw [sfSet_ne hik] at h1
      by_cases hjk : j = k
      · subst hjk
        rw [sfSet_same] at h2
        rcases h2.1 with h2 | h2
        · exact h.sep i j hij m h1 h2
        · have := (h.sub i m h1).2.lt; omega
      · rw [sfSet_ne hjk] at h2
        exact h.sep i j hij m h1 h2
  · by_cases hik : i = k
    · subst hik
      exact ⟨.inr hm, (sfSet_same.1 hm).2⟩
    · rw [sfSet_ne hik] at hm
      exact ⟨.inl ⟨(h.sub i m hm).1, h.sep i k hik m hm⟩, (h.sub i m hm).2.same (hkS m (h.sub i m hm).1 (h.sep i k hik m hm))⟩
  · rcases hm with ⟨h1, h2⟩ | hm
    · exact (h.typ m h1).same (hkS m h1 h2)
    · exact (sfSet_same.1 hm).2.w
theorem sSet_sub {S : Nat → Prop} {Sf : Nat → Nat → Prop} {w w' : World} {k : Nat} (hs : ∀ j, Sf k j → S j) : ∀ j, sSet S Sf w w' k j → S j ∨ w.heap.size ≤ j := by
  rintro j (⟨h, _⟩ | h)
  · exact .inl h
  · exact (sfSet_same.1 h).1.imp (hs j) id


/-- What Poll answers. -/
def PollE (S : Nat → Prop) (be : Nat) (e : Eg) (i : Int) (w : World) (en : Ending) (w' : World) : Prop :=
  (¬ (0 ≤ i ∧ i < e.fds.length) ∧ en = .returned (.tuple #[.agg #[.int .i64 0, .int .i64 0, .string ⟨#[]⟩, .int .i64 0], .int .i64 6]) ∧ Below w.heap.size w w') ∨
  ∃ (k : Nat) (hk : k < e.fds.length), i = k ∧ ∃ r f', PollR e.M e.mark e.fds[k] r f' ∧ en = .returned (.tuple #[.agg #[.int .i64 r.kind, .int .i64 r.seq, .string r.text, .int .i64 r.time], .int .i64 0]) ∧ EngPost S be { e with fds := e.fds.set k f' } w w'

theorem ptr_cell {W : World} {b T : Nat} {v : Value} {l : List Nat} (h : W.ownsRow b T 1 v l.length (l.map ptrV)) {k : Nat} (hk : k < l.length) :
    ∃ (g c : Nat), v = .slice (some ⟨g, 0, none⟩) l.length c ∧ W.cell? ⟨g, k, none⟩ = some (.pointer (some ⟨l[k], 0, none⟩)) ∧ g < W.heap.size := by
  obtain ⟨_, ⟨_, hz⟩ | ⟨g, c, cur, hv, _, hw, _, _, _, htk⟩⟩ := h
  · omega
  refine ⟨g, c, hv, ?_, (Array.getElem?_eq_some_iff.1 hw).1⟩
  have e1 : (l.map ptrV)[k]? = some (ptrV l[k]) := by rw [List.getElem?_map, List.getElem?_eq_getElem hk]; rfl
  rw [← htk, List.getElem?_take, if_pos (by omega)] at e1
  simp only [World.cell?, hw]
  have e2 : cur[k]? = some (ptrV l[k]) := by simpa using e1
  exact e2

theorem putRc_box (W : World) (N : Nat) (r : Rc) (h : W.heap[N]? = some (Obj.cells #[.int .i64 0, .int .i64 0, .string ⟨#[]⟩, .int .i64 0] 71 (0, 0))) : (putRc W N r).heap[N]? = some (Obj.cells #[.int .i64 r.kind, .int .i64 r.seq, .string r.text, .int .i64 r.time] 71 (0, 0)) :=
  heap_set (heap_set (heap_set (heap_set h 0 (.int .i64 r.kind)) 1 (.int .i64 r.seq)) 2 (.string r.text)) 3 (.int .i64 r.time)
set_option maxRecDepth 100000 in
set_option maxHeartbeats 4000000 in
theorem epoll_any (S : Nat → Prop) (be : Nat) (e : Eg) (i : Int) (w : World) (h : EngAt w S be e) (hok : EgOk e) (ht : ∀ f ∈ e.fds, f.told ≤ 1000000000000) :
    Calls Tryz.prog 29 #[.pointer (some ⟨be, 0, none⟩), .int .i64 i] w (PollE S be e i w) := by
  obtain ⟨vr, vn, vk, vf, bm, rb, b45, b87, bfs, Sf, hv⟩ := h
  obtain ⟨fa, fc, hff⟩ := owns_form hv.frow
  subst hff
  obtain ⟨N, hN⟩ : ∃ N, w.heap.size = N := ⟨_, rfl⟩
  have hf3 := hok.f3
  have HLEN : Hid _ := hv.len
  have hlen : bfs.length ≤ 3 := by rw [hv.len]; exact hf3
  have hw1 : IntKind.i64.wrap ((bfs.length : Int) - 1) = (bfs.length : Int) - 1 := wrap_small _ (by omega) (by omega)
  have hblk := hv.blk
  have hbe := hv.lt
  have c8 : ∀ O, (w.alloc O).cell? ⟨be, 8, none⟩ = some (.slice fa bfs.length fc) := fun O => cell_later ((Below.refl _ w).alloc (Nat.le_refl _) O) (by simp [World.cell?, hblk])
  obtain ⟨W0, hW0⟩ : ∃ W0, w.alloc (.cells #[.int .i64 0, .int .i64 0, .string ⟨#[]⟩, .int .i64 0] 71) = W0 := ⟨_, rfl⟩
  have hb0 : Below w.heap.size w W0 := by rw [← hW0]; exact (Below.refl _ w).alloc (Nat.le_refl _) _
  have hs0 : W0.heap.size = N + 1 := by rw [← hW0, ← hN]; simp
  have eN : W0.heap[N]? = some (Obj.cells #[.int .i64 0, .int .i64 0, .string ⟨#[]⟩, .int .i64 0] 71 (0, 0)) := by rw [← hW0, ← hN]; exact World.alloc_heap_new w _
  have c8' : W0.cell? ⟨be, 8, none⟩ = some (.slice fa bfs.length fc) := by rw [← hW0]; exact c8 _
  have z0 : W0.cell? ⟨N, 0, none⟩ = some (.int .i64 0) := by simp [World.cell?, eN]
  have z1 : W0.cell? ⟨N, 1, none⟩ = some (.int .i64 0) := by simp [World.cell?, eN]
  have z2 : W0.cell? ⟨N, 2, none⟩ = some (.string ⟨#[]⟩) := by simp [World.cell?, eN]
  have z3 : W0.cell? ⟨N, 3, none⟩ = some (.int .i64 0) := by simp [World.cell?, eN]
  have x0 : W0.frozen? ⟨N, 0, none⟩ = false := by simp [World.frozen?, eN]
  have x1 : W0.frozen? ⟨N, 1, none⟩ = false := by simp [World.frozen?, eN]
  have x2 : W0.frozen? ⟨N, 2, none⟩ = false := by simp [World.frozen?, eN]
  have x3 : W0.frozen? ⟨N, 3, none⟩ = false := by simp [World.frozen?, eN]
  by_cases hi : 0 ≤ i ∧ i < e.fds.length
  · obtain ⟨k, rfl⟩ : ∃ k : Nat, i = k := ⟨i.toNat, by omega⟩
    have hk : k < e.fds.length := by omega
    have hkb : k < bfs.length := by rw [hv.len]; exact hk
    have hwi : Hid (∀ W, Calls Tryz.prog 43 #[.int .i64 (k : Int), .int .i64 0, .int .i64 ((bfs.length : Int) - 1)] W fun e' w' => e' = .returned (.bool true) ∧ W = w') := fun W => by
      refine (isWithin_any k 0 ((bfs.length : Int) - 1) W).mono ?_
      rintro e' w' ⟨rfl, rfl⟩
      refine ⟨ret_bool ?_, rfl⟩
      rw [Bool.and_eq_true]
      simp only [decide_eq_true_eq]
      omega
    have hv0 : EngV W0.drew S be e vr vn vk (.slice fa bfs.length fc) bm rb b45 b87 bfs Sf := hv.below hb0.drew
    obtain ⟨bb, hfd⟩ := hv0.feed k hkb hk
    have hmem := List.getElem_mem hk
    have hfo := hok.fds _ hmem
    have hpo : Hid (Calls Tryz.prog 59 #[.pointer (some ⟨bfs[k], 0, none⟩), .map (some bm), .int .i64 e.mark] W0.drew fun e' w' => ∃ r f', e' = .returned (.agg #[.int .i64 r.kind, .int .i64 r.seq, .string r.text, .int .i64 r.time]) ∧ PollR e.M e.mark e.fds[k] r f' ∧ FdAt w' (fun j => Sf k j ∨ W0.drew.heap.size ≤ j) bfs[k] bb f' ∧ Chg W0.drew w' (Sf k)) :=
      fpoll_any (Sf k) bfs[k] bb e.fds[k] bm 5000 e.M e.mark W0.drew hfd (fun j hj => (hv0.sub k j hj).2.lt) ⟨by have := hfo.2.1; omega, by have := hfo.2.2; omega⟩ hfo.1 hv0.md (by decide) (fun x y hx => md_size hok _ x y hx) (ht _ hmem)
    obtain ⟨g, cap, hg1, ck, hg2⟩ := ptr_cell (W := W0) hv0.frow hkb
    cases hg1
    have c7 : W0.cell? ⟨be, 7, none⟩ = some (.map (some bm)) := by have := hv0.blk; have h2 : W0.heap[be]? = _ := this; simp [World.cell?, h2]
    have c4 : W0.cell? ⟨be, 4, none⟩ = some (.int .i64 e.mark) := by have := hv0.blk; have h2 : W0.heap[be]? = _ := this; simp [World.cell?, h2]
    have hSN : ∀ j, S j → j < N := fun j hj => by rw [← hN]; exact (hv.typ j hj).lt
    have hfin : Hid (∀ W1 r f', PollR e.M e.mark e.fds[k] r f' → FdAt W1 (fun j => Sf k j ∨ W0.drew.heap.size ≤ j) bfs[k] bb f' → Chg W0.drew W1 (Sf k) → W1.heap[N]? = some (Obj.cells #[.int .i64 0, .int .i64 0, .string ⟨#[]⟩, .int .i64 0] 71 (0, 0)) ∧ EngPost S be { e with fds := e.fds.set k f' } w (putRc W1 N r)) := fun W1 r f' hp hf hc => by
      have hSfN : ¬ Sf k N := fun hs => by have := hSN N (hv.sub k N hs).1; omega
      have hWN : W1.heap[N]? = some (Obj.cells #[.int .i64 0, .int .i64 0, .string ⟨#[]⟩, .int .i64 0] 71 (0, 0)) := (hc.block N (by show N < W0.heap.size; omega) hSfN).trans eN
      refine ⟨hWN, sSet S Sf W0.drew W1 k, ⟨_, _, _, _, _, _, _, _, _, _, (hv0.feedSet hkb hf hc).keep (ex := fun j => j = N) ⟨rfl, rfl, rfl, by simp [putRc], fun j _ hj => putRc_other W1 N r hj⟩ (fun j hj e => ?_) (fun j _ e => ?_)⟩, fun j hj => ?_, ?_⟩
      · subst e
        rcases hj with ⟨hj, _⟩ | hj
        · have := hSN _ hj; omega
        · rcases (sfSet_same.1 hj).1 with h1 | h1
          · exact hSfN h1
          · have h2 : W0.heap.size ≤ j := h1
            omega
      · subst e; exact ⟨_, _, hWN, by simp⟩
      · rcases sSet_sub (fun j hj => (hv0.sub k j hj).1) j hj with h1 | h1
        · exact .inl h1
        · right
          have h2 : W0.heap.size ≤ j := h1
          omega
      · refine putRc_chg ⟨hc.os.trans hb0.os, hc.tape.trans hb0.tape, hc.output.trans hb0.output, ?_, fun j hj hx => (hc.block j ?_ (fun hs => hx (hv.sub k j hs).1)).trans (hb0.block j hj)⟩ (by omega) r
        · have h1 : W0.heap.size ≤ W1.heap.size := hc.size
          omega
        · show j < W0.heap.size
          omega
    have HOK : Hid (∀ en w' r f', PollR e.M e.mark e.fds[k] r f' → en = .returned (.tuple #[.agg #[.int .i64 r.kind, .int .i64 r.seq, .string r.text, .int .i64 r.time], .int .i64 0]) → EngPost S be { e with fds := e.fds.set k f' } w w' → PollE S be e k w en w') := fun en w' r f' h1 h2 h3 => .inr ⟨k, hk, rfl, r, f', h1, h2, h3⟩
    have hkb' : (k : Int) < (bfs.length : Int) := by omega
    clear hi hv hblk hv0 hfd hfo hmem hok ht hSN c8
    generalize hbk : bfs[k] = bfk at *
    clear hbk
    go_enter Tryz.func29, Tryz.ntmps29
    go_wp2_with (go_at_call 43; refine (hwi.out _).mono ?_; rintro e' w' ⟨rfl, hw'⟩; subst hw')
    have hpc : Hid (∀ W1 r f', PollR e.M e.mark e.fds[k] r f' → FdAt W1 (fun j => Sf k j ∨ W0.drew.heap.size ≤ j) bfk bb f' → Chg W0.drew W1 (Sf k) → W1.cell? ⟨N, 0, none⟩ = some (.int .i64 0) ∧ W1.cell? ⟨N, 1, none⟩ = some (.int .i64 0) ∧ W1.cell? ⟨N, 2, none⟩ = some (.string ⟨#[]⟩) ∧ W1.cell? ⟨N, 3, none⟩ = some (.int .i64 0) ∧ W1.frozen? ⟨N, 0, none⟩ = false ∧ W1.frozen? ⟨N, 1, none⟩ = false ∧ W1.frozen? ⟨N, 2, none⟩ = false ∧ W1.frozen? ⟨N, 3, none⟩ = false) := fun W1 r f' h1 h2 h3 => by
      have p1 := (hfin.out W1 r f' h1 h2 h3).1
      exact ⟨by simp [World.cell?, p1], by simp [World.cell?, p1], by simp [World.cell?, p1], by simp [World.cell?, p1], by simp [World.frozen?, p1], by simp [World.frozen?, p1], by simp [World.frozen?, p1], by simp [World.frozen?, p1]⟩
    refine wp_mono (Q := fun en a' W2 => match en with | Exit.normal => (∃ W1 r f', PollR e.M e.mark e.fds[k] r f' ∧ FdAt W1 (fun j => Sf k j ∨ W0.drew.heap.size ≤ j) bfk bb f' ∧ Chg W0.drew W1 (Sf k) ∧ W2 = putRc W1 N r ∧ a' = { tmps := #[.pointer (some ⟨be, 0, none⟩), .int .i64 k, undef, undef, .pointer (some ⟨N, 0, none⟩), .int .i64 0, .int .i64 k, .pointer (some ⟨be, 0, none⟩), .pointer (some ⟨be, 0, none⟩), .pointer (some ⟨be, 8, none⟩), .slice (some ⟨g, 0, none⟩) bfs.length fc, .int .i64 bfs.length, .int .i64 ((bfs.length : Int) - 1), .bool true, .bool false, undef, .pointer (some ⟨be, 0, none⟩), .pointer (some ⟨be, 0, none⟩), .pointer (some ⟨be, 8, none⟩), .slice (some ⟨g, 0, none⟩) bfs.length fc, .int .i64 k, .pointer (some ⟨g, k, none⟩), .pointer (some ⟨bfk, 0, none⟩), .pointer (some ⟨be, 0, none⟩), .pointer (some ⟨be, 0, none⟩), .pointer (some ⟨be, 7, none⟩), .map (some bm), .pointer (some ⟨be, 0, none⟩), .pointer (some ⟨be, 0, none⟩), .pointer (some ⟨be, 4, none⟩), .int .i64 e.mark, .agg #[.int .i64 r.kind, .int .i64 r.seq, .string r.text, .int .i64 r.time]], defers := [] }) | _ => False) ?reg ?rest
    case reg =>
      first | (go_region_with (go_at_call 59; refine Calls.mono hpo.out ?_; rintro e' W1 ⟨r, f', rfl, hp, hf, hc⟩; obtain ⟨u0, u1, u2, u3, y0, y1, y2, y3⟩ := hpc.out W1 r f' hp hf hc)) | fail
      all_goals exact ⟨W1, r, f', hp, hf, hc, rfl, rfl⟩
    case rest =>
      rintro (_ | _ | _ | _ | _ | _) a' W2 hq
      all_goals first | exact hq.elim | skip
      obtain ⟨W1, r, f', hp, hf, hc, rfl, rfl⟩ := hq
      obtain ⟨p1, hE⟩ := hfin.out W1 r f' hp hf hc
      have q1 := putRc_box W1 N r p1
      have u0 : (putRc W1 N r).cell? ⟨N, 0, none⟩ = some (.int .i64 r.kind) := by simp [World.cell?, q1]
      have u1 : (putRc W1 N r).cell? ⟨N, 1, none⟩ = some (.int .i64 r.seq) := by simp [World.cell?, q1]
      have u2 : (putRc W1 N r).cell? ⟨N, 2, none⟩ = some (.string r.text) := by simp [World.cell?, q1]
      have u3 : (putRc W1 N r).cell? ⟨N, 3, none⟩ = some (.int .i64 r.time) := by simp [World.cell?, q1]
      clear p1 q1
      generalize hW3 : putRc W1 N r = W3 at *
      go_wp2
      refine bodyPost_ret (v := .tuple #[.agg #[.int .i64 r.kind, .int .i64 r.seq, .string r.text, .int .i64 r.time], .int .i64 0]) (by simp [results, Tryz.results29, go_sem, u0, u1, u2, u3]) rfl ?_
      exact HOK.out _ _ r f' hp rfl hE
  · have hwi : Hid (∀ W, Calls Tryz.prog 43 #[.int .i64 i, .int .i64 0, .int .i64 ((bfs.length : Int) - 1)] W fun e' w' => e' = .returned (.bool false) ∧ W = w') := fun W => by
      refine (isWithin_any i 0 ((bfs.length : Int) - 1) W).mono ?_
      rintro e' w' ⟨rfl, rfl⟩
      refine ⟨ret_bool ?_, rfl⟩
      rw [Bool.and_eq_false_iff]
      simp only [decide_eq_false_iff_not]
      have hle := hv.len
      omega
    have HI : Hid _ := hi
    clear hi hv hblk c8
    go_enter Tryz.func29, Tryz.ntmps29
    go_wp2_with (go_at_call 43; refine (hwi.out _).mono ?_; rintro e' w' ⟨rfl, hw'⟩; subst hw')
    refine bodyPost_ret (v := .tuple #[.agg #[.int .i64 0, .int .i64 0, .string ⟨#[]⟩, .int .i64 0], .int .i64 6]) (by simp [results, Tryz.results29, go_sem, z0, z1, z2, z3]) rfl ?_
    refine .inl ⟨HI.out, rfl, ?_⟩
    exact (((hb0.setCell (p := ⟨N, 0, none⟩) (by simp; omega) _).setCell (p := ⟨N, 1, none⟩) (by simp; omega) _).setCell (p := ⟨N, 2, none⟩) (by simp; omega) _).setCell (p := ⟨N, 3, none⟩) (by simp; omega) _

end Go.Proofs.YtjajnhemgphefaaGreatDoor
