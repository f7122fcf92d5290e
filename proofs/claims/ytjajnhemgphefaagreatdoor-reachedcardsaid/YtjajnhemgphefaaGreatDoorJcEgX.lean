/-
  What Folded and Ebbed call beside the program: take of an Add.
  A text is taken away from a list.
  The engine: one of its feeds is changed; Poll.
  The engine: Subscribe.
  The engine: Insert.
  The engine: what move does to its feeds, one after the other.
-/
import Derived.Test.YtjajnhemgphefaaGreatDoorJcEgT
import Derived.Test.YtjajnhemgphefaaGreatDoorJcEgU
import Derived.Test.YtjajnhemgphefaaGreatDoorJcEgM
namespace Go.Proofs.YtjajnhemgphefaaGreatDoor
open Go.RowKit Go.Shelf Go.Maps
set_option linter.unusedVariables false
set_option linter.unusedSimpArgs false

theorem TkPost.drew {B : Nat} {v : Value} {f' : Fo} {w w' : World} (h : TkPost B v f' w w') : TkPost B v f' w w'.drew := by
  obtain ⟨v', h1, h2, h3⟩ := h
  exact ⟨v', ⟨h1.1, ⟨h1.2.1, h1.2.2⟩⟩, h2.drew, h3⟩

end Go.Proofs.YtjajnhemgphefaaGreatDoor

namespace Go.Proofs.YtjajnhemgphefaaGreatDoor
open Go.RowKit Go.Shelf Go.Maps
set_option linter.unusedVariables false
set_option linter.unusedSimpArgs false

end Go.Proofs.YtjajnhemgphefaaGreatDoor

namespace Go.Proofs.YtjajnhemgphefaaGreatDoor
open Go.RowKit Go.Shelf Go.Maps
set_option linter.unusedVariables false
set_option linter.unusedSimpArgs false

/-- The blocks of the feeds behind a change of one of them. -/
def sfSet (Sf : Nat → Nat → Prop) (w w' : World) (k : Nat) : Nat → Nat → Prop := fun i j => if i = k then (Sf k j ∨ w.heap.size ≤ j) ∧ FTy w' j else Sf i j
def sSet (S : Nat → Prop) (Sf : Nat → Nat → Prop) (w w' : World) (k : Nat) : Nat → Prop := fun j => (S j ∧ ¬ Sf k j) ∨ sfSet Sf w w' k k j
theorem sfSet_same {Sf : Nat → Nat → Prop} {w w' : World} {k j : Nat} : sfSet Sf w w' k k j ↔ ((Sf k j ∨ w.heap.size ≤ j) ∧ FTy w' j) := by unfold sfSet; rw [if_pos rfl]
theorem sfSet_ne {Sf : Nat → Nat → Prop} {w w' : World} {k i j : Nat} (h : i ≠ k) : sfSet Sf w w' k i j ↔ Sf i j := by unfold sfSet; rw [if_neg h]

theorem EngV.feedSet {w w' : World} {S : Nat → Prop} {be : Nat} {e : Eg} {vr vn vk vf : Value} {bm rb b45 b87 : Nat} {bfs : List Nat} {Sf : Nat → Nat → Prop} (h : EngV w S be e vr vn vk vf bm rb b45 b87 bfs Sf)
    {k : Nat} (hk : k < bfs.length) {b : Nat} {f' : Fs} (hf : FdAt w' (fun j => Sf k j ∨ w.heap.size ≤ j) bfs[k] b f') (hc : Chg w w' (Sf k)) :
    EngV w' (sSet S Sf w w' k) be { e with fds := e.fds.set k f' } vr vn vk vf bm rb b45 b87 bfs (sfSet Sf w w' k) := by
  have hty : ∀ (j : Nat) (c : Array Value) (t : TypeId), w.heap[j]? = some (Obj.cells c t (0, 0)) → t ≠ 198 → t ≠ 71 → ¬ Sf k j := by
    intro j c t hj h1 h2 hs
    obtain ⟨c', t', e1, e2⟩ := (h.sub k j hs).2
    rw [hj] at e1; cases e1
    exact e2.elim h1 h2
  have hkT : ∀ (j : Nat) (c : Array Value) (t : TypeId), w.heap[j]? = some (Obj.cells c t (0, 0)) → t ≠ 198 → t ≠ 71 → w'.heap[j]? = some (Obj.cells c t (0, 0)) := fun j c t hj h1 h2 => (hc.block j (Array.getElem?_eq_some_iff.1 hj).1 (hty j c t hj h1 h2)).trans hj
  have hkS : ∀ j, S j → ¬ Sf k j → w'.heap[j]? = w.heap[j]? := fun j hs hn => hc.block j (h.typ j hs).lt hn
  have hkept : ∀ g, vk.ownBlock = some g → ¬ Sf k g := fun g hg => by
    obtain ⟨_, c, hcc⟩ := owns_block h.kept hg
    exact hty g c _ hcc (by decide) (by decide)
  have hnames : ∀ g, vn.ownBlock = some g → ¬ Sf k g := fun g hg => by
    obtain ⟨_, c, hcc⟩ := owns_block h.names hg
    exact hty g c _ hcc (by decide) (by decide)
  have hfrow : ∀ g, vf.ownBlock = some g → ¬ Sf k g := fun g hg => by
    obtain ⟨_, c, hcc⟩ := owns_block h.frow hg
    exact hty g c _ hcc (by decide) (by decide)
  refine ⟨hkT _ _ _ h.blk (by decide) (by decide), h.rules.keep (fun j c t ht hj => hkT j c t hj (by rcases ht with rfl | rfl | rfl <;> decide) (by rcases ht with rfl | rfl | rfl <;> decide)), owns_kept h.names (fun g c _ hj => hkT g c _ hj (by decide) (by decide)), own_keep h.kept (fun g hg hlt => hkS g (h.own.2.1 g hg) (hkept g hg)), h.md.kept (fun j es c hm => (hc.block j (Array.getElem?_eq_some_iff.1 hm).1 (fun hs => ?_)).trans hm), by simp [h.len], own_keep h.frow (fun g hg hlt => hkS g (h.own.2.2.1 g hg) (hfrow g hg)), fun i hi hi' => ?_, fun i j hij m h1 h2 => ?_, fun i m hm => ?_, ⟨.inl ⟨h.own.1, hty _ _ _ h.blk (by decide) (by decide)⟩, fun g hg => .inl ⟨h.own.2.1 g hg, hkept g hg⟩, fun g hg => .inl ⟨h.own.2.2.1 g hg, hfrow g hg⟩, fun g hg => .inl ⟨h.own.2.2.2 g hg, hnames g hg⟩⟩, fun m hm => ?_⟩
  · exact WTy.notMap hm (h.sub k j hs).2.w
  · by_cases hik : i = k
    · subst hik
      refine ⟨b, ?_⟩
      have hfe : (e.fds.set i f')[i]'hi' = f' := List.getElem_set_self _
      rw [hfe]
      exact (hf.narrow).wider (fun j hj => sfSet_same.2 hj)
    · obtain ⟨b', hf'⟩ := h.feed i hi (by simpa using hi')
      refine ⟨b', ?_⟩
      have hfe : (e.fds.set k f')[i]'hi' = e.fds[i]'(by simpa using hi') := List.getElem_set_ne (by omega) _
      rw [hfe]
      exact (hf'.keep (ex := Sf k) hc.block (fun j hj hk' => h.sep i k hik j hj hk') (fun j c hj hs => hty j c _ hj (by decide) (by decide) hs)).wider (fun j hj => (sfSet_ne hik).2 hj)
  · by_cases hik : i = k
    · subst hik
      rw [sfSet_ne (Ne.symm hij)] at h2
      rw [sfSet_same] at h1
      rcases h1.1 with h1 | h1
      · exact h.sep i j hij m h1 h2
      · have := (h.sub j m h2).2.lt; omega
    · rw [sfSet_ne hik] at h1
      by_cases hjk : j = k
      · subst hjk
        rw [sfSet_same] at h2
        rcases h2.1 with h2 | h2
        · exact h.sep i j hij m h1 h2
        · have := (h.sub i m h1).2.lt; omega
      · rw [sfSet_ne hjk] at h2
        exact h.sep i j hij m h1 h2
  · by_cases hik : i = k
    · subst hik
      exact ⟨.inr hm, (sfSet_same.1 hm).2⟩
    · rw [sfSet_ne hik] at hm
      exact ⟨.inl ⟨(h.sub i m hm).1, h.sep i k hik m hm⟩, (h.sub i m hm).2.same (hkS m (h.sub i m hm).1 (h.sep i k hik m hm))⟩
  · rcases hm with ⟨h1, h2⟩ | hm
    · exact (h.typ m h1).same (hkS m h1 h2)
    · exact (sfSet_same.1 hm).2.w
theorem sSet_sub {S : Nat → Prop} {Sf : Nat → Nat → Prop} {w w' : World} {k : Nat} (hs : ∀ j, Sf k j → S j) : ∀ j, sSet S Sf w w' k j → S j ∨ w.heap.size ≤ j := by
  rintro j (⟨h, _⟩ | h)
  · exact .inl h
  · exact (sfSet_same.1 h).1.imp (hs j) id


theorem ptr_cell {W : World} {b T : Nat} {v : Value} {l : List Nat} (h : W.ownsRow b T 1 v l.length (l.map ptrV)) {k : Nat} (hk : k < l.length) :
    ∃ (g c : Nat), v = .slice (some ⟨g, 0, none⟩) l.length c ∧ W.cell? ⟨g, k, none⟩ = some (.pointer (some ⟨l[k], 0, none⟩)) ∧ g < W.heap.size := by
  obtain ⟨_, ⟨_, hz⟩ | ⟨g, c, cur, hv, _, hw, _, _, _, htk⟩⟩ := h
  · omega
  refine ⟨g, c, hv, ?_, (Array.getElem?_eq_some_iff.1 hw).1⟩
  have e1 : (l.map ptrV)[k]? = some (ptrV l[k]) := by rw [List.getElem?_map, List.getElem?_eq_getElem hk]; rfl
  rw [← htk, List.getElem?_take, if_pos (by omega)] at e1
  simp only [World.cell?, hw]
  have e2 : cur[k]? = some (ptrV l[k]) := by simpa using e1
  exact e2

end Go.Proofs.YtjajnhemgphefaaGreatDoor

namespace Go.Proofs.YtjajnhemgphefaaGreatDoor
open Go.RowKit Go.Shelf Go.Maps
set_option linter.unusedVariables false
set_option linter.unusedSimpArgs false

end Go.Proofs.YtjajnhemgphefaaGreatDoor

namespace Go.Proofs.YtjajnhemgphefaaGreatDoor
open Go.RowKit Go.Shelf Go.Maps
set_option linter.unusedVariables false
set_option linter.unusedSimpArgs false

theorem EngPost.after {w w1 w2 : World} {S : Nat → Prop} {be : Nat} {e : Eg} (hb : Below w.heap.size w w1) (h : EngPost S be e w1 w2) : EngPost S be e w w2 := by
  obtain ⟨S', h1, h2, h3⟩ := h
  refine ⟨S', h1, fun k hk => (h2 k hk).imp id (fun h => Nat.le_trans hb.size h), h3.os.trans hb.os, h3.tape.trans hb.tape, h3.output.trans hb.output, Nat.le_trans hb.size h3.size, fun j hj hs => (h3.block j (Nat.lt_of_lt_of_le hj hb.size) hs).trans (hb.block j hj)⟩

set_option maxRecDepth 100000 in
set_option maxHeartbeats 4000000 in
theorem insert_any (S : Nat → Prop) (be : Nat) (e : Eg) (s : ByteArray) (t : Int) (w : World) (h : EngAt w S be e) (hok : EgOk e) (hs : s.size ≤ 4611686018427387904) (hT : Lib.Utf8Tabs 0 1 w) (hn : ∀ a, atomR s = some a → ∀ t ∈ a.args, t.num < 6) :
    Calls Tryz.prog 20 #[.pointer (some ⟨be, 0, none⟩), .string s, .int .i64 t] w fun en w' => en = .returned (.int .i64 (insR e s t).1) ∧ EngPost S be (insR e s t).2 w w' := by
  have hrg := readGround_any s w hs hT
  unfold GroundPost at hrg
  have HE : Hid (EngAt w S be e) := h
  cases ha : atomR s with
  | none =>
    rw [ha] at hrg
    have hu : Hid (insR e s t = (2, e)) := by show _ = _; unfold insR; rw [ha]
    have HR : Hid _ := hrg
    clear hrg ha h hok
    rw [hu.out]
    go_enter Tryz.func20, Tryz.ntmps20
    go_wp2_with (go_at_call 40; refine Calls.mono HR.out ?_; rintro e' W1 ⟨hb1, rfl⟩)
    go_ret
    exact ⟨rfl, EngPost.same HE.out (hb1.alloc hb1.size _)⟩
  | some a =>
    rw [ha] at hrg
    have hn' := hn a ha
    have hu : Hid (insR e s t = if groundB a = false then (2, e) else if derB e.rs a.rel = true then (7, e) else if ckR e.rs a ≠ 0 then (ckR e.rs a, e) else if ¬ (0 ≤ t ∧ t ≤ 1000000) then (6, e) else accR e a t) := by show _ = _; unfold insR; rw [ha]
    obtain ⟨gb, hgb⟩ : ∃ gb, groundB a = gb := ⟨_, rfl⟩
    have HR : Hid (Calls Tryz.prog 40 #[.string s] w fun e' w' => Below w.heap.size w w' ∧ ∃ va, e' = .returned (.tuple #[.agg #[.string a.rel, va], .bool gb]) ∧ AmOk a ∧ SealT w' w'.heap.size va a.args) := by
      show Calls _ _ _ _ _
      rw [← hgb]; exact hrg
    rw [hgb] at hu
    obtain ⟨vr, vn, vk, vf, bm, rb, b45, b87, bfs, Sf, hv⟩ := h
    obtain ⟨ra, rc, hrf⟩ := hv.rules.form
    subst hrf
    have hbe := hv.lt
    have hblk : Hid (∀ W, Below w.heap.size w W → W.cell? ⟨be, 0, none⟩ = some (.slice ra e.rs.length rc)) := fun W hb => by
      have := (hv.below hb).blk
      simp [World.cell?, this]
    have hde : Hid (∀ W, Below w.heap.size w W → Calls Tryz.prog 41 #[.slice ra e.rs.length rc, .string a.rel] W fun e' w' => e' = .returned (.bool (derB e.rs a.rel)) ∧ Below W.heap.size W w') := fun W hb => by
      have hv' := hv.below hb
      exact isDerived_any _ e.rs a.rel rb b45 b87 _ hv'.rules (rules_row hv'.rules) hok.rs.r8
    have hwi : Hid (∀ W, Calls Tryz.prog 43 #[.int .i64 t, .int .i64 0, .int .i64 1000000] W fun e' w' => e' = .returned (.bool (decide (0 ≤ t) && decide (t ≤ 1000000))) ∧ W = w') := fun W => by
      refine (isWithin_any t 0 1000000 W).mono ?_
      rintro e' w' ⟨h1, h2⟩; exact ⟨h1, h2.symm⟩
    have HOK : Hid (EgOk e) := hok
    clear hrg ha hv hok hT hn
    clear hgb
    cases gb with
    | false =>
      rw [if_pos rfl] at hu
      rw [hu.out]
      clear hu
      go_enter Tryz.func20, Tryz.ntmps20
      go_wp2_with (go_at_call 40; refine Calls.mono HR.out ?_; rintro e' W1 ⟨hb1, va, rfl, hak, hsl⟩; obtain ⟨xa, xc, hxf⟩ := hsl.form; subst hxf; have HAK : Hid _ := hak; have HSL : Hid _ := hsl; clear hak hsl)
      go_ret
      exact ⟨rfl, EngPost.same HE.out (hb1.alloc hb1.size _)⟩
    | true =>
      rw [if_neg (by decide)] at hu
      go_enter Tryz.func20, Tryz.ntmps20
      go_wp2_with fail
      refine Calls.mono HR.out ?_
      rintro e' W1 ⟨hb1, va, rfl, hak, hsl⟩
      obtain ⟨xa, xc, hxf⟩ := hsl.form
      subst hxf
      have hckc : Hid (∀ W, Below w.heap.size w W → Calls Tryz.prog 42 #[.pointer (some ⟨be, 0, none⟩), .agg #[.string a.rel, .slice xa a.args.length xc]] W fun en w' => en = .returned (.int .i64 (ckR e.rs a)) ∧ Below W.heap.size W w') := fun W hb => checkRel_any S be e W (HE.out.below hb) HOK.out.rs a _ _ _ rfl hak.args
      have hacc : Hid (∀ W, Below w.heap.size w W → Below W1.heap.size W1 W → 0 ≤ t ∧ t ≤ 1000000 → Calls Tryz.prog 44 #[.pointer (some ⟨be, 0, none⟩), .agg #[.string a.rel, .slice xa a.args.length xc], .int .i64 t] W fun en w' => en = .returned (.int .i64 (accR e a t).1) ∧ EngPost S be (accR e a t).2 w w') := fun W hb hb1' ht => by
        refine (accept_any S be e a xa xc W1.heap.size t W (HE.out.below hb) HOK.out hak (hsl.rk (RuleKept.ofBelow hb1')) hn' ht).mono ?_
        rintro en w' ⟨h1, h2⟩
        exact ⟨h1, EngPost.after hb h2⟩
      have hW1 : w.heap.size ≤ W1.heap.size := hb1.size
      have hbA : Hid (Below w.heap.size w (W1.alloc (.cells #[.string a.rel, .slice xa a.args.length xc] 92)) ∧ Below W1.heap.size W1 (W1.alloc (.cells #[.string a.rel, .slice xa a.args.length xc] 92))) := ⟨hb1.alloc hb1.size _, (Below.refl _ W1).alloc (Nat.le_refl _) _⟩
      have hbox : Hid (∀ W2, Below (W1.alloc (.cells #[.string a.rel, .slice xa a.args.length xc] 92)).heap.size (W1.alloc (.cells #[.string a.rel, .slice xa a.args.length xc] 92)) W2 → W2.cell? ⟨W1.heap.size, 0, none⟩ = some (.string a.rel) ∧ W2.cell? ⟨W1.heap.size, 1, none⟩ = some (.slice xa a.args.length xc) ∧ Below w.heap.size w W2 ∧ Below W1.heap.size W1 W2 ∧ W2.cell? ⟨be, 0, none⟩ = some (.slice ra e.rs.length rc)) := fun W2 hb => by
        have h1 := (hb.block _ (by simp)).trans (World.alloc_heap_new W1 _)
        have h2 := hbA.out.1.trans (hb.mono (by simp; omega))
        exact ⟨by simp [World.cell?, h1], by simp [World.cell?, h1], h2, hbA.out.2.trans (hb.mono (by simp)), hblk.out W2 h2⟩
      obtain ⟨r0, r1, r2, r3, r4⟩ := hbox.out _ (Below.refl _ _)
      have hbW : Hid (Below w.heap.size w (W1.alloc (.cells #[.string a.rel, .slice xa a.args.length xc] 92)).drew) := hbA.out.1.drew
      clear hak hsl
      cases hdb : derB e.rs a.rel with
      | true =>
        rw [hdb, if_pos rfl] at hu
        rw [hdb] at hde
        clear hdb
        go_wp2_with fail
        first | (go_region_with (go_at_call 41; refine (hde.out _ hbW.out).mono ?_; rintro e' W2 ⟨rfl, hb2⟩)) | fail
        all_goals go_wp2
        all_goals go_ret
        all_goals (rw [hu.out]; exact ⟨rfl, EngPost.same HE.out (hbW.out.trans (hb2.mono hbW.out.size))⟩)
      | false =>
        rw [hdb, if_neg (by decide)] at hu
        rw [hdb] at hde
        clear hdb
        go_wp2_with fail
        refine wp_mono (Q := fun e' a' w' => match e' with | Exit.normal => (Below (W1.alloc (.cells #[.string a.rel, .slice xa a.args.length xc] 92)).heap.size (W1.alloc (.cells #[.string a.rel, .slice xa a.args.length xc] 92)) w' ∧ a' = { tmps := #[.pointer (some ⟨be, 0, none⟩), .string s, .int .i64 t, undef, undef, undef, .int .i64 0, .pointer (some ⟨W1.heap.size, 0, none⟩), .bool true, undef, .tuple #[.agg #[.string a.rel, .slice xa a.args.length xc], .bool true], .string s, .tuple #[.agg #[.string a.rel, .slice xa a.args.length xc], .bool true], .agg #[.string a.rel, .slice xa a.args.length xc], .bool true, .bool true, .bool false, .pointer (some ⟨be, 0, none⟩), .pointer (some ⟨be, 0, none⟩), .pointer (some ⟨be, 0, none⟩), .slice ra e.rs.length rc, .pointer (some ⟨W1.heap.size, 0, none⟩), .string a.rel, .bool false, undef, undef, undef, undef, undef, undef, undef, undef, undef, undef, undef, undef, undef], defers := [] }) | _ => False) ?reg ?rest
        case reg =>
          first | (go_region_with (go_at_call 41; refine (hde.out _ hbW.out).mono ?_; rintro e' W2 ⟨rfl, hb2⟩)) | fail
          all_goals exact ⟨⟨hb2.os, hb2.tape, hb2.output, hb2.size, hb2.block⟩, rfl⟩
        case rest =>
          rintro (_ | _ | _ | _ | _ | _) a' W2 hq
          all_goals first | exact hq.elim | skip
          obtain ⟨hb2, rfl⟩ := hq
          obtain ⟨d0, d1, hb3, hb4, d4⟩ := hbox.out W2 hb2
          by_cases hck : ckR e.rs a = 0
          · have hck2 : Hid (¬ ckR e.rs a ≠ 0) := fun h => h hck
            rw [if_neg hck2.out] at hu
            rw [hck] at hckc
            clear hck
            go_wp2_with fail
            refine (hckc.out W2 hb3).mono ?_
            rintro e' W3 ⟨rfl, hb5⟩
            have hb6 : Below (W1.alloc (.cells #[.string a.rel, .slice xa a.args.length xc] 92)).heap.size (W1.alloc (.cells #[.string a.rel, .slice xa a.args.length xc] 92)) W3 := hb2.trans (hb5.mono hb2.size)
            obtain ⟨g0, g1, hb7, hb8, g4⟩ := hbox.out W3 hb6
            clear hb6 hb5 hb2
            by_cases ht : 0 ≤ t ∧ t ≤ 1000000
            · have hwt : (decide (0 ≤ t) && decide (t ≤ 1000000)) = true := by simp [ht.1, ht.2]
              rw [hwt] at hwi
              rw [if_neg (fun h => h ht)] at hu
              have HT : Hid (0 ≤ t ∧ t ≤ 1000000) := ht
              clear ht hwt
              go_wp2_with (first | (go_at_call 43; refine (hwi.out _).mono ?_; rintro e' w' ⟨rfl, hw'⟩; subst hw') | (go_at_call 44; refine (hacc.out W3 hb7 hb8 HT.out).mono ?_; rintro e' W4 ⟨rfl, hp⟩))
              go_ret
              rw [hu.out]
              exact ⟨rfl, hp⟩
            · have hwt : (decide (0 ≤ t) && decide (t ≤ 1000000)) = false := by
                rw [Bool.and_eq_false_iff]
                simp only [decide_eq_false_iff_not]
                omega
              rw [hwt] at hwi
              rw [if_pos ht] at hu
              clear ht hwt
              go_wp2_with (go_at_call 43; refine (hwi.out _).mono ?_; rintro e' w' ⟨rfl, hw'⟩; subst hw')
              go_ret
              rw [hu.out]
              exact ⟨rfl, EngPost.same HE.out hb7⟩
          · rw [if_pos hck] at hu
            have hck' : (ckR e.rs a == 0) = false := by simp [hck]
            generalize ckR e.rs a = ck at *
            go_wp2_with (go_at_call 42; refine (hckc.out W2 hb3).mono ?_; rintro e' W3 ⟨rfl, hb5⟩)
            go_ret
            rw [hu.out]
            exact ⟨rfl, EngPost.same HE.out (hb3.trans (hb5.mono hb3.size))⟩

end Go.Proofs.YtjajnhemgphefaaGreatDoor

namespace Go.Proofs.YtjajnhemgphefaaGreatDoor
open Go.RowKit Go.Shelf Go.Maps
set_option linter.unusedVariables false
set_option linter.unusedSimpArgs false

/-- Of the feeds k are moved. -/
structure MvI (w : World) (S : Nat → Prop) (be N bm B : Nat) (e : Eg) (l : List (Gd × Int)) (M' : Gd → Option Int) (vr vn vk vf : Value) (rb b45 b87 : Nat) (bfs : List Nat) (m : Int) (k : Nat) (V : World) : Prop where
  ex : ∃ (Sk : Nat → Prop) (Sfk : Nat → Nat → Prop) (L : List Fs), EngV V Sk be { e with mark := m, kept := l, M := M', fds := L } vr vn vk vf B rb b45 b87 bfs Sfk ∧ L.length = e.fds.length ∧ (∀ i (h : i < e.fds.length) (h' : i < L.length), i < k → MoveF e.M M' m e.que e.fds[i] L[i]) ∧ (∀ i (h : i < e.fds.length) (h' : i < L.length), k ≤ i → L[i] = e.fds[i]) ∧ ∀ j, Sk j → S j ∨ w.heap.size ≤ j
  chg : Chg w V S
  md : MdAt V bm 5000 e.M
  box : V.heap[N]? = some (Obj.cells #[.pointer (some ⟨be, 0, none⟩)] 40 (0, 0))

theorem MvI.blk {w V : World} {S : Nat → Prop} {be N bm B : Nat} {e : Eg} {l : List (Gd × Int)} {M' : Gd → Option Int} {vr vn vk vf : Value} {rb b45 b87 : Nat} {bfs : List Nat} {m : Int} {k : Nat} (h : MvI w S be N bm B e l M' vr vn vk vf rb b45 b87 bfs m k V) :
    V.heap[be]? = some (Obj.cells #[vr, .int .i64 e.win, .int .i64 e.lat, .int .i64 e.que, .int .i64 m, vn, vk, .map (some B), vf] 101 (0, 0)) ∧ V.ownsRow 0 120 1 vf bfs.length (bfs.map ptrV) := by
  obtain ⟨⟨Sk, Sfk, L, hv, _⟩, _⟩ := h
  exact ⟨hv.blk, hv.frow⟩
theorem MvI.drew {w V : World} {S : Nat → Prop} {be N bm B : Nat} {e : Eg} {l : List (Gd × Int)} {M' : Gd → Option Int} {vr vn vk vf : Value} {rb b45 b87 : Nat} {bfs : List Nat} {m : Int} {k : Nat} (h : MvI w S be N bm B e l M' vr vn vk vf rb b45 b87 bfs m k V) : MvI w S be N bm B e l M' vr vn vk vf rb b45 b87 bfs m k V.drew := by
  obtain ⟨⟨Sk, Sfk, L, hv, h1, h2, h3, h4⟩, h5, h6, h7⟩ := h
  exact ⟨⟨Sk, Sfk, L, hv.below (Below.refl _ V).drew, h1, h2, h3, h4⟩, h5.drew, h6.below (Below.refl _ V).drew, h7⟩

set_option maxHeartbeats 1000000 in
theorem mv_step {w V : World} {S : Nat → Prop} {be N bm B : Nat} {e : Eg} {l : List (Gd × Int)} {M' : Gd → Option Int} {vr vn vk vf : Value} {rb b45 b87 : Nat} {bfs : List Nat} {m : Int} {k : Nat} (h : MvI w S be N bm B e l M' vr vn vk vf rb b45 b87 bfs m k V) (hk : k < bfs.length) (hok : EgOk e) (hM : ∀ g, (M' g).isSome = true → arOk (arR e.rs) g ∧ g ∈ uni (relsR e.rs) e.names) :
    Calls Tryz.prog 88 #[.pointer (some ⟨bfs[k], 0, none⟩), .map (some bm), .map (some B), .int .i64 m, .int .i64 e.que] V fun en w' => en = .returned (.tuple #[]) ∧ MvI w S be N bm B e l M' vr vn vk vf rb b45 b87 bfs m (k + 1) w' := by
  obtain ⟨⟨Sk, Sfk, L, hv, hL, hd, hr, hs⟩, hc, hmd, hbx⟩ := h
  have hlen : bfs.length = L.length := hv.len
  have hkL : k < L.length := by omega
  have hke : k < e.fds.length := by omega
  obtain ⟨b, hf⟩ := hv.feed k hk hkL
  have hLk : L[k] = e.fds[k] := hr k hke hkL (Nat.le_refl k)
  have hf2 : FdAt V (Sfk k) bfs[k] b L[k] := hf
  have hfo := hok.fds _ (List.getElem_mem hke)
  cases hb : (e.fds[k]).behind with
  | true =>
    refine (move_behind (Sfk k) bfs[k] b L[k] bm B m e.que V hf2 (by rw [hLk]; exact hb)).mono ?_
    rintro en w' ⟨rfl, rfl⟩
    refine ⟨rfl, ⟨Sk, Sfk, L, hv, hL, fun i h1 h2 hi => ?_, fun i h1 h2 hi => hr i h1 h2 (by omega), hs⟩, hc, hmd, hbx⟩
    by_cases hik : i = k
    · subst hik; exact .inl ⟨hb, hLk⟩
    · exact hd i h1 h2 (by omega)
  | false =>
    have hMs : ∀ (rel x y : ByteArray), (M' ⟨rel, x, y⟩).isSome = true → x.size ≤ 2000 ∧ y.size ≤ 2000 := fun rel x y hx => by
      have := uni_size hok.rs hok.nsz (hM _ hx).2
      exact ⟨Nat.le_trans this.2.1 (by decide), Nat.le_trans this.2.2 (by decide)⟩
    have hfew : ∀ (P Q : Gd → Option Int) gs, (∀ g, (P g).isSome = true → g ∈ uni (relsR e.rs) e.names) → beyP P Q (L[k]).form gs → gs.length ≤ 100 := by
      rintro P Q gs hP ⟨g0, hg0, rfl⟩
      have h1 := fit_few hg0 hP hok.n8
      have h2 := List.length_filter_le (fun g => (Q g).isNone) g0
      omega
    refine (move_go (Sfk k) bfs[k] b L[k] bm B 5000 5000 e.M M' m e.que V hf2 (fun j hj => (hv.sub k j hj).2.lt) (by rw [hLk]; exact hb) (by rw [hLk]; have := hfo.2.2; omega) (by rw [hLk]; exact hfo.1) hmd hv.md (by decide) (by decide) (fun x y hx => md_size hok _ x y hx) (fun x y hx => hMs _ x y hx) (fun gs hg => hfew _ _ gs (fun g hg => (hok.md g hg).2) hg) (fun gs hg => hfew _ _ gs (fun g hg => (hM g hg).2) hg)).mono ?_
    rintro en w' ⟨rfl, g1, g2, f', hg1, hg2, hf', hc', hcs⟩
    have hset := hv.feedSet hk hf' hc'
    refine ⟨rfl, ⟨_, _, L.set k f', hset, by simp [hL], fun i h1 h2 hi => ?_, fun i h1 h2 hi => ?_, fun j hj => ?_⟩, ?_, ?_, ?_⟩
    · by_cases hik : i = k
      · subst hik
        rw [List.getElem_set_self]
        rw [hLk] at hg1 hg2 hcs
        exact .inr ⟨hb, g1, g2, hg1, hg2, hcs⟩
      · rw [List.getElem_set_ne (by omega)]
        exact hd i h1 (by simpa using h2) (by omega)
    · rw [List.getElem_set_ne (by omega)]
      exact hr i h1 (by simpa using h2) (by omega)
    · rcases sSet_sub (fun j hj => (hv.sub k j hj).1) j hj with h1 | h1
      · exact hs j h1
      · exact .inr (Nat.le_trans hc.size h1)
    · refine ⟨hc'.os.trans hc.os, hc'.tape.trans hc.tape, hc'.output.trans hc.output, Nat.le_trans hc.size hc'.size, fun j hj hn => (hc'.block j (Nat.lt_of_lt_of_le hj hc.size) (fun hs' => ?_)).trans (hc.block j hj hn)⟩
      rcases hs j (hv.sub k j hs').1 with h1 | h1
      · exact hn h1
      · omega
    · exact hmd.kept (fun j es c hm => (hc'.block j (Array.getElem?_eq_some_iff.1 hm).1 (fun hs' => WTy.notMap hm (hv.sub k j hs').2.w)).trans hm)
    · refine (hc'.block N (Array.getElem?_eq_some_iff.1 hbx).1 (fun hs' => ?_)).trans hbx
      obtain ⟨c, t, h1, h2⟩ := (hv.sub k N hs').2
      rw [hbx] at h1; cases h1
      rcases h2 with h2 | h2 <;> cases h2

/-- The state is put: no feed is moved yet. -/
theorem mv_start {w W3 W4 : World} {S S2 : Nat → Prop} {be N bm B : Nat} {e : Eg} {l : List (Gd × Int)} {M' : Gd → Option Int} {vr vn vk vf : Value} {rb b45 b87 : Nat} {bfs : List Nat} {Sf : Nat → Nat → Prop} {m : Int}
    (hv : EngV W3 S2 be { e with mark := m, kept := l } vr vn vk vf bm rb b45 b87 bfs Sf) (hsub : ∀ k, S2 k → S k) (hch : Chg w W3 S) (hbx : W3.heap[N]? = some (Obj.cells #[.pointer (some ⟨be, 0, none⟩)] 40 (0, 0))) (hb : Below W3.heap.size W3 W4) (hm : MdAt W4 B 5000 M') :
    W4.cell? ⟨N, 0, none⟩ = some (.pointer (some ⟨be, 0, none⟩)) ∧ W4.cell? ⟨be, 7, none⟩ = some (.map (some bm)) ∧ W4.frozen? ⟨be, 7, none⟩ = false ∧ MvI w S be N bm B e l M' vr vn vk vf rb b45 b87 bfs m 0 (W4.setCell ⟨be, 7, none⟩ (.map (some B))) := by
  have h4 := hv.below hb
  have hN4 := (hb.block N (Array.getElem?_eq_some_iff.1 hbx).1).trans hbx
  have hbk := h4.blk
  have hne : N ≠ be := fun e => by rw [e, h4.blk] at hN4; cases hN4
  have hc : Chg W4 (W4.setCell ⟨be, 7, none⟩ (.map (some B))) (fun k => k = be ∨ vk.ownBlock = some k) := (Chg.refl W4 _).setCell ⟨be, 7, none⟩ _ (fun _ => .inl rfl)
  have hty : ∀ (k : Nat) (o : Obj), W4.heap[k]? = some o → k ≠ be → (W4.setCell ⟨be, 7, none⟩ (.map (some B))).heap[k]? = some o := fun k o hk hne => (Below.heap_setCell _ _ _ _ (by show k ≠ be; exact hne)).trans hk
  have hmap : ∀ j es c, W4.heap[j]? = some (Obj.map es c) → (W4.setCell ⟨be, 7, none⟩ (.map (some B))).heap[j]? = some (Obj.map es c) := fun j es c hj => hty j _ hj (fun e => by rw [e, h4.blk] at hj; cases hj)
  have hput := h4.put (W' := W4.setCell ⟨be, 7, none⟩ (.map (some B))) (e' := { e with mark := m, kept := l, M := M' }) (vn' := vn) (vk' := vk) (bm' := B) hc rfl rfl (heap_set h4.blk 7 (.map (some B)))
    (owns_set h4.names ⟨be, 7, none⟩ _ (owns_ne h4.names h4.blk (by decide))) (owns_set h4.kept ⟨be, 7, none⟩ _ (owns_ne h4.kept h4.blk (by decide))) (hm.kept hmap)
  have hchw : Chg w W4 S := ⟨hb.os.trans hch.os, hb.tape.trans hch.tape, hb.output.trans hch.output, Nat.le_trans hch.size hb.size, fun j hj hs => (hb.block j (Nat.lt_of_lt_of_le hj hch.size)).trans (hch.block j hj hs)⟩
  refine ⟨by simp [World.cell?, hN4], by simp [World.cell?, hbk], by simp [World.frozen?, hbk], ⟨_, Sf, e.fds, hput, rfl, fun i _ _ hi => by omega, fun i _ _ _ => rfl, fun j hj => ?_⟩, hchw.setCell ⟨be, 7, none⟩ _ (fun _ => hsub _ hv.own.1), h4.md.kept hmap, hty N _ hN4 hne⟩
  rcases hj with ⟨h1, _⟩ | h1 | h1
  · exact .inl (hsub j h1)
  · exact .inl (hsub j (hv.own.2.1 j h1))
  · exact .inl (hsub j (hv.own.2.2.2 j h1))

/-- All feeds are moved. -/
theorem MvI.done {w V : World} {S : Nat → Prop} {be N bm B : Nat} {e : Eg} {l : List (Gd × Int)} {M' : Gd → Option Int} {vr vn vk vf : Value} {rb b45 b87 : Nat} {bfs : List Nat} {m : Int} (h : MvI w S be N bm B e l M' vr vn vk vf rb b45 b87 bfs m bfs.length V) (hl : e.kept.filter (fun d => !overB e.win m d.2) = l) (hM : LeastM e.rs (factsF e m ++ givenL e.rs) M') :
    ∃ e', MoveE e m e' ∧ EngPost S be e' w V := by
  obtain ⟨⟨Sk, Sfk, L, hv, hL, hd, hr, hs⟩, hc, hmd, hbx⟩ := h
  have hlen : bfs.length = L.length := hv.len
  refine ⟨{ e with mark := m, kept := l, M := M', fds := L }, ⟨M', L, hM, hL, fun i h1 h2 => hd i h1 h2 (by omega), by rw [hl]⟩, Sk, ⟨_, _, _, _, _, _, _, _, _, _, hv⟩, hs, hc⟩

end Go.Proofs.YtjajnhemgphefaaGreatDoor
