/-
  The engine: Subscribe.
  The engine: Insert.
  The engine: what move does to its feeds, one after the other.
-/
import Derived.Test.YtjajnhemgphefaaGreatDoorJdEgO
import Derived.Test.YtjajnhemgphefaaGreatDoorJdEgT
import Derived.Test.YtjajnhemgphefaaGreatDoorJdEgR
import Derived.Test.YtjajnhemgphefaaGreatDoorJdEgU
namespace Go.Proofs.YtjajnhemgphefaaGreatDoor
open Go.RowKit Go.Shelf Go.Maps
set_option linter.unusedVariables false
set_option linter.unusedSimpArgs false

theorem infoFp : (Tryz.prog.info? 120).map (fun i => (i.zero, i.size, i.bytes)) = some (some (.pointer none), 1, 8) := by kernel_rfl

set_option maxRecDepth 100000 in
set_option maxHeartbeats 4000000 in
theorem subscribe_any (S : Nat → Prop) (be : Nat) (e : Eg) (s : ByteArray) (w : World) (h : EngAt w S be e) (hok : EgOk e) (hs : s.size ≤ 4611686018427387904) (hT : Lib.Utf8Tabs 0 1 w) :
    Calls Tryz.prog 26 #[.pointer (some ⟨be, 0, none⟩), .string s] w fun en w' => en = .returned (.tuple #[.int .i64 (subR e s).1, .int .i64 (subR e s).2.1]) ∧ EngPost S be (subR e s).2.2 w w' := by
  have hrn : Hid _ := readName_any s w hs hT
  have HE : Hid (EngAt w S be e) := h
  by_cases hn : nameB s = false
  · have hu : Hid (subR e s = (0, 2, e)) := by show _ = _; unfold subR; rw [if_pos hn]
    rw [hn] at hrn
    have hrn' : Hid (Calls Tryz.prog 52 #[.string s] w fun e w' => e = .returned (.tuple #[.string ⟨#[]⟩, .bool false]) ∧ Below w.heap.size w w') := hrn.out
    clear hrn hn h hok
    rw [hu.out]
    go_enter Tryz.func26, Tryz.ntmps26
    go_wp2_with (go_at_call 52; refine Calls.mono hrn'.out ?_; rintro e' W1 ⟨rfl, hb1⟩)
    go_ret2
    exact ⟨rfl, EngPost.same HE.out hb1⟩
  have hn' : nameB s = true := by simpa using hn
  rw [hn'] at hrn
  have hrn' : Hid (Calls Tryz.prog 52 #[.string s] w fun e w' => e = .returned (.tuple #[.string s, .bool true]) ∧ Below w.heap.size w w') := hrn.out
  have HN : Hid (nameB s = true) := hn'
  clear hrn hn hn'
  obtain ⟨vr, vn, vk, vf, bm, rb, b45, b87, bfs, Sf, hv⟩ := h
  have hbe := hv.lt
  obtain ⟨ra, rc, hrf⟩ := hv.rules.form
  subst hrf
  obtain ⟨fa, fc, hff⟩ := owns_form hv.frow
  subst hff
  have hlen : Hid (bfs.length = e.fds.length) := hv.len
  have har : Hid (∀ W, Below w.heap.size w W → Calls Tryz.prog 53 #[.slice ra e.rs.length rc, .string s] W fun e' w' => e' = .returned (.int .i64 (arR e.rs s)) ∧ Below W.heap.size W w') := fun W hb => by
    have hv' := hv.below hb
    exact arity_any _ e.rs s rb b45 b87 _ hv'.rules (rules_row hv'.rules) hok.rs.r8 hok.rs.rok
  have hblk : Hid (∀ W, Below w.heap.size w W → W.heap[be]? = some (Obj.cells #[.slice ra e.rs.length rc, .int .i64 e.win, .int .i64 e.lat, .int .i64 e.que, .int .i64 e.mark, vn, vk, .map (some bm), .slice fa bfs.length fc] 101 (0, 0))) := fun W hb => (hv.below hb).blk
  have hcell0 : Hid (∀ W, Below w.heap.size w W → W.cell? ⟨be, 0, none⟩ = some (.slice ra e.rs.length rc) ∧ W.cell? ⟨be, 8, none⟩ = some (.slice fa bfs.length fc) ∧ W.frozen? ⟨be, 8, none⟩ = false) := fun W hb => by
    have := hblk.out W hb
    refine ⟨by simp [World.cell?, this], by simp [World.cell?, this], by simp [World.frozen?, this]⟩
  have hf3 : bfs.length ≤ 3 := by rw [hlen.out]; exact hok.f3
  have hV : Hid (EngV w S be e (.slice ra e.rs.length rc) vn vk (.slice fa bfs.length fc) bm rb b45 b87 bfs Sf) := hv
  have hOK : Hid (EgOk e) := hok
  by_cases h0 : arR e.rs s = 0
  · have hu : Hid (subR e s = (0, 7, e)) := by show _ = _; unfold subR; rw [HN.out, if_neg (by decide), if_pos h0]
    rw [h0] at har
    rw [hu.out]
    clear hv h0 hok
    go_enter Tryz.func26, Tryz.ntmps26
    go_wp2_with (first | (go_at_call 52; refine Calls.mono hrn'.out ?_; rintro e' W1 ⟨rfl, hb1⟩; obtain ⟨q0, q8, y8⟩ := hcell0.out W1 hb1) | (go_at_call 53; refine Calls.mono (har.out W1 hb1) ?_; rintro e' W2 ⟨rfl, hb2⟩; have hb3 : Below w.heap.size w W2 := hb1.trans (hb2.mono hb1.size)))
    go_ret2
    exact ⟨rfl, EngPost.same HE.out hb3⟩
  have h0' : ((arR e.rs s : Int) == 0) = false := by simp [h0]
  have h0'' : ¬ (arR e.rs s : Int) = 0 := by omega
  by_cases h3 : e.fds.length = 3
  · have hu : Hid (subR e s = (0, 10, e)) := by show _ = _; unfold subR; rw [HN.out, if_neg (by decide), if_neg h0, if_pos h3]
    have h3' : Hid (bfs.length = 3) := hlen.out.trans h3
    rw [h3'.out] at hcell0
    rw [hu.out]
    clear hv hok hV hblk
    go_enter Tryz.func26, Tryz.ntmps26
    go_wp2_with (first | (go_at_call 52; refine Calls.mono hrn'.out ?_; rintro e' W1 ⟨rfl, hb1⟩; obtain ⟨q0, q8, y8⟩ := hcell0.out W1 hb1) | (go_at_call 53; refine Calls.mono (har.out W1 hb1) ?_; rintro e' W2 ⟨rfl, hb2⟩; have hb3 : Below w.heap.size w W2 := hb1.trans (hb2.mono hb1.size); obtain ⟨p0, p8, z8⟩ := hcell0.out W2 hb3))
    go_ret2
    exact ⟨rfl, EngPost.same HE.out hb3⟩
  have hu : Hid (subR e s = ((e.fds.length : Int), 0, { e with fds := e.fds ++ [⟨formA s (arR e.rs s), true, [], [], 0⟩] })) := by show _ = _; unfold subR; rw [HN.out, if_neg (by decide), if_neg h0, if_neg h3]
  have h3' : ¬ (bfs.length : Int) = 3 := by rw [hlen.out]; omega
  have h3'' : ((bfs.length : Int) == 3) = false := by simpa using h3'
  rw [hu.out]
  have ar2 : Hid (arR e.rs s ≤ 2) := by
    show _ ≤ _
    rcases arR_cases hok.rs s with x | x | x <;> omega
  have hfo : Hid (∀ W, Calls Tryz.prog 55 #[.string s, .int .i64 (arR e.rs s)] W fun e' w' => ∃ (xa : Option Addr) (xc : Nat), e' = .returned (.agg #[.string s, .slice xa (formA s (arR e.rs s)).args.length xc]) ∧ SealT w' w'.heap.size (.slice xa (formA s (arR e.rs s)).args.length xc) (formA s (arR e.rs s)).args ∧ Below W.heap.size W w') := fun W => by
    refine (form_any s _ ar2.out W).mono ?_
    rintro e' w' ⟨va, h1, h2, h3⟩
    obtain ⟨xa, xc, hxf⟩ := h2.form
    subst hxf
    exact ⟨xa, xc, h1, h2, h3⟩
  obtain ⟨i0, hi, hz0, hz1, hz2⟩ := info_parts infoFp
  have hb1' : bfs.length + 1 ≤ maxLen := by unfold maxLen; omega
  have hb2' : (bfs.length + 1) * 8 ≤ 140737488355328 := by omega
  clear hv hok
  go_enter Tryz.func26, Tryz.ntmps26
  go_wp2_with (first | (go_at_call 52; refine Calls.mono hrn'.out ?_; rintro e' W1 ⟨rfl, hb1⟩; obtain ⟨q0, q8, y8⟩ := hcell0.out W1 hb1) | (go_at_call 53; refine Calls.mono (har.out W1 hb1) ?_; rintro e' W2 ⟨rfl, hb2⟩; have hb3 : Below w.heap.size w W2 := hb1.trans (hb2.mono hb1.size); obtain ⟨p0, p8, z8⟩ := hcell0.out W2 hb3))
  have hD2 : Hid (Below w.heap.size w W2.drew) := hb3.drew
  have hfn : Hid (∀ W (xa : Option Addr) (xn xc : Nat), Calls Tryz.prog 54 #[.agg #[.string s, .slice xa xn xc]] W fun e' w' => ∃ B, e' = .returned (.pointer (some ⟨B, 0, none⟩)) ∧ W.heap.size ≤ B ∧ w'.heap[B]? = some (Obj.cells #[.string s, .slice xa xn xc, .bool true, .slice none 0 0, .slice none 0 0, .int .i64 0] 198 (0, 0)) ∧ Below W.heap.size W w') := fun W xa xn xc => fnew_any s _ xa xn xc rfl W
  have hW3f : Hid (∀ W3, Below W2.drew.heap.size W2.drew W3 → Below w.heap.size w W3 ∧ W3.cell? ⟨be, 8, none⟩ = some (.slice fa bfs.length fc)) := fun W3 hb => by
    have h1 : Below w.heap.size w W3 := hD2.out.trans (hb.mono hD2.out.size)
    exact ⟨h1, (hcell0.out W3 h1).2.1⟩
  have hW4f : Hid (∀ W3 W4, Below w.heap.size w W3 → Below W3.heap.size W3 W4 → Below w.heap.size w W4 ∧ W4.cell? ⟨be, 8, none⟩ = some (.slice fa bfs.length fc) ∧ (∀ O, (W4.alloc O).cell? ⟨be, 8, none⟩ = some (.slice fa bfs.length fc)) ∧ W4.ownsRow 0 120 1 (.slice fa bfs.length fc) bfs.length (bfs.map ptrV)) := fun W3 W4 h1 hb => by
    have h2 : Below w.heap.size w W4 := h1.trans (hb.mono h1.size)
    refine ⟨h2, (hcell0.out W4 h2).2.1, fun O => (hcell0.out _ (h2.alloc h2.size O)).2.1, (hV.out.below h2).frow⟩
  have hend : Hid (∀ W3 W4 (xa : Option Addr) (xc B : Nat), Below w.heap.size w W3 → Below W3.heap.size W3 W4 → SealT W3 W3.heap.size (.slice xa (formA s (arR e.rs s)).args.length xc) (formA s (arR e.rs s)).args → W3.heap.size ≤ B → W4.heap[B]? = some (Obj.cells #[.string s, .slice xa (formA s (arR e.rs s)).args.length xc, .bool true, .slice none 0 0, .slice none 0 0, .int .i64 0] 198 (0, 0)) → ∀ (O : Obj) (w1 : World) (v' : Value), w1.ownsRow 0 120 1 v' (bfs.length + 1) (bfs.map ptrV ++ [.pointer (some ⟨B, 0, none⟩)]) → (W4.alloc O).grownBy w1 (Value.slice fa bfs.length fc).ownBlock → (v'.ownBlock = (Value.slice fa bfs.length fc).ownBlock ∨ v'.ownBlock = some (W4.alloc O).heap.size) → w1.cell? ⟨be, 8, none⟩ = some (.slice fa bfs.length fc) ∧ w1.frozen? ⟨be, 8, none⟩ = false ∧ EngPost S be { e with fds := e.fds ++ [⟨formA s (arR e.rs s), true, [], [], 0⟩] } w (w1.setCell ⟨be, 8, none⟩ v')) := fun W3 W4 xa xc B h1 hb hsl hB hB4 O w1 v' k1 k2 k3 =>
    sub_mem (a := formA s (arR e.rs s)) (bt := W3.heap.size) hV.out (h1.trans (hb.mono h1.size)) (by have := h1.size; omega) hB4 (hsl.rk (RuleKept.ofBelow hb)) O k1 k2 k3
  have hfl : Hid ((formA s (arR e.rs s)).args.length = arR e.rs s) := formA_len _ _
  clear p0 q0 q8 y8 z8 har hrn' h0 h0' h0'' h3'' hb1 hb2 hf3
  generalize (formA s (arR e.rs s)).args.length = fl at *
  refine wp_mono (Q := fun en a' W' => match en with | Exit.normal => (EngPost S be { e with fds := e.fds ++ [⟨formA s (arR e.rs s), true, [], [], 0⟩] } w W' ∧ ∃ (xa : Option Addr) (xc B n4 : Nat) (v' : Value), a' = { tmps := #[.pointer (some ⟨be, 0, none⟩), .string s, undef, undef, .int .i64 0, .int .i64 0, .string s, .bool true, .int .i64 (arR e.rs s), .int .i64 bfs.length, .tuple #[.string s, .bool true], .string s, .tuple #[.string s, .bool true], .string s, .bool true, .bool true, .bool false, .pointer (some ⟨be, 0, none⟩), .pointer (some ⟨be, 0, none⟩), .pointer (some ⟨be, 0, none⟩), .slice ra e.rs.length rc, .string s, .int .i64 (arR e.rs s), .int .i64 (arR e.rs s), .bool false, .pointer (some ⟨be, 0, none⟩), .pointer (some ⟨be, 0, none⟩), .pointer (some ⟨be, 8, none⟩), .slice fa bfs.length fc, .int .i64 bfs.length, .int .i64 bfs.length, .bool false, .pointer (some ⟨be, 0, none⟩), .pointer (some ⟨be, 0, none⟩), .pointer (some ⟨be, 0, none⟩), .pointer (some ⟨be, 8, none⟩), .slice fa bfs.length fc, .string s, .int .i64 (arR e.rs s), .agg #[.string s, .slice xa fl xc], .pointer (some ⟨B, 0, none⟩), .slice (some ⟨n4, 0, none⟩) 1 1, v', .pointer (some ⟨be, 0, none⟩), .pointer (some ⟨be, 8, none⟩), undef], defers := [] }) | _ => False) ?reg ?rest
  case reg =>
    go_region_law (first | (refine step_append_at rfl (.tmp 36) (.tmp 41) 99 rfl 0 120 i0 (.pointer none) 1 8 Tryz.underlying99 hi hz0 hz1 hz2 rfl (by decide) (.slice fa bfs.length fc) bfs.length (bfs.map ptrV) (by simp [Act.eval, Act.put]) (World.ownsRow.alloc hrow4 _) ⟨W4.heap.size, 0, none⟩ 1 1 [.pointer (some ⟨B, 0, none⟩)] (by simp [Act.eval, Act.put]) rfl (cell_one_new _ _ _) (by simp [Value.oneCell']) hb1' hb2' (Nat.zero_le _) ?_; intro v' w1 hown1 hgrow1 hat1; obtain ⟨g', cap', hv'⟩ := ownsRow_succ hown1; subst hv'; obtain ⟨s8, t8, hpost⟩ := hend.out W3 W4 xa xc B hbw3 hb4 hsl hB hB4 _ w1 _ hown1 hgrow1 hat1) | (go_simp; go_wp2_with (first | (go_at_call 55; refine (hfo.out _).mono ?_; rintro e' W3 ⟨xa, xc, rfl, hsl, hb4⟩; obtain ⟨hbw3, s8⟩ := hW3f.out W3 hb4; clear hb4) | (go_at_call 54; refine (hfn.out W3 xa _ xc).mono ?_; rintro e' W4 ⟨B, rfl, hB, hB4, hb4⟩; obtain ⟨hbw4, t8, u8, hrow4⟩ := hW4f.out W3 W4 hbw3 hb4))))
    all_goals exact ⟨hpost, _, _, _, _, _, rfl⟩
  case rest =>
    rintro (_ | _ | _ | _ | _ | _) a' W' hq
    all_goals first | exact hq.elim | skip
    obtain ⟨hpost, xa, xc, B, n4, v', rfl⟩ := hq
    go_wp2
    go_ret2
    refine ⟨?_, hpost⟩
    rw [hlen.out]
    rfl

end Go.Proofs.YtjajnhemgphefaaGreatDoor

namespace Go.Proofs.YtjajnhemgphefaaGreatDoor
open Go.RowKit Go.Shelf Go.Maps
set_option linter.unusedVariables false
set_option linter.unusedSimpArgs false

theorem EngPost.after {w w1 w2 : World} {S : Nat → Prop} {be : Nat} {e : Eg} (hb : Below w.heap.size w w1) (h : EngPost S be e w1 w2) : EngPost S be e w w2 := by
  obtain ⟨S', h1, h2, h3⟩ := h
  refine ⟨S', h1, fun k hk => (h2 k hk).imp id (fun h => Nat.le_trans hb.size h), h3.os.trans hb.os, h3.tape.trans hb.tape, h3.output.trans hb.output, Nat.le_trans hb.size h3.size, fun j hj hs => (h3.block j (Nat.lt_of_lt_of_le hj hb.size) hs).trans (hb.block j hj)⟩

set_option maxRecDepth 100000 in
set_option maxHeartbeats 4000000 in
theorem insert_any (S : Nat → Prop) (be : Nat) (e : Eg) (s : ByteArray) (t : Int) (w : World) (h : EngAt w S be e) (hok : EgOk e) (hs : s.size ≤ 4611686018427387904) (hT : Lib.Utf8Tabs 0 1 w) (hn : ∀ a, atomR s = some a → ∀ t ∈ a.args, t.num < 6) :
    Calls Tryz.prog 20 #[.pointer (some ⟨be, 0, none⟩), .string s, .int .i64 t] w fun en w' => en = .returned (.int .i64 (insR e s t).1) ∧ EngPost S be (insR e s t).2 w w' := by
  have hrg := readGround_any s w hs hT
  unfold GroundPost at hrg
  have HE : Hid (EngAt w S be e) := h
  cases ha : atomR s with
  | none =>
    rw [ha] at hrg
    have hu : Hid (insR e s t = (2, e)) := by show _ = _; unfold insR; rw [ha]
    have HR : Hid _ := hrg
    clear hrg ha h hok
    rw [hu.out]
    go_enter Tryz.func20, Tryz.ntmps20
    go_wp2_with (go_at_call 40; refine Calls.mono HR.out ?_; rintro e' W1 ⟨hb1, rfl⟩)
    go_ret
    exact ⟨rfl, EngPost.same HE.out (hb1.alloc hb1.size _)⟩
  | some a =>
    rw [ha] at hrg
    have hn' := hn a ha
    have hu : Hid (insR e s t = if groundB a = false then (2, e) else if derB e.rs a.rel = true then (7, e) else if ckR e.rs a ≠ 0 then (ckR e.rs a, e) else if ¬ (0 ≤ t ∧ t ≤ 1000000) then (6, e) else accR e a t) := by show _ = _; unfold insR; rw [ha]
    obtain ⟨gb, hgb⟩ : ∃ gb, groundB a = gb := ⟨_, rfl⟩
    have HR : Hid (Calls Tryz.prog 40 #[.string s] w fun e' w' => Below w.heap.size w w' ∧ ∃ va, e' = .returned (.tuple #[.agg #[.string a.rel, va], .bool gb]) ∧ AmOk a ∧ SealT w' w'.heap.size va a.args) := by
      show Calls _ _ _ _ _
      rw [← hgb]; exact hrg
    rw [hgb] at hu
    obtain ⟨vr, vn, vk, vf, bm, rb, b45, b87, bfs, Sf, hv⟩ := h
    obtain ⟨ra, rc, hrf⟩ := hv.rules.form
    subst hrf
    have hbe := hv.lt
    have hblk : Hid (∀ W, Below w.heap.size w W → W.cell? ⟨be, 0, none⟩ = some (.slice ra e.rs.length rc)) := fun W hb => by
      have := (hv.below hb).blk
      simp [World.cell?, this]
    have hde : Hid (∀ W, Below w.heap.size w W → Calls Tryz.prog 41 #[.slice ra e.rs.length rc, .string a.rel] W fun e' w' => e' = .returned (.bool (derB e.rs a.rel)) ∧ Below W.heap.size W w') := fun W hb => by
      have hv' := hv.below hb
      exact isDerived_any _ e.rs a.rel rb b45 b87 _ hv'.rules (rules_row hv'.rules) hok.rs.r8
    have hwi : Hid (∀ W, Calls Tryz.prog 43 #[.int .i64 t, .int .i64 0, .int .i64 1000000] W fun e' w' => e' = .returned (.bool (decide (0 ≤ t) && decide (t ≤ 1000000))) ∧ W = w') := fun W => by
      refine (isWithin_any t 0 1000000 W).mono ?_
      rintro e' w' ⟨h1, h2⟩; exact ⟨h1, h2.symm⟩
    have HOK : Hid (EgOk e) := hok
    clear hrg ha hv hok hT hn
    clear hgb
    cases gb with
    | false =>
      rw [if_pos rfl] at hu
      rw [hu.out]
      clear hu
      go_enter Tryz.func20, Tryz.ntmps20
      go_wp2_with (go_at_call 40; refine Calls.mono HR.out ?_; rintro e' W1 ⟨hb1, va, rfl, hak, hsl⟩; obtain ⟨xa, xc, hxf⟩ := hsl.form; subst hxf; have HAK : Hid _ := hak; have HSL : Hid _ := hsl; clear hak hsl)
      go_ret
      exact ⟨rfl, EngPost.same HE.out (hb1.alloc hb1.size _)⟩
    | true =>
      rw [if_neg (by decide)] at hu
      go_enter Tryz.func20, Tryz.ntmps20
      go_wp2_with fail
      refine Calls.mono HR.out ?_
      rintro e' W1 ⟨hb1, va, rfl, hak, hsl⟩
      obtain ⟨xa, xc, hxf⟩ := hsl.form
      subst hxf
      have hckc : Hid (∀ W, Below w.heap.size w W → Calls Tryz.prog 42 #[.pointer (some ⟨be, 0, none⟩), .agg #[.string a.rel, .slice xa a.args.length xc]] W fun en w' => en = .returned (.int .i64 (ckR e.rs a)) ∧ Below W.heap.size W w') := fun W hb => checkRel_any S be e W (HE.out.below hb) HOK.out.rs a _ _ _ rfl hak.args
      have hacc : Hid (∀ W, Below w.heap.size w W → Below W1.heap.size W1 W → 0 ≤ t ∧ t ≤ 1000000 → Calls Tryz.prog 44 #[.pointer (some ⟨be, 0, none⟩), .agg #[.string a.rel, .slice xa a.args.length xc], .int .i64 t] W fun en w' => en = .returned (.int .i64 (accR e a t).1) ∧ EngPost S be (accR e a t).2 w w') := fun W hb hb1' ht => by
        refine (accept_any S be e a xa xc W1.heap.size t W (HE.out.below hb) HOK.out hak (hsl.rk (RuleKept.ofBelow hb1')) hn' ht).mono ?_
        rintro en w' ⟨h1, h2⟩
        exact ⟨h1, EngPost.after hb h2⟩
      have hW1 : w.heap.size ≤ W1.heap.size := hb1.size
      have hbA : Hid (Below w.heap.size w (W1.alloc (.cells #[.string a.rel, .slice xa a.args.length xc] 92)) ∧ Below W1.heap.size W1 (W1.alloc (.cells #[.string a.rel, .slice xa a.args.length xc] 92))) := ⟨hb1.alloc hb1.size _, (Below.refl _ W1).alloc (Nat.le_refl _) _⟩
      have hbox : Hid (∀ W2, Below (W1.alloc (.cells #[.string a.rel, .slice xa a.args.length xc] 92)).heap.size (W1.alloc (.cells #[.string a.rel, .slice xa a.args.length xc] 92)) W2 → W2.cell? ⟨W1.heap.size, 0, none⟩ = some (.string a.rel) ∧ W2.cell? ⟨W1.heap.size, 1, none⟩ = some (.slice xa a.args.length xc) ∧ Below w.heap.size w W2 ∧ Below W1.heap.size W1 W2 ∧ W2.cell? ⟨be, 0, none⟩ = some (.slice ra e.rs.length rc)) := fun W2 hb => by
        have h1 := (hb.block _ (by simp)).trans (World.alloc_heap_new W1 _)
        have h2 := hbA.out.1.trans (hb.mono (by simp; omega))
        exact ⟨by simp [World.cell?, h1], by simp [World.cell?, h1], h2, hbA.out.2.trans (hb.mono (by simp)), hblk.out W2 h2⟩
      obtain ⟨r0, r1, r2, r3, r4⟩ := hbox.out _ (Below.refl _ _)
      have hbW : Hid (Below w.heap.size w (W1.alloc (.cells #[.string a.rel, .slice xa a.args.length xc] 92)).drew) := hbA.out.1.drew
      clear hak hsl
      cases hdb : derB e.rs a.rel with
      | true =>
        rw [hdb, if_pos rfl] at hu
        rw [hdb] at hde
        clear hdb
        go_wp2_with fail
        first | (go_region_with (go_at_call 41; refine (hde.out _ hbW.out).mono ?_; rintro e' W2 ⟨rfl, hb2⟩)) | fail
        all_goals go_wp2
        all_goals go_ret
        all_goals (rw [hu.out]; exact ⟨rfl, EngPost.same HE.out (hbW.out.trans (hb2.mono hbW.out.size))⟩)
      | false =>
        rw [hdb, if_neg (by decide)] at hu
        rw [hdb] at hde
        clear hdb
        go_wp2_with fail
        refine wp_mono (Q := fun e' a' w' => match e' with | Exit.normal => (Below (W1.alloc (.cells #[.string a.rel, .slice xa a.args.length xc] 92)).heap.size (W1.alloc (.cells #[.string a.rel, .slice xa a.args.length xc] 92)) w' ∧ a' = { tmps := #[.pointer (some ⟨be, 0, none⟩), .string s, .int .i64 t, undef, undef, undef, .int .i64 0, .pointer (some ⟨W1.heap.size, 0, none⟩), .bool true, undef, .tuple #[.agg #[.string a.rel, .slice xa a.args.length xc], .bool true], .string s, .tuple #[.agg #[.string a.rel, .slice xa a.args.length xc], .bool true], .agg #[.string a.rel, .slice xa a.args.length xc], .bool true, .bool true, .bool false, .pointer (some ⟨be, 0, none⟩), .pointer (some ⟨be, 0, none⟩), .pointer (some ⟨be, 0, none⟩), .slice ra e.rs.length rc, .pointer (some ⟨W1.heap.size, 0, none⟩), .string a.rel, .bool false, undef, undef, undef, undef, undef, undef, undef, undef, undef, undef, undef, undef, undef], defers := [] }) | _ => False) ?reg ?rest
        case reg =>
          first | (go_region_with (go_at_call 41; refine (hde.out _ hbW.out).mono ?_; rintro e' W2 ⟨rfl, hb2⟩)) | fail
          all_goals exact ⟨⟨hb2.os, hb2.tape, hb2.output, hb2.size, hb2.block⟩, rfl⟩
        case rest =>
          rintro (_ | _ | _ | _ | _ | _) a' W2 hq
          all_goals first | exact hq.elim | skip
          obtain ⟨hb2, rfl⟩ := hq
          obtain ⟨d0, d1, hb3, hb4, d4⟩ := hbox.out W2 hb2
          by_cases hck : ckR e.rs a = 0
          · have hck2 : Hid (¬ ckR e.rs a ≠ 0) := fun h => h hck
            rw [if_neg hck2.out] at hu
            rw [hck] at hckc
            clear hck
            go_wp2_with fail
            refine (hckc.out W2 hb3).mono ?_
            rintro e' W3 ⟨rfl, hb5⟩
            have hb6 : Below (W1.alloc (.cells #[.string a.rel, .slice xa a.args.length xc] 92)).heap.size (W1.alloc (.cells #[.string a.rel, .slice xa a.args.length xc] 92)) W3 := hb2.trans (hb5.mono hb2.size)
            obtain ⟨g0, g1, hb7, hb8, g4⟩ := hbox.out W3 hb6
            clear hb6 hb5 hb2
            by_cases ht : 0 ≤ t ∧ t ≤ 1000000
            · have hwt : (decide (0 ≤ t) && decide (t ≤ 1000000)) = true := by simp [ht.1, ht.2]
              rw [hwt] at hwi
              rw [if_neg (fun h => h ht)] at hu
              have HT : Hid (0 ≤ t ∧ t ≤ 1000000) := ht
              clear ht hwt
              go_wp2_with (first | (go_at_call 43; refine (hwi.out _).mono ?_; rintro e' w' ⟨rfl, hw'⟩; subst hw') | (go_at_call 44; refine (hacc.out W3 hb7 hb8 HT.out).mono ?_; rintro e' W4 ⟨rfl, hp⟩))
              go_ret
              rw [hu.out]
              exact ⟨rfl, hp⟩
            · have hwt : (decide (0 ≤ t) && decide (t ≤ 1000000)) = false := by
                rw [Bool.and_eq_false_iff]
                simp only [decide_eq_false_iff_not]
                omega
              rw [hwt] at hwi
              rw [if_pos ht] at hu
              clear ht hwt
              go_wp2_with (go_at_call 43; refine (hwi.out _).mono ?_; rintro e' w' ⟨rfl, hw'⟩; subst hw')
              go_ret
              rw [hu.out]
              exact ⟨rfl, EngPost.same HE.out hb7⟩
          · rw [if_pos hck] at hu
            have hck' : (ckR e.rs a == 0) = false := by simp [hck]
            generalize ckR e.rs a = ck at *
            go_wp2_with (go_at_call 42; refine (hckc.out W2 hb3).mono ?_; rintro e' W3 ⟨rfl, hb5⟩)
            go_ret
            rw [hu.out]
            exact ⟨rfl, EngPost.same HE.out (hb3.trans (hb5.mono hb3.size))⟩

end Go.Proofs.YtjajnhemgphefaaGreatDoor

namespace Go.Proofs.YtjajnhemgphefaaGreatDoor
open Go.RowKit Go.Shelf Go.Maps
set_option linter.unusedVariables false
set_option linter.unusedSimpArgs false

/-- Of the feeds k are moved. -/
structure MvI (w : World) (S : Nat → Prop) (be N bm B : Nat) (e : Eg) (l : List (Gd × Int)) (M' : Gd → Option Int) (vr vn vk vf : Value) (rb b45 b87 : Nat) (bfs : List Nat) (m : Int) (k : Nat) (V : World) : Prop where
  ex : ∃ (Sk : Nat → Prop) (Sfk : Nat → Nat → Prop) (L : List Fs), EngV V Sk be { e with mark := m, kept := l, M := M', fds := L } vr vn vk vf B rb b45 b87 bfs Sfk ∧ L.length = e.fds.length ∧ (∀ i (h : i < e.fds.length) (h' : i < L.length), i < k → MoveF e.M M' m e.que e.fds[i] L[i]) ∧ (∀ i (h : i < e.fds.length) (h' : i < L.length), k ≤ i → L[i] = e.fds[i]) ∧ ∀ j, Sk j → S j ∨ w.heap.size ≤ j
  chg : Chg w V S
  md : MdAt V bm 5000 e.M
  box : V.heap[N]? = some (Obj.cells #[.pointer (some ⟨be, 0, none⟩)] 40 (0, 0))

theorem MvI.blk {w V : World} {S : Nat → Prop} {be N bm B : Nat} {e : Eg} {l : List (Gd × Int)} {M' : Gd → Option Int} {vr vn vk vf : Value} {rb b45 b87 : Nat} {bfs : List Nat} {m : Int} {k : Nat} (h : MvI w S be N bm B e l M' vr vn vk vf rb b45 b87 bfs m k V) :
    V.heap[be]? = some (Obj.cells #[vr, .int .i64 e.win, .int .i64 e.lat, .int .i64 e.que, .int .i64 m, vn, vk, .map (some B), vf] 101 (0, 0)) ∧ V.ownsRow 0 120 1 vf bfs.length (bfs.map ptrV) := by
  obtain ⟨⟨Sk, Sfk, L, hv, _⟩, _⟩ := h
  exact ⟨hv.blk, hv.frow⟩
theorem MvI.drew {w V : World} {S : Nat → Prop} {be N bm B : Nat} {e : Eg} {l : List (Gd × Int)} {M' : Gd → Option Int} {vr vn vk vf : Value} {rb b45 b87 : Nat} {bfs : List Nat} {m : Int} {k : Nat} (h : MvI w S be N bm B e l M' vr vn vk vf rb b45 b87 bfs m k V) : MvI w S be N bm B e l M' vr vn vk vf rb b45 b87 bfs m k V.drew := by
  obtain ⟨⟨Sk, Sfk, L, hv, h1, h2, h3, h4⟩, h5, h6, h7⟩ := h
  exact ⟨⟨Sk, Sfk, L, hv.below (Below.refl _ V).drew, h1, h2, h3, h4⟩, h5.drew, h6.below (Below.refl _ V).drew, h7⟩

set_option maxHeartbeats 1000000 in
theorem mv_step {w V : World} {S : Nat → Prop} {be N bm B : Nat} {e : Eg} {l : List (Gd × Int)} {M' : Gd → Option Int} {vr vn vk vf : Value} {rb b45 b87 : Nat} {bfs : List Nat} {m : Int} {k : Nat} (h : MvI w S be N bm B e l M' vr vn vk vf rb b45 b87 bfs m k V) (hk : k < bfs.length) (hok : EgOk e) (hM : ∀ g, (M' g).isSome = true → arOk (arR e.rs) g ∧ g ∈ uni (relsR e.rs) e.names) :
    Calls Tryz.prog 88 #[.pointer (some ⟨bfs[k], 0, none⟩), .map (some bm), .map (some B), .int .i64 m, .int .i64 e.que] V fun en w' => en = .returned (.tuple #[]) ∧ MvI w S be N bm B e l M' vr vn vk vf rb b45 b87 bfs m (k + 1) w' := by
  obtain ⟨⟨Sk, Sfk, L, hv, hL, hd, hr, hs⟩, hc, hmd, hbx⟩ := h
  have hlen : bfs.length = L.length := hv.len
  have hkL : k < L.length := by omega
  have hke : k < e.fds.length := by omega
  obtain ⟨b, hf⟩ := hv.feed k hk hkL
  have hLk : L[k] = e.fds[k] := hr k hke hkL (Nat.le_refl k)
  have hf2 : FdAt V (Sfk k) bfs[k] b L[k] := hf
  have hfo := hok.fds _ (List.getElem_mem hke)
  cases hb : (e.fds[k]).behind with
  | true =>
    refine (move_behind (Sfk k) bfs[k] b L[k] bm B m e.que V hf2 (by rw [hLk]; exact hb)).mono ?_
    rintro en w' ⟨rfl, rfl⟩
    refine ⟨rfl, ⟨Sk, Sfk, L, hv, hL, fun i h1 h2 hi => ?_, fun i h1 h2 hi => hr i h1 h2 (by omega), hs⟩, hc, hmd, hbx⟩
    by_cases hik : i = k
    · subst hik; exact .inl ⟨hb, hLk⟩
    · exact hd i h1 h2 (by omega)
  | false =>
    have hMs : ∀ (rel x y : ByteArray), (M' ⟨rel, x, y⟩).isSome = true → x.size ≤ 2000 ∧ y.size ≤ 2000 := fun rel x y hx => by
      have := uni_size hok.rs hok.nsz (hM _ hx).2
      exact ⟨Nat.le_trans this.2.1 (by decide), Nat.le_trans this.2.2 (by decide)⟩
    have hfew : ∀ (P Q : Gd → Option Int) gs, (∀ g, (P g).isSome = true → g ∈ uni (relsR e.rs) e.names) → beyP P Q (L[k]).form gs → gs.length ≤ 100 := by
      rintro P Q gs hP ⟨g0, hg0, rfl⟩
      have h1 := fit_few hg0 hP hok.n8
      have h2 := List.length_filter_le (fun g => (Q g).isNone) g0
      omega
    refine (move_go (Sfk k) bfs[k] b L[k] bm B 5000 5000 e.M M' m e.que V hf2 (fun j hj => (hv.sub k j hj).2.lt) (by rw [hLk]; exact hb) (by rw [hLk]; have := hfo.2.2; omega) (by rw [hLk]; exact hfo.1) hmd hv.md (by decide) (by decide) (fun x y hx => md_size hok _ x y hx) (fun x y hx => hMs _ x y hx) (fun gs hg => hfew _ _ gs (fun g hg => (hok.md g hg).2) hg) (fun gs hg => hfew _ _ gs (fun g hg => (hM g hg).2) hg)).mono ?_
    rintro en w' ⟨rfl, g1, g2, f', hg1, hg2, hf', hc', hcs⟩
    have hset := hv.feedSet hk hf' hc'
    refine ⟨rfl, ⟨_, _, L.set k f', hset, by simp [hL], fun i h1 h2 hi => ?_, fun i h1 h2 hi => ?_, fun j hj => ?_⟩, ?_, ?_, ?_⟩
    · by_cases hik : i = k
      · subst hik
        rw [List.getElem_set_self]
        rw [hLk] at hg1 hg2 hcs
        exact .inr ⟨hb, g1, g2, hg1, hg2, hcs⟩
      · rw [List.getElem_set_ne (by omega)]
        exact hd i h1 (by simpa using h2) (by omega)
    · rw [List.getElem_set_ne (by omega)]
      exact hr i h1 (by simpa using h2) (by omega)
    · rcases sSet_sub (fun j hj => (hv.sub k j hj).1) j hj with h1 | h1
      · exact hs j h1
      · exact .inr (Nat.le_trans hc.size h1)
    · refine ⟨hc'.os.trans hc.os, hc'.tape.trans hc.tape, hc'.output.trans hc.output, Nat.le_trans hc.size hc'.size, fun j hj hn => (hc'.block j (Nat.lt_of_lt_of_le hj hc.size) (fun hs' => ?_)).trans (hc.block j hj hn)⟩
      rcases hs j (hv.sub k j hs').1 with h1 | h1
      · exact hn h1
      · omega
    · exact hmd.kept (fun j es c hm => (hc'.block j (Array.getElem?_eq_some_iff.1 hm).1 (fun hs' => WTy.notMap hm (hv.sub k j hs').2.w)).trans hm)
    · refine (hc'.block N (Array.getElem?_eq_some_iff.1 hbx).1 (fun hs' => ?_)).trans hbx
      obtain ⟨c, t, h1, h2⟩ := (hv.sub k N hs').2
      rw [hbx] at h1; cases h1
      rcases h2 with h2 | h2 <;> cases h2

/-- The state is put: no feed is moved yet. -/
theorem mv_start {w W3 W4 : World} {S S2 : Nat → Prop} {be N bm B : Nat} {e : Eg} {l : List (Gd × Int)} {M' : Gd → Option Int} {vr vn vk vf : Value} {rb b45 b87 : Nat} {bfs : List Nat} {Sf : Nat → Nat → Prop} {m : Int}
    (hv : EngV W3 S2 be { e with mark := m, kept := l } vr vn vk vf bm rb b45 b87 bfs Sf) (hsub : ∀ k, S2 k → S k) (hch : Chg w W3 S) (hbx : W3.heap[N]? = some (Obj.cells #[.pointer (some ⟨be, 0, none⟩)] 40 (0, 0))) (hb : Below W3.heap.size W3 W4) (hm : MdAt W4 B 5000 M') :
    W4.cell? ⟨N, 0, none⟩ = some (.pointer (some ⟨be, 0, none⟩)) ∧ W4.cell? ⟨be, 7, none⟩ = some (.map (some bm)) ∧ W4.frozen? ⟨be, 7, none⟩ = false ∧ MvI w S be N bm B e l M' vr vn vk vf rb b45 b87 bfs m 0 (W4.setCell ⟨be, 7, none⟩ (.map (some B))) := by
  have h4 := hv.below hb
  have hN4 := (hb.block N (Array.getElem?_eq_some_iff.1 hbx).1).trans hbx
  have hbk := h4.blk
  have hne : N ≠ be := fun e => by rw [e, h4.blk] at hN4; cases hN4
  have hc : Chg W4 (W4.setCell ⟨be, 7, none⟩ (.map (some B))) (fun k => k = be ∨ vk.ownBlock = some k) := (Chg.refl W4 _).setCell ⟨be, 7, none⟩ _ (fun _ => .inl rfl)
  have hty : ∀ (k : Nat) (o : Obj), W4.heap[k]? = some o → k ≠ be → (W4.setCell ⟨be, 7, none⟩ (.map (some B))).heap[k]? = some o := fun k o hk hne => (Below.heap_setCell _ _ _ _ (by show k ≠ be; exact hne)).trans hk
  have hmap : ∀ j es c, W4.heap[j]? = some (Obj.map es c) → (W4.setCell ⟨be, 7, none⟩ (.map (some B))).heap[j]? = some (Obj.map es c) := fun j es c hj => hty j _ hj (fun e => by rw [e, h4.blk] at hj; cases hj)
  have hput := h4.put (W' := W4.setCell ⟨be, 7, none⟩ (.map (some B))) (e' := { e with mark := m, kept := l, M := M' }) (vn' := vn) (vk' := vk) (bm' := B) hc rfl rfl (heap_set h4.blk 7 (.map (some B)))
    (owns_set h4.names ⟨be, 7, none⟩ _ (owns_ne h4.names h4.blk (by decide))) (owns_set h4.kept ⟨be, 7, none⟩ _ (owns_ne h4.kept h4.blk (by decide))) (hm.kept hmap)
  have hchw : Chg w W4 S := ⟨hb.os.trans hch.os, hb.tape.trans hch.tape, hb.output.trans hch.output, Nat.le_trans hch.size hb.size, fun j hj hs => (hb.block j (Nat.lt_of_lt_of_le hj hch.size)).trans (hch.block j hj hs)⟩
  refine ⟨by simp [World.cell?, hN4], by simp [World.cell?, hbk], by simp [World.frozen?, hbk], ⟨_, Sf, e.fds, hput, rfl, fun i _ _ hi => by omega, fun i _ _ _ => rfl, fun j hj => ?_⟩, hchw.setCell ⟨be, 7, none⟩ _ (fun _ => hsub _ hv.own.1), h4.md.kept hmap, hty N _ hN4 hne⟩
  rcases hj with ⟨h1, _⟩ | h1 | h1
  · exact .inl (hsub j h1)
  · exact .inl (hsub j (hv.own.2.1 j h1))
  · exact .inl (hsub j (hv.own.2.2.2 j h1))

/-- All feeds are moved. -/
theorem MvI.done {w V : World} {S : Nat → Prop} {be N bm B : Nat} {e : Eg} {l : List (Gd × Int)} {M' : Gd → Option Int} {vr vn vk vf : Value} {rb b45 b87 : Nat} {bfs : List Nat} {m : Int} (h : MvI w S be N bm B e l M' vr vn vk vf rb b45 b87 bfs m bfs.length V) (hl : e.kept.filter (fun d => !overB e.win m d.2) = l) (hM : LeastM e.rs (factsF e m ++ givenL e.rs) M') :
    ∃ e', MoveE e m e' ∧ EngPost S be e' w V := by
  obtain ⟨⟨Sk, Sfk, L, hv, hL, hd, hr, hs⟩, hc, hmd, hbx⟩ := h
  have hlen : bfs.length = L.length := hv.len
  refine ⟨{ e with mark := m, kept := l, M := M', fds := L }, ⟨M', L, hM, hL, fun i h1 h2 => hd i h1 h2 (by omega), by rw [hl]⟩, Sk, ⟨_, _, _, _, _, _, _, _, _, _, hv⟩, hs, hc⟩

end Go.Proofs.YtjajnhemgphefaaGreatDoor
