/-
  rules.Read: a text is read and checked.
  The engine: checkRelation, Until.
  The engine: Until.
  The engine: Ask.
-/
import Derived.Test.YtjajnhemgphefaaGreatDoorJCheck
import Derived.Test.YtjajnhemgphefaaGreatDoorJEgA
namespace Go.Proofs.YtjajnhemgphefaaGreatDoor
open Go.RowKit Go.Shelf
set_option linter.unusedVariables false
set_option linter.unusedSimpArgs false

def rulesR (s : ByteArray) : List UInt8 × Int × Int :=
  if 300 < Lib.runeCount s then ([], 1, 0)
  else match parseR s with
    | .error (c, p) => ([], c, p)
    | .ok rs => if (checkS rs).1 = 0 then (rulesTxt rs, 0, 0) else ([], (checkS rs).1, (checkS rs).2)

theorem parseR_err (s : ByteArray) (c : Int) (p : Nat) (h : parseR s = .error (c, p)) : c ≠ 0 := by
  unfold parseR at h
  split at h
  · rename_i st ep hf
    cases h
    exact foldP_err _ _ _ _ _ hf
  · split at h
    · cases h
    · cases h; decide

/-- What parse answers, as Read takes it. -/
def ReadAt (s : ByteArray) (w : World) (e : Ending) (w' : World) : Prop :=
  Below w.heap.size w w' ∧ ((∃ c p : Int, e = .returned (.tuple #[.slice none 0 0, .int .i64 c, .int .i64 p]) ∧ c ≠ 0 ∧ rulesR s = ([], c, p)) ∨
    (∃ rs v b45 b87, e = .returned (.tuple #[v, .int .i64 0, .int .i64 0]) ∧ RulesAt w' w.heap.size b45 b87 v rs ∧ rs.length ≤ 8 ∧ (∀ r ∈ rs, RuleOk r) ∧ rulesR s = (if (checkS rs).1 = 0 then (rulesTxt rs, 0, 0) else ([], (checkS rs).1, (checkS rs).2)) ∧ parseR s = .ok rs))

theorem parse_any (s : ByteArray) (w : World) (hs : s.size ≤ 4611686018427387904) (hT : Lib.Utf8Tabs 0 1 w) :
    Calls Tryz.prog 60 #[.string s] w (ReadAt s w) := by
  by_cases hl : 300 < Lib.runeCount s
  · refine (parse_long s w hs hl).mono ?_
    rintro e w' ⟨rfl, hb⟩
    exact ⟨hb, .inl ⟨1, 0, rfl, by decide, by unfold rulesR; rw [if_pos hl]⟩⟩
  · refine (parse_short s w (by omega) hT).mono ?_
    rintro e w' ⟨hb, h⟩
    refine ⟨hb, ?_⟩
    cases hp : parseR s with
    | error cp =>
      obtain ⟨c, p⟩ := cp
      rw [hp] at h
      exact .inl ⟨c, p, h, parseR_err s c p hp, by unfold rulesR; rw [if_neg hl, hp]⟩
    | ok rs =>
      rw [hp] at h
      obtain ⟨v, b45, b87, h1, _, _, h2, h3, h4⟩ := h
      exact .inr ⟨rs, v, b45, b87, h1, h2, h3, h4, by unfold rulesR; rw [if_neg hl, hp], rfl⟩

theorem rules_row {W : World} {base b45 b87 : Nat} {v : Value} {rs : List Rl} (h : RulesAt W base b45 b87 v rs) : ∀ g, v.ownBlock = some g → g < W.heap.size := by
  intro g hg
  obtain ⟨qs, r1, r2, r3⟩ := h
  obtain ⟨_, c, hc⟩ := owns_block r2 hg
  exact (Array.getElem?_eq_some_iff.1 hc).1

/-- What Read answers, as Rules takes it. -/
def RulesPost (s : ByteArray) (w : World) (e : Ending) (w' : World) : Prop :=
  Below w.heap.size w w' ∧ ((∃ c p : Int, e = .returned (.tuple #[.slice none 0 0, .int .i64 c, .int .i64 p]) ∧ c ≠ 0 ∧ rulesR s = ([], c, p)) ∨
    (∃ rs v b45 b87, e = .returned (.tuple #[v, .int .i64 0, .int .i64 0]) ∧ RulesAt w' w.heap.size b45 b87 v rs ∧ rs.length ≤ 8 ∧ (∀ r ∈ rs, RuleOk r) ∧ rulesR s = (rulesTxt rs, 0, 0) ∧ parseR s = .ok rs ∧ (checkS rs).1 = 0))

set_option maxHeartbeats 1000000 in
theorem readAll_any (s : ByteArray) (w : World) (hs : s.size ≤ 4611686018427387904) (hT : Lib.Utf8Tabs 0 1 w) :
    Calls Tryz.prog 30 #[.string s] w (RulesPost s w) := by
  have h1 := parse_any s w hs hT
  have H1 : Hid _ := h1
  clear h1
  go_enter Tryz.func30, Tryz.ntmps30
  go_wp2_with fail
  refine Calls.mono H1.out ?_
  rintro e w1 ⟨hb1, ⟨c, p, rfl, hc, hr⟩ | ⟨rs, v, b45, b87, rfl, hR, h8, hok, hr, hpr⟩⟩
  · have hc' : (c == 0) = false := by simp [hc]
    have HR : Hid _ := hr
    have HCC : Hid _ := hc
    clear hr hc
    go_wp2
    go_ret3
    exact ⟨hb1, .inl ⟨c, p, rfl, HCC.out, HR.out⟩⟩
  · obtain ⟨va, vc, rfl⟩ := hR.form
    have hck := check_any _ rs _ b45 b87 w1 hR (rules_row hR) h8 hok
    have HCK : Hid _ := hck
    have HR : Hid _ := hr
    have HRA : Hid _ := hR
    have HOK : Hid _ := hok
    have HPR : Hid _ := hpr
    clear hck hr hR hok hpr
    generalize hcs : checkS rs = cs at *
    obtain ⟨ce, cn⟩ := cs
    have HCS : Hid (checkS rs = (ce, cn)) := hcs
    clear hcs
    go_wp2_with fail
    refine Calls.mono HCK.out ?_
    rintro e w2 ⟨rfl, hb2⟩
    simp only
    by_cases hce : ce = 0
    · subst hce
      go_wp2
      go_ret3
      refine ⟨hb1.trans (hb2.mono hb1.size), .inr ⟨rs, _, b45, b87, rfl, RulesAt.rk HRA.out (RuleKept.ofBelow hb2), h8, HOK.out, ?_, HPR.out, by rw [HCS.out]⟩⟩
      exact HR.out
    · have hce' : (ce == 0) = false := by simp [hce]
      have HN : Hid _ := hce
      clear hce
      go_wp2
      go_ret3
      refine ⟨hb1.trans (hb2.mono hb1.size), .inl ⟨ce, cn, rfl, HN.out, ?_⟩⟩
      have := HR.out
      rw [if_neg HN.out] at this
      exact this

end Go.Proofs.YtjajnhemgphefaaGreatDoor

namespace Go.Proofs.YtjajnhemgphefaaGreatDoor
open Go.RowKit Go.Shelf Go.Maps
set_option linter.unusedVariables false
set_option linter.unusedSimpArgs false

/-- Whether rules have an atom's relation, with as many arguments. -/
def ckR (rs : List Rl) (a : Am) : Int := if arR rs a.rel = 0 then 7 else if arR rs a.rel = a.args.length then 0 else 4

theorem EngV.lt {W : World} {S : Nat → Prop} {be : Nat} {e : Eg} {vr vn vk vf : Value} {bm rb b45 b87 : Nat} {bfs : List Nat} {Sf : Nat → Nat → Prop} (h : EngV W S be e vr vn vk vf bm rb b45 b87 bfs Sf) : be < W.heap.size := (Array.getElem?_eq_some_iff.1 h.blk).1

set_option maxRecDepth 100000 in
set_option maxHeartbeats 1000000 in
theorem checkRel_any (S : Nat → Prop) (be : Nat) (e : Eg) (w : World) (h : EngAt w S be e) (hr : RsOk e.rs) (a : Am) (va : Value) (ta : Option Addr) (tc : Nat) (hva : va = .slice ta a.args.length tc) (hl : a.args.length ≤ 2) :
    Calls Tryz.prog 42 #[.pointer (some ⟨be, 0, none⟩), .agg #[.string a.rel, va]] w fun en w' => en = .returned (.int .i64 (ckR e.rs a)) ∧ Below w.heap.size w w' := by
  obtain ⟨vr, vn, vk, vf, bm, rb, b45, b87, bfs, Sf, hv⟩ := h
  subst hva
  have hbe := hv.lt
  have hb0 : ∀ O, Below w.heap.size w (w.alloc O) := fun O => (Below.refl _ w).alloc (Nat.le_refl _) O
  have har : Hid (∀ W, Below w.heap.size w W → Calls Tryz.prog 53 #[vr, .string a.rel] W fun e' w' => e' = .returned (.int .i64 (arR e.rs a.rel)) ∧ Below W.heap.size W w') := fun W hb => by
    have hv' := hv.below hb
    exact arity_any vr e.rs a.rel rb b45 b87 _ hv'.rules (rules_row hv'.rules) hr.r8 hr.rok
  obtain ⟨ra, rc, hrf⟩ := hv.rules.form
  subst hrf
  have hblk := hv.blk
  have c0 : ∀ O, (w.alloc O).cell? ⟨be, 0, none⟩ = some (.slice ra e.rs.length rc) := fun O => cell_later (hb0 O) (by simp [World.cell?, hblk])
  have hck : Hid (ckR e.rs a = if arR e.rs a.rel = 0 then 7 else if arR e.rs a.rel = a.args.length then 0 else 4) := rfl
  have hbx : Hid (∀ W1, Below (w.alloc (.cells #[.string a.rel, .slice ta a.args.length tc] 92)).drew.heap.size (w.alloc (.cells #[.string a.rel, .slice ta a.args.length tc] 92)).drew W1 → W1.cell? ⟨w.heap.size, 1, none⟩ = some (.slice ta a.args.length tc) ∧ Below w.heap.size w W1) := fun W1 hb => by
    have := (hb.block w.heap.size (by show _ < (w.alloc _).heap.size; simp)).trans (World.alloc_heap_new w _)
    exact ⟨by simp [World.cell?, this], ((hb0 _).drew).trans (hb.mono (by show _ ≤ (w.alloc _).heap.size; simp))⟩
  clear hv hblk
  generalize hn : arR e.rs a.rel = n at *
  clear hn
  by_cases h0 : n = 0
  · subst h0
    rw [if_pos rfl] at hck
    rw [hck.out]
    go_enter Tryz.func42, Tryz.ntmps42
    go_wp2_with fail
    go_region_with (go_at_call 53; refine (har.out _ ((hb0 _).drew)).mono ?_; rintro e' W1 ⟨rfl, hb1⟩; obtain ⟨d1, hbf⟩ := hbx.out W1 hb1)
    all_goals go_wp2
    all_goals go_ret
    all_goals exact ⟨rfl, hbf⟩
  · rw [if_neg h0] at hck
    have h0' : ((n : Int) == 0) = false := by simp [h0]
    have h0'' : ¬ (n : Int) = 0 := by omega
    by_cases h1 : n = a.args.length
    · rw [if_pos h1] at hck
      rw [hck.out]
      subst h1
      clear hck
      go_enter Tryz.func42, Tryz.ntmps42
      go_wp2_with fail
      go_region_with (go_at_call 53; refine (har.out _ ((hb0 _).drew)).mono ?_; rintro e' W1 ⟨rfl, hb1⟩; obtain ⟨d1, hbf⟩ := hbx.out W1 hb1)
      all_goals go_wp2
      all_goals go_ret
      all_goals exact ⟨rfl, hbf⟩
    · rw [if_neg h1] at hck
      rw [hck.out]
      have h1' : ((n : Int) == (a.args.length : Int)) = false := by simp; omega
      have h1'' : ¬ (n : Int) = (a.args.length : Int) := by omega
      clear hck
      go_enter Tryz.func42, Tryz.ntmps42
      go_wp2_with fail
      go_region_with (go_at_call 53; refine (har.out _ ((hb0 _).drew)).mono ?_; rintro e' W1 ⟨rfl, hb1⟩; obtain ⟨d1, hbf⟩ := hbx.out W1 hb1)
      all_goals go_wp2
      all_goals go_ret
      all_goals exact ⟨rfl, hbf⟩

end Go.Proofs.YtjajnhemgphefaaGreatDoor

namespace Go.Proofs.YtjajnhemgphefaaGreatDoor
open Go.RowKit Go.Shelf Go.Maps
set_option linter.unusedVariables false
set_option linter.unusedSimpArgs false

/-- What Until answers. -/
def untilR (e : Eg) (s : ByteArray) : Int × Int := match atomR s with
  | none => (0, 2)
  | some a => if groundB a = false then (0, 2) else if ckR e.rs a = 0 then ((e.M (groundA nms0 a)).getD 0, 0) else (0, ckR e.rs a)

theorem atom_gd {a : Am} (h : AmOk a) : GdOk (groundA nms0 a) := ground_ok (fun k => ba_nil k) (big h.rel) (fun t ht => big (h.tms t ht).name)

set_option maxRecDepth 100000 in
set_option maxHeartbeats 4000000 in
theorem until_any (S : Nat → Prop) (be : Nat) (e : Eg) (s : ByteArray) (w : World) (h : EngAt w S be e) (hok : EgOk e) (hs : s.size ≤ 4611686018427387904) (hT : Lib.Utf8Tabs 0 1 w) (hn : ∀ a, atomR s = some a → ∀ t ∈ a.args, t.num < 6) :
    Calls Tryz.prog 24 #[.pointer (some ⟨be, 0, none⟩), .string s] w fun en w' => en = .returned (.tuple #[.int .i64 (untilR e s).1, .int .i64 (untilR e s).2]) ∧ Below w.heap.size w w' := by
  have hrg := readGround_any s w hs hT
  unfold GroundPost at hrg
  cases ha : atomR s with
  | none =>
    rw [ha] at hrg
    have hu : Hid (untilR e s = (0, 2)) := by show _ = _; unfold untilR; rw [ha]
    have HR : Hid _ := hrg
    clear hrg ha h hok
    rw [hu.out]
    go_enter Tryz.func24, Tryz.ntmps24
    go_wp2_with (go_at_call 40; refine Calls.mono HR.out ?_; rintro e' W1 ⟨hb1, rfl⟩)
    go_ret2
    exact ⟨rfl, hb1.alloc hb1.size _⟩
  | some a =>
    rw [ha] at hrg
    have hn' := hn a ha
    have hu : Hid (untilR e s = if groundB a = false then (0, 2) else if ckR e.rs a = 0 then ((e.M (groundA nms0 a)).getD 0, 0) else (0, ckR e.rs a)) := by show _ = _; unfold untilR; rw [ha]
    obtain ⟨gb, hgb⟩ : ∃ gb, groundB a = gb := ⟨_, rfl⟩
    have HR : Hid (Calls Tryz.prog 40 #[.string s] w fun e' w' => Below w.heap.size w w' ∧ ∃ va, e' = .returned (.tuple #[.agg #[.string a.rel, va], .bool gb]) ∧ AmOk a ∧ SealT w' w'.heap.size va a.args) := by
      show Calls _ _ _ _ _
      rw [← hgb]; exact hrg
    rw [hgb] at hu
    have hEW : Hid (∀ W, Below w.heap.size w W → EngAt W S be e) := fun W hb => h.below hb
    obtain ⟨vr, vn, vk, vf, bm, rb, b45, b87, bfs, Sf, hv⟩ := h
    have hblk : Hid (∀ W, Below w.heap.size w W → W.heap[be]? = some (Obj.cells #[vr, .int .i64 e.win, .int .i64 e.lat, .int .i64 e.que, .int .i64 e.mark, vn, vk, .map (some bm), vf] 101 (0, 0)) ∧ MdAt W bm 5000 e.M) := fun W hb => ⟨(hv.below hb).blk, (hv.below hb).md⟩
    have HRS : Hid (RsOk e.rs) := hok.rs
    clear hrg ha hv hok hT hn
    clear hgb
    cases gb with
    | false =>
      rw [if_pos rfl] at hu
      rw [hu.out]
      clear hu
      go_enter Tryz.func24, Tryz.ntmps24
      go_wp2_with (go_at_call 40; refine Calls.mono HR.out ?_; rintro e' W1 ⟨hb1, va, rfl, hak, hsl⟩; obtain ⟨xa, xc, hxf⟩ := hsl.form; subst hxf; have HAK : Hid _ := hak; have HSL : Hid _ := hsl; clear hak hsl)
      go_ret2
      exact ⟨rfl, hb1.alloc hb1.size _⟩
    | true =>
      rw [if_neg (by decide)] at hu
      go_enter Tryz.func24, Tryz.ntmps24
      go_wp2_with fail
      refine Calls.mono HR.out ?_
      rintro e' W1 ⟨hb1, va, rfl, hak, hsl⟩
      obtain ⟨xa, xc, hxf⟩ := hsl.form
      subst hxf
      have hckc : Hid (∀ W, Below w.heap.size w W → Calls Tryz.prog 42 #[.pointer (some ⟨be, 0, none⟩), .agg #[.string a.rel, .slice xa a.args.length xc]] W fun en w' => en = .returned (.int .i64 (ckR e.rs a)) ∧ Below W.heap.size W w') := fun W hb => checkRel_any S be e W (hEW.out W hb) HRS.out a _ _ _ rfl hak.args
      have hof : Hid (∀ W, Below W1.heap.size W1 W → Calls Tryz.prog 48 #[.agg #[.string a.rel, .slice xa a.args.length xc]] W fun e w' => e = .returned (.agg #[.string (groundA nms0 a).rel, .string (groundA nms0 a).x, .string (groundA nms0 a).y]) ∧ Below W.heap.size W w') := fun W hb => of_atom_any a _ W1.heap.size W (hsl.rk (RuleKept.ofBelow hb)) hak.args hn'
      have hen : Hid (∀ W, Below w.heap.size w W → Calls Tryz.prog 47 #[.map (some bm), .agg #[.string (groundA nms0 a).rel, .string (groundA nms0 a).x, .string (groundA nms0 a).y]] W fun e' w' => e' = .returned (.int .i64 ((e.M (groundA nms0 a)).getD 0)) ∧ Below W.heap.size W w') := fun W hb => end_any bm 5000 e.M (groundA nms0 a) (atom_gd hak) W (hblk.out W hb).2
      have hW1 : w.heap.size ≤ W1.heap.size := hb1.size
      have hbA : Hid (Below w.heap.size w (W1.alloc (.cells #[.string a.rel, .slice xa a.args.length xc] 92)) ∧ Below W1.heap.size W1 (W1.alloc (.cells #[.string a.rel, .slice xa a.args.length xc] 92))) := ⟨hb1.alloc hb1.size _, (Below.refl _ W1).alloc (Nat.le_refl _) _⟩
      have hbox : Hid (∀ W2, Below (W1.alloc (.cells #[.string a.rel, .slice xa a.args.length xc] 92)).heap.size (W1.alloc (.cells #[.string a.rel, .slice xa a.args.length xc] 92)) W2 → W2.heap[W1.heap.size]? = some (Obj.cells #[.string a.rel, .slice xa a.args.length xc] 92 (0, 0)) ∧ Below w.heap.size w W2 ∧ Below W1.heap.size W1 W2) := fun W2 hb =>
        ⟨(hb.block _ (by simp)).trans (World.alloc_heap_new W1 _), hbA.out.1.trans (hb.mono (by simp; omega)), hbA.out.2.trans (hb.mono (by simp))⟩
      clear hak hsl hEW
      by_cases hck : ckR e.rs a = 0
      · rw [if_pos hck] at hu
        rw [hck] at hckc
        clear hck
        go_wp2_with fail
        refine (hckc.out _ hbA.out.1).mono ?_
        rintro e' W2 ⟨rfl, hb2⟩
        obtain ⟨p1, hb3, hb4⟩ := hbox.out W2 hb2
        have t0 : W2.cell? ⟨W1.heap.size, 0, none⟩ = some (.string a.rel) := by simp [World.cell?, p1]
        have t1 : W2.cell? ⟨W1.heap.size, 1, none⟩ = some (.slice xa a.args.length xc) := by simp [World.cell?, p1]
        have q1 := (hblk.out W2 hb3).1
        have t7 : W2.cell? ⟨be, 7, none⟩ = some (.map (some bm)) := by simp [World.cell?, q1]
        have hD2 : Hid (Below W1.heap.size W1 W2.drew ∧ Below w.heap.size w W2.drew) := ⟨hb4.drew, hb3.drew⟩
        have hafter : Hid (∀ W3, Below W2.drew.heap.size W2.drew W3 → Below w.heap.size w W3 ∧ W3.cell? ⟨be, 7, none⟩ = some (.map (some bm))) := fun W3 hb => by
          have hx : Below w.heap.size w W3 := hb3.drew.trans (hb.mono (by show _ ≤ W2.heap.size; exact hb3.size))
          have := (hblk.out W3 hx).1
          exact ⟨hx, by simp [World.cell?, this]⟩
        clear p1 q1 hb2
        go_wp2_with fail
        first | (go_region_with (first | (go_at_call 48; refine (hof.out _ hD2.out.1).mono ?_; rintro e' W3 ⟨rfl, hb5⟩; obtain ⟨hb6, s7⟩ := hafter.out W3 hb5) | (go_at_call 47; refine (hen.out W3 hb6).mono ?_; rintro e' W4 ⟨rfl, hb7⟩))) | fail
        all_goals go_wp2
        all_goals go_ret2
        all_goals exact ⟨by rw [hu.out]; rfl, hb6.trans (hb7.mono hb6.size)⟩
      · rw [if_neg hck] at hu
        have hck' : (ckR e.rs a == 0) = false := by simp [hck]
        generalize ckR e.rs a = ck at *
        go_wp2_with (go_at_call 42; refine (hckc.out _ hbA.out.1).mono ?_; rintro e' W2 ⟨rfl, hb2⟩; obtain ⟨p1, hb3, hb4⟩ := hbox.out W2 hb2)
        go_ret2
        exact ⟨by rw [hu.out]; rfl, hb3⟩

end Go.Proofs.YtjajnhemgphefaaGreatDoor

namespace Go.Proofs.YtjajnhemgphefaaGreatDoor
open Go.RowKit Go.Shelf Go.Maps
set_option linter.unusedVariables false
set_option linter.unusedSimpArgs false

/-- The texts of ground atoms, in order. -/
def textsOf (gs : List Gd) : List (List UInt8) := sortT (gs.map (fun g => (textG g).data.toList))
/-- What Ask answers. -/
def AskPost (e : Eg) (s : ByteArray) (w : World) (en : Ending) (w' : World) : Prop :=
  Below w.heap.size w w' ∧ match atomR s with
    | none => en = .returned (.tuple #[.slice none 0 0, .int .i64 2])
    | some a => (ckR e.rs a ≠ 0 ∧ en = .returned (.tuple #[.slice none 0 0, .int .i64 (ckR e.rs a)])) ∨
      (ckR e.rs a = 0 ∧ ∃ v gs, fitP e.M a gs ∧ en = .returned (.tuple #[v, .int .i64 0]) ∧ w'.ownsRow w.heap.size 9 1 v (textsOf gs).length ((textsOf gs).map strV))

theorem textsOf_len (gs : List Gd) : (textsOf gs).length = gs.length := ((List.mergeSort_perm _ _).length_eq).trans (by simp)

theorem md_size {e : Eg} (h : EgOk e) (rel x y : ByteArray) (hx : (e.M ⟨rel, x, y⟩).isSome = true) : x.size ≤ 2000 ∧ y.size ≤ 2000 := by
  have := uni_size h.rs h.nsz (h.md _ hx).2
  exact ⟨Nat.le_trans this.2.1 (by decide), Nat.le_trans this.2.2 (by decide)⟩

set_option maxHeartbeats 1000000 in
theorem asked_any (bm nn b87 : Nat) (M : Gd → Option Int) (a : Am) (va : Value) (ta : Option Addr) (tn tc : Nat) (hva : va = .slice ta tn tc) (w : World) (hM : MdAt w bm nn M) (hnn : nn ≤ 1000000) (hS : SealT w b87 va a.args) (hfo : FormOk a) (hMs : ∀ x y, (M ⟨a.rel, x, y⟩).isSome = true → x.size ≤ 2000 ∧ y.size ≤ 2000) :
    Calls Tryz.prog 51 #[.map (some bm), .agg #[.string a.rel, va]] w fun en w' => ∃ Bm Ba, en = .returned (.func (.func 93) #[] #[.pointer (some ⟨Bm, 0, none⟩), .pointer (some ⟨Ba, 0, none⟩)]) ∧ Below w.heap.size w w' ∧
      ∀ W, Below w'.heap.size w' W → Calls Tryz.prog 50 #[.func (.func 93) #[] #[.pointer (some ⟨Bm, 0, none⟩), .pointer (some ⟨Ba, 0, none⟩)]] W fun e2 W' => ∃ v gs, fitP M a gs ∧ e2 = .returned v ∧ W'.ownsRow W.heap.size 9 1 v (textsOf gs).length ((textsOf gs).map strV) ∧ Below W.heap.size W W' := by
  refine (mfits_any bm a va w ta tn tc hva).mono ?_
  rintro en w' ⟨rfl, rfl⟩
  have hb : Below w.heap.size w ((w.alloc (.cells #[.map (some bm)] 98)).alloc (.cells #[.string a.rel, va] 92)) := ((Below.refl _ w).alloc (Nat.le_refl _) _).alloc (by simp) _
  refine ⟨_, _, rfl, hb, fun W hW => ?_⟩
  have hbW : Below w.heap.size w W := hb.trans (hW.mono hb.size)
  have x1 : W.heap[w.heap.size]? = some (Obj.cells #[.map (some bm)] 98 (0, 0)) := (hW.block _ (by simp; omega)).trans ((Below.heap_alloc _ _ _ (by simp)).trans (World.alloc_heap_new w _))
  have x2 : W.heap[w.heap.size + 1]? = some (Obj.cells #[.string a.rel, va] 92 (0, 0)) := by
    refine (hW.block _ (by simp)).trans ?_
    have := World.alloc_heap_new (w.alloc (.cells #[.map (some bm)] 98)) (.cells #[.string a.rel, va] 92)
    rw [World.size_alloc] at this; exact this
  refine (texts_any (N := nn) W hnn (enters_of Tryz.func93 (by kernel_rfl) rfl) (fun m n => fits_seq n w.heap.size (w.heap.size + 1) bm nn b87 M a _ W x1 x2 (hM.mk (MKept.ofBelow (m := m) hbW)) (hS.mk (MKept.ofBelow (m := m) hbW)) hfo.args hfo.nums hfo.rel hfo.names hMs m)).mono ?_
  rintro e2 W' ⟨v, gs, rfl, ⟨ks, k1, k2, k3, k4⟩, ho, hbW', hl⟩
  have hgl : (gs.map (·.1)).map (fun g => (textG g).data.toList) = gs.map (fun g => (textG g.1).data.toList) := by rw [List.map_map]; rfl
  refine ⟨v, gs.map (·.1), ⟨ks, k1, k2, k4⟩, rfl, ?_, hbW'⟩
  rw [textsOf_len]
  unfold textsOf
  rw [hgl, List.length_map]
  exact ho

set_option maxRecDepth 100000 in
set_option maxHeartbeats 4000000 in
theorem ask_any (S : Nat → Prop) (be : Nat) (e : Eg) (s : ByteArray) (w : World) (h : EngAt w S be e) (hok : EgOk e) (hs : s.size ≤ 4611686018427387904) (hT : Lib.Utf8Tabs 0 1 w) (hn : ∀ a, atomR s = some a → ∀ t ∈ a.args, t.num < 6) :
    Calls Tryz.prog 25 #[.pointer (some ⟨be, 0, none⟩), .string s] w (AskPost e s w) := by
  have hrg := readAtom_any s w hs hT
  unfold AtomPost at hrg
  cases ha : atomR s with
  | none =>
    rw [ha] at hrg
    have HA : Hid (atomR s = none) := ha
    have HR : Hid _ := hrg
    clear hrg ha h hok hn
    go_enter Tryz.func25, Tryz.ntmps25
    go_wp2_with (go_at_call 49; refine Calls.mono HR.out ?_; rintro e' W1 ⟨hb1, rfl⟩)
    go_ret2
    exact ⟨hb1.alloc hb1.size _, by rw [HA.out]; rfl⟩
  | some a =>
    rw [ha] at hrg
    have hn' := hn a ha
    have HA : Hid (atomR s = some a) := ha
    have HR : Hid (Calls Tryz.prog 49 #[.string s] w fun e' w' => Below w.heap.size w w' ∧ ∃ va, e' = .returned (.tuple #[.agg #[.string a.rel, va], .bool true]) ∧ AmOk a ∧ SealT w' w'.heap.size va a.args) := hrg
    have hEW : Hid (∀ W, Below w.heap.size w W → EngAt W S be e) := fun W hb => h.below hb
    obtain ⟨vr, vn, vk, vf, bm, rb, b45, b87, bfs, Sf, hv⟩ := h
    have hblk : Hid (∀ W, Below w.heap.size w W → W.heap[be]? = some (Obj.cells #[vr, .int .i64 e.win, .int .i64 e.lat, .int .i64 e.que, .int .i64 e.mark, vn, vk, .map (some bm), vf] 101 (0, 0)) ∧ MdAt W bm 5000 e.M) := fun W hb => ⟨(hv.below hb).blk, (hv.below hb).md⟩
    have HRS : Hid (EgOk e) := hok
    clear hrg ha hv hok hT hn
    go_enter Tryz.func25, Tryz.ntmps25
    go_wp2_with fail
    refine Calls.mono HR.out ?_
    rintro e' W1 ⟨hb1, va, rfl, hak, hsl⟩
    obtain ⟨xa, xc, hxf⟩ := hsl.form
    subst hxf
    have hckc : Hid (∀ W, Below w.heap.size w W → Calls Tryz.prog 42 #[.pointer (some ⟨be, 0, none⟩), .agg #[.string a.rel, .slice xa a.args.length xc]] W fun en w' => en = .returned (.int .i64 (ckR e.rs a)) ∧ Below W.heap.size W w') := fun W hb => checkRel_any S be e W (hEW.out W hb) HRS.out.rs a _ _ _ rfl hak.args
    have hfit : Hid (∀ W, Below W1.heap.size W1 W → Below w.heap.size w W → Calls Tryz.prog 51 #[.map (some bm), .agg #[.string a.rel, .slice xa a.args.length xc]] W fun en w' => ∃ Bm Ba, en = .returned (.func (.func 93) #[] #[.pointer (some ⟨Bm, 0, none⟩), .pointer (some ⟨Ba, 0, none⟩)]) ∧ Below W.heap.size W w' ∧
      Hid (∀ V, Below w'.heap.size w' V → Calls Tryz.prog 50 #[.func (.func 93) #[] #[.pointer (some ⟨Bm, 0, none⟩), .pointer (some ⟨Ba, 0, none⟩)]] V fun e2 V' => ∃ v gs, fitP e.M a gs ∧ e2 = .returned v ∧ V'.ownsRow V.heap.size 9 1 v (textsOf gs).length ((textsOf gs).map strV) ∧ Below V.heap.size V V')) := fun W hb hbw =>
      asked_any bm 5000 W1.heap.size e.M a _ _ _ _ rfl W (hblk.out W hbw).2 (by decide) (hsl.rk (RuleKept.ofBelow hb)) ⟨hak.args, hn', Nat.le_trans hak.rel (by decide), fun t ht => Nat.le_trans (hak.tms t ht).name (by decide)⟩ (fun x y hx => md_size HRS.out a.rel x y hx)
    have hW1 : w.heap.size ≤ W1.heap.size := hb1.size
    have hbA : Hid (Below w.heap.size w (W1.alloc (.cells #[.string a.rel, .slice xa a.args.length xc] 92)) ∧ Below W1.heap.size W1 (W1.alloc (.cells #[.string a.rel, .slice xa a.args.length xc] 92))) := ⟨hb1.alloc hb1.size _, (Below.refl _ W1).alloc (Nat.le_refl _) _⟩
    have hbox : Hid (∀ W2, Below (W1.alloc (.cells #[.string a.rel, .slice xa a.args.length xc] 92)).heap.size (W1.alloc (.cells #[.string a.rel, .slice xa a.args.length xc] 92)) W2 → W2.heap[W1.heap.size]? = some (Obj.cells #[.string a.rel, .slice xa a.args.length xc] 92 (0, 0)) ∧ Below w.heap.size w W2 ∧ Below W1.heap.size W1 W2) := fun W2 hb =>
      ⟨(hb.block _ (by simp)).trans (World.alloc_heap_new W1 _), hbA.out.1.trans (hb.mono (by simp; omega)), hbA.out.2.trans (hb.mono (by simp))⟩
    clear hak hsl hEW
    by_cases hck : ckR e.rs a = 0
    · have HCK : Hid (ckR e.rs a = 0) := hck
      rw [hck] at hckc
      clear hck
      go_wp2_with fail
      refine (hckc.out _ hbA.out.1).mono ?_
      rintro e' W2 ⟨rfl, hb2⟩
      obtain ⟨p1, hb3, hb4⟩ := hbox.out W2 hb2
      have t0 : W2.cell? ⟨W1.heap.size, 0, none⟩ = some (.string a.rel) := by simp [World.cell?, p1]
      have t1 : W2.cell? ⟨W1.heap.size, 1, none⟩ = some (.slice xa a.args.length xc) := by simp [World.cell?, p1]
      have q1 := (hblk.out W2 hb3).1
      have t7 : W2.cell? ⟨be, 7, none⟩ = some (.map (some bm)) := by simp [World.cell?, q1]
      clear p1 q1 hb2
      have hD2 : Hid (Below W1.heap.size W1 W2.drew ∧ Below w.heap.size w W2.drew) := ⟨hb4.drew, hb3.drew⟩
      have hfin : Hid (∀ W3 W4 v gs, Below W2.drew.heap.size W2.drew W3 → Below W3.heap.size W3 W4 → fitP e.M a gs → W4.ownsRow W3.heap.size 9 1 v (textsOf gs).length ((textsOf gs).map strV) → ∀ en, en = .returned (.tuple #[v, .int .i64 0]) → AskPost e s w en W4) := fun W3 W4 v gs h1 h2 h3 h4 en hen => by
        have hx : Below w.heap.size w W3 := hb3.drew.trans (h1.mono (by show _ ≤ W2.heap.size; exact hb3.size))
        exact ⟨hx.trans (h2.mono hx.size), by rw [HA.out]; exact .inr ⟨HCK.out, v, gs, h3, hen, ownsRow_lower h4 hx.size⟩⟩
      go_wp2_with fail
      first | (go_region_with (first | (go_at_call 51; refine (hfit.out _ hD2.out.1 hD2.out.2).mono ?_; rintro e' W3 ⟨Bm, Ba, rfl, hb5, htx⟩) | (go_at_call 50; refine (htx.out W3 (Below.refl _ _)).mono ?_; rintro e' W4 ⟨tv, gs, hgs, rfl, htv, hb6⟩; obtain ⟨oa, oc, hof⟩ := owns_form htv; subst hof))) | fail
      all_goals go_wp2
      all_goals go_ret2
      all_goals exact hfin.out W3 W4 _ gs hb5 hb6 hgs htv _ rfl
    · have HCK : Hid (¬ ckR e.rs a = 0) := hck
      have hck' : (ckR e.rs a == 0) = false := by simp [hck]
      have hu : Hid (∀ (v : Value) en w', Below w.heap.size w w' → en = .returned (.tuple #[.slice none 0 0, .int .i64 (ckR e.rs a)]) → AskPost e s w en w') := fun v en w' hb hen => ⟨hb, by rw [HA.out]; exact .inl ⟨HCK.out, hen⟩⟩
      generalize ckR e.rs a = ck at *
      go_wp2_with (go_at_call 42; refine (hckc.out _ hbA.out.1).mono ?_; rintro e' W2 ⟨rfl, hb2⟩; obtain ⟨p1, hb3, hb4⟩ := hbox.out W2 hb2)
      go_ret2
      exact hu.out undef _ _ hb3 rfl

end Go.Proofs.YtjajnhemgphefaaGreatDoor
