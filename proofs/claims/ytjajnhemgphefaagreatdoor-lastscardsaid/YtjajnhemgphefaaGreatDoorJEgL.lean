/-
  rules.Write: the rules, written in order.
  ebb.Rules: for every text it answers what the plain function 'rulesR' says; nothing that lay before is turned. Conditions: the text is of at most 2^62 bytes; the two tables of package utf8 hold what their text lays.
  The engine: checkRelation, Until.
-/
import Derived.Test.YtjajnhemgphefaaGreatDoorJWr4
import Derived.Test.YtjajnhemgphefaaGreatDoorJRangeN
import Derived.Test.YtjajnhemgphefaaGreatDoorJEgP
namespace Go.Proofs.YtjajnhemgphefaaGreatDoor
open Go.RowKit Go.Shelf
set_option linter.unusedVariables false
set_option linter.unusedSimpArgs false

def rulesTxt (rs : List Rl) : List UInt8 := rs.flatMap ruleTxt

theorem size_list (s : ByteArray) : s.size = s.data.toList.length := by cases s; simp [ByteArray.size]

theorem termTxt_len (t : Tm) (h : TmOk t) : (termTxt t).length ≤ 1200 := by
  unfold termTxt
  split
  · have h1 := h.num
    have h2 := decS_size t.num
    have h3 : (decS t.num).size = (Lib.decDigits t.num).length := by rw [size_list]; rfl
    simp; omega
  · have := h.name
    have hsz := size_list t.name
    omega

theorem argsTxt_len : ∀ (l : List Tm) (i : Nat), (∀ t ∈ l, TmOk t) → (argsTxt i l).length ≤ l.length * 1201
  | [], _, _ => by simp [argsTxt]
  | t :: l, i, h => by
    have h1 := argsTxt_len l (i + 1) (fun x hx => h x (by simp [hx]))
    have h2 := termTxt_len t (h t (by simp))
    unfold argsTxt
    split <;> simp <;> omega

theorem atomTxt_len (a : Am) (h : AmOk a) : (atomTxt a).length ≤ 4000 := by
  have h1 := argsTxt_len a.args 0 h.tms
  have := h.rel
  have := h.args
  have hsz := size_list a.rel
  unfold atomTxt
  simp; omega

theorem bodyTxt_len : ∀ (l : List Am) (i : Nat), (∀ a ∈ l, AmOk a) → (bodyTxt i l).length ≤ l.length * 4004
  | [], _, _ => by simp [bodyTxt]
  | a :: l, i, ha => by
    have h1 := bodyTxt_len l (i + 1) (fun b hb => ha b (by simp [hb]))
    have h2 := atomTxt_len a (ha a (by simp))
    unfold bodyTxt
    split <;> simp <;> omega

theorem ruleTxt_len (r : Rl) (hok : RuleOk r) : (ruleTxt r).length ≤ 17000 := by
  have h1 := atomTxt_len r.head hok.head
  have h2 := bodyTxt_len r.body 0 hok.ams
  have h3 := hok.body
  unfold ruleTxt; simp; omega

theorem rulesTxt_len : ∀ (rs : List Rl), (∀ r ∈ rs, RuleOk r) → (rulesTxt rs).length ≤ rs.length * 17000
  | [], _ => by simp [rulesTxt]
  | r :: rs, h => by
    have h1 := rulesTxt_len rs (fun q hq => h q (by simp [hq]))
    have h2 := ruleTxt_len r (h r (by simp))
    unfold rulesTxt at h1 ⊢
    simp at h1 ⊢; omega

set_option maxRecDepth 100000 in
set_option maxHeartbeats 1000000 in
theorem write_any (v : Value) (rs : List Rl) (base b45 b87 : Nat) (w : World) (hR : RulesAt w base b45 b87 v rs) (hrow : ∀ g, v.ownBlock = some g → g < w.heap.size) (h8 : rs.length ≤ 8) (hok : ∀ r ∈ rs, RuleOk r) :
    Calls Tryz.prog 31 #[v] w fun e w' => e = .returned (.string ⟨(rulesTxt rs).toArray⟩) ∧ Below w.heap.size w w' := by
  obtain ⟨a, c, hform⟩ := hR.form
  have hlen : (rulesTxt rs).length ≤ 1000000 := by have := rulesTxt_len rs hok; omega
  obtain ⟨W0, hW0⟩ : ∃ W0, w.alloc (.cells #[.pointer none, .slice none 0 0] 133) = W0 := ⟨_, rfl⟩
  have hbl : Below w.heap.size w W0 := by rw [← hW0]; exact (Below.refl _ w).alloc (Nat.le_refl _) _
  have hB0 : w.heap.size ≤ W0.heap.size := hbl.size
  have hb0 : Bld w.heap.size w.heap.size [] W0 := by
    refine .inl ⟨Nat.le_refl _, .slice none 0 0, by rw [← hW0]; exact World.alloc_heap_new w _, World.ownsRowF_nil _ _ _ _, by simp [Value.ownBlock]⟩
  have hcell : ∀ (bk : List UInt8) (W1 : World), Wrote w.heap.size w.heap.size bk W0 W1 → ∀ k (hk : k < rs.length), ∃ g v0 vb, a = some ⟨g, 0, none⟩ ∧ W1.cell? ⟨g, k * 3, none⟩ = some (.string (rs[k]).head.rel) ∧ W1.cell? ⟨g, k * 3 + 1, none⟩ = some v0 ∧ W1.cell? ⟨g, k * 3 + 2, none⟩ = some vb ∧ RuleV W1 b45 b87 rs[k] v0 vb := by
    intro bk W1 hw k hk
    have hrk : RuleKept w W1 := (RuleKept.ofBelow hbl).trans (hw.rk hb0)
    obtain ⟨g, c', v0, vb, h1, h2, h3, h4, h5⟩ := rules_cell (hR.rk hrk) hk
    rw [hform] at h1; cases h1
    exact ⟨g, v0, vb, rfl, h2, h3, h4, h5⟩
  have halloc : ∀ (bk : List UInt8) (W1 : World) (O : Obj), Wrote w.heap.size w.heap.size bk W0 W1 → Wrote w.heap.size w.heap.size bk W0 (W1.alloc O) ∧ Below W1.heap.size W1 (W1.alloc O) := fun bk W1 O h => by
    have hx : Below W1.heap.size W1 (W1.alloc O) := (Below.refl _ W1).alloc (Nat.le_refl _) O
    exact ⟨⟨h.bld.below hx, h.below.trans (hx.mono (Nat.le_trans hB0 h.below.size)), h.others.trans (others_below hx)⟩, hx⟩
  have hrule : ∀ (bk : List UInt8) (W1 : World) (r : Rl) (v0 vb : Value), Wrote w.heap.size w.heap.size bk W0 W1 → RuleV W1 b45 b87 r v0 vb → RuleOk r → (bk ++ ruleTxt r).length ≤ 1000000 →
      Calls Tryz.prog 62 #[.pointer (some ⟨w.heap.size, 0, none⟩), .agg #[.string r.head.rel, v0, vb]] W1 fun e W' => e = .returned (.tuple #[]) ∧ Wrote w.heap.size w.heap.size (bk ++ ruleTxt r) W0 W' := fun bk W1 r v0 vb h hv hr hlk =>
    (writeRule_any _ _ bk r v0 vb b45 b87 W1 h.bld hv hr hlk (Nat.le_trans hB0 h.below.size)).mono (fun e W' h' => ⟨h'.1, h.trans h'.2⟩)
  have hstring : ∀ (bk : List UInt8) (W1 : World), Wrote w.heap.size w.heap.size bk W0 W1 → Calls Tryz.prog 63 #[.pointer (some ⟨w.heap.size, 0, none⟩)] W1 fun e w' => e = .returned (.string ⟨bk.toArray⟩) ∧ Below w.heap.size w w' := fun bk W1 h =>
    (Tryz.Builder_String_any_k w.heap.size w.heap.size bk W1 h.bld (Nat.le_trans hB0 h.below.size)).mono (fun e w' h' => ⟨h'.1, (hbl.trans h.below).trans h'.2.2.1⟩)
  subst hform
  have H1 : Hid _ := hcell
  have H2 : Hid _ := halloc
  have H3 : Hid _ := hrule
  have H4 : Hid _ := hstring
  have HOK : Hid _ := hok
  have k0 : Wrote w.heap.size w.heap.size [] W0 W0 := ⟨hb0, Below.refl _ _, Lib.OthersKept.refl _ _ _⟩
  clear hcell halloc hrule hstring hR hrow hok hb0 hB0 hbl
  go_enter Tryz.func31, Tryz.ntmps31
  go_wp2
  clear hW0
  go_loopw [8] (fun i wr => ∃ (k : Nat) (bk : List UInt8), k ≤ rs.length ∧ i = .int .i64 k ∧ Hid (bk ++ rulesTxt (rs.drop k) = rulesTxt rs) ∧ Wrote w.heap.size w.heap.size bk W0 wr) (fun i _ => rs.length - (intOf i).toNat)
  case atStart => exact ⟨0, [], Nat.zero_le _, rfl, rfl, k0⟩
  case round =>
    obtain ⟨k, bk, hk, rfl, htxt, kw⟩ := hrel
    by_cases hlt : k < rs.length
    · obtain ⟨g, v0, vb, rfl, q0, q1, q2, hv⟩ := H1.out bk wr kw k hlt
      have hstep : rulesTxt (rs.drop k) = ruleTxt rs[k] ++ rulesTxt (rs.drop (k + 1)) := by rw [List.drop_eq_getElem_cons hlt]; rfl
      have hnext : Hid ((bk ++ ruleTxt rs[k]) ++ rulesTxt (rs.drop (k + 1)) = rulesTxt rs) := by show _ = _; rw [← htxt.out, hstep]; simp
      have hlk : (bk ++ ruleTxt rs[k]).length ≤ 1000000 := by have := congrArg List.length hnext.out; simp at this ⊢; omega
      obtain ⟨sa, sc, hsf⟩ := hv.1.form
      obtain ⟨ta, tc, htf⟩ := hv.2.form
      subst hsf htf
      obtain ⟨kwa, hxa⟩ := H2.out bk wr (.cells #[.string (rs[k]).head.rel, .slice sa (rs[k]).head.args.length sc, .slice ta (rs[k]).body.length tc] 136) kw
      have hcall := H3.out bk _ rs[k] _ _ kwa (hv.rk (RuleKept.ofBelow hxa)) (HOK.out _ (List.getElem_mem hlt)) hlk
      have HC : Hid _ := hcall
      have i1 : (k : Int) < (rs.length : Int) := by omega
      clear hcall hstep htxt hlk hv hxa kwa
      generalize rs[k] = rk at *
      go_wp2_with fail
      refine Calls.mono HC.out ?_
      rintro e W3 ⟨rfl, k3⟩
      go_wp2
      go_roundw
      case rel => exact ⟨k + 1, _, by omega, by go_num, hnext, k3⟩
      case measure => simp [intOf]; omega
    · have hbk : bk = rulesTxt rs := by
        have := htxt.out
        rw [List.drop_of_length_le (by omega)] at this
        simpa [rulesTxt] using this
      subst hbk
      have HST : Hid _ := H4.out _ wr kw
      go_wp2_with fail
      refine Calls.mono HST.out ?_
      rintro e W3 ⟨rfl, hb3⟩
      go_wp2
      go_ret
      exact ⟨rfl, hb3⟩

end Go.Proofs.YtjajnhemgphefaaGreatDoor

namespace Go.Proofs.YtjajnhemgphefaaGreatDoor
open Go.RowKit Go.Shelf
set_option linter.unusedVariables false
set_option linter.unusedSimpArgs false

def rulesR (s : ByteArray) : List UInt8 × Int × Int :=
  if 300 < Lib.runeCount s then ([], 1, 0)
  else match parseR s with
    | .error (c, p) => ([], c, p)
    | .ok rs => if (checkS rs).1 = 0 then (rulesTxt rs, 0, 0) else ([], (checkS rs).1, (checkS rs).2)

theorem parseR_err (s : ByteArray) (c : Int) (p : Nat) (h : parseR s = .error (c, p)) : c ≠ 0 := by
  unfold parseR at h
  split at h
  · rename_i st ep hf
    cases h
    exact foldP_err _ _ _ _ _ hf
  · split at h
    · cases h
    · cases h; decide

/-- What parse answers, as Read takes it. -/
def ReadAt (s : ByteArray) (w : World) (e : Ending) (w' : World) : Prop :=
  Below w.heap.size w w' ∧ ((∃ c p : Int, e = .returned (.tuple #[.slice none 0 0, .int .i64 c, .int .i64 p]) ∧ c ≠ 0 ∧ rulesR s = ([], c, p)) ∨
    (∃ rs v b45 b87, e = .returned (.tuple #[v, .int .i64 0, .int .i64 0]) ∧ RulesAt w' w.heap.size b45 b87 v rs ∧ rs.length ≤ 8 ∧ (∀ r ∈ rs, RuleOk r) ∧ rulesR s = (if (checkS rs).1 = 0 then (rulesTxt rs, 0, 0) else ([], (checkS rs).1, (checkS rs).2)) ∧ parseR s = .ok rs))

theorem parse_any (s : ByteArray) (w : World) (hs : s.size ≤ 4611686018427387904) (hT : Lib.Utf8Tabs 0 1 w) :
    Calls Tryz.prog 60 #[.string s] w (ReadAt s w) := by
  by_cases hl : 300 < Lib.runeCount s
  · refine (parse_long s w hs hl).mono ?_
    rintro e w' ⟨rfl, hb⟩
    exact ⟨hb, .inl ⟨1, 0, rfl, by decide, by unfold rulesR; rw [if_pos hl]⟩⟩
  · refine (parse_short s w (by omega) hT).mono ?_
    rintro e w' ⟨hb, h⟩
    refine ⟨hb, ?_⟩
    cases hp : parseR s with
    | error cp =>
      obtain ⟨c, p⟩ := cp
      rw [hp] at h
      exact .inl ⟨c, p, h, parseR_err s c p hp, by unfold rulesR; rw [if_neg hl, hp]⟩
    | ok rs =>
      rw [hp] at h
      obtain ⟨v, b45, b87, h1, _, _, h2, h3, h4⟩ := h
      exact .inr ⟨rs, v, b45, b87, h1, h2, h3, h4, by unfold rulesR; rw [if_neg hl, hp], rfl⟩

theorem rules_row {W : World} {base b45 b87 : Nat} {v : Value} {rs : List Rl} (h : RulesAt W base b45 b87 v rs) : ∀ g, v.ownBlock = some g → g < W.heap.size := by
  intro g hg
  obtain ⟨qs, r1, r2, r3⟩ := h
  obtain ⟨_, c, hc⟩ := owns_block r2 hg
  exact (Array.getElem?_eq_some_iff.1 hc).1

/-- What Read answers, as Rules takes it. -/
def RulesPost (s : ByteArray) (w : World) (e : Ending) (w' : World) : Prop :=
  Below w.heap.size w w' ∧ ((∃ c p : Int, e = .returned (.tuple #[.slice none 0 0, .int .i64 c, .int .i64 p]) ∧ c ≠ 0 ∧ rulesR s = ([], c, p)) ∨
    (∃ rs v b45 b87, e = .returned (.tuple #[v, .int .i64 0, .int .i64 0]) ∧ RulesAt w' w.heap.size b45 b87 v rs ∧ rs.length ≤ 8 ∧ (∀ r ∈ rs, RuleOk r) ∧ rulesR s = (rulesTxt rs, 0, 0) ∧ parseR s = .ok rs ∧ (checkS rs).1 = 0))

set_option maxHeartbeats 1000000 in
theorem readAll_any (s : ByteArray) (w : World) (hs : s.size ≤ 4611686018427387904) (hT : Lib.Utf8Tabs 0 1 w) :
    Calls Tryz.prog 30 #[.string s] w (RulesPost s w) := by
  have h1 := parse_any s w hs hT
  have H1 : Hid _ := h1
  clear h1
  go_enter Tryz.func30, Tryz.ntmps30
  go_wp2_with fail
  refine Calls.mono H1.out ?_
  rintro e w1 ⟨hb1, ⟨c, p, rfl, hc, hr⟩ | ⟨rs, v, b45, b87, rfl, hR, h8, hok, hr, hpr⟩⟩
  · have hc' : (c == 0) = false := by simp [hc]
    have HR : Hid _ := hr
    have HCC : Hid _ := hc
    clear hr hc
    go_wp2
    go_ret3
    exact ⟨hb1, .inl ⟨c, p, rfl, HCC.out, HR.out⟩⟩
  · obtain ⟨va, vc, rfl⟩ := hR.form
    have hck := check_any _ rs _ b45 b87 w1 hR (rules_row hR) h8 hok
    have HCK : Hid _ := hck
    have HR : Hid _ := hr
    have HRA : Hid _ := hR
    have HOK : Hid _ := hok
    have HPR : Hid _ := hpr
    clear hck hr hR hok hpr
    generalize hcs : checkS rs = cs at *
    obtain ⟨ce, cn⟩ := cs
    have HCS : Hid (checkS rs = (ce, cn)) := hcs
    clear hcs
    go_wp2_with fail
    refine Calls.mono HCK.out ?_
    rintro e w2 ⟨rfl, hb2⟩
    simp only
    by_cases hce : ce = 0
    · subst hce
      go_wp2
      go_ret3
      refine ⟨hb1.trans (hb2.mono hb1.size), .inr ⟨rs, _, b45, b87, rfl, RulesAt.rk HRA.out (RuleKept.ofBelow hb2), h8, HOK.out, ?_, HPR.out, by rw [HCS.out]⟩⟩
      exact HR.out
    · have hce' : (ce == 0) = false := by simp [hce]
      have HN : Hid _ := hce
      clear hce
      go_wp2
      go_ret3
      refine ⟨hb1.trans (hb2.mono hb1.size), .inl ⟨ce, cn, rfl, HN.out, ?_⟩⟩
      have := HR.out
      rw [if_neg HN.out] at this
      exact this

set_option maxHeartbeats 1000000 in
theorem rules_any (s : ByteArray) (w : World) (hs : s.size ≤ 4611686018427387904) (hT : Lib.Utf8Tabs 0 1 w) :
    Calls Tryz.prog 14 #[.string s] w fun e w' => e = .returned (.tuple #[.string ⟨(rulesR s).1.toArray⟩, .int .i64 (rulesR s).2.1, .int .i64 (rulesR s).2.2]) ∧ Below w.heap.size w w' := by
  have h1 := readAll_any s w hs hT
  have H1 : Hid _ := h1
  clear h1
  go_enter Tryz.func14, Tryz.ntmps14
  go_wp2_with fail
  refine Calls.mono H1.out ?_
  rintro e w1 ⟨hb1, ⟨c, p, rfl, hc, hr⟩ | ⟨rs, v, b45, b87, rfl, hR, h8, hok, hr, _, _⟩⟩
  · have hc' : (c == 0) = false := by simp [hc]
    have HR : Hid (rulesR s = ([], c, p)) := hr
    clear hr hc
    go_wp2
    go_ret3
    rw [HR.out]
    exact ⟨rfl, hb1⟩
  · obtain ⟨va, vc, rfl⟩ := hR.form
    have hwr := write_any _ rs _ b45 b87 w1 hR (rules_row hR) h8 hok
    have HW : Hid _ := hwr
    have HR : Hid (rulesR s = (rulesTxt rs, 0, 0)) := hr
    clear hwr hr hR hok
    go_wp2_with fail
    refine Calls.mono HW.out ?_
    rintro e w2 ⟨rfl, hb2⟩
    go_wp2
    go_ret3
    rw [HR.out]
    exact ⟨rfl, hb1.trans (hb2.mono hb1.size)⟩

end Go.Proofs.YtjajnhemgphefaaGreatDoor

namespace Go.Proofs.YtjajnhemgphefaaGreatDoor
open Go.RowKit Go.Shelf Go.Maps
set_option linter.unusedVariables false
set_option linter.unusedSimpArgs false

/-- Whether rules have an atom's relation, with as many arguments. -/
def ckR (rs : List Rl) (a : Am) : Int := if arR rs a.rel = 0 then 7 else if arR rs a.rel = a.args.length then 0 else 4

theorem EngV.lt {W : World} {S : Nat → Prop} {be : Nat} {e : Eg} {vr vn vk vf : Value} {bm rb b45 b87 : Nat} {bfs : List Nat} {Sf : Nat → Nat → Prop} (h : EngV W S be e vr vn vk vf bm rb b45 b87 bfs Sf) : be < W.heap.size := (Array.getElem?_eq_some_iff.1 h.blk).1

set_option maxRecDepth 100000 in
set_option maxHeartbeats 1000000 in
theorem checkRel_any (S : Nat → Prop) (be : Nat) (e : Eg) (w : World) (h : EngAt w S be e) (hr : RsOk e.rs) (a : Am) (va : Value) (ta : Option Addr) (tc : Nat) (hva : va = .slice ta a.args.length tc) (hl : a.args.length ≤ 2) :
    Calls Tryz.prog 42 #[.pointer (some ⟨be, 0, none⟩), .agg #[.string a.rel, va]] w fun en w' => en = .returned (.int .i64 (ckR e.rs a)) ∧ Below w.heap.size w w' := by
  obtain ⟨vr, vn, vk, vf, bm, rb, b45, b87, bfs, Sf, hv⟩ := h
  subst hva
  have hbe := hv.lt
  have hb0 : ∀ O, Below w.heap.size w (w.alloc O) := fun O => (Below.refl _ w).alloc (Nat.le_refl _) O
  have har : Hid (∀ W, Below w.heap.size w W → Calls Tryz.prog 53 #[vr, .string a.rel] W fun e' w' => e' = .returned (.int .i64 (arR e.rs a.rel)) ∧ Below W.heap.size W w') := fun W hb => by
    have hv' := hv.below hb
    exact arity_any vr e.rs a.rel rb b45 b87 _ hv'.rules (rules_row hv'.rules) hr.r8 hr.rok
  obtain ⟨ra, rc, hrf⟩ := hv.rules.form
  subst hrf
  have hblk := hv.blk
  have c0 : ∀ O, (w.alloc O).cell? ⟨be, 0, none⟩ = some (.slice ra e.rs.length rc) := fun O => cell_later (hb0 O) (by simp [World.cell?, hblk])
  have hck : Hid (ckR e.rs a = if arR e.rs a.rel = 0 then 7 else if arR e.rs a.rel = a.args.length then 0 else 4) := rfl
  have hbx : Hid (∀ W1, Below (w.alloc (.cells #[.string a.rel, .slice ta a.args.length tc] 92)).drew.heap.size (w.alloc (.cells #[.string a.rel, .slice ta a.args.length tc] 92)).drew W1 → W1.cell? ⟨w.heap.size, 1, none⟩ = some (.slice ta a.args.length tc) ∧ Below w.heap.size w W1) := fun W1 hb => by
    have := (hb.block w.heap.size (by show _ < (w.alloc _).heap.size; simp)).trans (World.alloc_heap_new w _)
    exact ⟨by simp [World.cell?, this], ((hb0 _).drew).trans (hb.mono (by show _ ≤ (w.alloc _).heap.size; simp))⟩
  clear hv hblk
  generalize hn : arR e.rs a.rel = n at *
  clear hn
  by_cases h0 : n = 0
  · subst h0
    rw [if_pos rfl] at hck
    rw [hck.out]
    go_enter Tryz.func42, Tryz.ntmps42
    go_wp2_with fail
    go_region_with (go_at_call 53; refine (har.out _ ((hb0 _).drew)).mono ?_; rintro e' W1 ⟨rfl, hb1⟩; obtain ⟨d1, hbf⟩ := hbx.out W1 hb1)
    all_goals go_wp2
    all_goals go_ret
    all_goals exact ⟨rfl, hbf⟩
  · rw [if_neg h0] at hck
    have h0' : ((n : Int) == 0) = false := by simp [h0]
    have h0'' : ¬ (n : Int) = 0 := by omega
    by_cases h1 : n = a.args.length
    · rw [if_pos h1] at hck
      rw [hck.out]
      subst h1
      clear hck
      go_enter Tryz.func42, Tryz.ntmps42
      go_wp2_with fail
      go_region_with (go_at_call 53; refine (har.out _ ((hb0 _).drew)).mono ?_; rintro e' W1 ⟨rfl, hb1⟩; obtain ⟨d1, hbf⟩ := hbx.out W1 hb1)
      all_goals go_wp2
      all_goals go_ret
      all_goals exact ⟨rfl, hbf⟩
    · rw [if_neg h1] at hck
      rw [hck.out]
      have h1' : ((n : Int) == (a.args.length : Int)) = false := by simp; omega
      have h1'' : ¬ (n : Int) = (a.args.length : Int) := by omega
      clear hck
      go_enter Tryz.func42, Tryz.ntmps42
      go_wp2_with fail
      go_region_with (go_at_call 53; refine (har.out _ ((hb0 _).drew)).mono ?_; rintro e' W1 ⟨rfl, hb1⟩; obtain ⟨d1, hbf⟩ := hbx.out W1 hb1)
      all_goals go_wp2
      all_goals go_ret
      all_goals exact ⟨rfl, hbf⟩

end Go.Proofs.YtjajnhemgphefaaGreatDoor
