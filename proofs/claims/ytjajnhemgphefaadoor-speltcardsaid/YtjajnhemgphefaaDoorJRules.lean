/-
  rules.parse: what it answers, for every text.
  ebb.Rules: for every text it answers what the plain function 'rulesR' says; nothing that lay before is turned. Conditions: the text is of at most 2^62 bytes; the two tables of package utf8 hold what their text lays.
-/
import Derived.Test.YtjajnhemgphefaaDoorJParse
import Derived.Test.YtjajnhemgphefaaDoorJWr5
namespace Go.Proofs.YtjajnhemgphefaaDoor
open Go.RowKit Go.Shelf
set_option linter.unusedVariables false
set_option linter.unusedSimpArgs false

set_option maxHeartbeats 1000000 in
theorem parse_long (s : ByteArray) (w : World) (hs : s.size ≤ 4611686018427387904) (hlong : 300 < Lib.runeCount s) :
    Calls Tryd.prog 11 #[.string s] w fun e w' => e = .returned (.tuple #[.slice none 0 0, .int .i64 1, .int .i64 0]) ∧ Below w.heap.size w w' := by
  have h : Hid (∀ bp W, Calls Tryd.prog 15 #[.pointer (some ⟨bp, 0, none⟩), .string s] W fun e w' => e = .returned (.tuple #[.int .i64 1, .int .i64 0]) ∧ Below W.heap.size W w') := fun bp W => takeAll_long s bp W hs hlong
  go_enter Tryd.func11, Tryd.ntmps11
  go_wp2_with (go_at_call 15; refine (h.out _ _).mono ?_; rintro e w' ⟨rfl, hb⟩)
  go_ret3
  exact ⟨rfl, ((Below.refl _ w).alloc (Nat.le_refl _) _).trans (hb.mono (by simp))⟩

def ParsePost (s : ByteArray) (w : World) (e : Ending) (w' : World) : Prop :=
  Below w.heap.size w w' ∧ match parseR s with
    | .error (c, p) => e = .returned (.tuple #[.slice none 0 0, .int .i64 c, .int .i64 p])
    | .ok rs => ∃ v b45 b87, e = .returned (.tuple #[v, .int .i64 0, .int .i64 0]) ∧ w.heap.size ≤ b45 ∧ w.heap.size ≤ b87 ∧ RulesAt w' w.heap.size b45 b87 v rs ∧ rs.length ≤ 8 ∧ ∀ r ∈ rs, RuleOk r

set_option maxHeartbeats 1000000 in
theorem parse_short (s : ByteArray) (w : World) (hshort : Lib.runeCount s ≤ 300) (hT : Lib.Utf8Tabs 0 1 w) :
    Calls Tryd.prog 11 #[.string s] w (ParsePost s w) := by
  have hs : s.size ≤ 1200 := by have := size_le_runes s; omega
  have hTK : Hid (∀ O, O = Obj.cells #[.int .i64 0, .slice none 0 0, .slice none 0 0, .slice none 0 0] 53 (0, 0) → Calls Tryd.prog 15 #[.pointer (some ⟨w.heap.size, 0, none⟩), .string s] (w.alloc O) (TakePost s w.heap.size w.heap.size (w.alloc O))) := by
    rintro O rfl
    exact takeAll_short s w w.heap.size w.heap.size _ hshort hT rfl ((Below.refl _ w).alloc (Nat.le_refl _) _) (Nat.le_refl _) (World.alloc_heap_new w _)
  have hB : Hid (∀ O W', Below w.heap.size (w.alloc O) W' → Below w.heap.size w W') := fun O W' h => ((Below.refl _ w).alloc (Nat.le_refl _) O).trans h
  have hPR : Hid (parseR s = match foldP pst0 (toks s.size s 0) with | (_, some ep) => .error ep | (st, none) => if st.st = 0 then .ok st.rules else .error (2, Lib.runeCount s)) := rfl
  unfold TakePost at hTK
  unfold ParsePost
  rcases hfo : foldP pst0 (toks s.size s 0) with ⟨st, _ | ⟨c, p⟩⟩
  · rw [hfo] at hPR hTK
    simp only at hPR hTK
    by_cases h0 : st.st = 0
    · rw [if_pos h0] at hPR
      rw [hPR.out]
      clear hfo
      go_enter Tryd.func11, Tryd.ntmps11
      go_wp2_with fail
      refine (hTK.out _ rfl).mono ?_
      rintro e W1 ⟨hb1, rfl, hI, bS, hP⟩
      obtain ⟨vr, va, vv, b45, b87, h1, h2, h4, h5, h6, hS1, hS2, hh, hV, hR, _⟩ := hP
      rw [h0] at hh
      have c0 : W1.cell? ⟨w.heap.size, 0, none⟩ = some (.int .i64 0) := by simp [World.cell?, hh]
      have c1 : W1.cell? ⟨w.heap.size, 1, none⟩ = some vr := by simp [World.cell?, hh]
      obtain ⟨ra, rc, rfl⟩ : ∃ a c, vr = .slice a st.rules.length c := by
        obtain ⟨qs, q1, q2, q3⟩ := hR
        obtain ⟨a, c, e⟩ := owns_form q2
        exact ⟨a, c, by rw [e, ← q1]; simp⟩
      have HF : Hid _ := And.intro (And.intro h1 h2) (And.intro hR hI)
      have HB : Hid _ := hb1
      clear h1 h2 h4 h5 h6 hS1 hS2 hV hR hI hh hb1
      go_wp2
      go_ret3
      exact ⟨hB.out _ _ HB.out, _, b45, b87, rfl, HF.out.1.1, HF.out.1.2, HF.out.2.1, HF.out.2.2.rules, HF.out.2.2.good⟩
    · rw [if_neg h0] at hPR
      rw [hPR.out]
      clear hfo
      have h0' : (st.st == 0) = false := by simp [h0]
      go_enter Tryd.func11, Tryd.ntmps11
      go_wp2_with fail
      refine (hTK.out _ rfl).mono ?_
      rintro e W1 ⟨hb1, rfl, hI, bS, hP⟩
      have c0 := hP.cell0.1
      have HB : Hid _ := hb1
      clear hP hI hb1
      go_wp2_with (go_at_call 16; refine (runeCount_any _ _ (by omega)).mono ?_; rintro e w' ⟨rfl, pos, rfl⟩)
      go_ret3
      exact ⟨(hB.out _ _ HB.out).alloc (by have := HB.out.size; simp at this; omega) _, rfl⟩
  · rw [hfo] at hPR hTK
    simp only at hPR hTK
    rw [hPR.out]
    have hc0 : c ≠ 0 := foldP_err _ _ _ _ _ hfo
    have hc' : (c == 0) = false := by simp [hc0]
    clear hfo hc0
    go_enter Tryd.func11, Tryd.ntmps11
    go_wp2_with (go_at_call 15; refine (hTK.out _ rfl).mono ?_; rintro e W1 ⟨hb1, rfl⟩)
    go_ret3
    exact ⟨hB.out _ _ hb1, rfl⟩

end Go.Proofs.YtjajnhemgphefaaDoor

namespace Go.Proofs.YtjajnhemgphefaaDoor
open Go.RowKit Go.Shelf
set_option linter.unusedVariables false
set_option linter.unusedSimpArgs false

def rulesR (s : ByteArray) : List UInt8 × Int × Int :=
  if 300 < Lib.runeCount s then ([], 1, 0)
  else match parseR s with
    | .error (c, p) => ([], c, p)
    | .ok rs => if (checkS rs).1 = 0 then (rulesTxt rs, 0, 0) else ([], (checkS rs).1, (checkS rs).2)

theorem parseR_err (s : ByteArray) (c : Int) (p : Nat) (h : parseR s = .error (c, p)) : c ≠ 0 := by
  unfold parseR at h
  split at h
  · rename_i st ep hf
    cases h
    exact foldP_err _ _ _ _ _ hf
  · split at h
    · cases h
    · cases h; decide

/-- What parse answers, as Read takes it. -/
def ReadAt (s : ByteArray) (w : World) (e : Ending) (w' : World) : Prop :=
  Below w.heap.size w w' ∧ ((∃ c p : Int, e = .returned (.tuple #[.slice none 0 0, .int .i64 c, .int .i64 p]) ∧ c ≠ 0 ∧ rulesR s = ([], c, p)) ∨
    (∃ rs v b45 b87, e = .returned (.tuple #[v, .int .i64 0, .int .i64 0]) ∧ RulesAt w' w.heap.size b45 b87 v rs ∧ rs.length ≤ 8 ∧ (∀ r ∈ rs, RuleOk r) ∧ rulesR s = (if (checkS rs).1 = 0 then (rulesTxt rs, 0, 0) else ([], (checkS rs).1, (checkS rs).2))))

theorem parse_any (s : ByteArray) (w : World) (hs : s.size ≤ 4611686018427387904) (hT : Lib.Utf8Tabs 0 1 w) :
    Calls Tryd.prog 11 #[.string s] w (ReadAt s w) := by
  by_cases hl : 300 < Lib.runeCount s
  · refine (parse_long s w hs hl).mono ?_
    rintro e w' ⟨rfl, hb⟩
    exact ⟨hb, .inl ⟨1, 0, rfl, by decide, by unfold rulesR; rw [if_pos hl]⟩⟩
  · refine (parse_short s w (by omega) hT).mono ?_
    rintro e w' ⟨hb, h⟩
    refine ⟨hb, ?_⟩
    cases hp : parseR s with
    | error cp =>
      obtain ⟨c, p⟩ := cp
      rw [hp] at h
      exact .inl ⟨c, p, h, parseR_err s c p hp, by unfold rulesR; rw [if_neg hl, hp]⟩
    | ok rs =>
      rw [hp] at h
      obtain ⟨v, b45, b87, h1, _, _, h2, h3, h4⟩ := h
      exact .inr ⟨rs, v, b45, b87, h1, h2, h3, h4, by unfold rulesR; rw [if_neg hl, hp]⟩

theorem rules_row {W : World} {base b45 b87 : Nat} {v : Value} {rs : List Rl} (h : RulesAt W base b45 b87 v rs) : ∀ g, v.ownBlock = some g → g < W.heap.size := by
  intro g hg
  obtain ⟨qs, r1, r2, r3⟩ := h
  obtain ⟨_, c, hc⟩ := owns_block r2 hg
  exact (Array.getElem?_eq_some_iff.1 hc).1

/-- What Read answers, as Rules takes it. -/
def RulesPost (s : ByteArray) (w : World) (e : Ending) (w' : World) : Prop :=
  Below w.heap.size w w' ∧ ((∃ c p : Int, e = .returned (.tuple #[.slice none 0 0, .int .i64 c, .int .i64 p]) ∧ c ≠ 0 ∧ rulesR s = ([], c, p)) ∨
    (∃ rs v b45 b87, e = .returned (.tuple #[v, .int .i64 0, .int .i64 0]) ∧ RulesAt w' w.heap.size b45 b87 v rs ∧ rs.length ≤ 8 ∧ (∀ r ∈ rs, RuleOk r) ∧ rulesR s = (rulesTxt rs, 0, 0)))

set_option maxHeartbeats 1000000 in
theorem readAll_any (s : ByteArray) (w : World) (hs : s.size ≤ 4611686018427387904) (hT : Lib.Utf8Tabs 0 1 w) :
    Calls Tryd.prog 9 #[.string s] w (RulesPost s w) := by
  have h1 := parse_any s w hs hT
  have H1 : Hid _ := h1
  clear h1
  go_enter Tryd.func9, Tryd.ntmps9
  go_wp2_with fail
  refine Calls.mono H1.out ?_
  rintro e w1 ⟨hb1, ⟨c, p, rfl, hc, hr⟩ | ⟨rs, v, b45, b87, rfl, hR, h8, hok, hr⟩⟩
  · have hc' : (c == 0) = false := by simp [hc]
    have HR : Hid _ := hr
    have HCC : Hid _ := hc
    clear hr hc
    go_wp2
    go_ret3
    exact ⟨hb1, .inl ⟨c, p, rfl, HCC.out, HR.out⟩⟩
  · obtain ⟨va, vc, rfl⟩ := hR.form
    have hck := check_any _ rs _ b45 b87 w1 hR (rules_row hR) h8 hok
    have HCK : Hid _ := hck
    have HR : Hid _ := hr
    have HRA : Hid _ := hR
    have HOK : Hid _ := hok
    clear hck hr hR hok
    generalize hcs : checkS rs = cs at *
    obtain ⟨ce, cn⟩ := cs
    have HCS : Hid (checkS rs = (ce, cn)) := hcs
    clear hcs
    go_wp2_with fail
    refine Calls.mono HCK.out ?_
    rintro e w2 ⟨rfl, hb2⟩
    simp only
    by_cases hce : ce = 0
    · subst hce
      go_wp2
      go_ret3
      refine ⟨hb1.trans (hb2.mono hb1.size), .inr ⟨rs, _, b45, b87, rfl, RulesAt.rk HRA.out (RuleKept.ofBelow hb2), h8, HOK.out, ?_⟩⟩
      exact HR.out
    · have hce' : (ce == 0) = false := by simp [hce]
      have HN : Hid _ := hce
      clear hce
      go_wp2
      go_ret3
      refine ⟨hb1.trans (hb2.mono hb1.size), .inl ⟨ce, cn, rfl, HN.out, ?_⟩⟩
      have := HR.out
      rw [if_neg HN.out] at this
      exact this

set_option maxHeartbeats 1000000 in
theorem rules_any (s : ByteArray) (w : World) (hs : s.size ≤ 4611686018427387904) (hT : Lib.Utf8Tabs 0 1 w) :
    Calls Tryd.prog 6 #[.string s] w fun e w' => e = .returned (.tuple #[.string ⟨(rulesR s).1.toArray⟩, .int .i64 (rulesR s).2.1, .int .i64 (rulesR s).2.2]) ∧ Below w.heap.size w w' := by
  have h1 := readAll_any s w hs hT
  have H1 : Hid _ := h1
  clear h1
  go_enter Tryd.func6, Tryd.ntmps6
  go_wp2_with fail
  refine Calls.mono H1.out ?_
  rintro e w1 ⟨hb1, ⟨c, p, rfl, hc, hr⟩ | ⟨rs, v, b45, b87, rfl, hR, h8, hok, hr⟩⟩
  · have hc' : (c == 0) = false := by simp [hc]
    have HR : Hid (rulesR s = ([], c, p)) := hr
    clear hr hc
    go_wp2
    go_ret3
    rw [HR.out]
    exact ⟨rfl, hb1⟩
  · obtain ⟨va, vc, rfl⟩ := hR.form
    have hwr := write_any _ rs _ b45 b87 w1 hR (rules_row hR) h8 hok
    have HW : Hid _ := hwr
    have HR : Hid (rulesR s = (rulesTxt rs, 0, 0)) := hr
    clear hwr hr hR hok
    go_wp2_with fail
    refine Calls.mono HW.out ?_
    rintro e w2 ⟨rfl, hb2⟩
    go_wp2
    go_ret3
    rw [HR.out]
    exact ⟨rfl, hb1.trans (hb2.mono hb1.size)⟩

end Go.Proofs.YtjajnhemgphefaaDoor
