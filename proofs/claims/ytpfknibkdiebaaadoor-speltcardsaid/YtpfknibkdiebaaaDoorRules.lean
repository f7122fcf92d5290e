/-
  ebb.Rules: for every text it answers what the plain function 'rulesR' says; nothing that lay before is turned. Conditions: the text is of at most 2^62 bytes; the two tables of package utf8 hold what their text lays.
-/
import Derived.Test.YtpfknibkdiebaaaDoorWr5
namespace Go.Proofs.YtpfknibkdiebaaaDoor
open Go.RowKit Go.Shelf
set_option linter.unusedVariables false
set_option linter.unusedSimpArgs false

def rulesR (s : ByteArray) : List UInt8 × Int × Int :=
  if 300 < Lib.runeCount s then ([], 1, 0)
  else match parseR s with
    | .error (c, p) => ([], c, p)
    | .ok rs => if (checkS rs).1 = 0 then (rulesTxt rs, 0, 0) else ([], (checkS rs).1, (checkS rs).2)

theorem foldP_err : ∀ (l : List Tok) (s s' : PSt) (c : Int) (p : Nat), foldP s l = (s', some (c, p)) → c ≠ 0
  | [], s, s', c, p, h => by simp [foldP] at h
  | x :: l, s, s', c, p, h => by
    unfold foldP at h
    split at h
    · exact foldP_err l _ _ _ _ h
    · rename_i hn
      simp at h
      rw [← h.2.1]; exact hn

theorem parseR_err (s : ByteArray) (c : Int) (p : Nat) (h : parseR s = .error (c, p)) : c ≠ 0 := by
  unfold parseR at h
  split at h
  · rename_i st ep hf
    cases h
    exact foldP_err _ _ _ _ _ hf
  · split at h
    · cases h
    · cases h; decide

/-- What parse answers, as Read takes it. -/
def ReadAt (s : ByteArray) (w : World) (e : Ending) (w' : World) : Prop :=
  Below w.heap.size w w' ∧ ((∃ c p : Int, e = .returned (.tuple #[.slice none 0 0, .int .i64 c, .int .i64 p]) ∧ c ≠ 0 ∧ rulesR s = ([], c, p)) ∨
    (∃ rs v b45 b87, e = .returned (.tuple #[v, .int .i64 0, .int .i64 0]) ∧ RulesAt w' w.heap.size b45 b87 v rs ∧ rs.length ≤ 8 ∧ (∀ r ∈ rs, RuleOk r) ∧ rulesR s = (if (checkS rs).1 = 0 then (rulesTxt rs, 0, 0) else ([], (checkS rs).1, (checkS rs).2))))

theorem parse_any (s : ByteArray) (w : World) (hs : s.size ≤ 4611686018427387904) (hT : Lib.Utf8Tabs 0 1 w) :
    Calls Tryd.prog 11 #[.string s] w (ReadAt s w) := by
  by_cases hl : 300 < Lib.runeCount s
  · refine (parse_long s w hs hl).mono ?_
    rintro e w' ⟨rfl, hb⟩
    exact ⟨hb, .inl ⟨1, 0, rfl, by decide, by unfold rulesR; rw [if_pos hl]⟩⟩
  · refine (parse_short s w (by omega) hT).mono ?_
    rintro e w' ⟨hb, h⟩
    refine ⟨hb, ?_⟩
    cases hp : parseR s with
    | error cp =>
      obtain ⟨c, p⟩ := cp
      rw [hp] at h
      exact .inl ⟨c, p, h, parseR_err s c p hp, by unfold rulesR; rw [if_neg hl, hp]⟩
    | ok rs =>
      rw [hp] at h
      obtain ⟨v, b45, b87, h1, _, _, h2, h3, h4⟩ := h
      exact .inr ⟨rs, v, b45, b87, h1, h2, h3, h4, by unfold rulesR; rw [if_neg hl, hp]⟩

theorem rules_row {W : World} {base b45 b87 : Nat} {v : Value} {rs : List ARule} (h : RulesAt W base b45 b87 v rs) : ∀ g, v.ownBlock = some g → g < W.heap.size := by
  intro g hg
  obtain ⟨qs, r1, r2, r3⟩ := h
  obtain ⟨_, c, hc⟩ := owns_block r2 hg
  exact (Array.getElem?_eq_some_iff.1 hc).1

/-- What Read answers, as Rules takes it. -/
def RulesPost (s : ByteArray) (w : World) (e : Ending) (w' : World) : Prop :=
  Below w.heap.size w w' ∧ ((∃ c p : Int, e = .returned (.tuple #[.slice none 0 0, .int .i64 c, .int .i64 p]) ∧ c ≠ 0 ∧ rulesR s = ([], c, p)) ∨
    (∃ rs v b45 b87, e = .returned (.tuple #[v, .int .i64 0, .int .i64 0]) ∧ RulesAt w' w.heap.size b45 b87 v rs ∧ rs.length ≤ 8 ∧ (∀ r ∈ rs, RuleOk r) ∧ rulesR s = (rulesTxt rs, 0, 0)))

set_option maxHeartbeats 1000000 in
theorem read_any (s : ByteArray) (w : World) (hs : s.size ≤ 4611686018427387904) (hT : Lib.Utf8Tabs 0 1 w) :
    Calls Tryd.prog 9 #[.string s] w (RulesPost s w) := by
  have h1 := parse_any s w hs hT
  have H1 : Hid _ := h1
  clear h1
  go_enter Tryd.func9, Tryd.ntmps9
  go_wp2_with fail
  refine Calls.mono H1.out ?_
  rintro e w1 ⟨hb1, ⟨c, p, rfl, hc, hr⟩ | ⟨rs, v, b45, b87, rfl, hR, h8, hok, hr⟩⟩
  · have hc' : (c == 0) = false := by simp [hc]
    have HR : Hid _ := hr
    have HCC : Hid _ := hc
    clear hr hc
    go_wp2
    go_ret3
    exact ⟨hb1, .inl ⟨c, p, rfl, HCC.out, HR.out⟩⟩
  · obtain ⟨va, vc, rfl⟩ := hR.form
    have hck := check_any _ rs _ b45 b87 w1 hR (rules_row hR) h8 hok
    have HCK : Hid _ := hck
    have HR : Hid _ := hr
    have HRA : Hid _ := hR
    have HOK : Hid _ := hok
    clear hck hr hR hok
    generalize hcs : checkS rs = cs at *
    obtain ⟨ce, cn⟩ := cs
    have HCS : Hid (checkS rs = (ce, cn)) := hcs
    clear hcs
    go_wp2_with fail
    refine Calls.mono HCK.out ?_
    rintro e w2 ⟨rfl, hb2⟩
    simp only
    by_cases hce : ce = 0
    · subst hce
      go_wp2
      go_ret3
      refine ⟨hb1.trans (hb2.mono hb1.size), .inr ⟨rs, _, b45, b87, rfl, RulesAt.rk HRA.out (RuleKept.ofBelow hb2), h8, HOK.out, ?_⟩⟩
      exact HR.out
    · have hce' : (ce == 0) = false := by simp [hce]
      have HN : Hid _ := hce
      clear hce
      go_wp2
      go_ret3
      refine ⟨hb1.trans (hb2.mono hb1.size), .inl ⟨ce, cn, rfl, HN.out, ?_⟩⟩
      have := HR.out
      rw [if_neg HN.out] at this
      exact this

set_option maxHeartbeats 1000000 in
theorem rules_any (s : ByteArray) (w : World) (hs : s.size ≤ 4611686018427387904) (hT : Lib.Utf8Tabs 0 1 w) :
    Calls Tryd.prog 6 #[.string s] w fun e w' => e = .returned (.tuple #[.string ⟨(rulesR s).1.toArray⟩, .int .i64 (rulesR s).2.1, .int .i64 (rulesR s).2.2]) ∧ Below w.heap.size w w' := by
  have h1 := read_any s w hs hT
  have H1 : Hid _ := h1
  clear h1
  go_enter Tryd.func6, Tryd.ntmps6
  go_wp2_with fail
  refine Calls.mono H1.out ?_
  rintro e w1 ⟨hb1, ⟨c, p, rfl, hc, hr⟩ | ⟨rs, v, b45, b87, rfl, hR, h8, hok, hr⟩⟩
  · have hc' : (c == 0) = false := by simp [hc]
    have HR : Hid (rulesR s = ([], c, p)) := hr
    clear hr hc
    go_wp2
    go_ret3
    rw [HR.out]
    exact ⟨rfl, hb1⟩
  · obtain ⟨va, vc, rfl⟩ := hR.form
    have hwr := write_any _ rs _ b45 b87 w1 hR (rules_row hR) h8 hok
    have HW : Hid _ := hwr
    have HR : Hid (rulesR s = (rulesTxt rs, 0, 0)) := hr
    clear hwr hr hR hok
    go_wp2_with fail
    refine Calls.mono HW.out ?_
    rintro e w2 ⟨rfl, hb2⟩
    go_wp2
    go_ret3
    rw [HR.out]
    exact ⟨rfl, hb1.trans (hb2.mono hb1.size)⟩

end Go.Proofs.YtpfknibkdiebaaaDoor
