/-
  rules.parse: what it answers, for every text.
  rules.ReadAtom: a text that is one atom.
-/
import Derived.Test.YtjajnhemgphefaaGreatDoorJdParse
import Derived.Test.YtjajnhemgphefaaGreatDoorJdIdx
namespace Go.Proofs.YtjajnhemgphefaaGreatDoor
open Go.RowKit Go.Shelf
set_option linter.unusedVariables false
set_option linter.unusedSimpArgs false

set_option maxHeartbeats 1000000 in
theorem parse_long (s : ByteArray) (w : World) (hs : s.size ≤ 4611686018427387904) (hlong : 300 < Lib.runeCount s) :
    Calls Tryz.prog 60 #[.string s] w fun e w' => e = .returned (.tuple #[.slice none 0 0, .int .i64 1, .int .i64 0]) ∧ Below w.heap.size w w' := by
  have h : Hid (∀ bp W, Calls Tryz.prog 90 #[.pointer (some ⟨bp, 0, none⟩), .string s] W fun e w' => e = .returned (.tuple #[.int .i64 1, .int .i64 0]) ∧ Below W.heap.size W w') := fun bp W => takeAll_long s bp W hs hlong
  go_enter Tryz.func60, Tryz.ntmps60
  go_wp2_with (go_at_call 90; refine (h.out _ _).mono ?_; rintro e w' ⟨rfl, hb⟩)
  go_ret3
  exact ⟨rfl, ((Below.refl _ w).alloc (Nat.le_refl _) _).trans (hb.mono (by simp))⟩

def ParsePost (s : ByteArray) (w : World) (e : Ending) (w' : World) : Prop :=
  Below w.heap.size w w' ∧ match parseR s with
    | .error (c, p) => e = .returned (.tuple #[.slice none 0 0, .int .i64 c, .int .i64 p])
    | .ok rs => ∃ v b45 b87, e = .returned (.tuple #[v, .int .i64 0, .int .i64 0]) ∧ w.heap.size ≤ b45 ∧ w.heap.size ≤ b87 ∧ RulesAt w' w.heap.size b45 b87 v rs ∧ rs.length ≤ 8 ∧ ∀ r ∈ rs, RuleOk r

set_option maxHeartbeats 1000000 in
theorem parse_short (s : ByteArray) (w : World) (hshort : Lib.runeCount s ≤ 300) (hT : Lib.Utf8Tabs 0 1 w) :
    Calls Tryz.prog 60 #[.string s] w (ParsePost s w) := by
  have hs : s.size ≤ 1200 := by have := size_le_runes s; omega
  have hTK : Hid (∀ O, O = Obj.cells #[.int .i64 0, .slice none 0 0, .slice none 0 0, .slice none 0 0] 179 (0, 0) → Calls Tryz.prog 90 #[.pointer (some ⟨w.heap.size, 0, none⟩), .string s] (w.alloc O) (TakePost s w.heap.size w.heap.size (w.alloc O))) := by
    rintro O rfl
    exact takeAll_short s w w.heap.size w.heap.size _ hshort hT rfl ((Below.refl _ w).alloc (Nat.le_refl _) _) (Nat.le_refl _) (World.alloc_heap_new w _)
  have hB : Hid (∀ O W', Below w.heap.size (w.alloc O) W' → Below w.heap.size w W') := fun O W' h => ((Below.refl _ w).alloc (Nat.le_refl _) O).trans h
  have hPR : Hid (parseR s = match foldP pst0 (toks s.size s 0) with | (_, some ep) => .error ep | (st, none) => if st.st = 0 then .ok st.rules else .error (2, Lib.runeCount s)) := rfl
  unfold TakePost at hTK
  unfold ParsePost
  rcases hfo : foldP pst0 (toks s.size s 0) with ⟨st, _ | ⟨c, p⟩⟩
  · rw [hfo] at hPR hTK
    simp only at hPR hTK
    by_cases h0 : st.st = 0
    · rw [if_pos h0] at hPR
      rw [hPR.out]
      clear hfo
      go_enter Tryz.func60, Tryz.ntmps60
      go_wp2_with fail
      refine (hTK.out _ rfl).mono ?_
      rintro e W1 ⟨hb1, rfl, hI, bS, hP⟩
      obtain ⟨vr, va, vv, b45, b87, h1, h2, h4, h5, h6, hS1, hS2, hh, hV, hR, _⟩ := hP
      rw [h0] at hh
      have c0 : W1.cell? ⟨w.heap.size, 0, none⟩ = some (.int .i64 0) := by simp [World.cell?, hh]
      have c1 : W1.cell? ⟨w.heap.size, 1, none⟩ = some vr := by simp [World.cell?, hh]
      obtain ⟨ra, rc, rfl⟩ : ∃ a c, vr = .slice a st.rules.length c := by
        obtain ⟨qs, q1, q2, q3⟩ := hR
        obtain ⟨a, c, e⟩ := owns_form q2
        exact ⟨a, c, by rw [e, ← q1]; simp⟩
      have HF : Hid _ := And.intro (And.intro h1 h2) (And.intro hR hI)
      have HB : Hid _ := hb1
      clear h1 h2 h4 h5 h6 hS1 hS2 hV hR hI hh hb1
      go_wp2
      go_ret3
      exact ⟨hB.out _ _ HB.out, _, b45, b87, rfl, HF.out.1.1, HF.out.1.2, HF.out.2.1, HF.out.2.2.rules, HF.out.2.2.good⟩
    · rw [if_neg h0] at hPR
      rw [hPR.out]
      clear hfo
      have h0' : (st.st == 0) = false := by simp [h0]
      go_enter Tryz.func60, Tryz.ntmps60
      go_wp2_with fail
      refine (hTK.out _ rfl).mono ?_
      rintro e W1 ⟨hb1, rfl, hI, bS, hP⟩
      have c0 := hP.cell0.1
      have HB : Hid _ := hb1
      clear hP hI hb1
      go_wp2_with (go_at_call 95; refine (runeCount_any _ _ (by omega)).mono ?_; rintro e w' ⟨rfl, pos, rfl⟩)
      go_ret3
      exact ⟨(hB.out _ _ HB.out).alloc (by have := HB.out.size; simp at this; omega) _, rfl⟩
  · rw [hfo] at hPR hTK
    simp only at hPR hTK
    rw [hPR.out]
    have hc0 : c ≠ 0 := foldP_err _ _ _ _ _ hfo
    have hc' : (c == 0) = false := by simp [hc0]
    clear hfo hc0
    go_enter Tryz.func60, Tryz.ntmps60
    go_wp2_with (go_at_call 90; refine (hTK.out _ rfl).mono ?_; rintro e W1 ⟨hb1, rfl⟩)
    go_ret3
    exact ⟨hB.out _ _ hb1, rfl⟩

end Go.Proofs.YtjajnhemgphefaaGreatDoor

namespace Go.Proofs.YtjajnhemgphefaaGreatDoor
open Go.RowKit Go.Shelf
set_option linter.unusedVariables false
set_option linter.unusedSimpArgs false

/-- The atom that a text is, if it is one. -/
def atomR (s : ByteArray) : Option Am :=
  if 300 < Lib.runeCount s then none
  else match foldP pst0 (toks s.size s 0) with
    | (_, some _) => none
    | (st, none) => if st.st = 5 ∧ st.rules = [] then st.atoms.head? else none

/-- What ReadAtom answers. -/
def AtomPost (s : ByteArray) (w : World) (e : Ending) (w' : World) : Prop :=
  Below w.heap.size w w' ∧ match atomR s with
    | none => e = .returned (.tuple #[.agg #[.string ⟨#[]⟩, .slice none 0 0], .bool false])
    | some a => ∃ va, e = .returned (.tuple #[.agg #[.string a.rel, va], .bool true]) ∧ AmOk a ∧ SealT w' w'.heap.size va a.args

/-- The result's box is written. -/
def putAm (W : World) (N : Nat) (x : ByteArray) (v : Value) : World := (W.setCell ⟨N, 0, none⟩ (.string x)).setCell ⟨N, 1, none⟩ v
theorem putAm_below {w W : World} {N : Nat} (h : Below N w W) (x : ByteArray) (v : Value) : Below N w (putAm W N x v) :=
  (h.setCell (p := ⟨N, 0, none⟩) (Nat.le_refl _) _).setCell (p := ⟨N, 1, none⟩) (Nat.le_refl _) _
theorem putAm_size (W : World) (N : Nat) (x : ByteArray) (v : Value) : (putAm W N x v).heap.size = W.heap.size := by simp [putAm]
theorem putAm_other (W : World) (N : Nat) (x : ByteArray) (v : Value) {k : Nat} (h : k ≠ N) : (putAm W N x v).heap[k]? = W.heap[k]? :=
  (Below.heap_setCell _ _ _ _ (by show k ≠ N; exact h)).trans (Below.heap_setCell _ _ _ _ (by show k ≠ N; exact h))
theorem amBox {w W : World} {N : Nat} (hN : w.heap.size = N) (hb : Below (N + 1) (w.alloc (.cells #[.string ⟨#[]⟩, .slice none 0 0] 92)) W) :
    W.heap[N]? = some (Obj.cells #[.string ⟨#[]⟩, .slice none 0 0] 92 (0, 0)) := by
  have := World.alloc_heap_new w (.cells #[.string ⟨#[]⟩, .slice none 0 0] 92)
  rw [hN] at this
  exact (hb.block N (by omega)).trans this

set_option maxRecDepth 100000 in
set_option maxHeartbeats 1000000 in
theorem readAtom_long (s : ByteArray) (w : World) (hs : s.size ≤ 4611686018427387904) (hlong : 300 < Lib.runeCount s) :
    Calls Tryz.prog 49 #[.string s] w (AtomPost s w) := by
  obtain ⟨N, hN⟩ : ∃ N, w.heap.size = N := ⟨_, rfl⟩
  have h : Hid (∀ O, Calls Tryz.prog 90 #[.pointer (some ⟨N + 1, 0, none⟩), .string s] ((w.alloc (.cells #[.string ⟨#[]⟩, .slice none 0 0] 92)).alloc O) fun e w' => e = .returned (.tuple #[.int .i64 1, .int .i64 0]) ∧ Below (N + 1) (w.alloc (.cells #[.string ⟨#[]⟩, .slice none 0 0] 92)) w') := fun O => by
    refine (takeAll_long s _ _ hs hlong).mono ?_
    rintro e w' ⟨h1, h2⟩
    exact ⟨h1, ((Below.refl _ _).alloc (by simp; omega) O).trans (h2.mono (by simp; omega))⟩
  have ha : Hid (atomR s = none) := by show _ = _; unfold atomR; rw [if_pos hlong]
  unfold AtomPost
  rw [ha.out]
  have hbw : Below N w (w.alloc (.cells #[.string ⟨#[]⟩, .slice none 0 0] 92)) := (Below.refl _ w).alloc (by omega) _
  have HN : Hid _ := hN
  go_enter Tryz.func49, Tryz.ntmps49
  go_wp2_with (go_at_call 90; refine (h.out _).mono ?_; rintro e W1 ⟨rfl, hb⟩; have p1 := amBox HN.out hb; have q0 : W1.cell? ⟨N, 0, none⟩ = some (.string ⟨#[]⟩) := (by simp [World.cell?, p1]); have y0 : W1.frozen? ⟨N, 0, none⟩ = false := (by simp [World.frozen?, p1]); have q1 : W1.cell? ⟨N, 1, none⟩ = some (.slice none 0 0) := (by simp [World.cell?, p1]); have y1 : W1.frozen? ⟨N, 1, none⟩ = false := (by simp [World.frozen?, p1]))
  refine bodyPost_ret (v := .tuple #[.agg #[.string ⟨#[]⟩, .slice none 0 0], .bool false]) (by simp [results, Tryz.results49, go_sem, q0, q1]) rfl ?_
  exact ⟨by rw [HN.out]; exact putAm_below (hbw.trans (hb.mono (by omega))) _ _, rfl⟩

theorem CurA.first {W : World} {b45 b87 : Nat} {v : Value} {a : Am} {l : List Am} (h : CurA W b45 b87 v (a :: l)) (hb : b87 ≤ W.heap.size) :
    ∃ g c va, v = .slice (some ⟨g, 0, none⟩) (l.length + 1) c ∧ W.cell? ⟨g, 0, none⟩ = some (.string a.rel) ∧ W.cell? ⟨g, 1, none⟩ = some va ∧ SealT W W.heap.size va a.args ∧ g < W.heap.size ∧ b45 ≤ g := by
  obtain ⟨ps, h1, h2, h3, h4⟩ := h
  cases ps with
  | nil => simp at h1
  | cons p ps =>
    simp only [List.map_cons, List.cons.injEq] at h1
    obtain ⟨rfl, rfl⟩ := h1
    obtain ⟨g, cap, rfl, hg1, hg2, hc, hcell⟩ := own_get h2 (fun _ => rfl) (by simp)
    refine ⟨g, cap, p.2, by simp, hcell 0 0 (by simp) _ (by decide) rfl, hcell 0 1 (by simp) _ (by decide) rfl, ?_, hg2, hg1⟩
    cases ps with
    | nil => exact SealT.ofOwns (h4 p rfl)
    | cons q qs => exact (h3 p (by simp)).mono hb

set_option maxRecDepth 100000 in
set_option maxHeartbeats 4000000 in
theorem readAtom_short (s : ByteArray) (w : World) (hshort : Lib.runeCount s ≤ 300) (hT : Lib.Utf8Tabs 0 1 w) :
    Calls Tryz.prog 49 #[.string s] w (AtomPost s w) := by
  obtain ⟨N, hN⟩ : ∃ N, w.heap.size = N := ⟨_, rfl⟩
  obtain ⟨WA, hWA⟩ : ∃ WA, w.alloc (.cells #[.string ⟨#[]⟩, .slice none 0 0] 92) = WA := ⟨_, rfl⟩
  have hsA : WA.heap.size = N + 1 := by rw [← hWA, ← hN]; simp
  have hbw : Below N w WA := by rw [← hWA]; exact (Below.refl _ w).alloc (by omega) _
  have hTA : Lib.Utf8Tabs 0 1 WA := Utf8Tabs_below hT (by rw [hN]; exact hbw)
  have hTK : Hid (∀ O, O = Obj.cells #[.int .i64 0, .slice none 0 0, .slice none 0 0, .slice none 0 0] 179 (0, 0) → Calls Tryz.prog 90 #[.pointer (some ⟨N + 1, 0, none⟩), .string s] (WA.alloc O) (TakePost s (N + 1) (N + 1) (WA.alloc O))) := by
    rintro O rfl
    exact takeAll_short s WA (N + 1) (N + 1) _ hshort hTA hsA ((Below.refl _ WA).alloc (by omega) _) (Nat.le_refl _) (by rw [← hsA]; exact World.alloc_heap_new WA _)
  have hB : Hid (∀ O W', Below (N + 1) (WA.alloc O) W' → Below (N + 1) WA W') := fun O W' h => ((Below.refl _ WA).alloc (by omega) O).trans h
  have hPR : Hid (atomR s = match foldP pst0 (toks s.size s 0) with | (_, some _) => none | (st, none) => if st.st = 5 ∧ st.rules = [] then st.atoms.head? else none) := by
    show _ = _
    unfold atomR; rw [if_neg (by omega)]
  have hbox : Hid (∀ W1, Below (N + 1) WA W1 → W1.heap[N]? = some (Obj.cells #[.string ⟨#[]⟩, .slice none 0 0] 92 (0, 0))) := fun W1 hb => amBox hN (by rw [hWA]; exact hb)
  have hfin : Hid (∀ W1 x v, Below (N + 1) WA W1 → Below w.heap.size w (putAm W1 N x v)) := fun W1 x v hb => by rw [hN]; exact putAm_below (hbw.trans (hb.mono (by omega))) _ _
  unfold TakePost at hTK
  clear hTA hT hbw
  rcases hfo : foldP pst0 (toks s.size s 0) with ⟨st, _ | ⟨c, p⟩⟩
  · rw [hfo] at hPR hTK
    simp only at hPR hTK
    clear hfo
    go_enter Tryz.func49, Tryz.ntmps49
    go_wp2_with fail
    refine (hTK.out _ rfl).mono ?_
    rintro e W1 ⟨hb1, rfl, hI, bS, hP⟩
    have hb2 := hB.out _ _ hb1
    have p1 := hbox.out W1 hb2
    have q0 : W1.cell? ⟨N, 0, none⟩ = some (.string ⟨#[]⟩) := (by simp [World.cell?, p1])
    have y0 : W1.frozen? ⟨N, 0, none⟩ = false := (by simp [World.frozen?, p1])
    have q1 : W1.cell? ⟨N, 1, none⟩ = some (.slice none 0 0) := (by simp [World.cell?, p1])
    have y1 : W1.frozen? ⟨N, 1, none⟩ = false := (by simp [World.frozen?, p1])
    obtain ⟨vr, va, vv, b45, b87, h1, h2, h4, h5, h6, hS1, hS2, hh, hV, hR, hA⟩ := hP
    have c0 : W1.cell? ⟨N + 1, 0, none⟩ = some (.int .i64 st.st) := by simp [World.cell?, hh]
    have c1 : W1.cell? ⟨N + 1, 1, none⟩ = some vr := by simp [World.cell?, hh]
    have c2 : W1.cell? ⟨N + 1, 2, none⟩ = some va := by simp [World.cell?, hh]
    obtain ⟨ra, rc, rfl⟩ : ∃ a c, vr = .slice a st.rules.length c := by
      obtain ⟨qs, q1, q2, q3⟩ := hR
      obtain ⟨a, c, e⟩ := owns_form q2
      exact ⟨a, c, by rw [e, ← q1]; simp⟩
    have HB : Hid _ := hb2
    by_cases h0 : st.st = 5
    · by_cases hr0 : st.rules = []
      · rw [if_pos ⟨h0, hr0⟩] at hPR
        rw [hr0] at c1
        rw [h0] at c0
        cases hat : st.atoms with
        | nil => exact absurd hat (hI.some (by rw [h0]; decide))
        | cons a l =>
          rw [hat] at hA hPR
          have hav : AmOk a := hI.ams a (by rw [hat]; simp)
          obtain ⟨g, cc, vx, rfl, d0, d1, hsl, hg, hg45⟩ := hA.first h5
          have hgN : N ≠ g := by omega
          obtain ⟨xa, xc, rfl⟩ := hsl.form
          have HSL : Hid (SealT (putAm W1 N a.rel (.slice xa a.args.length xc)) (putAm W1 N a.rel (.slice xa a.args.length xc)).heap.size (.slice xa a.args.length xc) a.args) := by
            show SealT _ _ _ _
            rw [putAm_size]
            refine hsl.kept (fun k c _ hc => (putAm_other _ _ _ _ (fun e => ?_)).trans hc)
            rw [e, p1] at hc; cases hc
          have HAV : Hid _ := hav
          simp only [List.head?_cons] at hPR
          simp only [List.length_nil] at c1
          clear h1 h2 h4 h5 h6 hS1 hS2 hV hR hI hh hb1 hA hsl hav hb2 p1
          go_wp2
          refine bodyPost_ret (v := .tuple #[.agg #[.string a.rel, .slice xa a.args.length xc], .bool true]) (by simp [results, Tryz.results49, go_sem, q0, q1]) rfl ?_
          exact ⟨hfin.out _ _ _ HB.out, by rw [hPR.out]; exact ⟨_, rfl, HAV.out, HSL.out⟩⟩
      · rw [if_neg (fun h => hr0 h.2)] at hPR
        rw [h0] at c0
        have hlen : (0 : Int) < (st.rules.length : Int) := by
          have := List.length_pos_iff.2 hr0
          omega
        clear h1 h2 h4 h5 h6 hS1 hS2 hV hR hI hh hb1 hA hb2 p1
        go_wp2
        refine bodyPost_ret (v := .tuple #[.agg #[.string ⟨#[]⟩, .slice none 0 0], .bool false]) (by simp [results, Tryz.results49, go_sem, q0, q1]) rfl ?_
        exact ⟨hfin.out _ _ _ HB.out, by rw [hPR.out]⟩
    · rw [if_neg (fun h => h0 h.1)] at hPR
      have h0' : (st.st == 5) = false := by simp [h0]
      clear h1 h2 h4 h5 h6 hS1 hS2 hV hR hI hh hb1 hA hb2 p1
      go_wp2
      refine bodyPost_ret (v := .tuple #[.agg #[.string ⟨#[]⟩, .slice none 0 0], .bool false]) (by simp [results, Tryz.results49, go_sem, q0, q1]) rfl ?_
      exact ⟨hfin.out _ _ _ HB.out, by rw [hPR.out]⟩
  · rw [hfo] at hPR hTK
    simp only at hPR hTK
    have hc0 : c ≠ 0 := foldP_err _ _ _ _ _ hfo
    have hc' : (c == 0) = false := by simp [hc0]
    clear hfo
    go_enter Tryz.func49, Tryz.ntmps49
    go_wp2_with fail
    refine (hTK.out _ rfl).mono ?_
    rintro e W1 ⟨hb1, rfl⟩
    have hb2 := hB.out _ _ hb1
    have p1 := hbox.out W1 hb2
    have q0 : W1.cell? ⟨N, 0, none⟩ = some (.string ⟨#[]⟩) := (by simp [World.cell?, p1])
    have y0 : W1.frozen? ⟨N, 0, none⟩ = false := (by simp [World.frozen?, p1])
    have q1 : W1.cell? ⟨N, 1, none⟩ = some (.slice none 0 0) := (by simp [World.cell?, p1])
    have y1 : W1.frozen? ⟨N, 1, none⟩ = false := (by simp [World.frozen?, p1])
    clear p1
    go_wp2
    refine bodyPost_ret (v := .tuple #[.agg #[.string ⟨#[]⟩, .slice none 0 0], .bool false]) (by simp [results, Tryz.results49, go_sem, q0, q1]) rfl ?_
    exact ⟨hfin.out _ _ _ hb2, by rw [hPR.out]⟩

theorem readAtom_any (s : ByteArray) (w : World) (hs : s.size ≤ 4611686018427387904) (hT : Lib.Utf8Tabs 0 1 w) :
    Calls Tryz.prog 49 #[.string s] w (AtomPost s w) := by
  by_cases hl : 300 < Lib.runeCount s
  · exact readAtom_long s w hs hl
  · exact readAtom_short s w (by omega) hT

end Go.Proofs.YtjajnhemgphefaaGreatDoor
