/-
  rules.parse: what it answers, for every text.
  rules.ReadAtom: a text that is one atom.
  Rule.Atoms: the iterator over the atoms of a rule, its head first.
  A range over an iterator that itself ranges over an iterator: the iterator's contract may lean on an invariant that abides the turn of any block that is no cells and lies beyond the call; one law for the caller.
-/
import Derived.Test.YtjajnhemgphefaaGreatDoorJParse
import Derived.Test.YtjajnhemgphefaaGreatDoorJRefC
namespace Go.Proofs.YtjajnhemgphefaaGreatDoor
open Go.RowKit Go.Shelf
set_option linter.unusedVariables false
set_option linter.unusedSimpArgs false

set_option maxHeartbeats 1000000 in
theorem parse_long (s : ByteArray) (w : World) (hs : s.size ≤ 4611686018427387904) (hlong : 300 < Lib.runeCount s) :
    Calls Tryz.prog 60 #[.string s] w fun e w' => e = .returned (.tuple #[.slice none 0 0, .int .i64 1, .int .i64 0]) ∧ Below w.heap.size w w' := by
  have h : Hid (∀ bp W, Calls Tryz.prog 90 #[.pointer (some ⟨bp, 0, none⟩), .string s] W fun e w' => e = .returned (.tuple #[.int .i64 1, .int .i64 0]) ∧ Below W.heap.size W w') := fun bp W => takeAll_long s bp W hs hlong
  go_enter Tryz.func60, Tryz.ntmps60
  go_wp2_with (go_at_call 90; refine (h.out _ _).mono ?_; rintro e w' ⟨rfl, hb⟩)
  go_ret3
  exact ⟨rfl, ((Below.refl _ w).alloc (Nat.le_refl _) _).trans (hb.mono (by simp))⟩

def ParsePost (s : ByteArray) (w : World) (e : Ending) (w' : World) : Prop :=
  Below w.heap.size w w' ∧ match parseR s with
    | .error (c, p) => e = .returned (.tuple #[.slice none 0 0, .int .i64 c, .int .i64 p])
    | .ok rs => ∃ v b45 b87, e = .returned (.tuple #[v, .int .i64 0, .int .i64 0]) ∧ w.heap.size ≤ b45 ∧ w.heap.size ≤ b87 ∧ RulesAt w' w.heap.size b45 b87 v rs ∧ rs.length ≤ 8 ∧ ∀ r ∈ rs, RuleOk r

set_option maxHeartbeats 1000000 in
theorem parse_short (s : ByteArray) (w : World) (hshort : Lib.runeCount s ≤ 300) (hT : Lib.Utf8Tabs 0 1 w) :
    Calls Tryz.prog 60 #[.string s] w (ParsePost s w) := by
  have hs : s.size ≤ 1200 := by have := size_le_runes s; omega
  have hTK : Hid (∀ O, O = Obj.cells #[.int .i64 0, .slice none 0 0, .slice none 0 0, .slice none 0 0] 179 (0, 0) → Calls Tryz.prog 90 #[.pointer (some ⟨w.heap.size, 0, none⟩), .string s] (w.alloc O) (TakePost s w.heap.size w.heap.size (w.alloc O))) := by
    rintro O rfl
    exact takeAll_short s w w.heap.size w.heap.size _ hshort hT rfl ((Below.refl _ w).alloc (Nat.le_refl _) _) (Nat.le_refl _) (World.alloc_heap_new w _)
  have hB : Hid (∀ O W', Below w.heap.size (w.alloc O) W' → Below w.heap.size w W') := fun O W' h => ((Below.refl _ w).alloc (Nat.le_refl _) O).trans h
  have hPR : Hid (parseR s = match foldP pst0 (toks s.size s 0) with | (_, some ep) => .error ep | (st, none) => if st.st = 0 then .ok st.rules else .error (2, Lib.runeCount s)) := rfl
  unfold TakePost at hTK
  unfold ParsePost
  rcases hfo : foldP pst0 (toks s.size s 0) with ⟨st, _ | ⟨c, p⟩⟩
  · rw [hfo] at hPR hTK
    simp only at hPR hTK
    by_cases h0 : st.st = 0
    · rw [if_pos h0] at hPR
      rw [hPR.out]
      clear hfo
      go_enter Tryz.func60, Tryz.ntmps60
      go_wp2_with fail
      refine (hTK.out _ rfl).mono ?_
      rintro e W1 ⟨hb1, rfl, hI, bS, hP⟩
      obtain ⟨vr, va, vv, b45, b87, h1, h2, h4, h5, h6, hS1, hS2, hh, hV, hR, _⟩ := hP
      rw [h0] at hh
      have c0 : W1.cell? ⟨w.heap.size, 0, none⟩ = some (.int .i64 0) := by simp [World.cell?, hh]
      have c1 : W1.cell? ⟨w.heap.size, 1, none⟩ = some vr := by simp [World.cell?, hh]
      obtain ⟨ra, rc, rfl⟩ : ∃ a c, vr = .slice a st.rules.length c := by
        obtain ⟨qs, q1, q2, q3⟩ := hR
        obtain ⟨a, c, e⟩ := owns_form q2
        exact ⟨a, c, by rw [e, ← q1]; simp⟩
      have HF : Hid _ := And.intro (And.intro h1 h2) (And.intro hR hI)
      have HB : Hid _ := hb1
      clear h1 h2 h4 h5 h6 hS1 hS2 hV hR hI hh hb1
      go_wp2
      go_ret3
      exact ⟨hB.out _ _ HB.out, _, b45, b87, rfl, HF.out.1.1, HF.out.1.2, HF.out.2.1, HF.out.2.2.rules, HF.out.2.2.good⟩
    · rw [if_neg h0] at hPR
      rw [hPR.out]
      clear hfo
      have h0' : (st.st == 0) = false := by simp [h0]
      go_enter Tryz.func60, Tryz.ntmps60
      go_wp2_with fail
      refine (hTK.out _ rfl).mono ?_
      rintro e W1 ⟨hb1, rfl, hI, bS, hP⟩
      have c0 := hP.cell0.1
      have HB : Hid _ := hb1
      clear hP hI hb1
      go_wp2_with (go_at_call 95; refine (runeCount_any _ _ (by omega)).mono ?_; rintro e w' ⟨rfl, pos, rfl⟩)
      go_ret3
      exact ⟨(hB.out _ _ HB.out).alloc (by have := HB.out.size; simp at this; omega) _, rfl⟩
  · rw [hfo] at hPR hTK
    simp only at hPR hTK
    rw [hPR.out]
    have hc0 : c ≠ 0 := foldP_err _ _ _ _ _ hfo
    have hc' : (c == 0) = false := by simp [hc0]
    clear hfo hc0
    go_enter Tryz.func60, Tryz.ntmps60
    go_wp2_with (go_at_call 90; refine (hTK.out _ rfl).mono ?_; rintro e W1 ⟨hb1, rfl⟩)
    go_ret3
    exact ⟨hB.out _ _ hb1, rfl⟩

end Go.Proofs.YtjajnhemgphefaaGreatDoor

namespace Go.Proofs.YtjajnhemgphefaaGreatDoor
open Go.RowKit Go.Shelf
set_option linter.unusedVariables false
set_option linter.unusedSimpArgs false

/-- The atom that a text is, if it is one. -/
def atomR (s : ByteArray) : Option Am :=
  if 300 < Lib.runeCount s then none
  else match foldP pst0 (toks s.size s 0) with
    | (_, some _) => none
    | (st, none) => if st.st = 5 ∧ st.rules = [] then st.atoms.head? else none

/-- What ReadAtom answers. -/
def AtomPost (s : ByteArray) (w : World) (e : Ending) (w' : World) : Prop :=
  Below w.heap.size w w' ∧ match atomR s with
    | none => e = .returned (.tuple #[.agg #[.string ⟨#[]⟩, .slice none 0 0], .bool false])
    | some a => ∃ va, e = .returned (.tuple #[.agg #[.string a.rel, va], .bool true]) ∧ AmOk a ∧ SealT w' w'.heap.size va a.args

/-- The result's box is written. -/
def putAm (W : World) (N : Nat) (x : ByteArray) (v : Value) : World := (W.setCell ⟨N, 0, none⟩ (.string x)).setCell ⟨N, 1, none⟩ v
theorem putAm_below {w W : World} {N : Nat} (h : Below N w W) (x : ByteArray) (v : Value) : Below N w (putAm W N x v) :=
  (h.setCell (p := ⟨N, 0, none⟩) (Nat.le_refl _) _).setCell (p := ⟨N, 1, none⟩) (Nat.le_refl _) _
theorem putAm_size (W : World) (N : Nat) (x : ByteArray) (v : Value) : (putAm W N x v).heap.size = W.heap.size := by simp [putAm]
theorem putAm_other (W : World) (N : Nat) (x : ByteArray) (v : Value) {k : Nat} (h : k ≠ N) : (putAm W N x v).heap[k]? = W.heap[k]? :=
  (Below.heap_setCell _ _ _ _ (by show k ≠ N; exact h)).trans (Below.heap_setCell _ _ _ _ (by show k ≠ N; exact h))
theorem amBox {w W : World} {N : Nat} (hN : w.heap.size = N) (hb : Below (N + 1) (w.alloc (.cells #[.string ⟨#[]⟩, .slice none 0 0] 92)) W) :
    W.heap[N]? = some (Obj.cells #[.string ⟨#[]⟩, .slice none 0 0] 92 (0, 0)) := by
  have := World.alloc_heap_new w (.cells #[.string ⟨#[]⟩, .slice none 0 0] 92)
  rw [hN] at this
  exact (hb.block N (by omega)).trans this

set_option maxRecDepth 100000 in
set_option maxHeartbeats 1000000 in
theorem readAtom_long (s : ByteArray) (w : World) (hs : s.size ≤ 4611686018427387904) (hlong : 300 < Lib.runeCount s) :
    Calls Tryz.prog 49 #[.string s] w (AtomPost s w) := by
  obtain ⟨N, hN⟩ : ∃ N, w.heap.size = N := ⟨_, rfl⟩
  have h : Hid (∀ O, Calls Tryz.prog 90 #[.pointer (some ⟨N + 1, 0, none⟩), .string s] ((w.alloc (.cells #[.string ⟨#[]⟩, .slice none 0 0] 92)).alloc O) fun e w' => e = .returned (.tuple #[.int .i64 1, .int .i64 0]) ∧ Below (N + 1) (w.alloc (.cells #[.string ⟨#[]⟩, .slice none 0 0] 92)) w') := fun O => by
    refine (takeAll_long s _ _ hs hlong).mono ?_
    rintro e w' ⟨h1, h2⟩
    exact ⟨h1, ((Below.refl _ _).alloc (by simp; omega) O).trans (h2.mono (by simp; omega))⟩
  have ha : Hid (atomR s = none) := by show _ = _; unfold atomR; rw [if_pos hlong]
  unfold AtomPost
  rw [ha.out]
  have hbw : Below N w (w.alloc (.cells #[.string ⟨#[]⟩, .slice none 0 0] 92)) := (Below.refl _ w).alloc (by omega) _
  have HN : Hid _ := hN
  go_enter Tryz.func49, Tryz.ntmps49
  go_wp2_with (go_at_call 90; refine (h.out _).mono ?_; rintro e W1 ⟨rfl, hb⟩; have p1 := amBox HN.out hb; have q0 : W1.cell? ⟨N, 0, none⟩ = some (.string ⟨#[]⟩) := (by simp [World.cell?, p1]); have y0 : W1.frozen? ⟨N, 0, none⟩ = false := (by simp [World.frozen?, p1]); have q1 : W1.cell? ⟨N, 1, none⟩ = some (.slice none 0 0) := (by simp [World.cell?, p1]); have y1 : W1.frozen? ⟨N, 1, none⟩ = false := (by simp [World.frozen?, p1]))
  refine bodyPost_ret (v := .tuple #[.agg #[.string ⟨#[]⟩, .slice none 0 0], .bool false]) (by simp [results, Tryz.results49, go_sem, q0, q1]) rfl ?_
  exact ⟨by rw [HN.out]; exact putAm_below (hbw.trans (hb.mono (by omega))) _ _, rfl⟩

theorem CurA.first {W : World} {b45 b87 : Nat} {v : Value} {a : Am} {l : List Am} (h : CurA W b45 b87 v (a :: l)) (hb : b87 ≤ W.heap.size) :
    ∃ g c va, v = .slice (some ⟨g, 0, none⟩) (l.length + 1) c ∧ W.cell? ⟨g, 0, none⟩ = some (.string a.rel) ∧ W.cell? ⟨g, 1, none⟩ = some va ∧ SealT W W.heap.size va a.args ∧ g < W.heap.size ∧ b45 ≤ g := by
  obtain ⟨ps, h1, h2, h3, h4⟩ := h
  cases ps with
  | nil => simp at h1
  | cons p ps =>
    simp only [List.map_cons, List.cons.injEq] at h1
    obtain ⟨rfl, rfl⟩ := h1
    obtain ⟨g, cap, rfl, hg1, hg2, hc, hcell⟩ := own_get h2 (fun _ => rfl) (by simp)
    refine ⟨g, cap, p.2, by simp, hcell 0 0 (by simp) _ (by decide) rfl, hcell 0 1 (by simp) _ (by decide) rfl, ?_, hg2, hg1⟩
    cases ps with
    | nil => exact SealT.ofOwns (h4 p rfl)
    | cons q qs => exact (h3 p (by simp)).mono hb

set_option maxRecDepth 100000 in
set_option maxHeartbeats 4000000 in
theorem readAtom_short (s : ByteArray) (w : World) (hshort : Lib.runeCount s ≤ 300) (hT : Lib.Utf8Tabs 0 1 w) :
    Calls Tryz.prog 49 #[.string s] w (AtomPost s w) := by
  obtain ⟨N, hN⟩ : ∃ N, w.heap.size = N := ⟨_, rfl⟩
  obtain ⟨WA, hWA⟩ : ∃ WA, w.alloc (.cells #[.string ⟨#[]⟩, .slice none 0 0] 92) = WA := ⟨_, rfl⟩
  have hsA : WA.heap.size = N + 1 := by rw [← hWA, ← hN]; simp
  have hbw : Below N w WA := by rw [← hWA]; exact (Below.refl _ w).alloc (by omega) _
  have hTA : Lib.Utf8Tabs 0 1 WA := Utf8Tabs_below hT (by rw [hN]; exact hbw)
  have hTK : Hid (∀ O, O = Obj.cells #[.int .i64 0, .slice none 0 0, .slice none 0 0, .slice none 0 0] 179 (0, 0) → Calls Tryz.prog 90 #[.pointer (some ⟨N + 1, 0, none⟩), .string s] (WA.alloc O) (TakePost s (N + 1) (N + 1) (WA.alloc O))) := by
    rintro O rfl
    exact takeAll_short s WA (N + 1) (N + 1) _ hshort hTA hsA ((Below.refl _ WA).alloc (by omega) _) (Nat.le_refl _) (by rw [← hsA]; exact World.alloc_heap_new WA _)
  have hB : Hid (∀ O W', Below (N + 1) (WA.alloc O) W' → Below (N + 1) WA W') := fun O W' h => ((Below.refl _ WA).alloc (by omega) O).trans h
  have hPR : Hid (atomR s = match foldP pst0 (toks s.size s 0) with | (_, some _) => none | (st, none) => if st.st = 5 ∧ st.rules = [] then st.atoms.head? else none) := by
    show _ = _
    unfold atomR; rw [if_neg (by omega)]
  have hbox : Hid (∀ W1, Below (N + 1) WA W1 → W1.heap[N]? = some (Obj.cells #[.string ⟨#[]⟩, .slice none 0 0] 92 (0, 0))) := fun W1 hb => amBox hN (by rw [hWA]; exact hb)
  have hfin : Hid (∀ W1 x v, Below (N + 1) WA W1 → Below w.heap.size w (putAm W1 N x v)) := fun W1 x v hb => by rw [hN]; exact putAm_below (hbw.trans (hb.mono (by omega))) _ _
  unfold TakePost at hTK
  clear hTA hT hbw
  rcases hfo : foldP pst0 (toks s.size s 0) with ⟨st, _ | ⟨c, p⟩⟩
  · rw [hfo] at hPR hTK
    simp only at hPR hTK
    clear hfo
    go_enter Tryz.func49, Tryz.ntmps49
    go_wp2_with fail
    refine (hTK.out _ rfl).mono ?_
    rintro e W1 ⟨hb1, rfl, hI, bS, hP⟩
    have hb2 := hB.out _ _ hb1
    have p1 := hbox.out W1 hb2
    have q0 : W1.cell? ⟨N, 0, none⟩ = some (.string ⟨#[]⟩) := (by simp [World.cell?, p1])
    have y0 : W1.frozen? ⟨N, 0, none⟩ = false := (by simp [World.frozen?, p1])
    have q1 : W1.cell? ⟨N, 1, none⟩ = some (.slice none 0 0) := (by simp [World.cell?, p1])
    have y1 : W1.frozen? ⟨N, 1, none⟩ = false := (by simp [World.frozen?, p1])
    obtain ⟨vr, va, vv, b45, b87, h1, h2, h4, h5, h6, hS1, hS2, hh, hV, hR, hA⟩ := hP
    have c0 : W1.cell? ⟨N + 1, 0, none⟩ = some (.int .i64 st.st) := by simp [World.cell?, hh]
    have c1 : W1.cell? ⟨N + 1, 1, none⟩ = some vr := by simp [World.cell?, hh]
    have c2 : W1.cell? ⟨N + 1, 2, none⟩ = some va := by simp [World.cell?, hh]
    obtain ⟨ra, rc, rfl⟩ : ∃ a c, vr = .slice a st.rules.length c := by
      obtain ⟨qs, q1, q2, q3⟩ := hR
      obtain ⟨a, c, e⟩ := owns_form q2
      exact ⟨a, c, by rw [e, ← q1]; simp⟩
    have HB : Hid _ := hb2
    by_cases h0 : st.st = 5
    · by_cases hr0 : st.rules = []
      · rw [if_pos ⟨h0, hr0⟩] at hPR
        rw [hr0] at c1
        rw [h0] at c0
        cases hat : st.atoms with
        | nil => exact absurd hat (hI.some (by rw [h0]; decide))
        | cons a l =>
          rw [hat] at hA hPR
          have hav : AmOk a := hI.ams a (by rw [hat]; simp)
          obtain ⟨g, cc, vx, rfl, d0, d1, hsl, hg, hg45⟩ := hA.first h5
          have hgN : N ≠ g := by omega
          obtain ⟨xa, xc, rfl⟩ := hsl.form
          have HSL : Hid (SealT (putAm W1 N a.rel (.slice xa a.args.length xc)) (putAm W1 N a.rel (.slice xa a.args.length xc)).heap.size (.slice xa a.args.length xc) a.args) := by
            show SealT _ _ _ _
            rw [putAm_size]
            refine hsl.kept (fun k c _ hc => (putAm_other _ _ _ _ (fun e => ?_)).trans hc)
            rw [e, p1] at hc; cases hc
          have HAV : Hid _ := hav
          simp only [List.head?_cons] at hPR
          simp only [List.length_nil] at c1
          clear h1 h2 h4 h5 h6 hS1 hS2 hV hR hI hh hb1 hA hsl hav hb2 p1
          go_wp2
          refine bodyPost_ret (v := .tuple #[.agg #[.string a.rel, .slice xa a.args.length xc], .bool true]) (by simp [results, Tryz.results49, go_sem, q0, q1]) rfl ?_
          exact ⟨hfin.out _ _ _ HB.out, by rw [hPR.out]; exact ⟨_, rfl, HAV.out, HSL.out⟩⟩
      · rw [if_neg (fun h => hr0 h.2)] at hPR
        rw [h0] at c0
        have hlen : (0 : Int) < (st.rules.length : Int) := by
          have := List.length_pos_iff.2 hr0
          omega
        clear h1 h2 h4 h5 h6 hS1 hS2 hV hR hI hh hb1 hA hb2 p1
        go_wp2
        refine bodyPost_ret (v := .tuple #[.agg #[.string ⟨#[]⟩, .slice none 0 0], .bool false]) (by simp [results, Tryz.results49, go_sem, q0, q1]) rfl ?_
        exact ⟨hfin.out _ _ _ HB.out, by rw [hPR.out]⟩
    · rw [if_neg (fun h => h0 h.1)] at hPR
      have h0' : (st.st == 5) = false := by simp [h0]
      clear h1 h2 h4 h5 h6 hS1 hS2 hV hR hI hh hb1 hA hb2 p1
      go_wp2
      refine bodyPost_ret (v := .tuple #[.agg #[.string ⟨#[]⟩, .slice none 0 0], .bool false]) (by simp [results, Tryz.results49, go_sem, q0, q1]) rfl ?_
      exact ⟨hfin.out _ _ _ HB.out, by rw [hPR.out]⟩
  · rw [hfo] at hPR hTK
    simp only at hPR hTK
    have hc0 : c ≠ 0 := foldP_err _ _ _ _ _ hfo
    have hc' : (c == 0) = false := by simp [hc0]
    clear hfo
    go_enter Tryz.func49, Tryz.ntmps49
    go_wp2_with fail
    refine (hTK.out _ rfl).mono ?_
    rintro e W1 ⟨hb1, rfl⟩
    have hb2 := hB.out _ _ hb1
    have p1 := hbox.out W1 hb2
    have q0 : W1.cell? ⟨N, 0, none⟩ = some (.string ⟨#[]⟩) := (by simp [World.cell?, p1])
    have y0 : W1.frozen? ⟨N, 0, none⟩ = false := (by simp [World.frozen?, p1])
    have q1 : W1.cell? ⟨N, 1, none⟩ = some (.slice none 0 0) := (by simp [World.cell?, p1])
    have y1 : W1.frozen? ⟨N, 1, none⟩ = false := (by simp [World.frozen?, p1])
    clear p1
    go_wp2
    refine bodyPost_ret (v := .tuple #[.agg #[.string ⟨#[]⟩, .slice none 0 0], .bool false]) (by simp [results, Tryz.results49, go_sem, q0, q1]) rfl ?_
    exact ⟨hfin.out _ _ _ hb2, by rw [hPR.out]⟩

theorem readAtom_any (s : ByteArray) (w : World) (hs : s.size ≤ 4611686018427387904) (hT : Lib.Utf8Tabs 0 1 w) :
    Calls Tryz.prog 49 #[.string s] w (AtomPost s w) := by
  by_cases hl : 300 < Lib.runeCount s
  · exact readAtom_long s w hs hl
  · exact readAtom_short s w (by omega) hT

end Go.Proofs.YtjajnhemgphefaaGreatDoor

namespace Go.Proofs.YtjajnhemgphefaaGreatDoor
open Go.RowKit Go.Shelf
set_option linter.unusedVariables false
set_option linter.unusedSimpArgs false
attribute [local go_sem] Oper.semAt_some

/-- An atom, with its slice of terms as it was read in the world w0. -/
def AtX (w0 : World) (b : Nat) : Type := { p : Am × Value // SealT w0 b p.2 p.1.args ∧ AmOk p.1 }

/-- What a loop over atoms or terms leaves alone: rows of rules, atoms and terms. -/
def RuleKept (W W' : World) : Prop := ∀ (k : Nat) (c : Array Value) (t : TypeId), (t = 136 ∨ t = 92 ∨ t = 166) → W.heap[k]? = some (Obj.cells c t (0, 0)) → W'.heap[k]? = some (Obj.cells c t (0, 0))

theorem RuleKept.refl (W : World) : RuleKept W W := fun _ _ _ _ h => h
theorem RuleKept.trans {A B C : World} (h : RuleKept A B) (k : RuleKept B C) : RuleKept A C := fun i c t ht hi => k i c t ht (h i c t ht hi)
theorem RuleKept.ofBelow {W W' : World} (h : Below W.heap.size W W') : RuleKept W W' := fun k c t _ hk => (h.block k (Array.getElem?_eq_some_iff.1 hk).1).trans hk
theorem RuleKept.put (W : World) (l : Nat) (o o' : Obj) (h : W.heap[l]? = some o) (ho : o.isCells = false) : RuleKept W (W.putObj l o') := fun k c t _ hk =>
  kept_of_grown (grownBy_putObj' W l o') (fun r e => by cases e; exact ⟨_, h, ho⟩) k c t _ hk
theorem SealT.rk {W W' : World} {b : Nat} {v : Value} {l : List Tm} (h : SealT W b v l) (hk : RuleKept W W') : SealT W' b v l := h.kept (fun k c _ hc => hk k c _ (.inr (.inr rfl)) hc)
theorem SealA.rk {W W' : World} {b45 b87 : Nat} {v : Value} {l : List Am} (h : SealA W b45 b87 v l) (hk : RuleKept W W') : SealA W' b45 b87 v l := h.kept (fun k c _ hc => hk k c _ (.inr (.inl rfl)) hc) (fun k c _ hc => hk k c _ (.inr (.inr rfl)) hc)

theorem ratoms_any (c : Array Value) (x y z : Value) (hc : c = #[x, y, z]) (hx : x.oneCell' = true) (hy : y.oneCell' = true) (hz : z.oneCell' = true) (w : World) :
    Calls Tryz.prog 98 #[.agg c] w fun e w' => e = .returned (.func (.func 163) #[] #[.pointer (some ⟨w.heap.size, 0, none⟩)]) ∧ w' = w.alloc (.cells #[x, y, z] 136) := by
  subst hc
  go_enter Tryz.func98, Tryz.ntmps98
  go_wp2
  go_ret
  exact ⟨rfl, rfl⟩

theorem flat_two {α : Type} (f g : α → Value) (l : List α) (i : Nat) (h : i < l.length) : (l.flatMap fun x => [f x, g x])[i * 2]? = some (f l[i]) ∧ (l.flatMap fun x => [f x, g x])[i * 2 + 1]? = some (g l[i]) := by
  induction l generalizing i with
  | nil => simp at h
  | cons a l ih =>
    cases i with
    | zero => simp
    | succ i =>
      simp only [List.length_cons] at h
      have := ih i (by omega)
      simp only [List.flatMap_cons, List.cons_append, List.nil_append]
      rw [show (i + 1) * 2 = i * 2 + 2 by omega]
      exact this

set_option maxHeartbeats 1000000 in
theorem atoms1_in (n : Nat) (hn : 1 ≤ n) (l B : Nat) (w0 : World) (b87 : Nat) (x0 : AtX w0 b87) (L : List (AtX w0 b87)) (hL : L.length ≤ 1000) (a : Option Addr) (cap : Nat) (J Jx : List (AtX w0 b87) → World → Prop) (W : World)
    (hJ : AbidesFrom W.heap.size J)
    (hY : ∀ pre x W1, J pre W1 → pre.length < (x0 :: L).length → YieldAt Fence.wide (n - 1) Tryz.prog l #[.agg #[.string x.1.1.rel, x.1.2]] W1 fun e W' =>
      (e = .returned (.bool true) ∧ J (pre ++ [x]) W' ∧ RuleKept W1 W') ∨ (e = .returned (.bool false) ∧ Jx (pre ++ [x]) W'))
    (hB : W.heap[B]? = some (Obj.cells #[.string x0.1.1.rel, x0.1.2, .slice a L.length cap] 136 (0, 0)))
    (hrow : L ≠ [] → ∃ (g off : Nat) (cur : Array Value), a = some ⟨g, off, none⟩ ∧ W.heap[g]? = some (Obj.cells cur 92 (0, 0)) ∧ (cur.toList.drop off).take (L.length * 2) = L.flatMap fun x => [.string x.1.1.rel, x.1.2])
    (h0 : J [] W) :
    CallsIn Fence.wide n Tryz.prog 163 #[.func (.yield l) #[] #[], .pointer (some ⟨B, 0, none⟩)] W fun e W' => (∃ v, e = .returned v) ∧
      ((∃ ys, ys = x0 :: L ∧ J ys W') ∨ (∃ pre, pre <+: x0 :: L ∧ Jx pre W')) := by
  refine callsIn_of_wp Tryz.func163 rfl trivial ?_ rfl
  simp only [Tryz.ntmps163, List.size_toArray, List.length_cons, List.length_nil, Nat.reduceAdd, Nat.reduceSub, Array.replicate_succ, Array.replicate_zero, List.push_toArray, List.append_toArray, List.nil_append, List.cons_append]
  have HY : Hid _ := hY
  have HJ : Hid (AbidesFrom W.heap.size J) := hJ
  have cB0 : W.cell? ⟨B, 0, none⟩ = some (.string x0.1.1.rel) := by simp [World.cell?, hB]
  have cB1 : W.cell? ⟨B, 1, none⟩ = some x0.1.2 := by simp [World.cell?, hB]
  have hform : ∃ a' n' c', x0.1.2 = .slice a' n' c' := by obtain ⟨a', c', e⟩ := x0.2.1.form; exact ⟨a', _, c', e⟩
  obtain ⟨fn, tmps, assign, body, hy, hR⟩ := hY [] x0 W h0 (by simp)
  clear hY hJ
  obtain ⟨fa, fn', fc, hf⟩ := hform
  rw [hf] at cB1 hy
  gi_wp2
  refine hR.mono ?_
  rintro e W1 (⟨rfl, hJ1, hk1⟩ | ⟨rfl, hJx1⟩)
  · have hB1 := hk1 _ _ _ (.inl rfl) hB
    have cB2 : W1.cell? ⟨B, 2, none⟩ = some (.slice a L.length cap) := by simp [World.cell?, hB1]
    clear hy hR cB0 cB1
    gi_wp2
    gi_loopw [13] (fun i wr => ∃ k : Nat, k ≤ L.length ∧ i = .int .i64 k ∧ J (x0 :: L.take k) wr ∧ RuleKept W wr) (fun i _ => L.length - (intOf i).toNat)
    case atStart => exact ⟨0, Nat.zero_le _, rfl, by simpa using hJ1, hk1⟩
    case round =>
      obtain ⟨k, hk, rfl, hJk, hkk⟩ := hrel
      by_cases hlt : k < L.length
      · obtain ⟨g, off, cur, rfl, hg, hcells⟩ := hrow (by intro e; rw [e] at hlt; simp at hlt)
        have hgr := hkk _ _ _ (.inr (.inl rfl)) hg
        obtain ⟨p0, p1⟩ := flat_two (fun x : AtX w0 b87 => Value.string x.1.1.rel) (fun x => x.1.2) L k hlt
        rw [← hcells, List.getElem?_take, if_pos (by omega), List.getElem?_drop] at p0
        rw [← hcells, List.getElem?_take, if_pos (by omega), List.getElem?_drop] at p1
        have hxk : x0 :: L.take (k + 1) = (x0 :: L.take k) ++ [L[k]] := by rw [List.take_succ_eq_append_getElem hlt]; rfl
        have HXK : Hid (x0 :: L.take (k + 1) = (x0 :: L.take k) ++ [L[k]]) := hxk
        have hpf : Hid ((x0 :: L.take k) ++ [L[k]] <+: x0 :: L) := by show _ <+: _; rw [← hxk]; exact List.cons_prefix_cons.2 ⟨rfl, List.take_prefix _ _⟩
        clear hxk
        have hlen : (x0 :: L.take k).length < (x0 :: L).length := by simp; omega
        generalize L[k] = xk at *
        obtain ⟨fa', fc', hfk⟩ := xk.2.1.form
        have q0 : wr.cell? ⟨g, off + k * 2, none⟩ = some (.string xk.1.1.rel) := by simp only [World.cell?, hgr]; simpa using p0
        have q1 : wr.cell? ⟨g, off + k * 2 + 1, none⟩ = some (.slice fa' xk.1.1.args.length fc') := by simp only [World.cell?, hgr]; rw [← hfk]; simpa [Nat.add_assoc] using p1
        have hbl : Below wr.heap.size wr (wr.alloc (.cells #[.string xk.1.1.rel, .slice fa' xk.1.1.args.length fc'] 92)) := (Below.refl _ wr).alloc (Nat.le_refl _) _
        obtain ⟨fn2, tmps2, assign2, body2, hy2, hR2⟩ := HY.out (x0 :: L.take k) xk (wr.alloc (.cells #[.string xk.1.1.rel, .slice fa' xk.1.1.args.length fc'] 92)) (HJ.out _ _ _ none hJk (below_grownBy hbl) (fun r e => by cases e)) hlen
        rw [hfk] at hy2
        clear p0 p1 hcells hfk hB hrow cB2 hB1
        gi_wp2
        refine hR2.mono ?_
        rintro e W3 (⟨rfl, hJ3, hk3⟩ | ⟨rfl, hJx3⟩)
        · clear hy2 hR2
          gi_wp2
          go_roundw
          case rel => exact ⟨k + 1, by omega, by go_num, by rw [HXK.out]; exact hJ3, (hkk.trans (RuleKept.ofBelow hbl)).trans hk3⟩
          case measure => simp [intOf]; omega
        · gi_wp2
          refine bodyPost_ret (results_none rfl _ _ _) rfl ?_
          exact ⟨⟨_, rfl⟩, .inr ⟨_, hpf.out, hJx3⟩⟩
      · gi_wp2
        go_end0
        exact ⟨⟨_, rfl⟩, .inl ⟨_, rfl, by rw [List.take_of_length_le (by omega)] at hJk; exact hJk⟩⟩
  · gi_wp2
    refine bodyPost_ret (results_none rfl _ _ _) rfl ?_
    exact ⟨⟨_, rfl⟩, .inr ⟨[x0], ⟨L, rfl⟩, hJx1⟩⟩

theorem atoms_stops (n : Nat) (hn : 1 ≤ n) (B : Nat) (w0 : World) (b87 : Nat) (x0 : AtX w0 b87) (L : List (AtX w0 b87)) (hL : L.length ≤ 1000) (a : Option Addr) (cap : Nat) (w : World)
    (hB : w.heap[B]? = some (Obj.cells #[.string x0.1.1.rel, x0.1.2, .slice a L.length cap] 136 (0, 0)))
    (hrow : L ≠ [] → ∃ (g off : Nat) (cur : Array Value), a = some ⟨g, off, none⟩ ∧ w.heap[g]? = some (Obj.cells cur 92 (0, 0)) ∧ (cur.toList.drop off).take (L.length * 2) = L.flatMap fun x => [.string x.1.1.rel, x.1.2]) :
    SeqStopsK Fence.wide n Tryz.prog 163 #[.pointer (some ⟨B, 0, none⟩)] (fun x : AtX w0 b87 => #[.agg #[.string x.1.1.rel, x.1.2]]) RuleKept (fun ys => ys = x0 :: L) (fun pre => pre <+: x0 :: L) (x0 :: L).length w :=
  fun l J Jx W hW hJ _ hY h0 => atoms1_in n hn l B w0 b87 x0 L hL a cap J Jx W hJ hY (RuleKept.ofBelow hW _ _ _ (.inl rfl) hB)
    (fun hne => by obtain ⟨g, off, cur, h1, h2, h3⟩ := hrow hne; exact ⟨g, off, cur, h1, RuleKept.ofBelow hW _ _ _ (.inr (.inl rfl)) h2, h3⟩) h0

end Go.Proofs.YtjajnhemgphefaaGreatDoor

namespace Go.Proofs.YtjajnhemgphefaaGreatDoor
open Go.RowKit Go.Shelf
set_option linter.unusedVariables false
set_option linter.unusedSimpArgs false

/-- The iterator gf hands out a list with S, or a part of one with Sp where the loop bids it end: for every loop whose invariant abides what lies beyond. -/
def SeqN {α : Type} (n gf : Nat) (lb : Array Value) (encs : α → Array Value) (Kp : World → World → Prop) (S Sp : List α → Prop) (N : Nat) (w : World) : Prop :=
  ∀ (l : Nat) (J Jx : List α → World → Prop) (W : World), Below w.heap.size w W → w.heap.size + 2 ≤ W.heap.size → OwnFrom W.heap.size J → OwnFrom W.heap.size Jx →
    (∀ pre x W1, J pre W1 → pre.length < N → YieldAt Fence.wide (n - 1) Tryz.prog l (encs x) W1 fun e W' =>
      (e = .returned (.bool true) ∧ J (pre ++ [x]) W' ∧ Kp W1 W') ∨ (e = .returned (.bool false) ∧ Jx (pre ++ [x]) W' ∧ KeepsFrom (w.heap.size + 2) W1 W')) →
    J [] W → CallsIn Fence.wide n Tryz.prog gf (#[.func (.yield l) #[] #[]] ++ lb) W fun e W' => (∃ v, e = .returned v) ∧ ((∃ xs, S xs ∧ J xs W') ∨ (∃ pre, Sp pre ∧ Jx pre W'))

theorem KeepsFrom.tr {m : Nat} {A B C : World} (h : KeepsFrom m A B) (k : KeepsFrom m B C) : KeepsFrom m A C := ⟨Nat.le_trans h.size k.size, fun i o hi ho hc => k.same i o hi (h.same i o hi ho hc) hc⟩
theorem KeepsFrom.up {m m' : Nat} {A B : World} (h : KeepsFrom m A B) (hm : m ≤ m') : KeepsFrom m' A B := ⟨h.size, fun i o hi ho hc => h.same i o (by omega) ho hc⟩
theorem KeepsFrom.ofBelow {m : Nat} {W W' : World} (h : Below W.heap.size W W') : KeepsFrom m W W' := ⟨h.size, fun k o _ hk _ => (h.block k (Array.getElem?_eq_some_iff.1 hk).1).trans hk⟩
theorem KeepsFrom.put {m : Nat} (W : World) (l : Nat) (o' : Obj) (hl : l < m) : KeepsFrom m W (W.putObj l o') :=
  ⟨(grownBy_putObj' W l o').size, fun k x hk hx _ => ((grownBy_putObj' W l o').block k (Array.getElem?_eq_some_iff.1 hx).1 (by simp; omega)).trans hx⟩

theorem SeqN.ofStops {α : Type} {n gf : Nat} {lb : Array Value} {encs : α → Array Value} {Kp : World → World → Prop} {S Sp : List α → Prop} {N : Nat} {w : World}
    (h : SeqStopsK Fence.wide n Tryz.prog gf lb encs Kp S Sp N w) : SeqN n gf lb encs Kp S Sp N w := by
  intro l J Jx W hW _ hJ hJx hY h0
  refine h l J Jx W hW (fun s A B row hs hg hr => hJ s A B row hs hg (fun r e => ?_)) (fun s A B row hs hg hr => hJx s A B row hs hg (fun r e => ?_)) (fun pre x W1 h1 h2 => (hY pre x W1 h1 h2).mono (fun e W' h => h.imp id (fun k => ⟨k.1, k.2.1⟩))) h0
  all_goals
    obtain ⟨h1, o, ho, hw⟩ := hr r e
    exact ⟨h1, o, ho, Obj.not_cells_of_walk hw⟩

/-- What the loop's own two blocks hold, beside the caller's invariant. -/
structure Held (I : World → Prop) (D : Nat) (rec : Loop) (W : World) : Prop where
  inv : I W
  loop : W.heap[D + 1]? = some (.loop rec)
  mark : W.heap[D]? = some (.deferred (some []))

theorem Held.own {β : Type} {I : β → World → Prop} {B D : Nat} {rec : β → Loop} (hI : OwnFrom B I) (hB : D + 2 ≤ B) : OwnFrom B (fun s => Held (I s) D (rec s)) := by
  rintro s W W' row ⟨h1, h2, h3⟩ hg hr
  have hk : ∀ (k : Nat) (o : Obj), k < B → W.heap[k]? = some o → W'.heap[k]? = some o := fun k o hk ho =>
    (hg.block k (Array.getElem?_eq_some_iff.1 ho).1 (fun e => by have := (hr k e.symm).1; omega)).trans ho
  exact ⟨hI s W W' row h1 hg hr, hk _ _ (by omega) h2, hk _ _ (by omega) h3⟩

section
variable {α : Type} {n gf : Nat} {lb : Array Value} {encs : α → Array Value} {Kp : World → World → Prop} {S Sp : List α → Prop} {N : Nat}

theorem range_law {g : Operand} {ps : Array Tmp} {assign body : Code} {Q : Exit → Act → World → Prop} {a : Act} {w : World}
    (hg : a.eval g = .func (.func gf) #[] lb) (eg : ∀ args w, (callFunc gf args).run Tryz.prog w = .ok (.enter gf args) w) (hseq : SeqN (n - 1) gf lb encs Kp S Sp N w)
    (hKt : ∀ {A B C : World}, Kp A B → Kp B C → Kp A C) (hKb : ∀ (W : World) (o o' : Obj), W.heap[w.heap.size + 1]? = some o → o.isCells = false → Kp W (W.putObj (w.heap.size + 1) o')) (hps : ∀ x, (encs x).size = ps.size)
    (I : List α → World → Prop) (Ix : Code → List α → World → Prop) (hI : OwnFrom w.heap.size I) (hIx : ∀ c, OwnFrom w.heap.size (Ix c)) (h0 : I [] w) (Ax : α → Act → World → Prop) (hAx : ∀ x a', OwnFrom w.heap.size (fun (_ : Unit) W => Ax x a' W))
    (hassign : ∀ (l : Nat) (pre : List α) (x : α) (W : World) (K : Act → World → Prop), w.heap.size ≤ l → (∃ r, W.heap[l]? = some (.loop r)) → I pre W → (∀ a' W', KeepsFrom w.heap.size W W' → Kp W W' → I pre W' → Ax x a' W' → K a' W') →
      assign.wpIn (Fence.wide.inRound l) (n - 1 - 1) Tryz.prog (Exit.then K (fun _ _ _ => False)) { tmps := (ps.zip (encs x)).foldl (fun t (p, v) => t.setIfInBounds p v) a.tmps, defers := [] } W)
    (hbody : ∀ (l : Nat) (pre : List α) (x : α) (a' : Act) (W : World), w.heap.size ≤ l → (∃ r, W.heap[l]? = some (.loop r)) → I pre W → Ax x a' W → pre.length < N → body.wpIn (Fence.wide.inRound l) (n - 1 - 1) Tryz.prog (ownPostG w.heap.size Kp I Ix (pre ++ [x]) W) a' W)
    (hdone : ∀ (D : Nat) (xs : List α) (W : World), w.heap.size ≤ D → S xs → I xs W → W.heap[D]? = some (.deferred (some [])) → Q .normal { a with defers := { target := .collected D, args := #[] } :: a.defers } W)
    (hstop : ∀ (D : Nat) (c : Code) (pre : List α) (W : World), w.heap.size ≤ D → Sp pre → Ix c pre W → W.heap[D]? = some (.deferred (some [])) → c.wpIn Fence.wide n Tryz.prog Q { a with defers := { target := .collected D, args := #[] } :: a.defers } W) :
    (Code.rangeFunc g ps assign body).wpIn Fence.wide n Tryz.prog Q a w := by
  refine wpIn_rangeFunc (fun fn hfn => ?_)
  -- the record of this loop
  let rc : LoopState → Option Code → Loop := fun st pe => { state := st, pending := pe, fn := fn, tmps := a.tmps, params := ps, assign := assign, body := body, defers := w.heap.size }
  let wA := w.alloc (.deferred (some []))
  let wB := wA.alloc (.loop (rc .ready none))
  have sA : wA.heap.size = w.heap.size + 1 := by simp [wA]
  have sB : wB.heap.size = w.heap.size + 2 := by simp [wB, wA]
  have gB : Below w.heap.size w wB := ((Below.refl _ w).alloc (Nat.le_refl _) _).alloc (by simp) _
  have heldB : Held (I []) w.heap.size (rc .ready none) wB := by
    refine ⟨hI _ _ _ none h0 (below_grownBy gB) (fun r e => by cases e), ?_, ?_⟩
    · have := World.alloc_heap_new wA (.loop (rc .ready none)); rw [sA] at this; exact this
    · exact (Below.heap_alloc wA _ _ (by omega)).trans (World.alloc_heap_new w _)
  -- turning the record keeps the invariant and the mark
  have turn : ∀ {I' : World → Prop} {r : Loop} (r' : Loop) {W : World}, OwnFrom w.heap.size (fun (_ : Unit) => I') → Held I' w.heap.size r W → Held I' w.heap.size r' (W.putObj (w.heap.size + 1) (.loop r')) := by
    intro I' r r' W ho hh
    exact ⟨ho.putObj (s := ()) _ hh.inv (by omega) hh.loop rfl, World.putObj_heap_same (Array.getElem?_eq_some_iff.1 hh.loop).1, (World.putObj_heap_other (by omega)).trans hh.mark⟩
  have oI : ∀ pre, OwnFrom w.heap.size (fun (_ : Unit) => I pre) := fun pre _ A B row hs hg' hr => hI pre A B row hs hg' hr
  have oX : ∀ c pre, OwnFrom w.heap.size (fun (_ : Unit) => Ix c pre) := fun c pre _ A B row hs hg' hr => hIx c pre A B row hs hg' hr
  have up : ∀ {β : Type} {X : β → World → Prop}, OwnFrom w.heap.size X → OwnFrom wB.heap.size X := fun h s A B row hs hg' hr => h s A B row hs hg' (fun r e => ⟨by have := (hr r e).1; omega, (hr r e).2⟩)
  have oJ : OwnFrom wB.heap.size (fun pre => Held (I pre) w.heap.size (rc .ready none)) := Held.own (up hI) (by omega)
  have oJx : OwnFrom wB.heap.size (fun pre W => ∃ c, Held (Ix c pre) w.heap.size (rc .done (some c)) W) := by
    rintro pre A B row ⟨c, hc⟩ hg' hr
    exact ⟨c, Held.own (I := fun _ : Unit => Ix c pre) (rec := fun _ => rc .done (some c)) (up (oX c pre)) (by omega) () A B row hc hg' hr⟩
  refine ⟨w.heap.size + 1, [{ target := .collected w.heap.size, args := #[] }], wB, { target := .fn (.func gf) lb, args := #[.func (.yield (w.heap.size + 1)) #[] #[]] }, wB, gf, #[.func (.yield (w.heap.size + 1)) #[] #[]] ++ lb, wB, run_enterLoop_outer _ _ _ _ _, ?_, fun _ _ => trivial, ?_, (fun h => (by cases h)), ?_⟩
  · simp only [resolve, hg]; simp [go_sem]
  · simp [invoke, go_sem, eg]
  refine (hseq (w.heap.size + 1) (fun pre => Held (I pre) w.heap.size (rc .ready none)) (fun pre W => ∃ c, Held (Ix c pre) w.heap.size (rc .done (some c)) W) wB gB (by omega) oJ oJx ?_ heldB).mono ?_
  · intro pre x W hh hlen
    have hy := run_yield (P := Tryz.prog) (args := encs x) hh.loop (hps x)
    refine ⟨fn, _, assign, body, hy, roundIn_of_wpIn trivial (hassign _ pre x W _ (by omega) ⟨_, hh.loop⟩ hh.inv ?_)⟩
    intro a' Wa kA kpA iA axA
    have hhA : Held (I pre) w.heap.size (rc .ready none) Wa := ⟨iA, kA.same _ _ (by omega) hh.loop rfl, kA.same _ _ (Nat.le_refl _) hh.mark rfl⟩
    refine ⟨_, run_beginRound hhA.loop rfl, ?_⟩
    have hhB := turn { rc .ready none with state := .busy } (oI pre) hhA
    have kpB := hKb Wa _ (.loop { rc .ready none with state := .busy }) hhA.loop rfl
    refine wpIn_mono (hbody _ pre x a' _ (by omega) ⟨_, hhB.loop⟩ hhB.inv ((hAx x a').putObj (s := ()) _ axA (by omega) hhA.loop rfl) hlen) ?_
    intro e a3 W3 hp
    -- however the body is left, the record is busy there
    have done : ∀ (jump : Option Code) {I' : World → Prop}, OwnFrom w.heap.size (fun (_ : Unit) => I') → KeepsFrom w.heap.size (Wa.putObj (w.heap.size + 1) (.loop { rc .ready none with state := .busy })) W3 → I' W3 →
        ∃ W4, (Instr.endRound (w.heap.size + 1) jump).run Tryz.prog W3 = .ok (.bool jump.isNone) W4 ∧ Held I' w.heap.size (rc (if jump.isNone then .ready else .done) jump) W4 ∧ Kp W3 W4 ∧ KeepsFrom (w.heap.size + 2) W W4 := by
      intro jump I' ho kf i3
      have h3 : Held I' w.heap.size { rc .ready none with state := .busy } W3 := ⟨i3, kf.same _ _ (by omega) hhB.loop rfl, kf.same _ _ (Nat.le_refl _) hhB.mark rfl⟩
      exact ⟨_, run_endRound jump h3.loop, turn _ ho h3, hKb _ _ _ h3.loop rfl, KeepsFrom.tr (KeepsFrom.tr (KeepsFrom.tr (KeepsFrom.up kA (by omega)) (KeepsFrom.put _ _ _ (by omega))) (KeepsFrom.up kf (by omega))) (KeepsFrom.put _ _ _ (by omega))⟩
    cases e with
    | normal =>
      obtain ⟨kf, kp, i3⟩ := hp
      obtain ⟨W4, hr, h4, k4, _⟩ := done none (oI _) kf i3
      exact ⟨_, _, hr, .inl ⟨rfl, h4, hKt kpA (hKt kpB (hKt kp k4))⟩⟩
    | ret =>
      obtain ⟨kf, i3⟩ := hp
      obtain ⟨W4, hr, h4, _, k4⟩ := done (some .ret) (oX _ _) kf i3
      exact ⟨_, _, hr, .inr ⟨rfl, ⟨_, h4⟩, k4⟩⟩
    | exit id =>
      obtain ⟨kf, i3⟩ := hp
      obtain ⟨W4, hr, h4, _, k4⟩ := done (some (.exit id)) (oX _ _) kf i3
      exact ⟨_, _, hr, .inr ⟨rfl, ⟨_, h4⟩, k4⟩⟩
    | goto t =>
      obtain ⟨kf, i3⟩ := hp
      obtain ⟨W4, hr, h4, _, k4⟩ := done (some (.goto t)) (oX _ _) kf i3
      exact ⟨_, _, hr, .inr ⟨rfl, ⟨_, h4⟩, k4⟩⟩
    | panic ch => exact hp.elim
    | outgrown => exact hp.elim
  · rintro e W2 ⟨⟨v, rfl⟩, (⟨xs, hS, hh⟩ | ⟨pre, hSp, c, hh⟩)⟩
    · have h2 := turn { rc .ready none with state := .exhausted } (oI xs) hh
      exact ⟨none, _, run_endLoop hh.loop (by intro h; cases h), hdone _ xs _ (Nat.le_refl _) hS h2.inv h2.mark⟩
    · have h2 := turn { rc .done (some c) with state := .exhausted } (oX c pre) hh
      exact ⟨some c, _, run_endLoop hh.loop (by intro h; cases h), hstop _ c pre _ (Nat.le_refl _) hSp h2.inv h2.mark⟩
end

end Go.Proofs.YtjajnhemgphefaaGreatDoor
