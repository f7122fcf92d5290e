/-
  The statement's function Rulings answers true, whatever texts it is handed, each of at most 2^20 bytes.
  Proved: for every list of texts handed to it, all together of at most 2^20 values and letters, the statement's function Rulings answers true, and what was handed in reads as before.
  Conditions: package unicode/utf8's two tables, and the tables of math/bits and internal/strconv that the row lists, hold what the program's text lays (the card ties them).
-/
import Derived.Test.YtjajnhemgphefaaGreatDoorJPaths
import Derived.Test.YtjajnhemgphefaaGreatDoorJRefY
import Derived.Test.YtjajnhemgphefaaGreatDoorCards
import Derived.Test.YtjajnhemgphefaaGreatDoorTie
import Derived.ProofKit
import Derived.OpenShut
import Derived.SliceStrings
import Derived.Carry
import Derived.Deep.DeepHandedRow
import Derived.Lib.LaidU8T
import Derived.SevenTiedAt
namespace Go.Proofs.YtjajnhemgphefaaGreatDoor
open Go.RowKit Go.Shelf
set_option linter.unusedVariables false
set_option linter.unusedSimpArgs false

theorem ref_same (s : ByteArray) (w : World) (hs : s.size ≤ 1048576) :
    Calls Tryz.prog 32 #[.string s] w fun e w' => e = .returned (.tuple #[.string ⟨(rulesR s).1.toArray⟩, .int .i64 (rulesR s).2.1, .int .i64 (rulesR s).2.2]) ∧ Below w.heap.size w w' := by
  have h := rules_ref s w hs
  obtain ⟨h1, h2⟩ := rules_same s
  rw [h1] at h
  have h3 : (((rulesR s).2.2.toNat : Nat) : Int) = (rulesR s).2.2 := by omega
  simp only at h
  rw [h3] at h
  exact h

set_option maxHeartbeats 2000000 in
theorem step_rules (p : Option Addr) (s : ByteArray) (w : World) (hs : s.size ≤ 1048576) (hT : Lib.Utf8Tabs 0 1 w) :
    Calls Tryz.prog 15 #[.pointer p, .agg #[.int .i64 1, .int .i64 0, .string s, .int .i64 0, .int .i64 0, .int .i64 0]] w fun e w' => e = .returned (.bool true) ∧ Below w.heap.size w w' := by
  have h1 : Hid (∀ W, Below w.heap.size w W → Calls Tryz.prog 14 #[.string s] W fun e w' => e = .returned (.tuple #[.string ⟨(rulesR s).1.toArray⟩, .int .i64 (rulesR s).2.1, .int .i64 (rulesR s).2.2]) ∧ Below W.heap.size W w') := fun W hW =>
    rules_any s W (by omega) (Utf8Tabs_below hT hW)
  have h2 : Hid (∀ W, Calls Tryz.prog 32 #[.string s] W fun e w' => e = .returned (.tuple #[.string ⟨(rulesR s).1.toArray⟩, .int .i64 (rulesR s).2.1, .int .i64 (rulesR s).2.2]) ∧ Below W.heap.size W w') := fun W => ref_same s W hs
  have hA : Hid (∀ O, Below w.heap.size w (w.alloc O)) := fun O => (Below.refl _ w).alloc (Nat.le_refl _) O
  have hB : Hid (∀ O w1, Below (w.alloc O).heap.size (w.alloc O) w1 → (∀ n, w1.cell? ⟨w.heap.size, n, none⟩ = (w.alloc O).cell? ⟨w.heap.size, n, none⟩) ∧ Below w.heap.size w w1) := fun O w1 hb =>
    ⟨fun n => hb.cell (p := ⟨w.heap.size, n, none⟩) (by simp), (hA.out O).trans (hb.mono (by simp))⟩
  clear hT
  generalize (rulesR s).1.toArray = t at *
  generalize (rulesR s).2.1 = c at *
  generalize (rulesR s).2.2 = q at *
  go_enter Tryz.func15, Tryz.ntmps15
  go_wp2_with fail
  refine (h1.out _ (hA.out _)).mono ?_
  rintro e w1 ⟨rfl, hb1⟩
  obtain ⟨hc1, hbw⟩ := hB.out _ w1 hb1
  have c2 := hc1 2
  simp at c2
  clear hc1 hb1
  go_wp2_with fail
  refine (h2.out _).mono ?_
  rintro e w2 ⟨rfl, hb2⟩
  go_wp2
  go_ret
  exact ⟨rfl, hbw.trans (hb2.mono hbw.size)⟩

def pathsText : ByteArray := pathsB

set_option maxRecDepth 100000 in
set_option maxHeartbeats 4000000 in
theorem rulings_any (g : Option Addr) (ss : List ByteArray) (cap : Nat) (w : World) (hl : ss.length ≤ 1048576) (hs : ∀ s ∈ ss, s.size ≤ 1048576)
    (hc : ∀ (k : Nat) (hk : k < ss.length), ∃ b off, g = some ⟨b, off, none⟩ ∧ b < w.heap.size ∧ w.cell? ⟨b, off + k, none⟩ = some (.string ss[k])) (hT : Lib.Utf8Tabs 0 1 w) :
    Calls Tryz.prog 3 #[.slice g ss.length cap] w fun e w' => e = .returned (.bool true) ∧ Below w.heap.size w w' := by
  have h1 : Hid (Calls Tryz.prog 14 #[.string pathsB] w fun e w' => e = .returned (.tuple #[.string pathsW, .int .i64 0, .int .i64 0]) ∧ Below w.heap.size w w') := by
    have h := rules_any pathsB w (by decide) hT
    rw [paths_rules] at h
    exact h
  have h2 : Hid (∀ (k : Nat) (hk : k < ss.length) p W, Below w.heap.size w W → Calls Tryz.prog 15 #[.pointer p, .agg #[.int .i64 1, .int .i64 0, .string ss[k], .int .i64 0, .int .i64 0, .int .i64 0]] W fun e w' => e = .returned (.bool true) ∧ Below w.heap.size w w') := fun k hk p W hW =>
    (step_rules p ss[k] W (hs _ (List.getElem_mem hk)) (Utf8Tabs_below hT hW)).mono fun e w' h => ⟨h.1, hW.trans (h.2.mono hW.size)⟩
  have HC : Hid _ := hc
  clear hc hs hT
  unfold pathsB pathsW at h1
  go_enter Tryz.func3, Tryz.ntmps3
  go_wp2_with fail
  refine Calls.mono h1.out ?_
  rintro e w1 ⟨rfl, hb1⟩
  go_wp2
  go_loopw [7] (fun i wr => ∃ k : Nat, k ≤ ss.length ∧ i = .int .i64 k ∧ Below w.heap.size w wr) (fun i _ => ss.length - (intOf i).toNat)
  case atStart => exact ⟨0, Nat.zero_le _, rfl, hb1.alloc hb1.size _⟩
  case round =>
    obtain ⟨k, hk, rfl, hb⟩ := hrel
    by_cases hlt : k < ss.length
    · obtain ⟨b, off, rfl, hbb, hcell⟩ := HC.out k hlt
      have q0 := (hb.cell (p := ⟨b, off + k, none⟩) hbb).trans hcell
      have hcall := h2.out k hlt
      have i1 : (k : Int) < (ss.length : Int) := by omega
      generalize ss[k] = sk at *
      clear hcell
      go_wp2_with fail
      refine (hcall _ _ hb).mono ?_
      rintro e w2 ⟨rfl, hb2⟩
      go_wp2
      go_roundw
      case rel => exact ⟨k + 1, by omega, by go_num, hb2⟩
      case measure => simp [intOf]; omega
    · go_wp2
      go_ret
      exact ⟨rfl, hb⟩

end Go.Proofs.YtjajnhemgphefaaGreatDoor

namespace Go.Proofs.YtjajnhemgphefaaGreatDoor
open Go.ChangeShapes Go.WideShapes Go.ChangeAt Go.RowKit Go.Shelf
set_option linter.unusedVariables false
set_option linter.unusedSimpArgs false

theorem own : ownKnob Tryz.prog.godebug = none := by kernel_rfl
theorem laidOutP : laidOutB Tryz.prog = true := by kernel_rfl
theorem cellsStr : Tryz.prog.cellsOf 9 = 1 := by kernel_rfl

def uren : Ren :=
  { f := fun n => n
    t := fun
      | 5 => 5
      | 119 => 355
      | 138 => 357
      | 139 => 358
      | n => n
    g := fun
      | 3 => 0
      | 4 => 1
      | n => n }

theorem u8types : U8Types Tryz.prog uren := {
  t5 := by kernel_rfl
  t119 := by kernel_rfl
  t138 := by kernel_rfl
  t139 := by kernel_rfl }
theorem u8extra : U8Extra Tryz.prog uren := {
  n3 := by kernel_rfl
  n4 := by kernel_rfl
  y3 := by kernel_rfl
  y4 := by kernel_rfl
  c5 := by kernel_rfl
  c119 := by kernel_rfl
  c138 := by kernel_rfl }

theorem first_same : Rows.laid_unicode_utf8_first = Lib.firstData := by kernel_rfl
theorem accept_same : (Rows.laid_unicode_utf8_acceptRanges : DataW Unit) = Lib.acceptData := by kernel_rfl

theorem tabs {W : World} (h : laidMetH Tryz.prog Rows.rulingsUptoRow.laid W) : Lib.Utf8Tabs 0 1 W := by
  have h2 : laidMet Tryz.prog Rows.rulingsUptoRow.laid W := h
  refine utf8Tabs_of_readsT u8types u8extra (Lib.laidMet.reads h2 ?_) (Lib.laidMet.reads h2 ?_)
  · rw [← first_same]; simp [Rows.rulingsUptoRow]
  · rw [← accept_same]; simp [Rows.rulingsUptoRow]

theorem bulk_strs {H : Type} : ∀ (l : List ByteArray), l.length ≤ Rows.uptoBulkAll (strs (H := H) l) ∧ ∀ s ∈ l, s.size ≤ Rows.uptoBulkAll (strs (H := H) l)
  | [] => by simp
  | x :: l => by
    obtain ⟨h1, h2⟩ := bulk_strs (H := H) l
    have e : Rows.uptoBulkAll (strs (H := H) (x :: l)) = x.data.toList.length + 1 + Rows.uptoBulkAll (strs (H := H) l) := by
      simp only [strs, List.map_cons, Rows.uptoBulkAll, Rows.uptoBulk]
    have hx := size_list x
    rw [e]
    refine ⟨by simp only [List.length_cons]; omega, fun s hs => ?_⟩
    rcases List.mem_cons.1 hs with rfl | hs
    · omega
    · have := h2 s hs; omega

theorem small {H : Type} {l r : List ByteArray} (hk : Rows.uptoSmall H [.slice (strs l) (strs r)] = true) : l.length ≤ 1048576 ∧ ∀ s ∈ l, s.size ≤ 1048576 := by
  have h := of_decide_eq_true hk
  simp only [Rows.uptoBulkAll, Rows.uptoBulk] at h
  obtain ⟨h1, h2⟩ := bulk_strs (H := H) l
  exact ⟨by omega, fun s hs => by have := h2 s hs; omega⟩

theorem add_at {b off k : Nat} : (⟨b, off, none⟩ : Addr).add k = ⟨b, off + k, none⟩ := by
  unfold Addr.add
  split
  · rename_i h; subst h; rfl
  · rfl
theorem cell_lt {W : World} {b off : Nat} {v : Value} (h : W.cell? ⟨b, off, none⟩ = some v) : b < W.heap.size := by
  cases hh : W.heap[b]? with
  | none => simp [World.cell?, hh] at h
  | some o => exact (Array.getElem?_eq_some_iff.1 hh).1

set_option maxRecDepth 100000 in
theorem contract (H : Type) (enc : TypeId × Value → H) (W : World) (base : Nat) (args : Array Value) (ds gs : List (DataW H)) (before : List MemPlace)
    (hval : ∀ (j : Nat) t v, Tryz.f3.params[j]? = some t → args[j]? = some v → Value.okWide Tryz.prog W .any base t v)
    (hW : DataW.Whole enc Tryz.prog Tryz.f3.params.toList Rows.rulingsSpec.vars false W args.toList ds gs before) (hk : Rows.uptoSmall H (ds ++ gs) = true) (hL : laidMetH Tryz.prog Rows.rulingsUptoRow.laid W) :
    Calls Tryz.prog 3 args W fun e W' => ∃ v, e = .returned v ∧ Rows.rulingsSpec.post enc Tryz.prog Tryz.f3 false true false false W args v W' := by
  have hT := tabs hL
  have hW' := hW
  obtain ⟨p, q, hA0, hV, rfl, hfz, hnd⟩ := hW
  have hA : DataW.TrodAll enc Tryz.prog W 0 (fun _ => true) true Tryz.f3.params.toList args.toList ds p := hA0
  rw [Tryz.params3] at hA hval
  obtain ⟨v0, vs0, d0, ds0, p0, q0, hargs, rfl, rfl, h0, r0⟩ := trodAll_cons hA
  obtain ⟨rfl, rfl, rfl⟩ := trodAll_nil r0
  obtain rfl : args = #[v0] := by cases args; simp_all
  obtain ⟨rfl, rfl⟩ := trodVars_none hV
  obtain ⟨a0, len, cap, rfl⟩ := okWide_slice Tryz.underlying22 (hval 0 22 v0 rfl rfl)
  clear hA0
  simp only [List.append_nil] at hW' hk
  have hlt : ∀ x ∈ p0, x.block < W.heap.size := fun x hx => by simpa using hW'.lt x hx
  have walk : Calls Tryz.prog 3 #[.slice a0 len cap] W fun e w' => e = .returned (.bool true) ∧ Below W.heap.size W w' := by
    have hzero : ∀ (a : Option Addr) (c : Nat), Calls Tryz.prog 3 #[.slice a 0 c] W fun e w' => e = .returned (.bool true) ∧ Below W.heap.size W w' := fun a c =>
      rulings_any a [] c W (by simp) (by simp) (fun k hk => by simp at hk) hT
    obtain ⟨fuel, hf⟩ := h0
    rcases open_strings Tryz.underlying22 Tryz.underlying9 cellsStr hf with ⟨hcs, hx⟩ | ⟨a, len', cap', ss, hcs, _, hl, hm, hz, hx, hcell, hsz⟩
    · simp only [Value.cells, List.cons.injEq, Value.slice.injEq, and_true] at hcs
      obtain ⟨rfl, rfl, rfl⟩ := hcs
      exact hzero _ _
    · simp only [Value.cells, List.cons.injEq, Value.slice.injEq, and_true] at hcs
      obtain ⟨rfl, rfl, rfl⟩ := hcs
      simp only [if_true] at hz
      obtain ⟨rfl, rfl⟩ : d0 = .slice (strs (ss.take len)) (strs (ss.drop len)) ∧ p0 = MemPlace.row a ss.length := by
        have := Prod.ext_iff.1 hx; exact ⟨this.1, this.2⟩
      obtain ⟨k1, k2⟩ := small hk
      have e : (ss.take len).length = len := by rw [List.length_take]; omega
      have h := rulings_any (some a) (ss.take len) cap W (by omega) k2 (fun k hk => ?_) hT
      · rw [e] at h; exact h
      · rw [e] at hk
        have hc := hcell k (by omega)
        obtain ⟨b, off, pr⟩ := a
        have hpn : pr = none := by
          cases pr with
          | none => rfl
          | some x =>
            have h00 := hcell 0 (by omega)
            exfalso
            have e0 : (⟨b, off, some x⟩ : Addr).add 0 = ⟨b, off, some x⟩ := by simp [Addr.add]
            rw [e0] at h00
            simp only [World.cell?] at h00
            split at h00
            · simp at h00
            · cases h00
        subst hpn
        rw [add_at] at hc
        refine ⟨b, off, rfl, cell_lt hc, ?_⟩
        rw [hc]
        congr 2
        rw [List.getElem_take, List.getD_eq_getElem?_getD, List.getElem?_eq_getElem (by omega)]
        rfl
  refine walk.mono fun e W2 ⟨he, hB⟩ => ?_
  subst he
  refine ⟨_, rfl, _, _, _, [], p0, [], hW', ?_, ?_, rfl, hB.frame _, fun h => by cases h⟩
  · exact trodAll_mk1 (shut_bool Tryz.underlying4 _)
  · exact trodAll_mk1 (Below.trod laidOutP (by kernel_rfl) (of_decide_eq_true (by kernel_rfl)) h0 hB hlt)

end Go.Proofs.YtjajnhemgphefaaGreatDoor
