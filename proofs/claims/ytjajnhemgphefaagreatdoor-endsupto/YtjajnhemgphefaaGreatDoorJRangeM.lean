/-
  rules: ReadName.
  rules.Form, feeds.New.
  Package model: names put for variables: what stands for a term.
  Package model: the ground atom that an atom comes to, names put for its variables.
  Ranges over iterators whose contract names the block from which on a loop must leave alone what is no cells: one law for the outermost loop, one for a loop within a round.
-/
import Derived.Test.YtjajnhemgphefaaGreatDoorJEgE
import Derived.Test.YtjajnhemgphefaaGreatDoorJIdxRules
import Derived.Test.YtjajnhemgphefaaGreatDoorJRangeN
namespace Go.Proofs.YtjajnhemgphefaaGreatDoor
open Go.RowKit Go.Shelf
set_option linter.unusedVariables false
set_option linter.unusedSimpArgs false
attribute [local go_sem] Oper.semAt_some

/-- A token that is a name and all of the text. -/
def nameT (s : ByteArray) (t : Tok) : Bool := decide (t.kind = 1) && (t.text.toList == s.toList)
/-- Is a text one name, and nothing else? -/
def nameB (s : ByteArray) : Bool := !decide (8 < Lib.runeCount s) && (toks s.size s 0).any (nameT s)
end Go.Proofs.YtjajnhemgphefaaGreatDoor

namespace Go.Proofs.YtjajnhemgphefaaGreatDoor
open Go.RowKit Go.Shelf
set_option linter.unusedVariables false
set_option linter.unusedSimpArgs false

/-- The form of a relation: each argument is a variable of its own. -/
def formA (x : ByteArray) (n : Nat) : Am := ⟨x, (List.range n).map (fun k => ⟨⟨#[]⟩, k⟩)⟩

theorem formA_len (x : ByteArray) (k : Nat) : (formA x k).args.length = k := by simp [formA]

end Go.Proofs.YtjajnhemgphefaaGreatDoor

namespace Go.Proofs.YtjajnhemgphefaaGreatDoor
open Go.RowKit Go.Shelf
set_option linter.unusedVariables false
set_option linter.unusedSimpArgs false

/-- Names for six variables, by their numbers; empty: none yet. -/
structure Nms where
  a0 : ByteArray
  a1 : ByteArray
  a2 : ByteArray
  a3 : ByteArray
  a4 : ByteArray
  a5 : ByteArray
def Nms.get (n : Nms) : Nat → ByteArray
  | 0 => n.a0
  | 1 => n.a1
  | 2 => n.a2
  | 3 => n.a3
  | 4 => n.a4
  | 5 => n.a5
  | _ => ⟨#[]⟩
def Nms.c (n : Nms) : Array Value := #[.string n.a0, .string n.a1, .string n.a2, .string n.a3, .string n.a4, .string n.a5]
def Nms.v (n : Nms) : Value := .agg n.c
def ofT (n : Nms) (t : Tm) : ByteArray := if t.name.toList.isEmpty = true then n.get t.num else t.name

theorem Nms.cell (n : Nms) (k : Nat) (h : k < 6) : n.c[k]? = some (.string (n.get k)) := by
  have hc : k = 0 ∨ k = 1 ∨ k = 2 ∨ k = 3 ∨ k = 4 ∨ k = 5 := by omega
  rcases hc with rfl | rfl | rfl | rfl | rfl | rfl <;> rfl

set_option maxHeartbeats 2000000 in
theorem of_any (n : Nms) (t : Tm) (ht : t.num < 6) (w : World) :
    Calls Tryz.prog 151 #[n.v, .agg #[.string t.name, .int .i64 t.num]] w fun e w' => e = .returned (.string (ofT n t)) ∧ Below w.heap.size w w' := by
  have hiv : Hid (∀ W, Calls Tryz.prog 139 #[.agg #[.string t.name, .int .i64 t.num]] W fun e w' => e = .returned (.bool t.name.toList.isEmpty) ∧ Below W.heap.size W w') := fun W => isVariable_any t W
  have hA : Hid (∀ W1, Below ((w.alloc (.cells n.c 176)).alloc (.cells #[.string t.name, .int .i64 t.num] 166)).heap.size ((w.alloc (.cells n.c 176)).alloc (.cells #[.string t.name, .int .i64 t.num] 166)) W1 →
      W1.cell? ⟨w.heap.size, t.num, none⟩ = some (.string (n.get t.num)) ∧ W1.cell? ⟨w.heap.size + 1, 0, none⟩ = some (.string t.name) ∧ W1.cell? ⟨w.heap.size + 1, 1, none⟩ = some (.int .i64 t.num) ∧ Below w.heap.size w W1) := by
    intro W1 hb
    refine ⟨?_, ?_, ?_, (((Below.refl _ w).alloc (Nat.le_refl _) _).alloc (by simp) _).trans (hb.mono (by simp; omega))⟩
    · rw [hb.cell (p := ⟨w.heap.size, t.num, none⟩) (by simp; omega)]
      have hh : ((w.alloc (.cells n.c 176)).alloc (.cells #[.string t.name, .int .i64 t.num] 166)).heap[w.heap.size]? = some (Obj.cells n.c 176 (0, 0)) := (Below.heap_alloc _ _ _ (by simp)).trans (World.alloc_heap_new w _)
      simp only [World.cell?, hh]
      simpa using n.cell _ ht
    · rw [hb.cell (p := ⟨w.heap.size + 1, 0, none⟩) (by simp)]; simp
    · rw [hb.cell (p := ⟨w.heap.size + 1, 1, none⟩) (by simp)]; simp
  have hof : Hid (ofT n t = if t.name.toList.isEmpty = true then n.get t.num else t.name) := rfl
  unfold Nms.c at hA
  unfold Nms.v Nms.c
  have i1 : (t.num : Int) < 6 := by omega
  generalize ofT n t = res at *
  generalize n.get t.num = gt at *
  generalize t.num = tn at *
  generalize htv : t.name.toList.isEmpty = tv at *
  clear htv
  generalize t.name = tx at *
  cases tv with
  | false =>
    go_enter Tryz.func151, Tryz.ntmps151
    go_wp2_with (go_at_call 139; refine (hiv.out _).mono ?_; rintro e W1 ⟨rfl, hb1⟩; obtain ⟨k1, k2, k3, k4⟩ := hA.out _ hb1)
    go_ret
    exact ⟨by rw [hof.out]; rfl, k4⟩
  | true =>
    go_enter Tryz.func151, Tryz.ntmps151
    go_wp2_with (go_at_call 139; refine (hiv.out _).mono ?_; rintro e W1 ⟨rfl, hb1⟩; obtain ⟨k1, k2, k3, k4⟩ := hA.out _ hb1)
    go_ret
    exact ⟨by rw [hof.out]; rfl, k4⟩

end Go.Proofs.YtjajnhemgphefaaGreatDoor

namespace Go.Proofs.YtjajnhemgphefaaGreatDoor
open Go.RowKit Go.Shelf
set_option linter.unusedVariables false
set_option linter.unusedSimpArgs false

/-- A ground atom: a relation, and the names; the second is empty where there is one alone. -/
structure Gd where
  rel : ByteArray
  x : ByteArray
  y : ByteArray
def Gd.c (g : Gd) : Array Value := #[.string g.rel, .string g.x, .string g.y]
def Gd.v (g : Gd) : Value := .agg g.c
def xOf (n : Nms) (l : List Tm) : ByteArray := match l with | [] => ⟨#[]⟩ | t :: _ => ofT n t
def yOf (n : Nms) (l : List Tm) : ByteArray := match l with | _ :: t :: _ => ofT n t | _ => ⟨#[]⟩
def groundA (n : Nms) (a : Am) : Gd := ⟨a.rel, xOf n a.args, yOf n a.args⟩

theorem xy_step0 (n : Nms) (l : List Tm) (h : 0 < l.length) : xOf n (l.take (0 + 1)) = ofT n l[0] ∧ yOf n (l.take (0 + 1)) = ⟨#[]⟩ ∧ xOf n (l.take 0) = ⟨#[]⟩ ∧ yOf n (l.take 0) = ⟨#[]⟩ := by
  cases l with
  | nil => simp at h
  | cons t l => simp [xOf, yOf]
theorem xy_step1 (n : Nms) (l : List Tm) (h : 1 < l.length) : xOf n (l.take (1 + 1)) = xOf n (l.take 1) ∧ yOf n (l.take (1 + 1)) = ofT n l[1] ∧ yOf n (l.take 1) = ⟨#[]⟩ := by
  match l, h with
  | t :: u :: l, h => simp [xOf, yOf]

set_option maxHeartbeats 2000000 in
theorem ground_any (n : Nms) (a : Am) (va : Value) (b : Nat) (w : World) (hS : SealT w b va a.args) (hl : a.args.length ≤ 2) (hn : ∀ t ∈ a.args, t.num < 6) :
    Calls Tryz.prog 89 #[n.v, .agg #[.string a.rel, va]] w fun e w' => e = .returned (groundA n a).v ∧ Below w.heap.size w w' := by
  obtain ⟨ta, tc, htf⟩ := hS.form
  have hcell : ∀ k (hk : k < a.args.length), ∃ g, ta = some ⟨g, 0, none⟩ ∧ w.cell? ⟨g, k * 2, none⟩ = some (.string (a.args[k]).name) ∧ w.cell? ⟨g, k * 2 + 1, none⟩ = some (.int .i64 (a.args[k]).num) ∧ g < w.heap.size := by
    intro k hk
    obtain ⟨g, c', h1, h2, h3, h4⟩ := seal_cell hS hk
    rw [htf] at h1; cases h1
    exact ⟨g, rfl, h2, h3, h4⟩
  subst htf
  have hof : Hid (∀ k (hk : k < a.args.length) W, Calls Tryz.prog 151 #[n.v, .agg #[.string (a.args[k]).name, .int .i64 (a.args[k]).num]] W fun e w' => e = .returned (.string (ofT n a.args[k])) ∧ Below W.heap.size W w') := fun k hk W => of_any n a.args[k] (hn _ (List.getElem_mem hk)) W
  have HC : Hid _ := hcell
  clear hcell hS hn
  unfold Nms.v Nms.c at hof ⊢
  unfold Gd.v Gd.c
  go_enter Tryz.func89, Tryz.ntmps89
  go_wp2
  obtain ⟨N, hN⟩ : ∃ N, w.heap.size = N := ⟨_, rfl⟩
  simp only [hN]
  obtain ⟨W0, hW0⟩ : ∃ W0, ((((w.alloc (.cells n.c 176)).alloc (.cells #[.string a.rel, .slice ta a.args.length tc] 92)).alloc (.cells #[.string ⟨#[]⟩, .string ⟨#[]⟩, .string ⟨#[]⟩] 111)).alloc (.cells #[.string a.rel, .string ⟨#[]⟩, .string ⟨#[]⟩] 111)) = W0 := ⟨_, rfl⟩
  have hsz : W0.heap.size = N + 4 := by rw [← hW0, ← hN]; simp
  have hB0 : Below N w W0 := by
    rw [← hW0, ← hN]
    exact ((((Below.refl _ w).alloc (Nat.le_refl _) _).alloc (by simp) _).alloc (by simp; omega) _).alloc (by simp; omega) _
  have b0 : W0.heap[N]? = some (Obj.cells n.c 176 (0, 0)) := by
    rw [← hW0, ← hN]
    exact (Below.heap_alloc _ _ _ (by simp; omega)).trans ((Below.heap_alloc _ _ _ (by simp; omega)).trans ((Below.heap_alloc _ _ _ (by simp)).trans (World.alloc_heap_new w _)))
  have b2 : W0.heap[N + 1 + 1]? = some (Obj.cells #[.string ⟨#[]⟩, .string ⟨#[]⟩, .string ⟨#[]⟩] 111 (0, 0)) := by
    rw [← hW0, ← hN]
    refine (Below.heap_alloc _ _ _ (by simp)).trans ?_
    have := World.alloc_heap_new ((w.alloc (.cells n.c 176)).alloc (.cells #[.string a.rel, .slice ta a.args.length tc] 92)) (.cells #[.string ⟨#[]⟩, .string ⟨#[]⟩, .string ⟨#[]⟩] 111)
    simpa using this
  have b3 : W0.heap[N + 1 + 1 + 1]? = some (Obj.cells #[.string a.rel, .string ⟨#[]⟩, .string ⟨#[]⟩] 111 (0, 0)) := by
    rw [← hW0, ← hN]
    have := World.alloc_heap_new (((w.alloc (.cells n.c 176)).alloc (.cells #[.string a.rel, .slice ta a.args.length tc] 92)).alloc (.cells #[.string ⟨#[]⟩, .string ⟨#[]⟩, .string ⟨#[]⟩] 111)) (.cells #[.string a.rel, .string ⟨#[]⟩, .string ⟨#[]⟩] 111)
    simpa using this
  unfold Nms.c at hW0 b0
  rw [hW0]
  clear hW0
  go_loopw [14] (fun i wr => ∃ k : Nat, k ≤ a.args.length ∧ i = .int .i64 k ∧ N + 4 ≤ wr.heap.size ∧ wr.heap[N]? = some (Obj.cells #[.string n.a0, .string n.a1, .string n.a2, .string n.a3, .string n.a4, .string n.a5] 176 (0, 0)) ∧ wr.heap[N + 1 + 1]? = some (Obj.cells #[.string ⟨#[]⟩, .string ⟨#[]⟩, .string ⟨#[]⟩] 111 (0, 0)) ∧ wr.heap[N + 1 + 1 + 1]? = some (Obj.cells #[.string a.rel, .string (xOf n (a.args.take k)), .string (yOf n (a.args.take k))] 111 (0, 0)) ∧ Below N w wr) (fun i _ => a.args.length - (intOf i).toNat)
  case atStart => exact ⟨0, Nat.zero_le _, rfl, by omega, b0, b2, b3, hB0⟩
  case round =>
    obtain ⟨k, hk, rfl, hs4, h0, h2, h3, hB⟩ := hrel
    by_cases hlt : k < a.args.length
    · obtain ⟨g, rfl, q0, q1, hg⟩ := HC.out k hlt
      have q0' := (hB.cell (p := ⟨g, k * 2, none⟩) (by rw [← hN]; exact hg)).trans q0
      have q1' := (hB.cell (p := ⟨g, k * 2 + 1, none⟩) (by rw [← hN]; exact hg)).trans q1
      have hcall := hof.out k hlt
      have i1 : (k : Int) < (a.args.length : Int) := by omega
      have hkk : k = 0 ∨ k = 1 := by omega
      have n0 : ∀ O, (wr.alloc O).cell? ⟨N, 0, none⟩ = some (.string n.a0) := fun O => cell_later ((Below.refl wr.heap.size wr).alloc (Nat.le_refl _) O) (by simp [World.cell?, h0])
      have n1 : ∀ O, (wr.alloc O).cell? ⟨N, 1, none⟩ = some (.string n.a1) := fun O => cell_later ((Below.refl wr.heap.size wr).alloc (Nat.le_refl _) O) (by simp [World.cell?, h0])
      have n2 : ∀ O, (wr.alloc O).cell? ⟨N, 2, none⟩ = some (.string n.a2) := fun O => cell_later ((Below.refl wr.heap.size wr).alloc (Nat.le_refl _) O) (by simp [World.cell?, h0])
      have n3 : ∀ O, (wr.alloc O).cell? ⟨N, 3, none⟩ = some (.string n.a3) := fun O => cell_later ((Below.refl wr.heap.size wr).alloc (Nat.le_refl _) O) (by simp [World.cell?, h0])
      have n4 : ∀ O, (wr.alloc O).cell? ⟨N, 4, none⟩ = some (.string n.a4) := fun O => cell_later ((Below.refl wr.heap.size wr).alloc (Nat.le_refl _) O) (by simp [World.cell?, h0])
      have n5 : ∀ O, (wr.alloc O).cell? ⟨N, 5, none⟩ = some (.string n.a5) := fun O => cell_later ((Below.refl wr.heap.size wr).alloc (Nat.le_refl _) O) (by simp [World.cell?, h0])
      have ne : N ≠ wr.heap.size := by omega
      have hst : Hid (∀ O W1, Below (wr.alloc O).heap.size (wr.alloc O) W1 → N + 4 ≤ W1.heap.size ∧ W1.heap[N]? = some (Obj.cells #[.string n.a0, .string n.a1, .string n.a2, .string n.a3, .string n.a4, .string n.a5] 176 (0, 0)) ∧ W1.heap[N + 1 + 1]? = some (Obj.cells #[.string ⟨#[]⟩, .string ⟨#[]⟩, .string ⟨#[]⟩] 111 (0, 0)) ∧ W1.heap[N + 1 + 1 + 1]? = some (Obj.cells #[.string a.rel, .string (xOf n (a.args.take k)), .string (yOf n (a.args.take k))] 111 (0, 0)) ∧ Below N w W1) := by
        intro O W1 hb
        have hb0 : Below wr.heap.size wr W1 := ((Below.refl _ wr).alloc (Nat.le_refl _) O).trans (hb.mono (by simp))
        have hz := hb0.size
        exact ⟨by omega, (hb0.block _ (by omega)).trans h0, (hb0.block _ (by omega)).trans h2, (hb0.block _ (by omega)).trans h3, hB.trans (hb0.mono (by omega))⟩
      clear q0 q1 h0 h2 h3 hB
      rcases hkk with rfl | rfl
      · have hx : Hid _ := xy_step0 n a.args hlt
        generalize a.args[0] = tk at *
        go_wp2_with (go_at_call 151; refine (hcall _).mono ?_; rintro e W1 ⟨rfl, hb1⟩; obtain ⟨r1, r2, r3, r4, r5⟩ := hst.out _ _ hb1; have f1 : W1.frozen? ⟨N + 1 + 1 + 1, 1, none⟩ = false := (by simp [World.frozen?, r4]); have d1 : W1.cell? ⟨N + 1 + 1 + 1, 1, none⟩ = some (.string (xOf n (a.args.take 0))) := (by simp [World.cell?, r4]))
        go_roundw
        case rel =>
          refine ⟨0 + 1, by omega, by go_num, ?_, ?_, ?_, ?_, ?_⟩
          · simpa using r1
          · exact (Below.heap_setCell _ _ _ _ (by show N ≠ N + 1 + 1 + 1; omega)).trans r2
          · exact (Below.heap_setCell _ _ _ _ (by show N + 1 + 1 ≠ N + 1 + 1 + 1; omega)).trans r3
          · have := heap_set r4 1 (.string (ofT n tk))
            rw [hx.out.1, hx.out.2.1]
            rw [hx.out.2.2.1, hx.out.2.2.2] at this
            exact this
          · exact r5.setCell (p := ⟨N + 1 + 1 + 1, 1, none⟩) (by simp; omega) _
        case measure => simp [intOf]; omega
      · have hx : Hid _ := xy_step1 n a.args hlt
        generalize a.args[1] = tk at *
        go_wp2_with (go_at_call 151; refine (hcall _).mono ?_; rintro e W1 ⟨rfl, hb1⟩; obtain ⟨r1, r2, r3, r4, r5⟩ := hst.out _ _ hb1; have f1 : W1.frozen? ⟨N + 1 + 1 + 1, 2, none⟩ = false := (by simp [World.frozen?, r4]); have d1 : W1.cell? ⟨N + 1 + 1 + 1, 2, none⟩ = some (.string (yOf n (a.args.take 1))) := (by simp [World.cell?, r4]))
        go_roundw
        case rel =>
          refine ⟨1 + 1, by omega, by go_num, ?_, ?_, ?_, ?_, ?_⟩
          · simpa using r1
          · exact (Below.heap_setCell _ _ _ _ (by show N ≠ N + 1 + 1 + 1; omega)).trans r2
          · exact (Below.heap_setCell _ _ _ _ (by show N + 1 + 1 ≠ N + 1 + 1 + 1; omega)).trans r3
          · have := heap_set r4 2 (.string (ofT n tk))
            rw [hx.out.1, hx.out.2.1]
            exact this
          · exact r5.setCell (p := ⟨N + 1 + 1 + 1, 2, none⟩) (by simp; omega) _
        case measure => simp [intOf]; omega
    · have hka : k = a.args.length := by omega
      have d0 : wr.cell? ⟨N + 1 + 1 + 1, 0, none⟩ = some (.string a.rel) := by simp [World.cell?, h3]
      have d1 : wr.cell? ⟨N + 1 + 1 + 1, 1, none⟩ = some (.string (xOf n (a.args.take k))) := by simp [World.cell?, h3]
      have d2 : wr.cell? ⟨N + 1 + 1 + 1, 2, none⟩ = some (.string (yOf n (a.args.take k))) := by simp [World.cell?, h3]
      have e0 : wr.cell? ⟨N + 1 + 1, 0, none⟩ = some (.string ⟨#[]⟩) := by simp [World.cell?, h2]
      have e1 : wr.cell? ⟨N + 1 + 1, 1, none⟩ = some (.string ⟨#[]⟩) := by simp [World.cell?, h2]
      have e2 : wr.cell? ⟨N + 1 + 1, 2, none⟩ = some (.string ⟨#[]⟩) := by simp [World.cell?, h2]
      have g0 : wr.frozen? ⟨N + 1 + 1, 0, none⟩ = false := by simp [World.frozen?, h2]
      have g1 : wr.frozen? ⟨N + 1 + 1, 1, none⟩ = false := by simp [World.frozen?, h2]
      have g2 : wr.frozen? ⟨N + 1 + 1, 2, none⟩ = false := by simp [World.frozen?, h2]
      have hres : Hid (groundA n a = ⟨a.rel, xOf n (a.args.take k), yOf n (a.args.take k)⟩) := by show _ = _; rw [hka, List.take_length]; rfl
      generalize xOf n (a.args.take k) = gx at *
      generalize yOf n (a.args.take k) = gy at *
      clear h0 h2 h3
      go_wp2
      refine bodyPost_ret (v := .agg #[.string a.rel, .string gx, .string gy]) (by simp [results, Tryz.results89, go_sem, e0, e1, e2]) rfl ?_
      rw [hres.out, hN]
      exact ⟨rfl, ((hB.setCell (p := ⟨N + 1 + 1, 0, none⟩) (by simp; omega) _).setCell (p := ⟨N + 1 + 1, 1, none⟩) (by simp; omega) _).setCell (p := ⟨N + 1 + 1, 2, none⟩) (by simp; omega) _⟩

end Go.Proofs.YtjajnhemgphefaaGreatDoor

namespace Go.Proofs.YtjajnhemgphefaaGreatDoor
open Go.RowKit Go.Shelf
set_option linter.unusedVariables false
set_option linter.unusedSimpArgs false

/-- As SeqN, for a loop of which the record lies ahead of block m. -/
def SeqM {α : Type} (m n gf : Nat) (lb : Array Value) (encs : α → Array Value) (Kp : World → World → Prop) (S Sp : List α → Prop) (N : Nat) (w : World) : Prop :=
  ∀ (l : Nat) (J Jx : List α → World → Prop) (W : World), Below w.heap.size w W → m ≤ W.heap.size → OwnFrom W.heap.size J → OwnFrom W.heap.size Jx →
    (∀ pre x W1, J pre W1 → pre.length < N → YieldAt Fence.wide (n - 1) Tryz.prog l (encs x) W1 fun e W' =>
      (e = .returned (.bool true) ∧ J (pre ++ [x]) W' ∧ Kp W1 W') ∨ (e = .returned (.bool false) ∧ Jx (pre ++ [x]) W' ∧ KeepsFrom m W1 W')) →
    J [] W → CallsIn Fence.wide n Tryz.prog gf (#[.func (.yield l) #[] #[]] ++ lb) W fun e W' => (∃ v, e = .returned v) ∧ ((∃ xs, S xs ∧ J xs W') ∨ (∃ pre, Sp pre ∧ Jx pre W'))

theorem yield_any {n n' l : Nat} {args : Array Value} {w : World} {R : Ending → World → Prop} (h : YieldAt Fence.wide n Tryz.prog l args w R) : YieldAt Fence.wide n' Tryz.prog l args w R := by
  obtain ⟨fn, tmps, assign, body, hy, hR⟩ := h
  exact ⟨fn, tmps, assign, body, hy, ⟨hR.1, fun c cs _ => hR.2 c cs (room_wide _)⟩⟩
/-- The room that is left does not matter. -/
theorem SeqM.any {α : Type} {m n gf : Nat} {lb : Array Value} {encs : α → Array Value} {Kp : World → World → Prop} {S Sp : List α → Prop} {N : Nat} {w : World} (h : SeqM m n gf lb encs Kp S Sp N w) (n' : Nat) : SeqM m n' gf lb encs Kp S Sp N w :=
  fun l J Jx W hW hsz hJ hJx hY h0 => callsIn_wide.2 (callsIn_wide.1 (h l J Jx W hW hsz hJ hJx (fun pre x W1 h1 h2 => yield_any (hY pre x W1 h1 h2)) h0))

/-- What the loop's own block holds, beside the caller's invariant. -/
structure Held1 (I : World → Prop) (D : Nat) (rec : Loop) (W : World) : Prop where
  inv : I W
  loop : W.heap[D]? = some (.loop rec)

theorem Held1.own {β : Type} {I : β → World → Prop} {B D : Nat} {rec : β → Loop} (hI : OwnFrom B I) (hB : D + 1 ≤ B) : OwnFrom B (fun s => Held1 (I s) D (rec s)) := by
  rintro s W W' row ⟨h1, h2⟩ hg hr
  exact ⟨hI s W W' row h1 hg hr, (hg.block D (Array.getElem?_eq_some_iff.1 h2).1 (fun e => by have := (hr D e.symm).1; omega)).trans h2⟩

section
variable {α : Type} {n gf : Nat} {lb : Array Value} {encs : α → Array Value} {Kp : World → World → Prop} {S Sp : List α → Prop} {N : Nat}

theorem range_outM {g : Operand} {ps : Array Tmp} {assign body : Code} {Q : Exit → Act → World → Prop} {a : Act} {w : World}
    (hg : a.eval g = .func (.func gf) #[] lb) (eg : ∀ args w, (callFunc gf args).run Tryz.prog w = .ok (.enter gf args) w) (hseq : SeqM (w.heap.size + 2) (n - 1) gf lb encs Kp S Sp N w)
    (hKt : ∀ {A B C : World}, Kp A B → Kp B C → Kp A C) (hKb : ∀ (W : World) (rc : Loop) (o' : Obj), W.heap[w.heap.size + 1]? = some (.loop rc) → Kp W (W.putObj (w.heap.size + 1) o')) (hps : ∀ x, (encs x).size = ps.size)
    (I : List α → World → Prop) (Ix : Code → List α → World → Prop) (hI : OwnFrom w.heap.size I) (hIx : ∀ c, OwnFrom w.heap.size (Ix c)) (h0 : I [] w) (Ax : α → Act → World → Prop) (hAx : ∀ x a', OwnFrom w.heap.size (fun (_ : Unit) W => Ax x a' W))
    (hassign : ∀ (l : Nat) (pre : List α) (x : α) (W : World) (K : Act → World → Prop), w.heap.size ≤ l → (∃ r, W.heap[l]? = some (.loop r)) → I pre W → (∀ a' W', KeepsFrom w.heap.size W W' → Kp W W' → I pre W' → Ax x a' W' → K a' W') →
      assign.wpIn (Fence.wide.inRound l) (n - 1 - 1) Tryz.prog (Exit.then K (fun _ _ _ => False)) { tmps := (ps.zip (encs x)).foldl (fun t (p, v) => t.setIfInBounds p v) a.tmps, defers := [] } W)
    (hbody : ∀ (l : Nat) (pre : List α) (x : α) (a' : Act) (W : World), w.heap.size ≤ l → (∃ r, W.heap[l]? = some (.loop r)) → I pre W → Ax x a' W → pre.length < N → body.wpIn (Fence.wide.inRound l) (n - 1 - 1) Tryz.prog (ownPostG w.heap.size Kp I Ix (pre ++ [x]) W) a' W)
    (hdone : ∀ (D : Nat) (xs : List α) (W : World), w.heap.size ≤ D → S xs → I xs W → W.heap[D]? = some (.deferred (some [])) → Q .normal { a with defers := { target := .collected D, args := #[] } :: a.defers } W)
    (hstop : ∀ (D : Nat) (c : Code) (pre : List α) (W : World), w.heap.size ≤ D → Sp pre → Ix c pre W → W.heap[D]? = some (.deferred (some [])) → c.wpIn Fence.wide n Tryz.prog Q { a with defers := { target := .collected D, args := #[] } :: a.defers } W) :
    (Code.rangeFunc g ps assign body).wpIn Fence.wide n Tryz.prog Q a w := by
  refine wpIn_rangeFunc (fun fn hfn => ?_)
  -- the record of this loop
  let rc : LoopState → Option Code → Loop := fun st pe => { state := st, pending := pe, fn := fn, tmps := a.tmps, params := ps, assign := assign, body := body, defers := w.heap.size }
  let wA := w.alloc (.deferred (some []))
  let wB := wA.alloc (.loop (rc .ready none))
  have sA : wA.heap.size = w.heap.size + 1 := by simp [wA]
  have sB : wB.heap.size = w.heap.size + 2 := by simp [wB, wA]
  have gB : Below w.heap.size w wB := ((Below.refl _ w).alloc (Nat.le_refl _) _).alloc (by simp) _
  have heldB : Held (I []) w.heap.size (rc .ready none) wB := by
    refine ⟨hI _ _ _ none h0 (below_grownBy gB) (fun r e => by cases e), ?_, ?_⟩
    · have := World.alloc_heap_new wA (.loop (rc .ready none)); rw [sA] at this; exact this
    · exact (Below.heap_alloc wA _ _ (by omega)).trans (World.alloc_heap_new w _)
  -- turning the record keeps the invariant and the mark
  have turn : ∀ {I' : World → Prop} {r : Loop} (r' : Loop) {W : World}, OwnFrom w.heap.size (fun (_ : Unit) => I') → Held I' w.heap.size r W → Held I' w.heap.size r' (W.putObj (w.heap.size + 1) (.loop r')) := by
    intro I' r r' W ho hh
    exact ⟨ho.putObj (s := ()) _ hh.inv (by omega) hh.loop rfl, World.putObj_heap_same (Array.getElem?_eq_some_iff.1 hh.loop).1, (World.putObj_heap_other (by omega)).trans hh.mark⟩
  have oI : ∀ pre, OwnFrom w.heap.size (fun (_ : Unit) => I pre) := fun pre _ A B row hs hg' hr => hI pre A B row hs hg' hr
  have oX : ∀ c pre, OwnFrom w.heap.size (fun (_ : Unit) => Ix c pre) := fun c pre _ A B row hs hg' hr => hIx c pre A B row hs hg' hr
  have up : ∀ {β : Type} {X : β → World → Prop}, OwnFrom w.heap.size X → OwnFrom wB.heap.size X := fun h s A B row hs hg' hr => h s A B row hs hg' (fun r e => ⟨by have := (hr r e).1; omega, (hr r e).2⟩)
  have oJ : OwnFrom wB.heap.size (fun pre => Held (I pre) w.heap.size (rc .ready none)) := Held.own (up hI) (by omega)
  have oJx : OwnFrom wB.heap.size (fun pre W => ∃ c, Held (Ix c pre) w.heap.size (rc .done (some c)) W) := by
    rintro pre A B row ⟨c, hc⟩ hg' hr
    exact ⟨c, Held.own (I := fun _ : Unit => Ix c pre) (rec := fun _ => rc .done (some c)) (up (oX c pre)) (by omega) () A B row hc hg' hr⟩
  refine ⟨w.heap.size + 1, [{ target := .collected w.heap.size, args := #[] }], wB, { target := .fn (.func gf) lb, args := #[.func (.yield (w.heap.size + 1)) #[] #[]] }, wB, gf, #[.func (.yield (w.heap.size + 1)) #[] #[]] ++ lb, wB, run_enterLoop_outer _ _ _ _ _, ?_, fun _ _ => trivial, ?_, (fun h => (by cases h)), ?_⟩
  · simp only [resolve, hg]; simp [go_sem]
  · simp [invoke, go_sem, eg]
  refine (hseq (w.heap.size + 1) (fun pre => Held (I pre) w.heap.size (rc .ready none)) (fun pre W => ∃ c, Held (Ix c pre) w.heap.size (rc .done (some c)) W) wB gB (by omega) oJ oJx ?_ heldB).mono ?_
  · intro pre x W hh hlen
    have hy := run_yield (P := Tryz.prog) (args := encs x) hh.loop (hps x)
    refine ⟨fn, _, assign, body, hy, roundIn_of_wpIn trivial (hassign _ pre x W _ (by omega) ⟨_, hh.loop⟩ hh.inv ?_)⟩
    intro a' Wa kA kpA iA axA
    have hhA : Held (I pre) w.heap.size (rc .ready none) Wa := ⟨iA, kA.same _ _ (by omega) hh.loop rfl, kA.same _ _ (Nat.le_refl _) hh.mark rfl⟩
    refine ⟨_, run_beginRound hhA.loop rfl, ?_⟩
    have hhB := turn { rc .ready none with state := .busy } (oI pre) hhA
    have kpB := hKb Wa _ (.loop { rc .ready none with state := .busy }) hhA.loop
    refine wpIn_mono (hbody _ pre x a' _ (by omega) ⟨_, hhB.loop⟩ hhB.inv ((hAx x a').putObj (s := ()) _ axA (by omega) hhA.loop rfl) hlen) ?_
    intro e a3 W3 hp
    -- however the body is left, the record is busy there
    have done : ∀ (jump : Option Code) {I' : World → Prop}, OwnFrom w.heap.size (fun (_ : Unit) => I') → KeepsFrom w.heap.size (Wa.putObj (w.heap.size + 1) (.loop { rc .ready none with state := .busy })) W3 → I' W3 →
        ∃ W4, (Instr.endRound (w.heap.size + 1) jump).run Tryz.prog W3 = .ok (.bool jump.isNone) W4 ∧ Held I' w.heap.size (rc (if jump.isNone then .ready else .done) jump) W4 ∧ Kp W3 W4 ∧ KeepsFrom (w.heap.size + 2) W W4 := by
      intro jump I' ho kf i3
      have h3 : Held I' w.heap.size { rc .ready none with state := .busy } W3 := ⟨i3, kf.same _ _ (by omega) hhB.loop rfl, kf.same _ _ (Nat.le_refl _) hhB.mark rfl⟩
      exact ⟨_, run_endRound jump h3.loop, turn _ ho h3, hKb _ _ _ h3.loop, KeepsFrom.tr (KeepsFrom.tr (KeepsFrom.tr (KeepsFrom.up kA (by omega)) (KeepsFrom.put _ _ _ (by omega))) (KeepsFrom.up kf (by omega))) (KeepsFrom.put _ _ _ (by omega))⟩
    cases e with
    | normal =>
      obtain ⟨kf, kp, i3⟩ := hp
      obtain ⟨W4, hr, h4, k4, _⟩ := done none (oI _) kf i3
      exact ⟨_, _, hr, .inl ⟨rfl, h4, hKt kpA (hKt kpB (hKt kp k4))⟩⟩
    | ret =>
      obtain ⟨kf, i3⟩ := hp
      obtain ⟨W4, hr, h4, _, k4⟩ := done (some .ret) (oX _ _) kf i3
      exact ⟨_, _, hr, .inr ⟨rfl, ⟨_, h4⟩, k4⟩⟩
    | exit id =>
      obtain ⟨kf, i3⟩ := hp
      obtain ⟨W4, hr, h4, _, k4⟩ := done (some (.exit id)) (oX _ _) kf i3
      exact ⟨_, _, hr, .inr ⟨rfl, ⟨_, h4⟩, k4⟩⟩
    | goto t =>
      obtain ⟨kf, i3⟩ := hp
      obtain ⟨W4, hr, h4, _, k4⟩ := done (some (.goto t)) (oX _ _) kf i3
      exact ⟨_, _, hr, .inr ⟨rfl, ⟨_, h4⟩, k4⟩⟩
    | panic ch => exact hp.elim
    | outgrown => exact hp.elim
  · rintro e W2 ⟨⟨v, rfl⟩, (⟨xs, hS, hh⟩ | ⟨pre, hSp, c, hh⟩)⟩
    · have h2 := turn { rc .ready none with state := .exhausted } (oI xs) hh
      exact ⟨none, _, run_endLoop hh.loop (by intro h; cases h), hdone _ xs _ (Nat.le_refl _) hS h2.inv h2.mark⟩
    · have h2 := turn { rc .done (some c) with state := .exhausted } (oX c pre) hh
      exact ⟨some c, _, run_endLoop hh.loop (by intro h; cases h), hstop _ c pre _ (Nat.le_refl _) hSp h2.inv h2.mark⟩

theorem range_inM {g : Operand} {ps : Array Tmp} {assign body : Code} {Q : Exit → Act → World → Prop} {a : Act} {w : World} {l₀ : Nat} {r₀ : Loop} (hl₀ : w.heap[l₀]? = some (.loop r₀))
    (hg : a.eval g = .func (.func gf) #[] lb) (eg : ∀ args w, (callFunc gf args).run Tryz.prog w = .ok (.enter gf args) w) (hseq : SeqM (w.heap.size + 1) (n - 1) gf lb encs Kp S Sp N w)
    (hKt : ∀ {A B C : World}, Kp A B → Kp B C → Kp A C) (hKb : ∀ (W : World) (rc : Loop) (o' : Obj), W.heap[w.heap.size]? = some (.loop rc) → Kp W (W.putObj w.heap.size o')) (hps : ∀ x, (encs x).size = ps.size)
    (I : List α → World → Prop) (Ix : Code → List α → World → Prop) (hI : OwnFrom w.heap.size I) (hIx : ∀ c, OwnFrom w.heap.size (Ix c)) (h0 : I [] w) (Ax : α → Act → World → Prop) (hAx : ∀ x a', OwnFrom w.heap.size (fun (_ : Unit) W => Ax x a' W))
    (hassign : ∀ (l : Nat) (pre : List α) (x : α) (W : World) (K : Act → World → Prop), w.heap.size ≤ l → (∃ r, W.heap[l]? = some (.loop r)) → I pre W → (∀ a' W', KeepsFrom w.heap.size W W' → Kp W W' → I pre W' → Ax x a' W' → K a' W') →
      assign.wpIn (Fence.wide.inRound l) (n - 1 - 1) Tryz.prog (Exit.then K (fun _ _ _ => False)) { tmps := (ps.zip (encs x)).foldl (fun t (p, v) => t.setIfInBounds p v) a.tmps, defers := [] } W)
    (hbody : ∀ (l : Nat) (pre : List α) (x : α) (a' : Act) (W : World), w.heap.size ≤ l → (∃ r, W.heap[l]? = some (.loop r)) → I pre W → Ax x a' W → pre.length < N → body.wpIn (Fence.wide.inRound l) (n - 1 - 1) Tryz.prog (ownPostG w.heap.size Kp I Ix (pre ++ [x]) W) a' W)
    (hdone : ∀ (xs : List α) (W : World), S xs → I xs W → Q .normal a W)
    (hstop : ∀ (c : Code) (pre : List α) (W : World), Sp pre → Ix c pre W → c.wpIn (Fence.wide.inRound l₀) n Tryz.prog Q a W) :
    (Code.rangeFunc g ps assign body).wpIn (Fence.wide.inRound l₀) n Tryz.prog Q a w := by
  refine wpIn_rangeFunc (fun fn hfn => ?_)
  let rc : LoopState → Option Code → Loop := fun st pe => { state := st, pending := pe, fn := fn, tmps := a.tmps, params := ps, assign := assign, body := body, defers := r₀.defers }
  let wB := w.alloc (.loop (rc .ready none))
  have sB : wB.heap.size = w.heap.size + 1 := by simp [wB]
  have gB : Below w.heap.size w wB := (Below.refl _ w).alloc (Nat.le_refl _) _
  have heldB : Held1 (I []) w.heap.size (rc .ready none) wB := ⟨hI _ _ _ none h0 (below_grownBy gB) (fun r e => by cases e), World.alloc_heap_new w _⟩
  have turn : ∀ {I' : World → Prop} {r : Loop} (r' : Loop) {W : World}, OwnFrom w.heap.size (fun (_ : Unit) => I') → Held1 I' w.heap.size r W → Held1 I' w.heap.size r' (W.putObj w.heap.size (.loop r')) := by
    intro I' r r' W ho hh
    exact ⟨ho.putObj (s := ()) _ hh.inv (Nat.le_refl _) hh.loop rfl, World.putObj_heap_same (Array.getElem?_eq_some_iff.1 hh.loop).1⟩
  have oI : ∀ pre, OwnFrom w.heap.size (fun (_ : Unit) => I pre) := fun pre _ A B row hs hg' hr => hI pre A B row hs hg' hr
  have oX : ∀ c pre, OwnFrom w.heap.size (fun (_ : Unit) => Ix c pre) := fun c pre _ A B row hs hg' hr => hIx c pre A B row hs hg' hr
  have up : ∀ {β : Type} {X : β → World → Prop}, OwnFrom w.heap.size X → OwnFrom wB.heap.size X := fun h s A B row hs hg' hr => h s A B row hs hg' (fun r e => ⟨by have := (hr r e).1; omega, (hr r e).2⟩)
  have oJ : OwnFrom wB.heap.size (fun pre => Held1 (I pre) w.heap.size (rc .ready none)) := Held1.own (up hI) (by omega)
  have oJx : OwnFrom wB.heap.size (fun pre W => ∃ c, Held1 (Ix c pre) w.heap.size (rc .done (some c)) W) := by
    rintro pre A B row ⟨c, hc⟩ hg' hr
    exact ⟨c, Held1.own (I := fun _ : Unit => Ix c pre) (rec := fun _ => rc .done (some c)) (up (oX c pre)) (by omega) () A B row hc hg' hr⟩
  refine ⟨w.heap.size, [], wB, { target := .fn (.func gf) lb, args := #[.func (.yield w.heap.size) #[] #[]] }, wB, gf, #[.func (.yield w.heap.size) #[] #[]] ++ lb, wB, run_enterLoop_inner hl₀ _ _ _ _ _, ?_, fun _ _ => trivial, ?_, (fun h => (by cases h)), ?_⟩
  · simp only [resolve, hg]; simp [go_sem]
  · simp [invoke, go_sem, eg]
  refine (CallsIn.inRound l₀ (hseq w.heap.size (fun pre => Held1 (I pre) w.heap.size (rc .ready none)) (fun pre W => ∃ c, Held1 (Ix c pre) w.heap.size (rc .done (some c)) W) wB gB (by omega) oJ oJx ?_ heldB)).mono ?_
  · intro pre x W hh hlen
    have hy := run_yield (P := Tryz.prog) (args := encs x) hh.loop (hps x)
    refine ⟨fn, _, assign, body, hy, roundIn_of_wpIn trivial (hassign _ pre x W _ (Nat.le_refl _) ⟨_, hh.loop⟩ hh.inv ?_)⟩
    intro a' Wa kA kpA iA axA
    have hhA : Held1 (I pre) w.heap.size (rc .ready none) Wa := ⟨iA, kA.same _ _ (Nat.le_refl _) hh.loop rfl⟩
    refine ⟨_, run_beginRound hhA.loop rfl, ?_⟩
    have hhB := turn { rc .ready none with state := .busy } (oI pre) hhA
    have kpB := hKb Wa _ (.loop { rc .ready none with state := .busy }) hhA.loop
    refine wpIn_mono (hbody _ pre x a' _ (Nat.le_refl _) ⟨_, hhB.loop⟩ hhB.inv ((hAx x a').putObj (s := ()) _ axA (Nat.le_refl _) hhA.loop rfl) hlen) ?_
    intro e a3 W3 hp
    have done : ∀ (jump : Option Code) {I' : World → Prop}, OwnFrom w.heap.size (fun (_ : Unit) => I') → KeepsFrom w.heap.size (Wa.putObj w.heap.size (.loop { rc .ready none with state := .busy })) W3 → I' W3 →
        ∃ W4, (Instr.endRound w.heap.size jump).run Tryz.prog W3 = .ok (.bool jump.isNone) W4 ∧ Held1 I' w.heap.size (rc (if jump.isNone then .ready else .done) jump) W4 ∧ Kp W3 W4 ∧ KeepsFrom (w.heap.size + 1) W W4 := by
      intro jump I' ho kf i3
      have h3 : Held1 I' w.heap.size { rc .ready none with state := .busy } W3 := ⟨i3, kf.same _ _ (Nat.le_refl _) hhB.loop rfl⟩
      exact ⟨_, run_endRound jump h3.loop, turn _ ho h3, hKb _ _ _ h3.loop, KeepsFrom.tr (KeepsFrom.tr (KeepsFrom.tr (KeepsFrom.up kA (by omega)) (KeepsFrom.put _ _ _ (by omega))) (KeepsFrom.up kf (by omega))) (KeepsFrom.put _ _ _ (by omega))⟩
    cases e with
    | normal =>
      obtain ⟨kf, kp, i3⟩ := hp
      obtain ⟨W4, hr, h4, k4, _⟩ := done none (oI _) kf i3
      exact ⟨_, _, hr, .inl ⟨rfl, h4, hKt kpA (hKt kpB (hKt kp k4))⟩⟩
    | ret =>
      obtain ⟨kf, i3⟩ := hp
      obtain ⟨W4, hr, h4, _, k4⟩ := done (some .ret) (oX _ _) kf i3
      exact ⟨_, _, hr, .inr ⟨rfl, ⟨_, h4⟩, k4⟩⟩
    | exit id =>
      obtain ⟨kf, i3⟩ := hp
      obtain ⟨W4, hr, h4, _, k4⟩ := done (some (.exit id)) (oX _ _) kf i3
      exact ⟨_, _, hr, .inr ⟨rfl, ⟨_, h4⟩, k4⟩⟩
    | goto t =>
      obtain ⟨kf, i3⟩ := hp
      obtain ⟨W4, hr, h4, _, k4⟩ := done (some (.goto t)) (oX _ _) kf i3
      exact ⟨_, _, hr, .inr ⟨rfl, ⟨_, h4⟩, k4⟩⟩
    | panic ch => exact hp.elim
    | outgrown => exact hp.elim
  · rintro e W2 ⟨⟨v, rfl⟩, (⟨xs, hS, hh⟩ | ⟨pre, hSp, c, hh⟩)⟩
    · have h2 := turn { rc .ready none with state := .exhausted } (oI xs) hh
      exact ⟨none, _, run_endLoop hh.loop (by intro h; cases h), hdone xs _ hS h2.inv⟩
    · have h2 := turn { rc .done (some c) with state := .exhausted } (oX c pre) hh
      exact ⟨some c, _, run_endLoop hh.loop (by intro h; cases h), hstop c pre _ hSp h2.inv⟩
end

end Go.Proofs.YtjajnhemgphefaaGreatDoor
