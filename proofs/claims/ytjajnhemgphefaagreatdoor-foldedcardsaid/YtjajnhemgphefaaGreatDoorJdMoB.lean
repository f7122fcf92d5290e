/-
  rules.Form, feeds.New.
  Package model: names put for variables: what stands for a term.
  Package model: the ground atom that an atom comes to, names put for its variables.
-/
import Derived.Test.YtjajnhemgphefaaGreatDoorJdEgF
import Derived.Test.YtjajnhemgphefaaGreatDoorJdIdxRules
namespace Go.Proofs.YtjajnhemgphefaaGreatDoor
open Go.RowKit Go.Shelf
set_option linter.unusedVariables false
set_option linter.unusedSimpArgs false

/-- The form of a relation: each argument is a variable of its own. -/
def formA (x : ByteArray) (n : Nat) : Am := ⟨x, (List.range n).map (fun k => ⟨⟨#[]⟩, k⟩)⟩

theorem formA_succ (x : ByteArray) (k : Nat) : termsC (formA x (k + 1)).args = termsC (formA x k).args ++ [.string ⟨#[]⟩, .int .i64 (k : Int)] := by
  unfold formA termsC
  simp only [List.range_succ, List.map_append, List.flatMap_append, List.map_cons, List.map_nil, List.flatMap_cons, List.flatMap_nil, List.append_nil]
  rfl
theorem formA_len (x : ByteArray) (k : Nat) : (formA x k).args.length = k := by simp [formA]

set_option maxRecDepth 100000 in
set_option maxHeartbeats 1000000 in
theorem form_any (x : ByteArray) (n : Nat) (hn : n ≤ 2) (w : World) :
    Calls Tryz.prog 55 #[.string x, .int .i64 n] w fun e w' => ∃ va, e = .returned (.agg #[.string x, va]) ∧ SealT w' w'.heap.size va (formA x n).args ∧ Below w.heap.size w w' := by
  obtain ⟨N, hN⟩ : ∃ N, w.heap.size = N := ⟨_, rfl⟩
  obtain ⟨i0, hi, hz0, hz1, hz2⟩ := info_parts Tryz.info87
  go_enter Tryz.func55, Tryz.ntmps55
  go_wp2
  refine wp_loop (fun A V => ∃ (k : Nat) (qa : Option Addr) (qc : Nat) (u6 u11 u12 u13 u14 u15 u16 u17 u18 u19 u20 u21 : Value), A = { tmps := #[.string x, .int .i64 n, undef, undef, .pointer (some ⟨N, 0, none⟩), .pointer (some ⟨N + 1, 0, none⟩), u6, .string x, .agg #[.string x, .slice none 0 0], .int .i64 n, .int .i64 k, u11, u12, u13, u14, u15, u16, u17, u18, u19, u20, u21], defers := [] } ∧ k ≤ n ∧ V.heap[N]? = some (Obj.cells #[.string ⟨#[]⟩, .slice none 0 0] 92 (0, 0)) ∧ V.heap[N + 1]? = some (Obj.cells #[.string x, .slice qa k qc] 92 (0, 0)) ∧ V.ownsRow (N + 2) 166 2 (.slice qa k qc) k (termsC (formA x k).args) ∧ Below N w V ∧ N + 2 ≤ V.heap.size) (fun A _ => n - (intOf (A.tmps.getD 10 undef)).toNat) ⟨0, none, 0, _, _, _, _, _, _, _, _, _, _, _, _, rfl, Nat.zero_le _, ?a1, ?a2, ⟨rfl, .inl ⟨rfl, rfl⟩⟩, ?a3, ?a4⟩ ?_
  case a1 =>
    have := World.alloc_heap_new w (.cells #[.string ⟨#[]⟩, .slice none 0 0] 92)
    rw [hN] at this
    exact (Below.heap_alloc _ _ _ (by simp; omega)).trans this
  case a2 =>
    have := World.alloc_heap_new (w.alloc (.cells #[.string ⟨#[]⟩, .slice none 0 0] 92)) (.cells #[.string x, .slice none 0 0] 92)
    rw [World.size_alloc, hN] at this
    exact this
  case a3 => exact ((Below.refl _ w).alloc (by omega) _).alloc (by simp; omega) _
  case a4 => simp; omega
  rintro A V ⟨k, qa, qc, u6, u11, u12, u13, u14, u15, u16, u17, u18, u19, u20, u21, rfl, hk, p0, p1, hown, hb, hsz⟩
  have c0 : V.cell? ⟨N + 1, 0, none⟩ = some (.string x) := by simp [World.cell?, p1]
  have c1 : V.cell? ⟨N + 1, 1, none⟩ = some (.slice qa k qc) := by simp [World.cell?, p1]
  have f1 : V.frozen? ⟨N + 1, 1, none⟩ = false := by simp [World.frozen?, p1]
  have z0 : V.cell? ⟨N, 0, none⟩ = some (.string ⟨#[]⟩) := by simp [World.cell?, p0]
  have z1 : V.cell? ⟨N, 1, none⟩ = some (.slice none 0 0) := by simp [World.cell?, p0]
  have y0 : V.frozen? ⟨N, 0, none⟩ = false := by simp [World.frozen?, p0]
  have y1 : V.frozen? ⟨N, 1, none⟩ = false := by simp [World.frozen?, p0]
  by_cases hlt : k < n
  · have i1 : (k : Int) < (n : Int) := by omega
    have hb1' : k + 1 ≤ maxLen := by unfold maxLen; omega
    have hb2' : (k + 1) * 24 ≤ 140737488355328 := by omega
    have hVW : Hid (∀ w1 r, (V.alloc r).grownBy w1 (Value.slice qa k qc).ownBlock → w1.heap[N + 1]? = some (Obj.cells #[.string x, .slice qa k qc] 92 (0, 0)) ∧ w1.heap[N]? = some (Obj.cells #[.string ⟨#[]⟩, .slice none 0 0] 92 (0, 0)) ∧ Below N w w1 ∧ N + 2 ≤ w1.heap.size) := by
      intro w1 r hg
      have hc : Chg V w1 (fun j => some j = (Value.slice qa k qc).ownBlock) := ((Chg.refl V _).alloc r).grown hg (fun k e _ => e.symm)
      refine ⟨(hc.block _ (by omega) (fun e => owns_ne hown p1 (by decide) _ e.symm rfl)).trans p1, (hc.block _ (by omega) (fun e => owns_ne hown p0 (by decide) _ e.symm rfl)).trans p0, hb.trans (hc.below (by omega) (fun j e => by have := (owns_block hown e.symm).1; omega)), by have := hc.size; omega⟩
    go_wp2_with (at_builtin; refine wpList_append_own _ rfl (.tmp 14) (.tmp 17) 90 rfl (N + 2) 166 i0 (.agg #[.string ⟨#[]⟩, .int .i64 0]) 2 24 Tryz.underlying90 hi hz0 hz1 hz2 rfl (by decide) _ _ _ rfl (World.ownsRow.alloc hown _) ⟨V.heap.size, 0, none⟩ 1 1 [.string ⟨#[]⟩, .int .i64 k] rfl rfl (cell_two_new _ _ _ _) (by simp [Value.oneCell']) hb1' hb2' (by simp; omega) ?_; intro v' w1 hown1 hgrow1 _; obtain ⟨g', cap', hv'⟩ := ownsRow_succ hown1; subst hv'; obtain ⟨e1, e0, eb, es⟩ := hVW.out w1 _ hgrow1; have d1 : w1.cell? ⟨N + 1, 1, none⟩ = some (.slice qa k qc) := (by simp [World.cell?, e1]); have g1 : w1.frozen? ⟨N + 1, 1, none⟩ = false := (by simp [World.frozen?, e1]))
    refine ⟨⟨k + 1, some ⟨g', 0, none⟩, cap', _, _, _, _, _, _, _, _, _, _, _, _, rfl, by omega, ?_, ?_, ?_, ?_, ?_⟩, ?_⟩
    · exact (Below.heap_setCell _ _ _ _ (by show N ≠ N + 1; omega)).trans e0
    · exact heap_set e1 1 _
    · have := owns_set hown1 ⟨N + 1, 1, none⟩ (.slice (some ⟨g', 0, none⟩) (k + 1) cap') (fun g hg e => by
        obtain ⟨_, c, hc⟩ := owns_block hown1 hg
        rw [e] at hc
        have e1' : w1.heap[N + 1]? = _ := e1
        rw [show (⟨N + 1, 1, none⟩ : Addr).block = N + 1 from rfl, e1'] at hc; cases hc)
      rw [formA_succ]; exact this
    · exact eb.setCell (p := ⟨N + 1, 1, none⟩) (by show N ≤ N + 1; omega) _
    · simp; omega
    · simp [intOf]; omega
  · have i1 : ¬ (k : Int) < (n : Int) := by omega
    have hkn : k = n := by omega
    subst hkn
    have hne : N ≠ N + 1 := by omega
    go_wp2
    refine bodyPost_ret (v := .agg #[.string x, .slice qa k qc]) (by simp [results, Tryz.results55, go_sem, z0, z1]) rfl ?_
    refine ⟨_, rfl, ?_, by first | exact putAm_below hb _ _ | (rw [hN]; exact putAm_below hb _ _)⟩
    have h1 := SealT.ofOwns (l := (formA x k).args) (by rw [formA_len]; exact hown)
    show SealT (putAm V N x (.slice qa k qc)) (putAm V N x (.slice qa k qc)).heap.size _ _
    rw [putAm_size]
    refine h1.kept (fun j c _ hc => (putAm_other _ _ _ _ (fun e => ?_)).trans hc)
    rw [e, p0] at hc; cases hc

end Go.Proofs.YtjajnhemgphefaaGreatDoor

namespace Go.Proofs.YtjajnhemgphefaaGreatDoor
open Go.RowKit Go.Shelf
set_option linter.unusedVariables false
set_option linter.unusedSimpArgs false

/-- Names for six variables, by their numbers; empty: none yet. -/
structure Nms where
  a0 : ByteArray
  a1 : ByteArray
  a2 : ByteArray
  a3 : ByteArray
  a4 : ByteArray
  a5 : ByteArray
def Nms.get (n : Nms) : Nat → ByteArray
  | 0 => n.a0
  | 1 => n.a1
  | 2 => n.a2
  | 3 => n.a3
  | 4 => n.a4
  | 5 => n.a5
  | _ => ⟨#[]⟩
def Nms.c (n : Nms) : Array Value := #[.string n.a0, .string n.a1, .string n.a2, .string n.a3, .string n.a4, .string n.a5]
def Nms.v (n : Nms) : Value := .agg n.c
def ofT (n : Nms) (t : Tm) : ByteArray := if t.name.toList.isEmpty = true then n.get t.num else t.name

theorem Nms.cell (n : Nms) (k : Nat) (h : k < 6) : n.c[k]? = some (.string (n.get k)) := by
  have hc : k = 0 ∨ k = 1 ∨ k = 2 ∨ k = 3 ∨ k = 4 ∨ k = 5 := by omega
  rcases hc with rfl | rfl | rfl | rfl | rfl | rfl <;> rfl

set_option maxHeartbeats 2000000 in
theorem of_any (n : Nms) (t : Tm) (ht : t.num < 6) (w : World) :
    Calls Tryz.prog 151 #[n.v, .agg #[.string t.name, .int .i64 t.num]] w fun e w' => e = .returned (.string (ofT n t)) ∧ Below w.heap.size w w' := by
  have hiv : Hid (∀ W, Calls Tryz.prog 139 #[.agg #[.string t.name, .int .i64 t.num]] W fun e w' => e = .returned (.bool t.name.toList.isEmpty) ∧ Below W.heap.size W w') := fun W => isVariable_any t W
  have hA : Hid (∀ W1, Below ((w.alloc (.cells n.c 176)).alloc (.cells #[.string t.name, .int .i64 t.num] 166)).heap.size ((w.alloc (.cells n.c 176)).alloc (.cells #[.string t.name, .int .i64 t.num] 166)) W1 →
      W1.cell? ⟨w.heap.size, t.num, none⟩ = some (.string (n.get t.num)) ∧ W1.cell? ⟨w.heap.size + 1, 0, none⟩ = some (.string t.name) ∧ W1.cell? ⟨w.heap.size + 1, 1, none⟩ = some (.int .i64 t.num) ∧ Below w.heap.size w W1) := by
    intro W1 hb
    refine ⟨?_, ?_, ?_, (((Below.refl _ w).alloc (Nat.le_refl _) _).alloc (by simp) _).trans (hb.mono (by simp; omega))⟩
    · rw [hb.cell (p := ⟨w.heap.size, t.num, none⟩) (by simp; omega)]
      have hh : ((w.alloc (.cells n.c 176)).alloc (.cells #[.string t.name, .int .i64 t.num] 166)).heap[w.heap.size]? = some (Obj.cells n.c 176 (0, 0)) := (Below.heap_alloc _ _ _ (by simp)).trans (World.alloc_heap_new w _)
      simp only [World.cell?, hh]
      simpa using n.cell _ ht
    · rw [hb.cell (p := ⟨w.heap.size + 1, 0, none⟩) (by simp)]; simp
    · rw [hb.cell (p := ⟨w.heap.size + 1, 1, none⟩) (by simp)]; simp
  have hof : Hid (ofT n t = if t.name.toList.isEmpty = true then n.get t.num else t.name) := rfl
  unfold Nms.c at hA
  unfold Nms.v Nms.c
  have i1 : (t.num : Int) < 6 := by omega
  generalize ofT n t = res at *
  generalize n.get t.num = gt at *
  generalize t.num = tn at *
  generalize htv : t.name.toList.isEmpty = tv at *
  clear htv
  generalize t.name = tx at *
  cases tv with
  | false =>
    go_enter Tryz.func151, Tryz.ntmps151
    go_wp2_with (go_at_call 139; refine (hiv.out _).mono ?_; rintro e W1 ⟨rfl, hb1⟩; obtain ⟨k1, k2, k3, k4⟩ := hA.out _ hb1)
    go_ret
    exact ⟨by rw [hof.out]; rfl, k4⟩
  | true =>
    go_enter Tryz.func151, Tryz.ntmps151
    go_wp2_with (go_at_call 139; refine (hiv.out _).mono ?_; rintro e W1 ⟨rfl, hb1⟩; obtain ⟨k1, k2, k3, k4⟩ := hA.out _ hb1)
    go_ret
    exact ⟨by rw [hof.out]; rfl, k4⟩

end Go.Proofs.YtjajnhemgphefaaGreatDoor

namespace Go.Proofs.YtjajnhemgphefaaGreatDoor
open Go.RowKit Go.Shelf
set_option linter.unusedVariables false
set_option linter.unusedSimpArgs false

/-- A ground atom: a relation, and the names; the second is empty where there is one alone. -/
structure Gd where
  rel : ByteArray
  x : ByteArray
  y : ByteArray
def Gd.c (g : Gd) : Array Value := #[.string g.rel, .string g.x, .string g.y]
def Gd.v (g : Gd) : Value := .agg g.c
def xOf (n : Nms) (l : List Tm) : ByteArray := match l with | [] => ⟨#[]⟩ | t :: _ => ofT n t
def yOf (n : Nms) (l : List Tm) : ByteArray := match l with | _ :: t :: _ => ofT n t | _ => ⟨#[]⟩
def groundA (n : Nms) (a : Am) : Gd := ⟨a.rel, xOf n a.args, yOf n a.args⟩

theorem xy_step0 (n : Nms) (l : List Tm) (h : 0 < l.length) : xOf n (l.take (0 + 1)) = ofT n l[0] ∧ yOf n (l.take (0 + 1)) = ⟨#[]⟩ ∧ xOf n (l.take 0) = ⟨#[]⟩ ∧ yOf n (l.take 0) = ⟨#[]⟩ := by
  cases l with
  | nil => simp at h
  | cons t l => simp [xOf, yOf]
theorem xy_step1 (n : Nms) (l : List Tm) (h : 1 < l.length) : xOf n (l.take (1 + 1)) = xOf n (l.take 1) ∧ yOf n (l.take (1 + 1)) = ofT n l[1] ∧ yOf n (l.take 1) = ⟨#[]⟩ := by
  match l, h with
  | t :: u :: l, h => simp [xOf, yOf]

set_option maxHeartbeats 2000000 in
theorem ground_any (n : Nms) (a : Am) (va : Value) (b : Nat) (w : World) (hS : SealT w b va a.args) (hl : a.args.length ≤ 2) (hn : ∀ t ∈ a.args, t.num < 6) :
    Calls Tryz.prog 89 #[n.v, .agg #[.string a.rel, va]] w fun e w' => e = .returned (groundA n a).v ∧ Below w.heap.size w w' := by
  obtain ⟨ta, tc, htf⟩ := hS.form
  have hcell : ∀ k (hk : k < a.args.length), ∃ g, ta = some ⟨g, 0, none⟩ ∧ w.cell? ⟨g, k * 2, none⟩ = some (.string (a.args[k]).name) ∧ w.cell? ⟨g, k * 2 + 1, none⟩ = some (.int .i64 (a.args[k]).num) ∧ g < w.heap.size := by
    intro k hk
    obtain ⟨g, c', h1, h2, h3, h4⟩ := seal_cell hS hk
    rw [htf] at h1; cases h1
    exact ⟨g, rfl, h2, h3, h4⟩
  subst htf
  have hof : Hid (∀ k (hk : k < a.args.length) W, Calls Tryz.prog 151 #[n.v, .agg #[.string (a.args[k]).name, .int .i64 (a.args[k]).num]] W fun e w' => e = .returned (.string (ofT n a.args[k])) ∧ Below W.heap.size W w') := fun k hk W => of_any n a.args[k] (hn _ (List.getElem_mem hk)) W
  have HC : Hid _ := hcell
  clear hcell hS hn
  unfold Nms.v Nms.c at hof ⊢
  unfold Gd.v Gd.c
  go_enter Tryz.func89, Tryz.ntmps89
  go_wp2
  obtain ⟨N, hN⟩ : ∃ N, w.heap.size = N := ⟨_, rfl⟩
  simp only [hN]
  obtain ⟨W0, hW0⟩ : ∃ W0, ((((w.alloc (.cells n.c 176)).alloc (.cells #[.string a.rel, .slice ta a.args.length tc] 92)).alloc (.cells #[.string ⟨#[]⟩, .string ⟨#[]⟩, .string ⟨#[]⟩] 111)).alloc (.cells #[.string a.rel, .string ⟨#[]⟩, .string ⟨#[]⟩] 111)) = W0 := ⟨_, rfl⟩
  have hsz : W0.heap.size = N + 4 := by rw [← hW0, ← hN]; simp
  have hB0 : Below N w W0 := by
    rw [← hW0, ← hN]
    exact ((((Below.refl _ w).alloc (Nat.le_refl _) _).alloc (by simp) _).alloc (by simp; omega) _).alloc (by simp; omega) _
  have b0 : W0.heap[N]? = some (Obj.cells n.c 176 (0, 0)) := by
    rw [← hW0, ← hN]
    exact (Below.heap_alloc _ _ _ (by simp; omega)).trans ((Below.heap_alloc _ _ _ (by simp; omega)).trans ((Below.heap_alloc _ _ _ (by simp)).trans (World.alloc_heap_new w _)))
  have b2 : W0.heap[N + 1 + 1]? = some (Obj.cells #[.string ⟨#[]⟩, .string ⟨#[]⟩, .string ⟨#[]⟩] 111 (0, 0)) := by
    rw [← hW0, ← hN]
    refine (Below.heap_alloc _ _ _ (by simp)).trans ?_
    have := World.alloc_heap_new ((w.alloc (.cells n.c 176)).alloc (.cells #[.string a.rel, .slice ta a.args.length tc] 92)) (.cells #[.string ⟨#[]⟩, .string ⟨#[]⟩, .string ⟨#[]⟩] 111)
    simpa using this
  have b3 : W0.heap[N + 1 + 1 + 1]? = some (Obj.cells #[.string a.rel, .string ⟨#[]⟩, .string ⟨#[]⟩] 111 (0, 0)) := by
    rw [← hW0, ← hN]
    have := World.alloc_heap_new (((w.alloc (.cells n.c 176)).alloc (.cells #[.string a.rel, .slice ta a.args.length tc] 92)).alloc (.cells #[.string ⟨#[]⟩, .string ⟨#[]⟩, .string ⟨#[]⟩] 111)) (.cells #[.string a.rel, .string ⟨#[]⟩, .string ⟨#[]⟩] 111)
    simpa using this
  unfold Nms.c at hW0 b0
  rw [hW0]
  clear hW0
  go_loopw [14] (fun i wr => ∃ k : Nat, k ≤ a.args.length ∧ i = .int .i64 k ∧ N + 4 ≤ wr.heap.size ∧ wr.heap[N]? = some (Obj.cells #[.string n.a0, .string n.a1, .string n.a2, .string n.a3, .string n.a4, .string n.a5] 176 (0, 0)) ∧ wr.heap[N + 1 + 1]? = some (Obj.cells #[.string ⟨#[]⟩, .string ⟨#[]⟩, .string ⟨#[]⟩] 111 (0, 0)) ∧ wr.heap[N + 1 + 1 + 1]? = some (Obj.cells #[.string a.rel, .string (xOf n (a.args.take k)), .string (yOf n (a.args.take k))] 111 (0, 0)) ∧ Below N w wr) (fun i _ => a.args.length - (intOf i).toNat)
  case atStart => exact ⟨0, Nat.zero_le _, rfl, by omega, b0, b2, b3, hB0⟩
  case round =>
    obtain ⟨k, hk, rfl, hs4, h0, h2, h3, hB⟩ := hrel
    by_cases hlt : k < a.args.length
    · obtain ⟨g, rfl, q0, q1, hg⟩ := HC.out k hlt
      have q0' := (hB.cell (p := ⟨g, k * 2, none⟩) (by rw [← hN]; exact hg)).trans q0
      have q1' := (hB.cell (p := ⟨g, k * 2 + 1, none⟩) (by rw [← hN]; exact hg)).trans q1
      have hcall := hof.out k hlt
      have i1 : (k : Int) < (a.args.length : Int) := by omega
      have hkk : k = 0 ∨ k = 1 := by omega
      have n0 : ∀ O, (wr.alloc O).cell? ⟨N, 0, none⟩ = some (.string n.a0) := fun O => cell_later ((Below.refl wr.heap.size wr).alloc (Nat.le_refl _) O) (by simp [World.cell?, h0])
      have n1 : ∀ O, (wr.alloc O).cell? ⟨N, 1, none⟩ = some (.string n.a1) := fun O => cell_later ((Below.refl wr.heap.size wr).alloc (Nat.le_refl _) O) (by simp [World.cell?, h0])
      have n2 : ∀ O, (wr.alloc O).cell? ⟨N, 2, none⟩ = some (.string n.a2) := fun O => cell_later ((Below.refl wr.heap.size wr).alloc (Nat.le_refl _) O) (by simp [World.cell?, h0])
      have n3 : ∀ O, (wr.alloc O).cell? ⟨N, 3, none⟩ = some (.string n.a3) := fun O => cell_later ((Below.refl wr.heap.size wr).alloc (Nat.le_refl _) O) (by simp [World.cell?, h0])
      have n4 : ∀ O, (wr.alloc O).cell? ⟨N, 4, none⟩ = some (.string n.a4) := fun O => cell_later ((Below.refl wr.heap.size wr).alloc (Nat.le_refl _) O) (by simp [World.cell?, h0])
      have n5 : ∀ O, (wr.alloc O).cell? ⟨N, 5, none⟩ = some (.string n.a5) := fun O => cell_later ((Below.refl wr.heap.size wr).alloc (Nat.le_refl _) O) (by simp [World.cell?, h0])
      have ne : N ≠ wr.heap.size := by omega
      have hst : Hid (∀ O W1, Below (wr.alloc O).heap.size (wr.alloc O) W1 → N + 4 ≤ W1.heap.size ∧ W1.heap[N]? = some (Obj.cells #[.string n.a0, .string n.a1, .string n.a2, .string n.a3, .string n.a4, .string n.a5] 176 (0, 0)) ∧ W1.heap[N + 1 + 1]? = some (Obj.cells #[.string ⟨#[]⟩, .string ⟨#[]⟩, .string ⟨#[]⟩] 111 (0, 0)) ∧ W1.heap[N + 1 + 1 + 1]? = some (Obj.cells #[.string a.rel, .string (xOf n (a.args.take k)), .string (yOf n (a.args.take k))] 111 (0, 0)) ∧ Below N w W1) := by
        intro O W1 hb
        have hb0 : Below wr.heap.size wr W1 := ((Below.refl _ wr).alloc (Nat.le_refl _) O).trans (hb.mono (by simp))
        have hz := hb0.size
        exact ⟨by omega, (hb0.block _ (by omega)).trans h0, (hb0.block _ (by omega)).trans h2, (hb0.block _ (by omega)).trans h3, hB.trans (hb0.mono (by omega))⟩
      clear q0 q1 h0 h2 h3 hB
      rcases hkk with rfl | rfl
      · have hx : Hid _ := xy_step0 n a.args hlt
        generalize a.args[0] = tk at *
        go_wp2_with (go_at_call 151; refine (hcall _).mono ?_; rintro e W1 ⟨rfl, hb1⟩; obtain ⟨r1, r2, r3, r4, r5⟩ := hst.out _ _ hb1; have f1 : W1.frozen? ⟨N + 1 + 1 + 1, 1, none⟩ = false := (by simp [World.frozen?, r4]); have d1 : W1.cell? ⟨N + 1 + 1 + 1, 1, none⟩ = some (.string (xOf n (a.args.take 0))) := (by simp [World.cell?, r4]))
        go_roundw
        case rel =>
          refine ⟨0 + 1, by omega, by go_num, ?_, ?_, ?_, ?_, ?_⟩
          · simpa using r1
          · exact (Below.heap_setCell _ _ _ _ (by show N ≠ N + 1 + 1 + 1; omega)).trans r2
          · exact (Below.heap_setCell _ _ _ _ (by show N + 1 + 1 ≠ N + 1 + 1 + 1; omega)).trans r3
          · have := heap_set r4 1 (.string (ofT n tk))
            rw [hx.out.1, hx.out.2.1]
            rw [hx.out.2.2.1, hx.out.2.2.2] at this
            exact this
          · exact r5.setCell (p := ⟨N + 1 + 1 + 1, 1, none⟩) (by simp; omega) _
        case measure => simp [intOf]; omega
      · have hx : Hid _ := xy_step1 n a.args hlt
        generalize a.args[1] = tk at *
        go_wp2_with (go_at_call 151; refine (hcall _).mono ?_; rintro e W1 ⟨rfl, hb1⟩; obtain ⟨r1, r2, r3, r4, r5⟩ := hst.out _ _ hb1; have f1 : W1.frozen? ⟨N + 1 + 1 + 1, 2, none⟩ = false := (by simp [World.frozen?, r4]); have d1 : W1.cell? ⟨N + 1 + 1 + 1, 2, none⟩ = some (.string (yOf n (a.args.take 1))) := (by simp [World.cell?, r4]))
        go_roundw
        case rel =>
          refine ⟨1 + 1, by omega, by go_num, ?_, ?_, ?_, ?_, ?_⟩
          · simpa using r1
          · exact (Below.heap_setCell _ _ _ _ (by show N ≠ N + 1 + 1 + 1; omega)).trans r2
          · exact (Below.heap_setCell _ _ _ _ (by show N + 1 + 1 ≠ N + 1 + 1 + 1; omega)).trans r3
          · have := heap_set r4 2 (.string (ofT n tk))
            rw [hx.out.1, hx.out.2.1]
            exact this
          · exact r5.setCell (p := ⟨N + 1 + 1 + 1, 2, none⟩) (by simp; omega) _
        case measure => simp [intOf]; omega
    · have hka : k = a.args.length := by omega
      have d0 : wr.cell? ⟨N + 1 + 1 + 1, 0, none⟩ = some (.string a.rel) := by simp [World.cell?, h3]
      have d1 : wr.cell? ⟨N + 1 + 1 + 1, 1, none⟩ = some (.string (xOf n (a.args.take k))) := by simp [World.cell?, h3]
      have d2 : wr.cell? ⟨N + 1 + 1 + 1, 2, none⟩ = some (.string (yOf n (a.args.take k))) := by simp [World.cell?, h3]
      have e0 : wr.cell? ⟨N + 1 + 1, 0, none⟩ = some (.string ⟨#[]⟩) := by simp [World.cell?, h2]
      have e1 : wr.cell? ⟨N + 1 + 1, 1, none⟩ = some (.string ⟨#[]⟩) := by simp [World.cell?, h2]
      have e2 : wr.cell? ⟨N + 1 + 1, 2, none⟩ = some (.string ⟨#[]⟩) := by simp [World.cell?, h2]
      have g0 : wr.frozen? ⟨N + 1 + 1, 0, none⟩ = false := by simp [World.frozen?, h2]
      have g1 : wr.frozen? ⟨N + 1 + 1, 1, none⟩ = false := by simp [World.frozen?, h2]
      have g2 : wr.frozen? ⟨N + 1 + 1, 2, none⟩ = false := by simp [World.frozen?, h2]
      have hres : Hid (groundA n a = ⟨a.rel, xOf n (a.args.take k), yOf n (a.args.take k)⟩) := by show _ = _; rw [hka, List.take_length]; rfl
      generalize xOf n (a.args.take k) = gx at *
      generalize yOf n (a.args.take k) = gy at *
      clear h0 h2 h3
      go_wp2
      refine bodyPost_ret (v := .agg #[.string a.rel, .string gx, .string gy]) (by simp [results, Tryz.results89, go_sem, e0, e1, e2]) rfl ?_
      rw [hres.out, hN]
      exact ⟨rfl, ((hB.setCell (p := ⟨N + 1 + 1, 0, none⟩) (by simp; omega) _).setCell (p := ⟨N + 1 + 1, 1, none⟩) (by simp; omega) _).setCell (p := ⟨N + 1 + 1, 2, none⟩) (by simp; omega) _⟩

end Go.Proofs.YtjajnhemgphefaaGreatDoor
