/-
  Facts with their times: slices.Contains.
  The engine: isWithin, end, isOver; slices.DeleteFunc of facts with their times.
-/
import Derived.Test.YtjajnhemgphefaaGreatDoorJdMoB
import Derived.Test.YtjajnhemgphefaaGreatDoorJdFd6
import Derived.ChangeKeysEq
import Derived.Test.YtjajnhemgphefaaGreatDoorJdDel
namespace Go.Proofs.YtjajnhemgphefaaGreatDoor
open Go.RowKit Go.Shelf
set_option linter.unusedVariables false
set_option linter.unusedSimpArgs false

theorem eqThing (n : Nat) (b c e f : ByteArray) (w : World) : (Op.equalIn (n + 2) 109 (.agg #[.string b, .string c]) (.agg #[.string e, .string f])).run Tryz.prog w = .ok ((b.toList == e.toList) && (c.toList == f.toList)) w := by
  have u3 := Tryz.underlying9
  have a3 := Tryz.isAgg9
  have z3 := Tryz.sizeOf9
  have hU2 : Tryz.prog.underlying 109 = some (.array 2 9) := by kernel_rfl
  obtain ⟨i0, hi⟩ : ∃ i0, Tryz.prog.info? 9 = some i0 := by
    obtain ⟨i0, hi, _⟩ := info_parts Tryz.info9
    exact ⟨i0, hi⟩
  have hc : Tryz.prog.cellsOf 9 = 1 := by kernel_rfl
  rw [run_equalIn_array w (n + 1) _ _ hU2 hi, hc, show List.range 2 = [0, 1] from rfl]
  simp only [Op.eqItems]
  go_simp
  by_cases h1 : b.toList = e.toList <;> by_cases h2 : c.toList = f.toList <;> simp [h1, h2]

theorem eqGround (n : Nat) (a b c d e f : ByteArray) (w : World) : (Op.equalIn (n + 3) 111 (.agg #[.string a, .string b, .string c]) (.agg #[.string d, .string e, .string f])).run Tryz.prog w = .ok ((a.toList == d.toList) && ((b.toList == e.toList) && (c.toList == f.toList))) w := by
  have u3 := Tryz.underlying9
  have a3 := Tryz.isAgg9
  have z3 := Tryz.sizeOf9
  have aT := Tryz.isAgg109
  have zT := Tryz.sizeOf109
  have hS1 : Tryz.prog.underlying 111 = some (.struct (Tryz.prog.fieldsOf 111)) := by kernel_rfl
  have hp1 : Tryz.prog.stoodInHeld 111 = false := by kernel_rfl
  have ht := eqThing n b c e f
  rw [run_equalIn_agg w (n + 2) 111 _ _ hS1 hp1]
  simp only [Program.fieldsOf, Tryz.underlying111]
  go_simp
  by_cases h1 : a.toList = d.toList <;> by_cases h2 : b.toList = e.toList <;> by_cases h3 : c.toList = f.toList <;> simp [h1, h2, h3]

theorem eqDated (a b c d e f : ByteArray) (s t : Int) (w : World) : (binOp .eql 161 (.agg #[.string a, .string b, .string c, .int .i64 s]) (.agg #[.string d, .string e, .string f, .int .i64 t])).run Tryz.prog w = .ok (.bool (((a.toList == d.toList) && ((b.toList == e.toList) && (c.toList == f.toList))) && (s == t))) w := by
  have u4 := Tryz.underlying3
  have a4 := Tryz.isAgg3
  have z4 := Tryz.sizeOf3
  have hS : Tryz.prog.underlying 161 = some (.struct (Tryz.prog.fieldsOf 161)) := by kernel_rfl
  have hp : Tryz.prog.stoodInHeld 161 = false := by kernel_rfl
  have aG := Tryz.isAgg111
  have zG := Tryz.sizeOf111
  obtain ⟨n, hn⟩ : ∃ n, 10000 = n + 4 := ⟨9996, rfl⟩
  have hg := eqGround n a b c d e f
  rw [run_eql_struct, hn, run_equalIn_agg w (n + 3) 161 _ _ hS hp]
  simp only [Program.fieldsOf, Tryz.underlying161]
  clear hn
  go_simp
  by_cases h1 : a.toList = d.toList <;> by_cases h2 : b.toList = e.toList <;> by_cases h3 : c.toList = f.toList <;> by_cases h4 : s = t <;> simp [h1, h2, h3, h4]

/-- Two facts with their times are one. -/
def sameD (x y : Gd × Int) : Bool := ((x.1.rel.toList == y.1.rel.toList) && ((x.1.x.toList == y.1.x.toList) && (x.1.y.toList == y.1.y.toList))) && (x.2 == y.2)
def hasD (l : List (Gd × Int)) (x : Gd × Int) : Bool := l.any (sameD x)

theorem date_cell {W : World} {b : Nat} {v : Value} {l : List (Gd × Int)} (h : W.ownsRow b 161 4 v l.length (l.flatMap lastC)) {k : Nat} (hk : k < l.length) :
    ∃ (g c : Nat), v = .slice (some ⟨g, 0, none⟩) l.length c ∧ W.cell? ⟨g, k * 4, none⟩ = some (.string (l[k]).1.rel) ∧ W.cell? ⟨g, k * 4 + 1, none⟩ = some (.string (l[k]).1.x) ∧ W.cell? ⟨g, k * 4 + 2, none⟩ = some (.string (l[k]).1.y) ∧ W.cell? ⟨g, k * 4 + 3, none⟩ = some (.int .i64 (l[k]).2) ∧ g < W.heap.size := by
  obtain ⟨g, cap, hv, h1, h2, h3, hc⟩ := own_get h (fun _ => rfl) (by omega)
  exact ⟨g, cap, hv, hc k 0 hk _ (by decide) rfl, hc k 1 hk _ (by decide) rfl, hc k 2 hk _ (by decide) rfl, hc k 3 hk _ (by decide) rfl, h2⟩

set_option maxHeartbeats 1000000 in
theorem indexD_any (v : Value) (l : List (Gd × Int)) (b : Nat) (x : Gd × Int) (w : World) (hS : w.ownsRow b 161 4 v l.length (l.flatMap lastC)) (hl : l.length ≤ 1000) :
    Calls Tryz.prog 143 #[v, .agg #[.string x.1.rel, .string x.1.x, .string x.1.y, .int .i64 x.2]] w fun e w' => ∃ r : Int, e = .returned (.int .i64 r) ∧ decide (0 ≤ r) = hasD l x ∧ Below w.heap.size w w' := by
  obtain ⟨a, c, hform⟩ := owns_form hS
  have hcell : ∀ k (hk : k < l.length), ∃ g, a = some ⟨g, 0, none⟩ ∧ w.cell? ⟨g, k * 4, none⟩ = some (.string (l[k]).1.rel) ∧ w.cell? ⟨g, k * 4 + 1, none⟩ = some (.string (l[k]).1.x) ∧ w.cell? ⟨g, k * 4 + 2, none⟩ = some (.string (l[k]).1.y) ∧ w.cell? ⟨g, k * 4 + 3, none⟩ = some (.int .i64 (l[k]).2) ∧ g < w.heap.size := by
    intro k hk
    obtain ⟨g, c', h1, h2⟩ := date_cell hS hk
    rw [hform] at h1; cases h1
    exact ⟨g, rfl, h2⟩
  subst hform
  have HC : Hid _ := hcell
  clear hcell hS
  go_enter Tryz.func143, Tryz.ntmps143
  go_wp2
  go_loopw [8] (fun i wr => ∃ k q : Nat, k ≤ l.length ∧ i = .int .i64 k ∧ Hid (∀ j, (hj : j < l.length) → j < k → sameD x l[j] = false) ∧ wr = (w.alloc (.cells #[.string x.1.rel, .string x.1.x, .string x.1.y, .int .i64 x.2] 161)).drewN q) (fun i _ => l.length - (intOf i).toNat)
  case atStart => exact ⟨0, 0, Nat.zero_le _, rfl, fun j _ hj => by omega, rfl⟩
  case round =>
    obtain ⟨k, q, hk, rfl, hno, rfl⟩ := hrel
    by_cases hlt : k < l.length
    · obtain ⟨g, rfl, q0, q1, q2, q3, hg⟩ := HC.out k hlt
      have hne : g ≠ w.heap.size := by omega
      have he := fun W => eqDated x.1.rel x.1.x x.1.y (l[k]).1.rel (l[k]).1.x (l[k]).1.y x.2 (l[k]).2 W
      have i1 : (k : Int) < (l.length : Int) := by omega
      have i2 : (0 : Int) ≤ (k : Int) := by omega
      have hsame : Hid (sameD x l[k] = (((x.1.rel.toList == (l[k]).1.rel.toList) && ((x.1.x.toList == (l[k]).1.x.toList) && (x.1.y.toList == (l[k]).1.y.toList))) && (x.2 == (l[k]).2))) := rfl
      generalize htk : l[k] = tk at *
      have HTK : Hid (l[k] = tk) := htk
      clear htk
      generalize hb : (((x.1.rel.toList == tk.1.rel.toList) && ((x.1.x.toList == tk.1.x.toList) && (x.1.y.toList == tk.1.y.toList))) && (x.2 == tk.2)) = bb at *
      have HBB : Hid ((((x.1.rel.toList == tk.1.rel.toList) && ((x.1.x.toList == tk.1.x.toList) && (x.1.y.toList == tk.1.y.toList))) && (x.2 == tk.2)) = bb) := hb
      clear hb
      cases bb with
      | true =>
        go_wp2
        go_quiet (fail)
        go_wp2
        go_ret
        refine ⟨k, rfl, ?_, ?_⟩
        · have h1 : hasD l x = true := by
            unfold hasD
            rw [List.any_eq_true]
            exact ⟨l[k], List.getElem_mem hlt, by rw [HTK.out, hsame.out]⟩
          rw [h1]; simp
        · exact ⟨rfl, rfl, rfl, by show _ ≤ (w.alloc _).heap.size; simp, fun j hj => Below.heap_alloc _ _ j hj⟩
      | false =>
        go_wp2
        go_quiet (fail)
        go_wp2
        go_roundw
        case rel =>
          refine ⟨k + 1, q + nq, by omega, by go_num, ?_, rfl⟩
          intro j hj hjk
          by_cases e : j = k
          · subst e; rw [HTK.out]; exact hsame.out
          · exact hno.out j hj (by omega)
        case measure => simp [intOf]; omega
    · go_wp2
      go_ret
      refine ⟨-1, rfl, ?_, ?_⟩
      · unfold hasD; rw [any_upto _ _ (fun j hj => hno.out j hj (by omega))]; rfl
      · exact ⟨rfl, rfl, rfl, by show _ ≤ (w.alloc _).heap.size; simp, fun j hj => Below.heap_alloc _ _ j hj⟩

set_option maxHeartbeats 1000000 in
theorem containsD_any (v : Value) (l : List (Gd × Int)) (b : Nat) (x : Gd × Int) (w : World) (hS : w.ownsRow b 161 4 v l.length (l.flatMap lastC)) (hl : l.length ≤ 1000) :
    Calls Tryz.prog 82 #[v, .agg #[.string x.1.rel, .string x.1.x, .string x.1.y, .int .i64 x.2]] w fun e w' => e = .returned (.bool (hasD l x)) ∧ Below w.heap.size w w' := by
  have hb0 : ∀ O, Below w.heap.size w (w.alloc O) := fun O => (Below.refl _ w).alloc (Nat.le_refl _) _
  have hI : Hid (∀ W, Below w.heap.size w W → Calls Tryz.prog 143 #[v, .agg #[.string x.1.rel, .string x.1.x, .string x.1.y, .int .i64 x.2]] W fun e w' => ∃ i : Int, e = .returned (.int .i64 i) ∧ decide (0 ≤ i) = hasD l x ∧ Below W.heap.size W w') := fun W hb => indexD_any v l b x W (own_below hS hb) hl
  obtain ⟨xa, xc, rfl⟩ := owns_form hS
  clear hS
  go_enter Tryz.func82, Tryz.ntmps82
  go_wp2_with fail
  refine (hI.out _ (by first | exact hb0 _ | exact Below.refl _ _)).mono ?_
  rintro e w1 ⟨i, rfl, hr, hb1⟩
  have HR : Hid _ := hr
  clear hr
  go_wp2
  go_ret
  exact ⟨ret_bool (by rw [← HR.out]), by first | exact hb1 | exact (hb0 _).trans (hb1.mono (by simp))⟩

end Go.Proofs.YtjajnhemgphefaaGreatDoor

namespace Go.Proofs.YtjajnhemgphefaaGreatDoor
open Go.RowKit Go.Shelf Go.Maps
set_option linter.unusedVariables false
set_option linter.unusedSimpArgs false

theorem isWithin_any (n l m : Int) (w : World) : Calls Tryz.prog 43 #[.int .i64 n, .int .i64 l, .int .i64 m] w fun e w' => e = .returned (.bool (decide (l ≤ n) && decide (n ≤ m))) ∧ w' = w := by
  by_cases h1 : l ≤ n
  · go_enter Tryz.func43, Tryz.ntmps43
    go_wp2
    go_ret
    exact ⟨ret_bool (by simp [h1]), rfl⟩
  · go_enter Tryz.func43, Tryz.ntmps43
    go_wp2
    go_ret
    exact ⟨ret_bool (by simp; intro h; omega), rfl⟩

theorem wrap_small (x : Int) (h0 : -4611686018427387904 ≤ x) (h1 : x ≤ 4611686018427387904) : IntKind.i64.wrap x = x := by
  simp [IntKind.wrap, IntKind.bits, IntKind.signed]
  omega

set_option maxRecDepth 100000 in
theorem eend_any (be : Nat) (t win : Int) (w : World) (hc : w.cell? ⟨be, 1, none⟩ = some (.int .i64 win)) (h0 : 0 ≤ t ∧ t ≤ 1000000) (h1 : 0 ≤ win ∧ win ≤ 1000) :
    Calls Tryz.prog 87 #[.pointer (some ⟨be, 0, none⟩), .int .i64 t] w fun e w' => e = .returned (.int .i64 (t + win)) ∧ w' = w := by
  have hw : IntKind.i64.wrap (t + win) = t + win := wrap_small _ (by omega) (by omega)
  go_enter Tryz.func87, Tryz.ntmps87
  go_wp2
  go_ret
  exact ⟨rfl, rfl⟩

def overB (win mark : Int) (t : Int) : Bool := decide (t + win ≤ mark)

set_option maxRecDepth 100000 in
theorem isOver_any (be : Nat) (t win mark : Int) (w : World) (hc : w.cell? ⟨be, 1, none⟩ = some (.int .i64 win)) (hm : w.cell? ⟨be, 4, none⟩ = some (.int .i64 mark)) (h0 : 0 ≤ t ∧ t ≤ 1000000) (h1 : 0 ≤ win ∧ win ≤ 1000) :
    Calls Tryz.prog 81 #[.pointer (some ⟨be, 0, none⟩), .int .i64 t] w fun e w' => e = .returned (.bool (overB win mark t)) ∧ w' = w.drew := by
  have HE : Hid (Calls Tryz.prog 87 #[.pointer (some ⟨be, 0, none⟩), .int .i64 t] w.drew fun e w' => e = .returned (.int .i64 (t + win)) ∧ w' = w.drew) := eend_any be t win w.drew hc h0 h1
  have hm' : w.drew.cell? ⟨be, 4, none⟩ = some (.int .i64 mark) := hm
  go_enter Tryz.func81, Tryz.ntmps81
  go_wp2_with fail
  refine wp_mono (Q := fun e a' w' => match e with | Exit.normal => a' = { tmps := #[.pointer (some ⟨be, 0, none⟩), .int .i64 t, undef, undef, .bool (decide (t + win ≤ mark)), .pointer (some ⟨be, 0, none⟩), .int .i64 t, .int .i64 (t + win), .pointer (some ⟨be, 0, none⟩), .pointer (some ⟨be, 0, none⟩), .pointer (some ⟨be, 4, none⟩), .int .i64 mark, .bool (decide (t + win ≤ mark))], defers := [] } ∧ w' = w.drew | _ => False) ?reg ?rest
  case reg =>
    first | (go_region_with (go_at_call 87; refine Calls.mono HE.out ?_; rintro e w' ⟨rfl, hw'⟩; obtain rfl : w.drew = w' := hw'.symm)) | fail
    all_goals exact ⟨rfl, rfl⟩
  case rest =>
    rintro (_ | _ | _ | _ | _ | _) a' w' hq
    all_goals first | exact hq.elim | skip
    obtain ⟨rfl, rfl⟩ := hq
    go_wp2
    go_ret
    exact ⟨rfl, rfl⟩

set_option maxRecDepth 100000 in
theorem move1_any (be Bx : Nat) (d : Gd × Int) (win mark : Int) (w : World) (hx : w.cell? ⟨Bx, 0, none⟩ = some (.pointer (some ⟨be, 0, none⟩))) (hxl : Bx < w.heap.size) (hbl : be < w.heap.size) (hc : w.cell? ⟨be, 1, none⟩ = some (.int .i64 win)) (hm : w.cell? ⟨be, 4, none⟩ = some (.int .i64 mark)) (h0 : 0 ≤ d.2 ∧ d.2 ≤ 1000000) (h1 : 0 ≤ win ∧ win ≤ 1000) :
    Calls Tryz.prog 86 #[.agg #[.string d.1.rel, .string d.1.x, .string d.1.y, .int .i64 d.2], .pointer (some ⟨Bx, 0, none⟩)] w fun e w' => e = .returned (.bool (overB win mark d.2)) ∧ Below w.heap.size w w' := by
  have he : ∀ O, Calls Tryz.prog 81 #[.pointer (some ⟨be, 0, none⟩), .int .i64 d.2] (w.alloc O) fun e w' => e = .returned (.bool (overB win mark d.2)) ∧ w' = (w.alloc O).drew := fun O => isOver_any be d.2 win mark _ ((Below.cell ((Below.refl _ w).alloc (Nat.le_refl _) O) (p := ⟨be, 1, none⟩) hbl).trans hc) ((Below.cell ((Below.refl _ w).alloc (Nat.le_refl _) O) (p := ⟨be, 4, none⟩) hbl).trans hm) h0 h1
  have HE : Hid _ := he
  have hne : Bx ≠ w.heap.size := by omega
  clear he
  go_enter Tryz.func86, Tryz.ntmps86
  go_wp2_with (go_at_call 81; refine (HE.out _).mono ?_; rintro e w' ⟨rfl, rfl⟩)
  go_ret
  exact ⟨rfl, ((Below.refl _ w).alloc (Nat.le_refl _) _).drew⟩

end Go.Proofs.YtjajnhemgphefaaGreatDoor
