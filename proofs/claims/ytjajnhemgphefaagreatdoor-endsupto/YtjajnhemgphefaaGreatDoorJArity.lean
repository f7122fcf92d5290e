/-
  rules: IsGround, IsDerived; ebb.readGround.
  rules.findManyNames: the first rule up to which there are too many names, or -1.
  rules.findArity: the first rule with an atom of another number of arguments than one ahead of it, or -1.
-/
import Derived.Test.YtjajnhemgphefaaGreatDoorJRangeN
import Derived.Test.YtjajnhemgphefaaGreatDoorJIdxRules
import Derived.Maps.OwnIn
import Derived.Maps.OwnSet
namespace Go.Proofs.YtjajnhemgphefaaGreatDoor
open Go.RowKit Go.Shelf
set_option linter.unusedVariables false
set_option linter.unusedSimpArgs false

/-- A variable. -/
def varB (t : Tm) : Bool := t.name.toList.isEmpty

set_option maxHeartbeats 1000000 in
theorem idxVar_any (l : List Tm) (v0 : Value) (b : Nat) (w : World) (hv : SealT w b v0 l) (hl : l.length ≤ 1000) :
    Calls Tryz.prog 192 #[v0, .func (.func 139) #[] #[]] w fun e w' => ∃ i : Int, e = .returned (.int .i64 i) ∧ decide (0 ≤ i) = l.any varB ∧ Below w.heap.size w w' := by
  obtain ⟨a, c, hform⟩ := hv.form
  have hcell : ∀ k (hk : k < l.length), ∃ g, a = some ⟨g, 0, none⟩ ∧ w.cell? ⟨g, k * 2, none⟩ = some (.string (l[k]).name) ∧ w.cell? ⟨g, k * 2 + 1, none⟩ = some (.int .i64 (l[k]).num) ∧ g < w.heap.size := by
    intro k hk
    obtain ⟨g, c', h1, h2, h3, h4⟩ := seal_cell hv hk
    rw [hform] at h1; cases h1
    exact ⟨g, rfl, h2, h3, h4⟩
  subst hform
  have HC : Hid _ := hcell
  have HF : Hid (∀ wr, ∀ t : Tm, Calls Tryz.prog 139 #[.agg #[.string t.name, .int .i64 t.num]] wr fun e w' => e = .returned (.bool (varB t)) ∧ Below wr.heap.size wr w') := fun wr t => isVariable_any t wr
  clear hcell hv
  go_enter Tryz.func192, Tryz.ntmps192
  go_wp2
  go_loopw [8] (fun i wr => ∃ k : Nat, k ≤ l.length ∧ i = .int .i64 k ∧ Hid (∀ j, (hj : j < l.length) → j < k → varB l[j] = false) ∧ Below w.heap.size w wr) (fun i _ => l.length - (intOf i).toNat)
  case atStart => exact ⟨0, Nat.zero_le _, rfl, fun j _ hj => by omega, Below.refl _ _⟩
  case round =>
    obtain ⟨k, hk, rfl, hno, hb⟩ := hrel
    by_cases hlt : k < l.length
    · obtain ⟨g, rfl, q0, q1, hg⟩ := HC.out k hlt
      have q0' := (hb.cell (p := ⟨g, k * 2, none⟩) hg).trans q0
      have q1' := (hb.cell (p := ⟨g, k * 2 + 1, none⟩) hg).trans q1
      have hcall := HF.out wr l[k]
      have i1 : (k : Int) < (l.length : Int) := by omega
      generalize hbb : varB l[k] = bb at *
      have HBB : Hid (varB l[k] = bb) := hbb
      clear hbb q0 q1
      generalize (l[k]).name = tx at *
      generalize (l[k]).num = tv at *
      cases bb with
      | true =>
        go_wp2_with fail
        refine hcall.mono ?_
        rintro e w1 ⟨rfl, hb1⟩
        go_wp2
        go_ret
        refine ⟨k, rfl, ?_, hb.trans (hb1.mono hb.size)⟩
        have h1 : l.any varB = true := by
          rw [List.any_eq_true]; exact ⟨l[k], List.getElem_mem hlt, HBB.out⟩
        rw [h1]; simp
      | false =>
        go_wp2_with fail
        refine hcall.mono ?_
        rintro e w1 ⟨rfl, hb1⟩
        go_wp2
        go_roundw
        case rel =>
          refine ⟨k + 1, by omega, by go_num, ?_, hb.trans (hb1.mono hb.size)⟩
          intro j hj hjk
          by_cases e : j = k
          · subst e; exact HBB.out
          · exact hno.out j hj (by omega)
        case measure => simp [intOf]; omega
    · go_wp2
      go_ret
      refine ⟨-1, rfl, ?_, hb⟩
      rw [any_upto _ _ (fun j hj => hno.out j hj (by omega))]; rfl

/-- An atom without variables. -/
def groundB (a : Am) : Bool := !a.args.any varB

set_option maxHeartbeats 400000 in
theorem isGround_any (a : Am) (v0 : Value) (b : Nat) (w : World) (hv : SealT w b v0 a.args) (hl : a.args.length ≤ 1000) :
    Calls Tryz.prog 78 #[.agg #[.string a.rel, v0]] w fun e w' => e = .returned (.bool (groundB a)) ∧ Below w.heap.size w w' := by
  have hI : Hid (∀ W, Below w.heap.size w W → Calls Tryz.prog 192 #[v0, .func (.func 139) #[] #[]] W fun e w' => ∃ i : Int, e = .returned (.int .i64 i) ∧ decide (0 ≤ i) = a.args.any varB ∧ Below W.heap.size W w') := fun W hb => idxVar_any a.args v0 b W (hv.rk (RuleKept.ofBelow hb)) hl
  obtain ⟨xa, xc, rfl⟩ := hv.form
  have HC : Hid (∀ W, Below w.heap.size w W → Calls Tryz.prog 142 #[.slice xa a.args.length xc, .func (.func 139) #[] #[]] W fun e w' => e = .returned (.bool (a.args.any varB)) ∧ Below W.heap.size W w') := by
    intro W hb
    have h1 := hI.out W hb
    have H1 : Hid _ := h1
    clear h1 hI hv
    go_enter Tryz.func142, Tryz.ntmps142
    go_wp2_with fail
    refine Calls.mono H1.out ?_
    rintro e w1 ⟨i, rfl, hr, hb1⟩
    have HR : Hid _ := hr
    clear hr
    go_wp2
    go_ret
    exact ⟨ret_bool (by rw [← HR.out]), hb1⟩
  have hgb : Hid (groundB a = !a.args.any varB) := rfl
  clear hI hv
  generalize groundB a = gb at *
  generalize a.args.any varB = ab at *
  go_enter Tryz.func78, Tryz.ntmps78
  go_wp2_with (go_at_call 142; refine (HC.out _ ((Below.refl _ w).alloc (Nat.le_refl _) _)).mono ?_; rintro e w1 ⟨rfl, hb1⟩)
  go_ret
  exact ⟨ret_bool (by rw [hgb.out]), ((Below.refl _ w).alloc (Nat.le_refl _) _).trans (hb1.mono (by simp))⟩

/-- What readGround answers. -/
def GroundPost (s : ByteArray) (w : World) (e : Ending) (w' : World) : Prop :=
  Below w.heap.size w w' ∧ match atomR s with
    | none => e = .returned (.tuple #[.agg #[.string ⟨#[]⟩, .slice none 0 0], .bool false])
    | some a => ∃ va, e = .returned (.tuple #[.agg #[.string a.rel, va], .bool (groundB a)]) ∧ AmOk a ∧ SealT w' w'.heap.size va a.args

set_option maxRecDepth 100000 in
set_option maxHeartbeats 1000000 in
theorem readGround_any (s : ByteArray) (w : World) (hs : s.size ≤ 4611686018427387904) (hT : Lib.Utf8Tabs 0 1 w) :
    Calls Tryz.prog 40 #[.string s] w (GroundPost s w) := by
  obtain ⟨N, hN⟩ : ∃ N, w.heap.size = N := ⟨_, rfl⟩
  have hr : Hid (∀ W, Below w.heap.size w W → Calls Tryz.prog 49 #[.string s] W (AtomPost s W)) := fun W hb => readAtom_any s W hs (Utf8Tabs_below hT hb)
  obtain ⟨WA, hWA⟩ : ∃ WA, w.alloc (.cells #[.string ⟨#[]⟩, .slice none 0 0] 92) = WA := ⟨_, rfl⟩
  have hsA : WA.heap.size = N + 1 := by rw [← hWA, ← hN]; simp
  have hbw : Below N w WA := by rw [← hWA]; exact (Below.refl _ w).alloc (by omega) _
  have hrA := hr.out WA (by rw [hN]; exact hbw)
  have hbox : Hid (∀ W1, Below (N + 1) WA W1 → W1.heap[N]? = some (Obj.cells #[.string ⟨#[]⟩, .slice none 0 0] 92 (0, 0))) := fun W1 hb => amBox hN (by rw [hWA]; exact hb)
  have hfin : Hid (∀ W1 x v, Below (N + 1) WA W1 → Below w.heap.size w (putAm W1 N x v)) := fun W1 x v hb => by rw [hN]; exact putAm_below (hbw.trans (hb.mono (by omega))) _ _
  unfold AtomPost at hrA
  rw [hsA] at hrA
  have HG : Hid (∀ P, GroundPost s w P = GroundPost s w P) := fun _ => rfl
  clear hr hT hbw HG
  have HS : Hid (WA.heap.size = N + 1) := hsA
  clear hsA
  cases ha : atomR s with
  | none =>
    rw [ha] at hrA
    have HA : Hid (atomR s = none) := ha
    have HR : Hid _ := hrA
    clear ha hrA
    go_enter Tryz.func40, Tryz.ntmps40
    go_wp2_with fail
    refine Calls.mono HR.out ?_
    rintro e W1 ⟨hb1, rfl⟩
    have p1 := hbox.out W1 hb1
    have q0 : W1.cell? ⟨N, 0, none⟩ = some (.string ⟨#[]⟩) := (by simp [World.cell?, p1])
    have y0 : W1.frozen? ⟨N, 0, none⟩ = false := (by simp [World.frozen?, p1])
    have q1 : W1.cell? ⟨N, 1, none⟩ = some (.slice none 0 0) := (by simp [World.cell?, p1])
    have y1 : W1.frozen? ⟨N, 1, none⟩ = false := (by simp [World.frozen?, p1])
    have q0' : ∀ O, (W1.alloc O).cell? ⟨N, 0, none⟩ = some (.string ⟨#[]⟩) := fun O => (Below.cell ((Below.refl _ W1).alloc (Nat.le_refl _) O) (p := ⟨N, 0, none⟩) (Array.getElem?_eq_some_iff.1 p1).1).trans q0
    have q1' : ∀ O, (W1.alloc O).cell? ⟨N, 1, none⟩ = some (.slice none 0 0) := fun O => (Below.cell ((Below.refl _ W1).alloc (Nat.le_refl _) O) (p := ⟨N, 1, none⟩) (Array.getElem?_eq_some_iff.1 p1).1).trans q1
    have p1' : ∀ O, (W1.alloc O).heap[N]? = _ := fun O => (Below.heap_alloc W1 O N (Array.getElem?_eq_some_iff.1 p1).1).trans p1
    have y0' : ∀ O, (W1.alloc O).frozen? ⟨N, 0, none⟩ = false := fun O => by simp [World.frozen?, p1' O]
    have y1' : ∀ O, (W1.alloc O).frozen? ⟨N, 1, none⟩ = false := fun O => by simp [World.frozen?, p1' O]
    have hfw : Hid (∀ O, Below (N + 1) WA (W1.alloc O).drew) := fun O => hb1.trans ((((Below.refl _ W1).alloc (Nat.le_refl _) O).drew).mono (by have := hb1.size; rw [HS.out] at this; exact this))
    clear p1 p1'
    go_wp2
    go_region
    all_goals go_wp2
    all_goals refine bodyPost_ret (v := .tuple #[.agg #[.string ⟨#[]⟩, .slice none 0 0], .bool false]) (by simp [results, Tryz.results40, go_sem, q0', q1']) rfl ?_
    all_goals exact ⟨hfin.out _ _ _ (hfw.out _), by rw [HA.out]⟩
  | some a =>
    rw [ha] at hrA
    have HA : Hid (atomR s = some a) := ha
    have HR : Hid _ := hrA
    clear ha hrA
    go_enter Tryz.func40, Tryz.ntmps40
    go_wp2_with fail
    refine Calls.mono HR.out ?_
    rintro e W1 ⟨hb1, va, rfl, hok, hsl⟩
    obtain ⟨xa, xc, rfl⟩ := hsl.form
    have p1 := hbox.out W1 hb1
    have q0 : W1.cell? ⟨N, 0, none⟩ = some (.string ⟨#[]⟩) := (by simp [World.cell?, p1])
    have y0 : W1.frozen? ⟨N, 0, none⟩ = false := (by simp [World.frozen?, p1])
    have q1 : W1.cell? ⟨N, 1, none⟩ = some (.slice none 0 0) := (by simp [World.cell?, p1])
    have y1 : W1.frozen? ⟨N, 1, none⟩ = false := (by simp [World.frozen?, p1])
    have hgr : Hid (∀ W, RuleKept W1 W → Calls Tryz.prog 78 #[.agg #[.string a.rel, .slice xa a.args.length xc]] W fun e w' => e = .returned (.bool (groundB a)) ∧ Below W.heap.size W w') := fun W hb => isGround_any a _ W1.heap.size W (hsl.rk hb) (by have := hok.args; omega)
    have hrk : Hid (∀ O, RuleKept W1 (W1.alloc O).drew) := fun O k c t _ hc => (Below.heap_alloc W1 O k (Array.getElem?_eq_some_iff.1 hc).1).trans hc
    have hW2 : Hid (∀ O W2, Below (W1.alloc O).drew.heap.size (W1.alloc O).drew W2 → Below W1.heap.size W1 W2) := fun O W2 hb => (((Below.refl _ W1).alloc (Nat.le_refl _) O).drew).trans (hb.mono (by show _ ≤ (W1.alloc O).heap.size; simp))
    have hbx2 : Hid (∀ W, Below W1.heap.size W1 W → W.heap[N]? = some (Obj.cells #[.string ⟨#[]⟩, .slice none 0 0] 92 (0, 0)) ∧ Below (N + 1) WA W) := fun W hb => by
      have hx := hb1.trans (hb.mono (by have := hb1.size; rw [HS.out] at this; exact this))
      exact ⟨hbox.out W hx, hx⟩
    have hlast : Hid (∀ W, Below W1.heap.size W1 W → SealT (putAm W N a.rel (.slice xa a.args.length xc)) (putAm W N a.rel (.slice xa a.args.length xc)).heap.size (.slice xa a.args.length xc) a.args) := fun W hb => by
      show SealT _ _ _ _
      rw [putAm_size]
      refine (hsl.mono hb.size).kept (fun k c _ hc => (putAm_other _ _ _ _ (fun e => ?_)).trans ((hb.block k (Array.getElem?_eq_some_iff.1 hc).1).trans hc))
      have := (hbx2.out W hb).1
      rw [e] at hc
      rw [hb.block N (Array.getElem?_eq_some_iff.1 hc).1, hc] at this; cases this
    have hat : Hid (∀ W2, Below (W1.alloc (.cells #[.string a.rel, .slice xa a.args.length xc] 92)).drew.heap.size (W1.alloc (.cells #[.string a.rel, .slice xa a.args.length xc] 92)).drew W2 → W2.heap[W1.heap.size]? = some (Obj.cells #[.string a.rel, .slice xa a.args.length xc] 92 (0, 0))) := fun W2 hb => (hb.block _ (by show _ < (W1.alloc _).heap.size; simp)).trans (World.alloc_heap_new W1 _)
    have HOK : Hid _ := hok
    clear hsl hok p1
    go_wp2
    refine wp_mono (Q := fun e a' w' => match e with | Exit.normal => ∃ W2, Below W1.heap.size W1 W2 ∧ w' = putAm W2 N a.rel (.slice xa a.args.length xc) ∧ a' = { tmps := #[.string s, undef, .pointer (some ⟨N, 0, none⟩), .bool (groundB a), .pointer (some ⟨W1.heap.size, 0, none⟩), .bool true, .tuple #[.agg #[.string a.rel, .slice xa a.args.length xc], .bool true], .string s, .tuple #[.agg #[.string a.rel, .slice xa a.args.length xc], .bool true], .agg #[.string a.rel, .slice xa a.args.length xc], .bool true, .agg #[.string a.rel, .slice xa a.args.length xc], .bool true, .bool true, .agg #[.string a.rel, .slice xa a.args.length xc], .bool (groundB a), .bool (groundB a)], defers := [] } | _ => False) ?reg ?rest
    case reg =>
      first | (go_region_with (go_at_call 78; refine (hgr.out _ (hrk.out _)).mono ?_; rintro e W2 ⟨rfl, hb2'⟩; have hb2 := hW2.out _ _ hb2'; have p2 := hat.out W2 hb2'; have u0 : W2.cell? ⟨W1.heap.size, 0, none⟩ = some (.string a.rel) := (by simp [World.cell?, p2]); have u1 : W2.cell? ⟨W1.heap.size, 1, none⟩ = some (.slice xa a.args.length xc) := (by simp [World.cell?, p2]); clear p2; obtain ⟨p1, hb3⟩ := hbx2.out W2 hb2; have r0 : W2.cell? ⟨N, 0, none⟩ = some (.string ⟨#[]⟩) := (by simp [World.cell?, p1]); have z0 : W2.frozen? ⟨N, 0, none⟩ = false := (by simp [World.frozen?, p1]); have r1 : W2.cell? ⟨N, 1, none⟩ = some (.slice none 0 0) := (by simp [World.cell?, p1]); have z1 : W2.frozen? ⟨N, 1, none⟩ = false := (by simp [World.frozen?, p1]); clear p1)) | fail
      all_goals exact ⟨W2, hb2, rfl, rfl⟩
    case rest =>
      rintro (_ | _ | _ | _ | _ | _) a' w' hq
      all_goals first | exact hq.elim | skip
      obtain ⟨W2, hb2, rfl, rfl⟩ := hq
      obtain ⟨p1, hb3⟩ := hbx2.out W2 hb2
      have r0 : W2.cell? ⟨N, 0, none⟩ = some (.string ⟨#[]⟩) := (by simp [World.cell?, p1])
      have z0 : W2.frozen? ⟨N, 0, none⟩ = false := (by simp [World.frozen?, p1])
      have r1 : W2.cell? ⟨N, 1, none⟩ = some (.slice none 0 0) := (by simp [World.cell?, p1])
      unfold putAm
      go_wp2
      refine bodyPost_ret (v := .tuple #[.agg #[.string a.rel, .slice xa a.args.length xc], .bool (groundB a)]) (by simp [results, Tryz.results40, go_sem, r0, r1]) rfl ?_
      exact ⟨hfin.out _ _ _ hb3, by rw [HA.out]; exact ⟨_, rfl, HOK.out, hlast.out W2 hb2⟩⟩

end Go.Proofs.YtjajnhemgphefaaGreatDoor

namespace Go.Proofs.YtjajnhemgphefaaGreatDoor
open Go.RowKit Go.Shelf
set_option linter.unusedVariables false
set_option linter.unusedSimpArgs false

theorem strBelow {N : Nat} {w wr : World} (h : StrOnly N w wr) (hN : N ≤ w.heap.size) : Below N w wr := ⟨h.os, h.tape, h.output, h.size, fun k hk => h.block k (by omega) (.inl hk)⟩

set_option maxRecDepth 100000 in
set_option maxHeartbeats 1000000 in
theorem findManyNames_any (v : Value) (rs : List Rl) (base b45 b87 : Nat) (w : World) (hR : RulesAt w base b45 b87 v rs) (hrow : ∀ g, v.ownBlock = some g → g < w.heap.size) (h8 : rs.length ≤ 8) (hok : ∀ r ∈ rs, RuleOk r) :
    Calls Tryz.prog 103 #[v] w fun e w' => e = .returned (.int .i64 (manyFrom [] 0 rs)) ∧ Below w.heap.size w w' := by
  obtain ⟨a, c, hform⟩ := hR.form
  obtain ⟨N, hN⟩ : ∃ N, w.heap.size = N := ⟨_, rfl⟩
  have hcell : ∀ k (hk : k < rs.length), ∃ g v0 vb, a = some ⟨g, 0, none⟩ ∧ w.cell? ⟨g, k * 3, none⟩ = some (.string (rs[k]).head.rel) ∧ w.cell? ⟨g, k * 3 + 1, none⟩ = some v0 ∧ w.cell? ⟨g, k * 3 + 2, none⟩ = some vb ∧ RuleV w b45 b87 rs[k] v0 vb ∧ g < w.heap.size := by
    intro k hk
    obtain ⟨g, c', v0, vb, h1, h2, h3, h4, h5⟩ := rules_cell hR hk
    have hg := hrow g (by rw [h1]; rfl)
    rw [hform] at h1; cases h1
    exact ⟨g, v0, vb, rfl, h2, h3, h4, h5, hg⟩
  subst hform
  -- one round's two calls
  have hround : ∀ k (hk : k < rs.length) (v0 vb : Value) (wr : World) (us : List ByteArray) (vn : Value), RuleV w b45 b87 rs[k] v0 vb → StrOnly N w wr → wr.ownsRow N 9 1 vn us.length (us.map Value.string) → us.length ≤ 8 →
      ∀ fa fn fc ga gn gc, v0 = .slice fa fn fc → vb = .slice ga gn gc →
      Calls Tryz.prog 76 #[vn, .func (.func 141) #[] #[.pointer (some ⟨wr.heap.size + 1, 0, none⟩)]] ((wr.alloc (.cells #[.string (rs[k]).head.rel, .slice fa fn fc, .slice ga gn gc] 136)).alloc (.cells #[.string (rs[k]).head.rel, .slice fa fn fc, .slice ga gn gc] 136)) fun e w' => ∃ v', e = .returned v' ∧ w'.ownsRow N 9 1 v' (nmL us (ruleTerms rs[k])).length ((nmL us (ruleTerms rs[k])).map Value.string) ∧ StrOnly N w w' := by
    intro k hk v0 vb wr us vn hv hso hrow2 hul fa fn fc ga gn gc hf hg
    subst hf hg
    have hsz := hso.size
    have hbl : Below wr.heap.size wr ((wr.alloc (.cells #[.string (rs[k]).head.rel, .slice fa fn fc, .slice ga gn gc] 136)).alloc (.cells #[.string (rs[k]).head.rel, .slice fa fn fc, .slice ga gn gc] 136)) := ((Below.refl _ wr).alloc (Nat.le_refl _) _).alloc (by simp) _
    have hrk : RuleKept w wr := fun j cc t ht hc => (hso.block j (Array.getElem?_eq_some_iff.1 hc).1 (.inr (fun c' fz e => by rw [hc] at e; rcases ht with rfl | rfl | rfl <;> cases e))).trans hc
    refine (addNames_any rs[k] _ _ vn us N b45 b87 (wr.heap.size + 1) _ (hok _ (List.getElem_mem hk)) ((hv.rk hrk).rk (RuleKept.ofBelow hbl)) ?_ (own_below hrow2 hbl) (by simp; omega) (by omega)).mono ?_
    · have := World.alloc_heap_new (wr.alloc (.cells #[.string (rs[k]).head.rel, .slice fa fn fc, .slice ga gn gc] 136)) (.cells #[.string (rs[k]).head.rel, .slice fa fn fc, .slice ga gn gc] 136)
      rw [World.size_alloc] at this; exact this
    · rintro e w' ⟨v', h1, h2, h3⟩
      exact ⟨v', h1, h2, (hso.trans (StrOnly.ofBelow hbl)).trans h3⟩
  have HC : Hid _ := hcell
  have HR : Hid _ := hround
  clear hcell hround hR hok hrow
  go_enter Tryz.func103, Tryz.ntmps103
  go_wp2
  go_loopw [3, 8] (fun vn i wr => ∃ (k : Nat) (us : List ByteArray), k ≤ rs.length ∧ i = .int .i64 k ∧ us.length ≤ 8 ∧ wr.ownsRow N 9 1 vn us.length (us.map Value.string) ∧ Hid (manyFrom us k (rs.drop k) = manyFrom [] 0 rs) ∧ StrOnly N w wr) (fun _ i _ => rs.length - (intOf i).toNat)
  case atStart => exact ⟨0, [], Nat.zero_le _, rfl, by simp, World.ownsRow_nil _ _ _ _, rfl, StrOnly.refl _ _⟩
  case round =>
    obtain ⟨k, us, hk, rfl, hul, hrow, hspec, hso⟩ := hrel
    by_cases hlt : k < rs.length
    · obtain ⟨g, v0, vb, rfl, q0, q1, q2, hv, hg⟩ := HC.out k hlt
      have hbN : Below N w wr := strBelow hso (by omega)
      have q0' := (hbN.cell (p := ⟨g, k * 3, none⟩) (by rw [← hN]; exact hg)).trans q0
      have q1' := (hbN.cell (p := ⟨g, k * 3 + 1, none⟩) (by rw [← hN]; exact hg)).trans q1
      have q2' := (hbN.cell (p := ⟨g, k * 3 + 2, none⟩) (by rw [← hN]; exact hg)).trans q2
      obtain ⟨fa, fc, hsf⟩ := hv.1.form
      obtain ⟨ga, gc, htf⟩ := hv.2.form
      have hcall := HR.out k hlt v0 vb wr us _ hv hso hrow hul _ _ _ _ _ _ hsf htf
      rw [hsf] at q1'
      rw [htf] at q2'
      have hdrop : Hid (manyFrom us k (rs.drop k) = if 8 < (nmL us (ruleTerms rs[k])).length then (k : Int) else manyFrom (nmL us (ruleTerms rs[k])) (k + 1) (rs.drop (k + 1))) := by
        show _ = _
        rw [List.drop_eq_getElem_cons hlt, ruleTerms_tms]; rfl
      have HCL : Hid _ := hcall
      have i1 : (k : Int) < (rs.length : Int) := by omega
      obtain ⟨na, nc, rfl⟩ := owns_form hrow
      have HN : Hid (w.heap.size = N) := hN
      clear hcall q0 q1 q2 hv hsf htf hrow hbN hso hN
      generalize (rs[k]).head.rel = rel at *
      generalize (rs[k]).head.args.length = m1 at *
      generalize (rs[k]).body.length = m2 at *
      generalize nmL us (ruleTerms rs[k]) = us' at *
      by_cases hbig : 8 < us'.length
      · have hd : (8 : Int) < (us'.length : Int) := by omega
        have hres : Hid (manyFrom [] 0 rs = k) := by show _ = _; rw [← hspec.out, hdrop.out, if_pos hbig]
        go_wp2_with (first | (go_at_call 77; refine (rargs_any _ _ _ _ rfl _).mono ?_; rintro e w' ⟨rfl, rfl⟩) | (go_at_call 76; refine Calls.mono HCL.out ?_; rintro e w1 ⟨v1, rfl, hrow1, hso1⟩; obtain ⟨na1, nc1, rfl⟩ := owns_form hrow1))
        go_ret
        exact ⟨ret_int hres.out.symm, by rw [HN.out]; exact strBelow hso1 (Nat.le_of_eq HN.out.symm)⟩
      · have hd : ¬ (8 : Int) < (us'.length : Int) := by omega
        have hres : Hid (manyFrom us' (k + 1) (rs.drop (k + 1)) = manyFrom [] 0 rs) := by show _ = _; rw [← hspec.out, hdrop.out, if_neg hbig]
        go_wp2_with (first | (go_at_call 77; refine (rargs_any _ _ _ _ rfl _).mono ?_; rintro e w' ⟨rfl, rfl⟩) | (go_at_call 76; refine Calls.mono HCL.out ?_; rintro e w1 ⟨v1, rfl, hrow1, hso1⟩; obtain ⟨na1, nc1, rfl⟩ := owns_form hrow1))
        refine ⟨⟨k + 1, us', by omega, by go_num, by omega, hrow1, hres.out, hso1⟩, by simp [intOf]; omega⟩
    · have hres : Hid (manyFrom [] 0 rs = -1) := by show _ = _; rw [← hspec.out, List.drop_of_length_le (by omega)]; rfl
      go_wp2
      go_ret
      exact ⟨ret_int hres.out.symm, by rw [hN]; exact strBelow hso (by omega)⟩

end Go.Proofs.YtjajnhemgphefaaGreatDoor

namespace Go.Proofs.YtjajnhemgphefaaGreatDoor
open Go.RowKit Go.Shelf
set_option linter.unusedVariables false
set_option linter.unusedSimpArgs false
attribute [local go_sem] Oper.semAt_some

theorem scanA_append (l m : List Am) : ∀ (seen s : List Am), scanA seen l = some s → scanA seen (l ++ m) = scanA s m := by
  induction l with
  | nil => intro seen s h; simp [scanA] at h; rw [h]; rfl
  | cons a l ih =>
    intro seen s h
    simp only [List.cons_append, scanA] at h ⊢
    split at h
    · rename_i h0; rw [if_pos h0]; exact ih _ _ h
    · cases h

theorem scanA_none (l m : List Am) : ∀ (seen : List Am), scanA seen l = none → scanA seen (l ++ m) = none := by
  induction l with
  | nil => intro seen h; simp [scanA] at h
  | cons a l ih =>
    intro seen h
    simp only [List.cons_append, scanA] at h ⊢
    split at h
    · rename_i h0; rw [if_pos h0]; exact ih _ h
    · rename_i h0; rw [if_neg h0]

/-- The map holds the number of arguments of each relation that was seen. -/
structure MapIs (D : DataW Unit) (seen : List Am) : Prop where
  isMap : Maps.IsMap D
  has : ∀ l, Maps.has D (.string l) = (arOf seen l).isSome
  at' : ∀ l n, arOf seen l = some n → ∀ z, D.atKey (.string l) z = .lit (.int .i64 n)

theorem MapIs.empty : MapIs (.map []) [] := ⟨Maps.isMap_empty, fun _ => rfl, fun l n h => by simp [arOf] at h⟩

theorem arOf_snoc (seen : List Am) (a : Am) (l : List UInt8) : arOf (seen ++ [a]) l = (arOf seen l).or (if a.rel.data.toList == l then some a.args.length else none) := by
  unfold arOf
  rw [List.find?_append]
  cases seen.find? (fun a => a.rel.data.toList == l) with
  | some b => simp
  | none =>
    simp only [Option.none_or, List.find?_cons, List.find?_nil, Option.map_none]
    split <;> simp_all

theorem MapIs.put {D : DataW Unit} {seen : List Am} (h : MapIs D seen) (a : Am) (hf : fitsA seen a = true) : MapIs (D.put (.string a.rel.data.toList) (.lit (.int .i64 a.args.length))) (seen ++ [a]) := by
  have hk : WideAt.IsKeyLit (.string a.rel.data.toList) := trivial
  refine ⟨h.isMap.put _ _, fun l => ?_, fun l n hn z => ?_⟩
  · rw [arOf_snoc]
    by_cases e : l = a.rel.data.toList
    · subst e
      rw [Maps.has_put_same h.isMap hk]
      cases arOf seen a.rel.data.toList <;> simp
    · rw [Maps.has_put_other (by intro h'; injection h' with h'; exact e h'), h.has]
      have : (a.rel.data.toList == l) = false := by simp; exact fun h => e h.symm
      rw [this]; simp
  · rw [arOf_snoc] at hn
    by_cases e : l = a.rel.data.toList
    · subst e
      rw [Maps.atKey_put_same h.isMap hk]
      unfold fitsA at hf
      cases hc : arOf seen a.rel.data.toList with
      | some m =>
        rw [hc] at hf hn
        simp at hf hn
        rw [← hn, hf]
      | none =>
        rw [hc] at hn
        simp at hn
        rw [hn]
    · rw [Maps.atKey_put_other (by intro h'; injection h' with h'; exact e h')]
      have : (a.rel.data.toList == l) = false := by simp; exact fun h => e h.symm
      rw [this] at hn
      simp at hn
      exact h.at' l n hn z

theorem wf_small (n : Nat) (h : n ≤ 2) : (Lit.int .i64 (n : Int)).wf = true := by
  match n, h with
  | 0, _ => rfl
  | 1, _ => rfl
  | 2, _ => rfl

structure AInv (w : World) (N m : Nat) (ds : List Nat) (seen : List Am) (D : DataW Unit) (W : World) : Prop where
  map : W.ownsMap Tryz.prog 9 (plainElem Tryz.prog 3) (N + 1) m D
  set : MapIs D seen
  res : Boxed W N 3 (.int .i64 0)
  box : Boxed W (N + 2) 285 (.map (some (N + 1)))
  nodup : ds.Nodup
  shut : ∀ d ∈ ds, W.heap[d]? = some (.deferred (some []))
  above : ∀ d ∈ ds, N + 2 < d
  rk : RuleKept w W
  below : Below N w W

theorem AInv.grown {w W W' : World} {N m : Nat} {ds : List Nat} {seen : List Am} {D : DataW Unit} {row : Option Nat} (h : AInv w N m ds seen D W) (hN : w.heap.size = N) (hg : W.grownBy W' row) (hr : ∀ r, row = some r → N + 2 < r ∧ r ∉ ds ∧ ∃ o : Obj, W.heap[r]? = some o ∧ o.isCells = false) : AInv w N m ds seen D W' := by
  have hk := kept_of_grown hg (fun r e => (hr r e).2.2)
  refine ⟨h.map.kept hg (fun e => by have := (hr (N + 1) e.symm).1; omega), h.set, hk _ _ _ _ h.res, hk _ _ _ _ h.box, h.nodup, fun d hd => ?_, h.above, h.rk.trans (fun k c t _ hc => hk k c t _ hc), h.below.grown hg (below_size_le h.below hN) (fun k e => by have := (hr k e).1; omega)⟩
  have hd' := h.shut d hd
  exact (hg.block d (Array.getElem?_eq_some_iff.1 hd').1 (fun e => (hr d e.symm).2.1 hd)).trans hd'

theorem AInv.lt {w W : World} {N m : Nat} {ds : List Nat} {seen : List Am} {D : DataW Unit} (h : AInv w N m ds seen D W) : ∀ d ∈ ds, d < W.heap.size := fun d hd => (Array.getElem?_eq_some_iff.1 (h.shut d hd)).1

set_option maxRecDepth 100000 in
set_option maxHeartbeats 1000000 in
theorem findArity_any (v : Value) (rs : List Rl) (base b45 b87 : Nat) (w : World) (hR : RulesAt w base b45 b87 v rs) (hrow : ∀ g, v.ownBlock = some g → g < w.heap.size) (h8 : rs.length ≤ 8) (hok : ∀ r ∈ rs, RuleOk r) :
    Calls Tryz.prog 100 #[v] w fun e w' => e = .returned (.int .i64 (arityFrom [] 0 rs)) ∧ Below w.heap.size w w' := by
  obtain ⟨a, c, hform⟩ := hR.form
  have hcell : ∀ k (hk : k < rs.length), ∃ g v0 vb, a = some ⟨g, 0, none⟩ ∧ w.cell? ⟨g, k * 3, none⟩ = some (.string (rs[k]).head.rel) ∧ w.cell? ⟨g, k * 3 + 1, none⟩ = some v0 ∧ w.cell? ⟨g, k * 3 + 2, none⟩ = some vb ∧ RuleV w b45 b87 rs[k] v0 vb ∧ g < w.heap.size := by
    intro k hk
    obtain ⟨g, c', v0, vb, h1, h2, h3, h4, h5⟩ := rules_cell hR hk
    have hg := hrow g (by rw [h1]; rfl)
    rw [hform] at h1; cases h1
    exact ⟨g, v0, vb, rfl, h2, h3, h4, h5, hg⟩
  subst hform
  have HC : Hid _ := hcell
  have HOK : Hid _ := hok
  clear hcell hR hok hrow
  have hmm := @run_makeMap Tryz.prog
  obtain ⟨N, hN⟩ : ∃ N, w.heap.size = N := ⟨_, rfl⟩
  refine (callsIn_wide (n := 9)).1 ?_
  refine callsIn_of_wp_marks Tryz.func100 rfl trivial ?_ rfl
  simp only [Tryz.ntmps100, List.size_toArray, List.length_cons, List.length_nil, Nat.reduceAdd, Nat.reduceSub, Array.replicate_succ, Array.replicate_zero, List.push_toArray, List.append_toArray, List.nil_append, List.cons_append]
  gi_wp2
  have hI0 : AInv w N 0 [] [] (.map []) (((w.alloc (.cells #[.int .i64 0] 3)).alloc (.map #[] 0)).alloc (.cells #[.map (some (N + 1))] 285)) := by
    have hb : Below w.heap.size w (((w.alloc (.cells #[.int .i64 0] 3)).alloc (.map #[] 0)).alloc (.cells #[.map (some (N + 1))] 285)) := (((Below.refl _ w).alloc (Nat.le_refl _) _).alloc (by simp) _).alloc (by simp; omega) _
    have hm := World.ownsMap_made (w.alloc (.cells #[.int .i64 0] 3)) Tryz.prog 9 (plainElem (H := Unit) Tryz.prog 3)
    have hb0 := ((Boxed.new w 3 (.int .i64 0)).alloc (.map #[] 0)).alloc (.cells #[.map (some (N + 1))] 285)
    rw [World.size_alloc] at hm
    rw [hN] at hm hb hb0
    refine ⟨hm.kept (World.grownBy_alloc _ _ none) (by simp), MapIs.empty, hb0, ?_, List.nodup_nil, by simp, by simp, RuleKept.ofBelow (by rw [hN]; exact hb), hb⟩
    have := Boxed.new ((w.alloc (.cells #[.int .i64 0] 3)).alloc (.map #[] 0)) 285 (.map (some (N + 1)))
    rw [World.size_alloc, World.size_alloc, hN] at this; exact this
  refine wpIn_loop (fun A W => ∃ (k : Nat) (ds : List Nat) (seen : List Am) (D : DataW Unit) (u4 u5 u13 u14 u15 u16 u17 u18 u42 : Value), A = { tmps := #[.slice a rs.length c, undef, .pointer (some ⟨N, 0, none⟩), .pointer (some ⟨N + 1 + 1, 0, none⟩), u4, u5, undef, undef, undef, .map (some (N + 1)), .slice a rs.length c, .int .i64 rs.length, .int .i64 k, u13, u14, u15, u16, u17, u18, undef, undef, undef, undef, undef, undef, undef, undef, undef, undef, undef, undef, undef, undef, undef, undef, undef, undef, undef, undef, undef, undef, undef, u42], defers := marks ds } ∧ k ≤ rs.length ∧ AInv w N (k * 4) ds seen D W ∧ Hid (arityFrom seen k (rs.drop k) = arityFrom [] 0 rs)) (fun A _ => rs.length - (intOf (A.tmps.getD 12 undef)).toNat) ⟨0, [], [], .map [], _, _, _, _, _, _, _, _, _, rfl, Nat.zero_le _, hI0, rfl⟩ ?_
  rintro A W ⟨k, ds, seen, D, u4, u5, u13, u14, u15, u16, u17, u18, u42, rfl, hk, hI, hspec⟩
  clear hI0 hmm
  by_cases hlt : k < rs.length
  · obtain ⟨g, v0, vb, rfl, q0, q1, q2, hv, hg⟩ := HC.out k hlt
    have hg' : g < N := by omega
    have q0' := (hI.below.cell (p := ⟨g, k * 3, none⟩) hg').trans q0
    have q1' := (hI.below.cell (p := ⟨g, k * 3 + 1, none⟩) hg').trans q1
    have q2' := (hI.below.cell (p := ⟨g, k * 3 + 2, none⟩) hg').trans q2
    have hvW := hv.rk hI.rk
    have hokr := HOK.out _ (List.getElem_mem hlt)
    have hdrop : Hid (arityFrom seen k (rs.drop k) = match scanA seen ((rs[k]).head :: (rs[k]).body) with | none => (k : Int) | some s => arityFrom s (k + 1) (rs.drop (k + 1))) := by
      show _ = _
      rw [List.drop_eq_getElem_cons hlt]; rfl
    obtain ⟨x0, L, la, cap, hx0, hL, rfl, hL3, hrowL⟩ := rule_atx hvW hokr
    have hats : (rs[k]).head :: (rs[k]).body = (x0 :: L).map (·.1.1) := by rw [List.map_cons, hL, hx0]
    have hr0 : (rs[k]).head.rel = x0.1.1.rel := by rw [hx0]
    have hv0 : v0 = x0.1.2 := by rw [hx0]
    obtain ⟨fa, fc, hf⟩ := x0.2.1.form
    rw [hr0] at q0'
    rw [hv0, hf] at q1'
    rw [hats] at hdrop
    clear hats hr0 hv0 hx0 hL hvW hokr hv q0 q1 q2
    have i1 : (k : Int) < (rs.length : Int) := by omega
    gi_wp2_with (refine ⟨trivial, ?_⟩; gi_at_call 98; refine (callsIn_wide.2 (ratoms_any _ _ _ _ rfl rfl rfl rfl _)).mono ?_; rintro e w' ⟨rfl, rfl⟩)
    obtain ⟨M, hM⟩ : ∃ M, W.heap.size = M := ⟨_, rfl⟩
    obtain ⟨W0, hW0⟩ : ∃ W0, ((W.alloc (.cells #[.int .i64 k] 3)).alloc (.cells #[.string x0.1.1.rel, .slice fa x0.1.1.args.length fc, .slice la L.length cap] 136)).alloc (.cells #[.string x0.1.1.rel, .slice fa x0.1.1.args.length fc, .slice la L.length cap] 136) = W0 := ⟨_, rfl⟩
    have hb0 : Below W.heap.size W W0 := by rw [← hW0]; exact (((Below.refl _ W).alloc (Nat.le_refl _) _).alloc (by simp) _).alloc (by simp; omega) _
    have hs0 : W0.heap.size = M + 3 := by rw [← hW0, ← hM]; simp
    have bK : Boxed W0 M 3 (.int .i64 k) := by
      rw [← hW0, ← hM]; exact ((Boxed.new W _ _).alloc _).alloc _
    have bR : W0.heap[M + 1 + 1]? = some (Obj.cells #[.string x0.1.1.rel, x0.1.2, .slice la L.length cap] 136 (0, 0)) := by
      rw [← hW0, hf]
      have := World.alloc_heap_new ((W.alloc (.cells #[.int .i64 k] 3)).alloc (.cells #[.string x0.1.1.rel, .slice fa x0.1.1.args.length fc, .slice la L.length cap] 136)) (.cells #[.string x0.1.1.rel, .slice fa x0.1.1.args.length fc, .slice la L.length cap] 136)
      rw [World.size_alloc, World.size_alloc, hM] at this; exact this
    have hrow0 : L ≠ [] → ∃ (g off : Nat) (cur : Array Value), la = some ⟨g, off, none⟩ ∧ W0.heap[g]? = some (Obj.cells cur 92 (0, 0)) ∧ (cur.toList.drop off).take (L.length * 2) = L.flatMap fun x => [.string x.1.1.rel, x.1.2] := fun hne => by
      obtain ⟨g, off, cur, h1, h2, h3⟩ := hrowL hne; exact ⟨g, off, cur, h1, RuleKept.ofBelow hb0 _ _ _ (.inr (.inl rfl)) h2, h3⟩
    have hI0 := hI.grown hN (below_grownBy hb0) (fun r e => by cases e)
    have hltW := hI.lt
    have hMN : N + 2 < M := by have := hI.box.lt; omega
    simp only [hM]
    rw [hW0]
    clear hW0 hrowL
    refine range_law (n := 9) (gf := 163) (lb := #[.pointer (some ⟨M + 1 + 1, 0, none⟩)]) rfl (enters_of Tryz.func163 (by kernel_rfl) rfl)
      (SeqN.ofStops (atoms_stops 8 (by decide) (M + 1 + 1) W b87 x0 L (by omega) la cap W0 bR hrow0)) RuleKept.trans (fun V o o' ho hc => RuleKept.put V _ o o' ho hc) (fun _ => rfl)
      (fun pre V => ∃ s D', scanA seen (pre.map (·.1.1)) = some s ∧ AInv w N (k * 4 + pre.length) ds s D' V ∧ Boxed V M 3 (.int .i64 k))
      (fun c pre V => c = .ret ∧ scanA seen (pre.map (·.1.1)) = none ∧ Boxed V N 3 (.int .i64 k) ∧ (∀ d ∈ ds, V.heap[d]? = some (.deferred (some []))) ∧ Below N w V)
      ?hI ?hIx ⟨seen, D, rfl, hI0, bK⟩
      (fun x a' V => ∃ Bx, V.heap[Bx]? = some (Obj.cells #[.string x.1.1.rel, x.1.2] 92 (0, 0)) ∧ a' = { tmps := #[.slice (some ⟨g, 0, none⟩) rs.length c, undef, .pointer (some ⟨N, 0, none⟩), .pointer (some ⟨N + 1 + 1, 0, none⟩), .pointer (some ⟨M, 0, none⟩), .pointer (some ⟨M + 1, 0, none⟩), .pointer (some ⟨Bx, 0, none⟩), undef, undef, .map (some (N + 1)), .slice (some ⟨g, 0, none⟩) rs.length c, .int .i64 rs.length, .int .i64 k, .bool true, .int .i64 k, .pointer (some ⟨g, k * 3, none⟩), .agg #[.string x0.1.1.rel, .slice fa x0.1.1.args.length fc, .slice la L.length cap], .agg #[.string x0.1.1.rel, .slice fa x0.1.1.args.length fc, .slice la L.length cap], .func (.func 163) #[] #[.pointer (some ⟨M + 1 + 1, 0, none⟩)], .agg #[.string x.1.1.rel, x.1.2], undef, undef, undef, undef, undef, undef, undef, undef, undef, undef, undef, undef, undef, undef, undef, undef, undef, undef, undef, undef, undef, undef, u42], defers := [] })
      ?hAx ?assign ?body ?done ?stop
    case hI =>
      rintro pre V V' row ⟨s, D', h0, h1, h2⟩ hg hr
      refine ⟨s, D', h0, h1.grown hN hg (fun r e => ⟨by have := (hr r e).1; omega, fun hd => ?_, (hr r e).2⟩), kept_of_grown hg (fun r e => (hr r e).2) _ _ _ _ h2⟩
      have := hltW r hd; have := (hr r e).1; omega
    case hIx =>
      rintro c pre V V' row ⟨rfl, h0, h1, h2, h3⟩ hg hr
      refine ⟨rfl, h0, kept_of_grown hg (fun r e => (hr r e).2) _ _ _ _ h1, fun d hd => ?_, h3.grown hg (below_size_le h3 hN) (fun k e => by have := (hr k e).1; omega)⟩
      have hd' := h2 d hd
      exact (hg.block d (Array.getElem?_eq_some_iff.1 hd').1 (fun e => by have := hltW d hd; have := (hr d e.symm).1; omega)).trans hd'
    case hAx =>
      rintro x a' _ V V' row ⟨Bx, h2, h3⟩ hg hr
      exact ⟨Bx, kept_of_grown hg (fun r e => (hr r e).2) _ _ _ _ h2, h3⟩
    case assign =>
      rintro l' pre x V K hl hlr ⟨s, D', h0, h1, h2⟩ hK
      have HK : Hid _ := hK
      clear hK
      obtain ⟨ga, gc, hgx⟩ := x.2.1.form
      simp only [hgx]
      gi_wp2
      have hbl : Below V.heap.size V (V.alloc (.cells #[.string x.1.1.rel, .slice ga x.1.1.args.length gc] 92)) := (Below.refl _ V).alloc (Nat.le_refl _) _
      exact HK.out _ _ (KeepsFrom.ofBelow hbl) (RuleKept.ofBelow hbl) ⟨s, D', h0, h1.grown hN (below_grownBy hbl) (fun r e => by cases e), h2.alloc _⟩ ⟨V.heap.size, by rw [hgx]; exact World.alloc_heap_new V _, by rw [hgx]⟩
    case body =>
      rintro l' pre x a' V hl' ⟨r, hr⟩ ⟨s, D', hsc, h1, h2⟩ ⟨Bx, hbx, rfl⟩ hlt'
      obtain ⟨ga, gc, hgx⟩ := x.2.1.form
      have hx2 := x.2.2.args
      have c0 : V.cell? ⟨Bx, 0, none⟩ = some (.string x.1.1.rel) := by simp [World.cell?, hbx]
      have c1 : V.cell? ⟨Bx, 1, none⟩ = some (.slice ga x.1.1.args.length gc) := by simp [World.cell?, hbx, hgx]
      have cV := h1.box.cell
      have cK := h2.cell
      have cN := h1.res.cell
      have fN := h1.res.frozen
      have hkey := WideMaps.keyOf_string_mk (P := Tryz.prog) Tryz.underlying9 (s := x.1.1.rel) (by have := x.2.2.rel; unfold maxLen; omega)
      have hm8 : k * 4 + pre.length < maxLen := by unfold maxLen; simp at hlt'; omega
      have hhas := h1.set.has x.1.1.rel.data.toList
      have hat' := h1.set.at' x.1.1.rel.data.toList
      have hscan : Hid (∀ b, fitsA s x.1.1 = b → scanA seen ((pre ++ [x]).map (·.1.1)) = if b = true then some (s ++ [x.1.1]) else none) := by
        intro b hb
        rw [List.map_append, scanA_append _ _ _ _ hsc]
        simp only [List.map_cons, List.map_nil, scanA, hb]
      have hput : Hid (fitsA s x.1.1 = true → MapIs (D'.put (.string x.1.1.rel.data.toList) (.lit (.int .i64 x.1.1.args.length))) (s ++ [x.1.1])) := fun hf => h1.set.put x.1.1 hf
      have hfits : Hid (fitsA s x.1.1 = match arOf s x.1.1.rel.data.toList with | some n => n == x.1.1.args.length | none => true) := rfl
      have HSC : Hid _ := hsc
      clear hsc hgx
      have upd : ∀ w1, fitsA s x.1.1 = true → w1.ownsMap Tryz.prog 9 (plainElem Tryz.prog 3) (N + 1) (k * 4 + pre.length + 1) (D'.put (.string x.1.1.rel.data.toList) (.lit (.int .i64 x.1.1.args.length))) → V.grownBy w1 (some (N + 1)) →
          KeepsFrom W0.heap.size V w1 ∧ RuleKept V w1 ∧ ∃ s2 D2, scanA seen ((pre ++ [x]).map (·.1.1)) = some s2 ∧ AInv w N (k * 4 + (pre ++ [x]).length) ds s2 D2 w1 ∧ Boxed w1 M 3 (.int .i64 k) := by
        intro w1 hf hown1 hgrow1
        obtain ⟨es, clock, hbm, _⟩ := h1.map
        have hkc := kept_of_grown hgrow1 (fun r e => by cases e; exact ⟨_, hbm, rfl⟩)
        refine ⟨KeepsFrom.of_grownBy hgrow1 (fun j e => by cases e; omega), fun k c t _ hc => hkc k c t _ hc, s ++ [x.1.1], _, by rw [hscan.out _ hf]; rfl, ⟨by simpa [Nat.add_assoc] using hown1, hput.out hf, hkc _ _ _ _ h1.res, hkc _ _ _ _ h1.box, h1.nodup, fun d hd => ?_, h1.above, h1.rk.trans (fun k c t _ hc => hkc k c t _ hc), h1.below.grown hgrow1 (below_size_le h1.below hN) (fun j e => by cases e; omega)⟩, hkc _ _ _ _ h2⟩
        have hd' := h1.shut d hd
        exact (hgrow1.block d (Array.getElem?_eq_some_iff.1 hd').1 (by have := h1.above d hd; simp; omega)).trans hd'
      have UPD : Hid _ := upd
      clear upd
      cases har : arOf s x.1.1.rel.data.toList with
      | none =>
        rw [har] at hhas hfits
        clear hat' har
        gi_wp2_with (first | (gi_at_lookup; refine wpListIn_lookup_own_ok_int _ rfl _ _ 285 rfl 9 3 .i64 (Maps.string_keyed Tryz.underlying9) Tryz.underlying285 Tryz.underlying3 (Tryz.zeroValue3 _) (N + 1) (k * 4 + pre.length) _ rfl h1.map _ _ rfl hkey ?_; intro c hat hwc) | (gi_at_mapUpdate; refine wpListIn_mapUpdate_own _ rfl _ _ _ 285 rfl 9 3 (Maps.string_keyed Tryz.underlying9) Tryz.underlying285 _ (N + 1) (k * 4 + pre.length) _ rfl h1.map hm8 _ _ _ rfl rfl hkey (.lit (.int .i64 x.1.1.args.length)) [] (plainElem_int Tryz.underlying3 (wf_small _ hx2)) ?_; intro w1 hown1 hgrow1))
        obtain ⟨k1, k2, s2, D2, e1, e2, e3⟩ := UPD.out w1 hfits.out hown1 hgrow1
        exact ⟨by rw [← hs0]; exact k1, k2, s2, e1, ⟨D2, e2⟩, e3⟩
      | some m =>
        have hnc : Hid (∀ c : Int, D'.atKey (.string x.1.1.rel.data.toList) (.lit (.int .i64 0)) = .lit (.int .i64 c) → c = m) := by
          intro c hc
          rw [hat' m har] at hc
          simp at hc
          exact hc.symm
        rw [har] at hhas hfits
        clear hat' har
        by_cases hml : m = x.1.1.args.length
        · have hmm : ((m : Int) != (x.1.1.args.length : Int)) = false := by simp [hml]
          have hft : fitsA s x.1.1 = true := by rw [hfits.out]; simp [hml]
          have HFT : Hid _ := hft
          clear hft hml
          gi_wp2_with (first | (gi_at_lookup; refine wpListIn_lookup_own_ok_int _ rfl _ _ 285 rfl 9 3 .i64 (Maps.string_keyed Tryz.underlying9) Tryz.underlying285 Tryz.underlying3 (Tryz.zeroValue3 _) (N + 1) (k * 4 + pre.length) _ rfl h1.map _ _ rfl hkey ?_; intro c hat hwc; have hcn := hnc.out c hat; clear hat hwc) | (gi_at_mapUpdate; refine wpListIn_mapUpdate_own _ rfl _ _ _ 285 rfl 9 3 (Maps.string_keyed Tryz.underlying9) Tryz.underlying285 _ (N + 1) (k * 4 + pre.length) _ rfl h1.map hm8 _ _ _ rfl rfl hkey (.lit (.int .i64 x.1.1.args.length)) [] (plainElem_int Tryz.underlying3 (wf_small _ hx2)) ?_; intro w1 hown1 hgrow1))
          obtain ⟨k1, k2, s2, D2, e1, e2, e3⟩ := UPD.out w1 HFT.out hown1 hgrow1
          exact ⟨by rw [← hs0]; exact k1, k2, s2, e1, ⟨D2, e2⟩, e3⟩
        · have hmm : ((m : Int) != (x.1.1.args.length : Int)) = true := by simp; omega
          have hft : fitsA s x.1.1 = false := by rw [hfits.out]; simp [hml]
          have HFT : Hid _ := hft
          have HML : Hid _ := hml
          clear hft hml
          gi_wp2_with (gi_at_lookup; refine wpListIn_lookup_own_ok_int _ rfl _ _ 285 rfl 9 3 .i64 (Maps.string_keyed Tryz.underlying9) Tryz.underlying285 Tryz.underlying3 (Tryz.zeroValue3 _) (N + 1) (k * 4 + pre.length) _ rfl h1.map _ _ rfl hkey ?_; intro c hat hwc; have hcn := hnc.out c hat; clear hat hwc)
          exact ⟨(KeepsOthers.setCell _ _ _).from _, rfl, by rw [hscan.out _ HFT.out]; rfl, boxed_set h1.res _, fun d hd => (Below.heap_setCell _ _ _ d (by have := h1.above d hd; simp; omega)).trans (h1.shut d hd), h1.below.setCell (p := ⟨N, 0, none⟩) (Nat.le_refl _) _⟩
    case done =>
      rintro D0 xs V hD rfl ⟨s, D', hsc, h1, h2⟩ hK
      have hD' : D0 ∉ ds := fun hd => by have := hltW D0 hd; omega
      have hdd : (D0 :: ds).Nodup := List.nodup_cons.2 ⟨hD', h1.nodup⟩
      have hsh : ∀ d ∈ D0 :: ds, V.heap[d]? = some (.deferred (some [])) := fun d hd => by
        rcases List.mem_cons.1 hd with rfl | hd
        · exact hK
        · exact h1.shut d hd
      have hab : ∀ d ∈ D0 :: ds, N + 2 < d := fun d hd => by
        rcases List.mem_cons.1 hd with rfl | hd
        · omega
        · exact h1.above d hd
      have hnext : Hid (arityFrom s (k + 1) (rs.drop (k + 1)) = arityFrom [] 0 rs) := by show _ = _; rw [← hspec.out, hdrop.out, hsc]
      clear hsc
      gi_wp2
      refine ⟨⟨k + 1, D0 :: ds, s, D', _, _, _, _, _, _, _, _, _, rfl, by omega, ?_, hnext⟩, ?_⟩
      · exact { h1 with map := h1.map.mono (by simp; omega), nodup := hdd, shut := hsh, above := hab }
      · simp [intOf]; omega
    case stop =>
      rintro D0 c' pre V hD hp ⟨rfl, hsc, h2, h3, h4⟩ hK
      have hD' : D0 ∉ ds := fun hd => by have := hltW D0 hd; omega
      have hdd : (D0 :: ds).Nodup := List.nodup_cons.2 ⟨hD', hI.nodup⟩
      have hsh : ∀ d ∈ D0 :: ds, V.heap[d]? = some (.deferred (some [])) := fun d hd => by
        rcases List.mem_cons.1 hd with rfl | hd
        · exact hK
        · exact h3 d hd
      have hab : ∀ d ∈ D0 :: ds, N + 2 < d := fun d hd => by
        rcases List.mem_cons.1 hd with rfl | hd
        · omega
        · exact hI.above d hd
      have hres : Hid (arityFrom [] 0 rs = (k : Int)) := by
        show _ = _
        obtain ⟨tl, htl⟩ := hp
        rw [← hspec.out, hdrop.out, ← htl, List.map_append, scanA_none _ _ _ hsc]
      clear hsc
      gi_wp2
      show LeavesInM Fence.wide 9 Tryz.prog _ _ _ (marks (D0 :: ds)) .returning V
      refine leaves_all (D0 :: ds) V hdd hsh (fun W' hc hs => ?_)
      have dN : W'.cell? ⟨N, 0, none⟩ = some (.int .i64 k) := Boxed.cell (t := 3) ((hc.block N h2.lt (fun hd => by have := hab N hd; omega)).trans h2)
      refine ⟨.int .i64 k, by simp [results, Tryz.results100, go_sem, dN], by rw [hres.out], ?_⟩
      rw [hN]
      exact h4.trans (hc.below (below_size_le h4 hN) (fun d hd => by have := hab d hd; omega))
  · have cN := hI.res.cell
    have fN := hI.res.frozen
    gi_wp2
    show LeavesInM Fence.wide 9 Tryz.prog _ _ _ (marks ds) .returning (W.setCell ⟨N, 0, none⟩ (.int .i64 (-1)))
    have hsh : ∀ d ∈ ds, (W.setCell ⟨N, 0, none⟩ (.int .i64 (-1))).heap[d]? = some (.deferred (some [])) := fun d hd => (Below.heap_setCell _ _ _ d (by have := hI.above d hd; simp; omega)).trans (hI.shut d hd)
    refine leaves_all ds _ hI.nodup hsh (fun W' hc hs => ?_)
    have hbx := boxed_set hI.res (.int .i64 (-1))
    have dN : W'.cell? ⟨N, 0, none⟩ = some (.int .i64 (-1)) := Boxed.cell (t := 3) ((hc.block N hbx.lt (fun hd => by have := hI.above N hd; omega)).trans hbx)
    have hres : arityFrom [] 0 rs = -1 := by rw [← hspec.out, List.drop_of_length_le (by omega)]; rfl
    have hbl := hI.below.setCell (p := ⟨N, 0, none⟩) (Nat.le_refl _) (.int .i64 (-1))
    refine ⟨.int .i64 (-1), by simp [results, Tryz.results100, go_sem, dN], by rw [hres], ?_⟩
    rw [hN]
    exact hbl.trans (hc.below (below_size_le hbl hN) (fun d hd => by have := hI.above d hd; omega))

end Go.Proofs.YtjajnhemgphefaaGreatDoor
