/-
  rules: IsGround, IsDerived; ebb.readGround.
  rules.findManyNames: the first rule up to which there are too many names, or -1.
-/
import Derived.Test.YtjajnhemgphefaaGreatDoorJdEgA
import Derived.Test.YtjajnhemgphefaaGreatDoorJdIdxRules
namespace Go.Proofs.YtjajnhemgphefaaGreatDoor
open Go.RowKit Go.Shelf
set_option linter.unusedVariables false
set_option linter.unusedSimpArgs false

/-- A variable. -/
def varB (t : Tm) : Bool := t.name.toList.isEmpty

set_option maxHeartbeats 1000000 in
theorem idxVar_any (l : List Tm) (v0 : Value) (b : Nat) (w : World) (hv : SealT w b v0 l) (hl : l.length ≤ 1000) :
    Calls Tryz.prog 192 #[v0, .func (.func 139) #[] #[]] w fun e w' => ∃ i : Int, e = .returned (.int .i64 i) ∧ decide (0 ≤ i) = l.any varB ∧ Below w.heap.size w w' := by
  obtain ⟨a, c, hform⟩ := hv.form
  have hcell : ∀ k (hk : k < l.length), ∃ g, a = some ⟨g, 0, none⟩ ∧ w.cell? ⟨g, k * 2, none⟩ = some (.string (l[k]).name) ∧ w.cell? ⟨g, k * 2 + 1, none⟩ = some (.int .i64 (l[k]).num) ∧ g < w.heap.size := by
    intro k hk
    obtain ⟨g, c', h1, h2, h3, h4⟩ := seal_cell hv hk
    rw [hform] at h1; cases h1
    exact ⟨g, rfl, h2, h3, h4⟩
  subst hform
  have HC : Hid _ := hcell
  have HF : Hid (∀ wr, ∀ t : Tm, Calls Tryz.prog 139 #[.agg #[.string t.name, .int .i64 t.num]] wr fun e w' => e = .returned (.bool (varB t)) ∧ Below wr.heap.size wr w') := fun wr t => isVariable_any t wr
  clear hcell hv
  go_enter Tryz.func192, Tryz.ntmps192
  go_wp2
  go_loopw [8] (fun i wr => ∃ k : Nat, k ≤ l.length ∧ i = .int .i64 k ∧ Hid (∀ j, (hj : j < l.length) → j < k → varB l[j] = false) ∧ Below w.heap.size w wr) (fun i _ => l.length - (intOf i).toNat)
  case atStart => exact ⟨0, Nat.zero_le _, rfl, fun j _ hj => by omega, Below.refl _ _⟩
  case round =>
    obtain ⟨k, hk, rfl, hno, hb⟩ := hrel
    by_cases hlt : k < l.length
    · obtain ⟨g, rfl, q0, q1, hg⟩ := HC.out k hlt
      have q0' := (hb.cell (p := ⟨g, k * 2, none⟩) hg).trans q0
      have q1' := (hb.cell (p := ⟨g, k * 2 + 1, none⟩) hg).trans q1
      have hcall := HF.out wr l[k]
      have i1 : (k : Int) < (l.length : Int) := by omega
      generalize hbb : varB l[k] = bb at *
      have HBB : Hid (varB l[k] = bb) := hbb
      clear hbb q0 q1
      generalize (l[k]).name = tx at *
      generalize (l[k]).num = tv at *
      cases bb with
      | true =>
        go_wp2_with fail
        refine hcall.mono ?_
        rintro e w1 ⟨rfl, hb1⟩
        go_wp2
        go_ret
        refine ⟨k, rfl, ?_, hb.trans (hb1.mono hb.size)⟩
        have h1 : l.any varB = true := by
          rw [List.any_eq_true]; exact ⟨l[k], List.getElem_mem hlt, HBB.out⟩
        rw [h1]; simp
      | false =>
        go_wp2_with fail
        refine hcall.mono ?_
        rintro e w1 ⟨rfl, hb1⟩
        go_wp2
        go_roundw
        case rel =>
          refine ⟨k + 1, by omega, by go_num, ?_, hb.trans (hb1.mono hb.size)⟩
          intro j hj hjk
          by_cases e : j = k
          · subst e; exact HBB.out
          · exact hno.out j hj (by omega)
        case measure => simp [intOf]; omega
    · go_wp2
      go_ret
      refine ⟨-1, rfl, ?_, hb⟩
      rw [any_upto _ _ (fun j hj => hno.out j hj (by omega))]; rfl

/-- An atom without variables. -/
def groundB (a : Am) : Bool := !a.args.any varB

set_option maxHeartbeats 400000 in
theorem isGround_any (a : Am) (v0 : Value) (b : Nat) (w : World) (hv : SealT w b v0 a.args) (hl : a.args.length ≤ 1000) :
    Calls Tryz.prog 78 #[.agg #[.string a.rel, v0]] w fun e w' => e = .returned (.bool (groundB a)) ∧ Below w.heap.size w w' := by
  have hI : Hid (∀ W, Below w.heap.size w W → Calls Tryz.prog 192 #[v0, .func (.func 139) #[] #[]] W fun e w' => ∃ i : Int, e = .returned (.int .i64 i) ∧ decide (0 ≤ i) = a.args.any varB ∧ Below W.heap.size W w') := fun W hb => idxVar_any a.args v0 b W (hv.rk (RuleKept.ofBelow hb)) hl
  obtain ⟨xa, xc, rfl⟩ := hv.form
  have HC : Hid (∀ W, Below w.heap.size w W → Calls Tryz.prog 142 #[.slice xa a.args.length xc, .func (.func 139) #[] #[]] W fun e w' => e = .returned (.bool (a.args.any varB)) ∧ Below W.heap.size W w') := by
    intro W hb
    have h1 := hI.out W hb
    have H1 : Hid _ := h1
    clear h1 hI hv
    go_enter Tryz.func142, Tryz.ntmps142
    go_wp2_with fail
    refine Calls.mono H1.out ?_
    rintro e w1 ⟨i, rfl, hr, hb1⟩
    have HR : Hid _ := hr
    clear hr
    go_wp2
    go_ret
    exact ⟨ret_bool (by rw [← HR.out]), hb1⟩
  have hgb : Hid (groundB a = !a.args.any varB) := rfl
  clear hI hv
  generalize groundB a = gb at *
  generalize a.args.any varB = ab at *
  go_enter Tryz.func78, Tryz.ntmps78
  go_wp2_with (go_at_call 142; refine (HC.out _ ((Below.refl _ w).alloc (Nat.le_refl _) _)).mono ?_; rintro e w1 ⟨rfl, hb1⟩)
  go_ret
  exact ⟨ret_bool (by rw [hgb.out]), ((Below.refl _ w).alloc (Nat.le_refl _) _).trans (hb1.mono (by simp))⟩

/-- What readGround answers. -/
def GroundPost (s : ByteArray) (w : World) (e : Ending) (w' : World) : Prop :=
  Below w.heap.size w w' ∧ match atomR s with
    | none => e = .returned (.tuple #[.agg #[.string ⟨#[]⟩, .slice none 0 0], .bool false])
    | some a => ∃ va, e = .returned (.tuple #[.agg #[.string a.rel, va], .bool (groundB a)]) ∧ AmOk a ∧ SealT w' w'.heap.size va a.args

set_option maxRecDepth 100000 in
set_option maxHeartbeats 1000000 in
theorem readGround_any (s : ByteArray) (w : World) (hs : s.size ≤ 4611686018427387904) (hT : Lib.Utf8Tabs 0 1 w) :
    Calls Tryz.prog 40 #[.string s] w (GroundPost s w) := by
  obtain ⟨N, hN⟩ : ∃ N, w.heap.size = N := ⟨_, rfl⟩
  have hr : Hid (∀ W, Below w.heap.size w W → Calls Tryz.prog 49 #[.string s] W (AtomPost s W)) := fun W hb => readAtom_any s W hs (Utf8Tabs_below hT hb)
  obtain ⟨WA, hWA⟩ : ∃ WA, w.alloc (.cells #[.string ⟨#[]⟩, .slice none 0 0] 92) = WA := ⟨_, rfl⟩
  have hsA : WA.heap.size = N + 1 := by rw [← hWA, ← hN]; simp
  have hbw : Below N w WA := by rw [← hWA]; exact (Below.refl _ w).alloc (by omega) _
  have hrA := hr.out WA (by rw [hN]; exact hbw)
  have hbox : Hid (∀ W1, Below (N + 1) WA W1 → W1.heap[N]? = some (Obj.cells #[.string ⟨#[]⟩, .slice none 0 0] 92 (0, 0))) := fun W1 hb => amBox hN (by rw [hWA]; exact hb)
  have hfin : Hid (∀ W1 x v, Below (N + 1) WA W1 → Below w.heap.size w (putAm W1 N x v)) := fun W1 x v hb => by rw [hN]; exact putAm_below (hbw.trans (hb.mono (by omega))) _ _
  unfold AtomPost at hrA
  rw [hsA] at hrA
  have HG : Hid (∀ P, GroundPost s w P = GroundPost s w P) := fun _ => rfl
  clear hr hT hbw HG
  have HS : Hid (WA.heap.size = N + 1) := hsA
  clear hsA
  cases ha : atomR s with
  | none =>
    rw [ha] at hrA
    have HA : Hid (atomR s = none) := ha
    have HR : Hid _ := hrA
    clear ha hrA
    go_enter Tryz.func40, Tryz.ntmps40
    go_wp2_with fail
    refine Calls.mono HR.out ?_
    rintro e W1 ⟨hb1, rfl⟩
    have p1 := hbox.out W1 hb1
    have q0 : W1.cell? ⟨N, 0, none⟩ = some (.string ⟨#[]⟩) := (by simp [World.cell?, p1])
    have y0 : W1.frozen? ⟨N, 0, none⟩ = false := (by simp [World.frozen?, p1])
    have q1 : W1.cell? ⟨N, 1, none⟩ = some (.slice none 0 0) := (by simp [World.cell?, p1])
    have y1 : W1.frozen? ⟨N, 1, none⟩ = false := (by simp [World.frozen?, p1])
    have q0' : ∀ O, (W1.alloc O).cell? ⟨N, 0, none⟩ = some (.string ⟨#[]⟩) := fun O => (Below.cell ((Below.refl _ W1).alloc (Nat.le_refl _) O) (p := ⟨N, 0, none⟩) (Array.getElem?_eq_some_iff.1 p1).1).trans q0
    have q1' : ∀ O, (W1.alloc O).cell? ⟨N, 1, none⟩ = some (.slice none 0 0) := fun O => (Below.cell ((Below.refl _ W1).alloc (Nat.le_refl _) O) (p := ⟨N, 1, none⟩) (Array.getElem?_eq_some_iff.1 p1).1).trans q1
    have p1' : ∀ O, (W1.alloc O).heap[N]? = _ := fun O => (Below.heap_alloc W1 O N (Array.getElem?_eq_some_iff.1 p1).1).trans p1
    have y0' : ∀ O, (W1.alloc O).frozen? ⟨N, 0, none⟩ = false := fun O => by simp [World.frozen?, p1' O]
    have y1' : ∀ O, (W1.alloc O).frozen? ⟨N, 1, none⟩ = false := fun O => by simp [World.frozen?, p1' O]
    have hfw : Hid (∀ O, Below (N + 1) WA (W1.alloc O).drew) := fun O => hb1.trans ((((Below.refl _ W1).alloc (Nat.le_refl _) O).drew).mono (by have := hb1.size; rw [HS.out] at this; exact this))
    clear p1 p1'
    go_wp2
    go_region
    all_goals go_wp2
    all_goals refine bodyPost_ret (v := .tuple #[.agg #[.string ⟨#[]⟩, .slice none 0 0], .bool false]) (by simp [results, Tryz.results40, go_sem, q0', q1']) rfl ?_
    all_goals exact ⟨hfin.out _ _ _ (hfw.out _), by rw [HA.out]⟩
  | some a =>
    rw [ha] at hrA
    have HA : Hid (atomR s = some a) := ha
    have HR : Hid _ := hrA
    clear ha hrA
    go_enter Tryz.func40, Tryz.ntmps40
    go_wp2_with fail
    refine Calls.mono HR.out ?_
    rintro e W1 ⟨hb1, va, rfl, hok, hsl⟩
    obtain ⟨xa, xc, rfl⟩ := hsl.form
    have p1 := hbox.out W1 hb1
    have q0 : W1.cell? ⟨N, 0, none⟩ = some (.string ⟨#[]⟩) := (by simp [World.cell?, p1])
    have y0 : W1.frozen? ⟨N, 0, none⟩ = false := (by simp [World.frozen?, p1])
    have q1 : W1.cell? ⟨N, 1, none⟩ = some (.slice none 0 0) := (by simp [World.cell?, p1])
    have y1 : W1.frozen? ⟨N, 1, none⟩ = false := (by simp [World.frozen?, p1])
    have hgr : Hid (∀ W, RuleKept W1 W → Calls Tryz.prog 78 #[.agg #[.string a.rel, .slice xa a.args.length xc]] W fun e w' => e = .returned (.bool (groundB a)) ∧ Below W.heap.size W w') := fun W hb => isGround_any a _ W1.heap.size W (hsl.rk hb) (by have := hok.args; omega)
    have hrk : Hid (∀ O, RuleKept W1 (W1.alloc O).drew) := fun O k c t _ hc => (Below.heap_alloc W1 O k (Array.getElem?_eq_some_iff.1 hc).1).trans hc
    have hW2 : Hid (∀ O W2, Below (W1.alloc O).drew.heap.size (W1.alloc O).drew W2 → Below W1.heap.size W1 W2) := fun O W2 hb => (((Below.refl _ W1).alloc (Nat.le_refl _) O).drew).trans (hb.mono (by show _ ≤ (W1.alloc O).heap.size; simp))
    have hbx2 : Hid (∀ W, Below W1.heap.size W1 W → W.heap[N]? = some (Obj.cells #[.string ⟨#[]⟩, .slice none 0 0] 92 (0, 0)) ∧ Below (N + 1) WA W) := fun W hb => by
      have hx := hb1.trans (hb.mono (by have := hb1.size; rw [HS.out] at this; exact this))
      exact ⟨hbox.out W hx, hx⟩
    have hlast : Hid (∀ W, Below W1.heap.size W1 W → SealT (putAm W N a.rel (.slice xa a.args.length xc)) (putAm W N a.rel (.slice xa a.args.length xc)).heap.size (.slice xa a.args.length xc) a.args) := fun W hb => by
      show SealT _ _ _ _
      rw [putAm_size]
      refine (hsl.mono hb.size).kept (fun k c _ hc => (putAm_other _ _ _ _ (fun e => ?_)).trans ((hb.block k (Array.getElem?_eq_some_iff.1 hc).1).trans hc))
      have := (hbx2.out W hb).1
      rw [e] at hc
      rw [hb.block N (Array.getElem?_eq_some_iff.1 hc).1, hc] at this; cases this
    have hat : Hid (∀ W2, Below (W1.alloc (.cells #[.string a.rel, .slice xa a.args.length xc] 92)).drew.heap.size (W1.alloc (.cells #[.string a.rel, .slice xa a.args.length xc] 92)).drew W2 → W2.heap[W1.heap.size]? = some (Obj.cells #[.string a.rel, .slice xa a.args.length xc] 92 (0, 0))) := fun W2 hb => (hb.block _ (by show _ < (W1.alloc _).heap.size; simp)).trans (World.alloc_heap_new W1 _)
    have HOK : Hid _ := hok
    clear hsl hok p1
    go_wp2
    refine wp_mono (Q := fun e a' w' => match e with | Exit.normal => ∃ W2, Below W1.heap.size W1 W2 ∧ w' = putAm W2 N a.rel (.slice xa a.args.length xc) ∧ a' = { tmps := #[.string s, undef, .pointer (some ⟨N, 0, none⟩), .bool (groundB a), .pointer (some ⟨W1.heap.size, 0, none⟩), .bool true, .tuple #[.agg #[.string a.rel, .slice xa a.args.length xc], .bool true], .string s, .tuple #[.agg #[.string a.rel, .slice xa a.args.length xc], .bool true], .agg #[.string a.rel, .slice xa a.args.length xc], .bool true, .agg #[.string a.rel, .slice xa a.args.length xc], .bool true, .bool true, .agg #[.string a.rel, .slice xa a.args.length xc], .bool (groundB a), .bool (groundB a)], defers := [] } | _ => False) ?reg ?rest
    case reg =>
      first | (go_region_with (go_at_call 78; refine (hgr.out _ (hrk.out _)).mono ?_; rintro e W2 ⟨rfl, hb2'⟩; have hb2 := hW2.out _ _ hb2'; have p2 := hat.out W2 hb2'; have u0 : W2.cell? ⟨W1.heap.size, 0, none⟩ = some (.string a.rel) := (by simp [World.cell?, p2]); have u1 : W2.cell? ⟨W1.heap.size, 1, none⟩ = some (.slice xa a.args.length xc) := (by simp [World.cell?, p2]); clear p2; obtain ⟨p1, hb3⟩ := hbx2.out W2 hb2; have r0 : W2.cell? ⟨N, 0, none⟩ = some (.string ⟨#[]⟩) := (by simp [World.cell?, p1]); have z0 : W2.frozen? ⟨N, 0, none⟩ = false := (by simp [World.frozen?, p1]); have r1 : W2.cell? ⟨N, 1, none⟩ = some (.slice none 0 0) := (by simp [World.cell?, p1]); have z1 : W2.frozen? ⟨N, 1, none⟩ = false := (by simp [World.frozen?, p1]); clear p1)) | fail
      all_goals exact ⟨W2, hb2, rfl, rfl⟩
    case rest =>
      rintro (_ | _ | _ | _ | _ | _) a' w' hq
      all_goals first | exact hq.elim | skip
      obtain ⟨W2, hb2, rfl, rfl⟩ := hq
      obtain ⟨p1, hb3⟩ := hbx2.out W2 hb2
      have r0 : W2.cell? ⟨N, 0, none⟩ = some (.string ⟨#[]⟩) := (by simp [World.cell?, p1])
      have z0 : W2.frozen? ⟨N, 0, none⟩ = false := (by simp [World.frozen?, p1])
      have r1 : W2.cell? ⟨N, 1, none⟩ = some (.slice none 0 0) := (by simp [World.cell?, p1])
      unfold putAm
      go_wp2
      refine bodyPost_ret (v := .tuple #[.agg #[.string a.rel, .slice xa a.args.length xc], .bool (groundB a)]) (by simp [results, Tryz.results40, go_sem, r0, r1]) rfl ?_
      exact ⟨hfin.out _ _ _ hb3, by rw [HA.out]; exact ⟨_, rfl, HOK.out, hlast.out W2 hb2⟩⟩

end Go.Proofs.YtjajnhemgphefaaGreatDoor

namespace Go.Proofs.YtjajnhemgphefaaGreatDoor
open Go.RowKit Go.Shelf
set_option linter.unusedVariables false
set_option linter.unusedSimpArgs false

theorem strBelow {N : Nat} {w wr : World} (h : StrOnly N w wr) (hN : N ≤ w.heap.size) : Below N w wr := ⟨h.os, h.tape, h.output, h.size, fun k hk => h.block k (by omega) (.inl hk)⟩

set_option maxRecDepth 100000 in
set_option maxHeartbeats 1000000 in
theorem findManyNames_any (v : Value) (rs : List Rl) (base b45 b87 : Nat) (w : World) (hR : RulesAt w base b45 b87 v rs) (hrow : ∀ g, v.ownBlock = some g → g < w.heap.size) (h8 : rs.length ≤ 8) (hok : ∀ r ∈ rs, RuleOk r) :
    Calls Tryz.prog 103 #[v] w fun e w' => e = .returned (.int .i64 (manyFrom [] 0 rs)) ∧ Below w.heap.size w w' := by
  obtain ⟨a, c, hform⟩ := hR.form
  obtain ⟨N, hN⟩ : ∃ N, w.heap.size = N := ⟨_, rfl⟩
  have hcell : ∀ k (hk : k < rs.length), ∃ g v0 vb, a = some ⟨g, 0, none⟩ ∧ w.cell? ⟨g, k * 3, none⟩ = some (.string (rs[k]).head.rel) ∧ w.cell? ⟨g, k * 3 + 1, none⟩ = some v0 ∧ w.cell? ⟨g, k * 3 + 2, none⟩ = some vb ∧ RuleV w b45 b87 rs[k] v0 vb ∧ g < w.heap.size := by
    intro k hk
    obtain ⟨g, c', v0, vb, h1, h2, h3, h4, h5⟩ := rules_cell hR hk
    have hg := hrow g (by rw [h1]; rfl)
    rw [hform] at h1; cases h1
    exact ⟨g, v0, vb, rfl, h2, h3, h4, h5, hg⟩
  subst hform
  -- one round's two calls
  have hround : ∀ k (hk : k < rs.length) (v0 vb : Value) (wr : World) (us : List ByteArray) (vn : Value), RuleV w b45 b87 rs[k] v0 vb → StrOnly N w wr → wr.ownsRow N 9 1 vn us.length (us.map Value.string) → us.length ≤ 8 →
      ∀ fa fn fc ga gn gc, v0 = .slice fa fn fc → vb = .slice ga gn gc →
      Calls Tryz.prog 76 #[vn, .func (.func 141) #[] #[.pointer (some ⟨wr.heap.size + 1, 0, none⟩)]] ((wr.alloc (.cells #[.string (rs[k]).head.rel, .slice fa fn fc, .slice ga gn gc] 136)).alloc (.cells #[.string (rs[k]).head.rel, .slice fa fn fc, .slice ga gn gc] 136)) fun e w' => ∃ v', e = .returned v' ∧ w'.ownsRow N 9 1 v' (nmL us (ruleTerms rs[k])).length ((nmL us (ruleTerms rs[k])).map Value.string) ∧ StrOnly N w w' := by
    intro k hk v0 vb wr us vn hv hso hrow2 hul fa fn fc ga gn gc hf hg
    subst hf hg
    have hsz := hso.size
    have hbl : Below wr.heap.size wr ((wr.alloc (.cells #[.string (rs[k]).head.rel, .slice fa fn fc, .slice ga gn gc] 136)).alloc (.cells #[.string (rs[k]).head.rel, .slice fa fn fc, .slice ga gn gc] 136)) := ((Below.refl _ wr).alloc (Nat.le_refl _) _).alloc (by simp) _
    have hrk : RuleKept w wr := fun j cc t ht hc => (hso.block j (Array.getElem?_eq_some_iff.1 hc).1 (.inr (fun c' fz e => by rw [hc] at e; rcases ht with rfl | rfl | rfl <;> cases e))).trans hc
    refine (addNames_any rs[k] _ _ vn us N b45 b87 (wr.heap.size + 1) _ (hok _ (List.getElem_mem hk)) ((hv.rk hrk).rk (RuleKept.ofBelow hbl)) ?_ (own_below hrow2 hbl) (by simp; omega) (by omega)).mono ?_
    · have := World.alloc_heap_new (wr.alloc (.cells #[.string (rs[k]).head.rel, .slice fa fn fc, .slice ga gn gc] 136)) (.cells #[.string (rs[k]).head.rel, .slice fa fn fc, .slice ga gn gc] 136)
      rw [World.size_alloc] at this; exact this
    · rintro e w' ⟨v', h1, h2, h3⟩
      exact ⟨v', h1, h2, (hso.trans (StrOnly.ofBelow hbl)).trans h3⟩
  have HC : Hid _ := hcell
  have HR : Hid _ := hround
  clear hcell hround hR hok hrow
  go_enter Tryz.func103, Tryz.ntmps103
  go_wp2
  go_loopw [3, 8] (fun vn i wr => ∃ (k : Nat) (us : List ByteArray), k ≤ rs.length ∧ i = .int .i64 k ∧ us.length ≤ 8 ∧ wr.ownsRow N 9 1 vn us.length (us.map Value.string) ∧ Hid (manyFrom us k (rs.drop k) = manyFrom [] 0 rs) ∧ StrOnly N w wr) (fun _ i _ => rs.length - (intOf i).toNat)
  case atStart => exact ⟨0, [], Nat.zero_le _, rfl, by simp, World.ownsRow_nil _ _ _ _, rfl, StrOnly.refl _ _⟩
  case round =>
    obtain ⟨k, us, hk, rfl, hul, hrow, hspec, hso⟩ := hrel
    by_cases hlt : k < rs.length
    · obtain ⟨g, v0, vb, rfl, q0, q1, q2, hv, hg⟩ := HC.out k hlt
      have hbN : Below N w wr := strBelow hso (by omega)
      have q0' := (hbN.cell (p := ⟨g, k * 3, none⟩) (by rw [← hN]; exact hg)).trans q0
      have q1' := (hbN.cell (p := ⟨g, k * 3 + 1, none⟩) (by rw [← hN]; exact hg)).trans q1
      have q2' := (hbN.cell (p := ⟨g, k * 3 + 2, none⟩) (by rw [← hN]; exact hg)).trans q2
      obtain ⟨fa, fc, hsf⟩ := hv.1.form
      obtain ⟨ga, gc, htf⟩ := hv.2.form
      have hcall := HR.out k hlt v0 vb wr us _ hv hso hrow hul _ _ _ _ _ _ hsf htf
      rw [hsf] at q1'
      rw [htf] at q2'
      have hdrop : Hid (manyFrom us k (rs.drop k) = if 8 < (nmL us (ruleTerms rs[k])).length then (k : Int) else manyFrom (nmL us (ruleTerms rs[k])) (k + 1) (rs.drop (k + 1))) := by
        show _ = _
        rw [List.drop_eq_getElem_cons hlt, ruleTerms_tms]; rfl
      have HCL : Hid _ := hcall
      have i1 : (k : Int) < (rs.length : Int) := by omega
      obtain ⟨na, nc, rfl⟩ := owns_form hrow
      have HN : Hid (w.heap.size = N) := hN
      clear hcall q0 q1 q2 hv hsf htf hrow hbN hso hN
      generalize (rs[k]).head.rel = rel at *
      generalize (rs[k]).head.args.length = m1 at *
      generalize (rs[k]).body.length = m2 at *
      generalize nmL us (ruleTerms rs[k]) = us' at *
      by_cases hbig : 8 < us'.length
      · have hd : (8 : Int) < (us'.length : Int) := by omega
        have hres : Hid (manyFrom [] 0 rs = k) := by show _ = _; rw [← hspec.out, hdrop.out, if_pos hbig]
        go_wp2_with (first | (go_at_call 77; refine (rargs_any _ _ _ _ rfl _).mono ?_; rintro e w' ⟨rfl, rfl⟩) | (go_at_call 76; refine Calls.mono HCL.out ?_; rintro e w1 ⟨v1, rfl, hrow1, hso1⟩; obtain ⟨na1, nc1, rfl⟩ := owns_form hrow1))
        go_ret
        exact ⟨ret_int hres.out.symm, by rw [HN.out]; exact strBelow hso1 (Nat.le_of_eq HN.out.symm)⟩
      · have hd : ¬ (8 : Int) < (us'.length : Int) := by omega
        have hres : Hid (manyFrom us' (k + 1) (rs.drop (k + 1)) = manyFrom [] 0 rs) := by show _ = _; rw [← hspec.out, hdrop.out, if_neg hbig]
        go_wp2_with (first | (go_at_call 77; refine (rargs_any _ _ _ _ rfl _).mono ?_; rintro e w' ⟨rfl, rfl⟩) | (go_at_call 76; refine Calls.mono HCL.out ?_; rintro e w1 ⟨v1, rfl, hrow1, hso1⟩; obtain ⟨na1, nc1, rfl⟩ := owns_form hrow1))
        refine ⟨⟨k + 1, us', by omega, by go_num, by omega, hrow1, hres.out, hso1⟩, by simp [intOf]; omega⟩
    · have hres : Hid (manyFrom [] 0 rs = -1) := by show _ = _; rw [← hspec.out, List.drop_of_length_le (by omega)]; rfl
      go_wp2
      go_ret
      exact ⟨ret_int hres.out.symm, by rw [hN]; exact strBelow hso (by omega)⟩

end Go.Proofs.YtjajnhemgphefaaGreatDoor
