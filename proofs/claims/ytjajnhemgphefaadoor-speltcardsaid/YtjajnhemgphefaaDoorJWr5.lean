/-
  rules.Write: the rules, written in order.
-/
import Derived.Test.YtjajnhemgphefaaDoorJWr4
namespace Go.Proofs.YtjajnhemgphefaaDoor
open Go.RowKit Go.Shelf
set_option linter.unusedVariables false
set_option linter.unusedSimpArgs false

def rulesTxt (rs : List Rl) : List UInt8 := rs.flatMap ruleTxt

theorem size_list (s : ByteArray) : s.size = s.data.toList.length := by cases s; simp [ByteArray.size]

theorem termTxt_len (t : Tm) (h : TmOk t) : (termTxt t).length ≤ 1200 := by
  unfold termTxt
  split
  · have h1 := h.num
    have h2 := decS_size t.num
    have h3 : (decS t.num).size = (Lib.decDigits t.num).length := by rw [size_list]; rfl
    simp; omega
  · have := h.name
    have hsz := size_list t.name
    omega

theorem argsTxt_len : ∀ (l : List Tm) (i : Nat), (∀ t ∈ l, TmOk t) → (argsTxt i l).length ≤ l.length * 1201
  | [], _, _ => by simp [argsTxt]
  | t :: l, i, h => by
    have h1 := argsTxt_len l (i + 1) (fun x hx => h x (by simp [hx]))
    have h2 := termTxt_len t (h t (by simp))
    unfold argsTxt
    split <;> simp <;> omega

theorem atomTxt_len (a : Am) (h : AmOk a) : (atomTxt a).length ≤ 4000 := by
  have h1 := argsTxt_len a.args 0 h.tms
  have := h.rel
  have := h.args
  have hsz := size_list a.rel
  unfold atomTxt
  simp; omega

theorem bodyTxt_len : ∀ (l : List Am) (i : Nat), (∀ a ∈ l, AmOk a) → (bodyTxt i l).length ≤ l.length * 4004
  | [], _, _ => by simp [bodyTxt]
  | a :: l, i, ha => by
    have h1 := bodyTxt_len l (i + 1) (fun b hb => ha b (by simp [hb]))
    have h2 := atomTxt_len a (ha a (by simp))
    unfold bodyTxt
    split <;> simp <;> omega

theorem ruleTxt_len (r : Rl) (hok : RuleOk r) : (ruleTxt r).length ≤ 17000 := by
  have h1 := atomTxt_len r.head hok.head
  have h2 := bodyTxt_len r.body 0 hok.ams
  have h3 := hok.body
  unfold ruleTxt; simp; omega

theorem rulesTxt_len : ∀ (rs : List Rl), (∀ r ∈ rs, RuleOk r) → (rulesTxt rs).length ≤ rs.length * 17000
  | [], _ => by simp [rulesTxt]
  | r :: rs, h => by
    have h1 := rulesTxt_len rs (fun q hq => h q (by simp [hq]))
    have h2 := ruleTxt_len r (h r (by simp))
    unfold rulesTxt at h1 ⊢
    simp at h1 ⊢; omega

set_option maxRecDepth 100000 in
set_option maxHeartbeats 1000000 in
theorem write_any (v : Value) (rs : List Rl) (base b45 b87 : Nat) (w : World) (hR : RulesAt w base b45 b87 v rs) (hrow : ∀ g, v.ownBlock = some g → g < w.heap.size) (h8 : rs.length ≤ 8) (hok : ∀ r ∈ rs, RuleOk r) :
    Calls Tryd.prog 10 #[v] w fun e w' => e = .returned (.string ⟨(rulesTxt rs).toArray⟩) ∧ Below w.heap.size w w' := by
  obtain ⟨a, c, hform⟩ := hR.form
  have hlen : (rulesTxt rs).length ≤ 1000000 := by have := rulesTxt_len rs hok; omega
  obtain ⟨W0, hW0⟩ : ∃ W0, w.alloc (.cells #[.pointer none, .slice none 0 0] 42) = W0 := ⟨_, rfl⟩
  have hbl : Below w.heap.size w W0 := by rw [← hW0]; exact (Below.refl _ w).alloc (Nat.le_refl _) _
  have hB0 : w.heap.size ≤ W0.heap.size := hbl.size
  have hb0 : Bld w.heap.size w.heap.size [] W0 := by
    refine .inl ⟨Nat.le_refl _, .slice none 0 0, by rw [← hW0]; exact World.alloc_heap_new w _, World.ownsRowF_nil _ _ _ _, by simp [Value.ownBlock]⟩
  have hcell : ∀ (bk : List UInt8) (W1 : World), Wrote w.heap.size w.heap.size bk W0 W1 → ∀ k (hk : k < rs.length), ∃ g v0 vb, a = some ⟨g, 0, none⟩ ∧ W1.cell? ⟨g, k * 3, none⟩ = some (.string (rs[k]).head.rel) ∧ W1.cell? ⟨g, k * 3 + 1, none⟩ = some v0 ∧ W1.cell? ⟨g, k * 3 + 2, none⟩ = some vb ∧ RuleV W1 b45 b87 rs[k] v0 vb := by
    intro bk W1 hw k hk
    have hrk : RuleKept w W1 := (RuleKept.ofBelow hbl).trans (hw.rk hb0)
    obtain ⟨g, c', v0, vb, h1, h2, h3, h4, h5⟩ := rules_cell (hR.rk hrk) hk
    rw [hform] at h1; cases h1
    exact ⟨g, v0, vb, rfl, h2, h3, h4, h5⟩
  have halloc : ∀ (bk : List UInt8) (W1 : World) (O : Obj), Wrote w.heap.size w.heap.size bk W0 W1 → Wrote w.heap.size w.heap.size bk W0 (W1.alloc O) ∧ Below W1.heap.size W1 (W1.alloc O) := fun bk W1 O h => by
    have hx : Below W1.heap.size W1 (W1.alloc O) := (Below.refl _ W1).alloc (Nat.le_refl _) O
    exact ⟨⟨h.bld.below hx, h.below.trans (hx.mono (Nat.le_trans hB0 h.below.size)), h.others.trans (others_below hx)⟩, hx⟩
  have hrule : ∀ (bk : List UInt8) (W1 : World) (r : Rl) (v0 vb : Value), Wrote w.heap.size w.heap.size bk W0 W1 → RuleV W1 b45 b87 r v0 vb → RuleOk r → (bk ++ ruleTxt r).length ≤ 1000000 →
      Calls Tryd.prog 13 #[.pointer (some ⟨w.heap.size, 0, none⟩), .agg #[.string r.head.rel, v0, vb]] W1 fun e W' => e = .returned (.tuple #[]) ∧ Wrote w.heap.size w.heap.size (bk ++ ruleTxt r) W0 W' := fun bk W1 r v0 vb h hv hr hlk =>
    (writeRule_any _ _ bk r v0 vb b45 b87 W1 h.bld hv hr hlk (Nat.le_trans hB0 h.below.size)).mono (fun e W' h' => ⟨h'.1, h.trans h'.2⟩)
  have hstring : ∀ (bk : List UInt8) (W1 : World), Wrote w.heap.size w.heap.size bk W0 W1 → Calls Tryd.prog 14 #[.pointer (some ⟨w.heap.size, 0, none⟩)] W1 fun e w' => e = .returned (.string ⟨bk.toArray⟩) ∧ Below w.heap.size w w' := fun bk W1 h =>
    (Tryd.Builder_String_any_k w.heap.size w.heap.size bk W1 h.bld (Nat.le_trans hB0 h.below.size)).mono (fun e w' h' => ⟨h'.1, (hbl.trans h.below).trans h'.2.2.1⟩)
  subst hform
  have H1 : Hid _ := hcell
  have H2 : Hid _ := halloc
  have H3 : Hid _ := hrule
  have H4 : Hid _ := hstring
  have HOK : Hid _ := hok
  have k0 : Wrote w.heap.size w.heap.size [] W0 W0 := ⟨hb0, Below.refl _ _, Lib.OthersKept.refl _ _ _⟩
  clear hcell halloc hrule hstring hR hrow hok hb0 hB0 hbl
  go_enter Tryd.func10, Tryd.ntmps10
  go_wp2
  clear hW0
  go_loopw [8] (fun i wr => ∃ (k : Nat) (bk : List UInt8), k ≤ rs.length ∧ i = .int .i64 k ∧ Hid (bk ++ rulesTxt (rs.drop k) = rulesTxt rs) ∧ Wrote w.heap.size w.heap.size bk W0 wr) (fun i _ => rs.length - (intOf i).toNat)
  case atStart => exact ⟨0, [], Nat.zero_le _, rfl, rfl, k0⟩
  case round =>
    obtain ⟨k, bk, hk, rfl, htxt, kw⟩ := hrel
    by_cases hlt : k < rs.length
    · obtain ⟨g, v0, vb, rfl, q0, q1, q2, hv⟩ := H1.out bk wr kw k hlt
      have hstep : rulesTxt (rs.drop k) = ruleTxt rs[k] ++ rulesTxt (rs.drop (k + 1)) := by rw [List.drop_eq_getElem_cons hlt]; rfl
      have hnext : Hid ((bk ++ ruleTxt rs[k]) ++ rulesTxt (rs.drop (k + 1)) = rulesTxt rs) := by show _ = _; rw [← htxt.out, hstep]; simp
      have hlk : (bk ++ ruleTxt rs[k]).length ≤ 1000000 := by have := congrArg List.length hnext.out; simp at this ⊢; omega
      obtain ⟨sa, sc, hsf⟩ := hv.1.form
      obtain ⟨ta, tc, htf⟩ := hv.2.form
      subst hsf htf
      obtain ⟨kwa, hxa⟩ := H2.out bk wr (.cells #[.string (rs[k]).head.rel, .slice sa (rs[k]).head.args.length sc, .slice ta (rs[k]).body.length tc] 48) kw
      have hcall := H3.out bk _ rs[k] _ _ kwa (hv.rk (RuleKept.ofBelow hxa)) (HOK.out _ (List.getElem_mem hlt)) hlk
      have HC : Hid _ := hcall
      have i1 : (k : Int) < (rs.length : Int) := by omega
      clear hcall hstep htxt hlk hv hxa kwa
      generalize rs[k] = rk at *
      go_wp2_with fail
      refine Calls.mono HC.out ?_
      rintro e W3 ⟨rfl, k3⟩
      go_wp2
      go_roundw
      case rel => exact ⟨k + 1, _, by omega, by go_num, hnext, k3⟩
      case measure => simp [intOf]; omega
    · have hbk : bk = rulesTxt rs := by
        have := htxt.out
        rw [List.drop_of_length_le (by omega)] at this
        simpa [rulesTxt] using this
      subst hbk
      have HST : Hid _ := H4.out _ wr kw
      go_wp2_with fail
      refine Calls.mono HST.out ?_
      rintro e W3 ⟨rfl, hb3⟩
      go_wp2
      go_ret
      exact ⟨rfl, hb3⟩

end Go.Proofs.YtjajnhemgphefaaDoor
