/-
  The document's own answer: Parse.
  The document's own answer: a number in decimal digits; an atom as it is written.
  The document's own answer: Rules.
  The document's own answer: Rules answers, for every text, the plain function refRules.
  The document's own answer: atoms without variables: how they lie in memory; Same.
  The document's own answer: does an atom stand in a list? how it is written.
  The document's own answer: names put for the variables of an atom; room for the variables of a rule.
  The document's own answer: an atom without variables.
-/
import Derived.Test.YtjajnhemgphefaaGreatDoorJRefT
import Derived.Lib.ItoaNum
import Derived.Deep.RegionLawGrows
import Derived.Maps.AppendAt
import Derived.BigRegion
namespace Go.Proofs.YtjajnhemgphefaaGreatDoor
open Go.RowKit Go.Shelf
set_option linter.unusedVariables false
set_option linter.unusedSimpArgs false

def lk0 (alone : Bool) : Lk := ⟨0, false, alone, 0, 0, 0, 0⟩
def parseD (s : ByteArray) : Except (Int × Nat) (List Rl) :=
  if 300 < (R s 0).length then .error (1, 0)
  else if (overR (lk0 false) (refToks s)).1 ≠ 0 then .error (overR (lk0 false) (refToks s))
  else match readR ((refToks s).length + 1) (refToks s) with
    | none => .error (0, 0)
    | some rs => if (soundR rs).1 ≠ 0 then .error (soundR rs) else .ok rs

theorem refT_len : ∀ (f : Nat) (l : List Rn) (i : Nat), (refT f l i).length ≤ l.length
  | 0, l, i => by simp [refT]
  | f + 1, [], i => by simp [refT]
  | f + 1, r :: l, i => by
    unfold refT
    have h1 := refT_len f (l.drop (tw l).length) (i + (1 + (tw l).length))
    have h2 := refT_len f l (i + 1)
    have h3 := refT_len f (l.drop 1) (i + 2)
    rw [List.length_drop] at h1 h3
    repeat' split
    all_goals simp only [List.length_cons]
    all_goals omega

theorem refToks_len (s : ByteArray) : (refToks s).length ≤ (R s 0).length + 1 := by
  unfold refToks
  have := refT_len (R s 0).length (R s 0) 0
  simp; omega
theorem refToks_end (s : ByteArray) : hasEnd (refToks s) := ⟨_, _, rfl, rfl⟩

theorem tms_len (rs : List Rl) (h : ∀ r ∈ rs, RlSmall r) : (tmsOf (amsR rs)).length ≤ 8 * rs.length := by
  induction rs with
  | nil => simp [amsR, tmsOf]
  | cons r rs ih =>
    have h1 := h r List.mem_cons_self
    have h2 := ih (fun r' hr' => h r' (List.mem_cons_of_mem _ hr'))
    have e : tmsOf (amsR (r :: rs)) = r.head.args ++ tmsOf r.body ++ tmsOf (amsR rs) := by
      unfold amsR tmsOf ruleAms; simp only [List.flatMap_cons, List.flatMap_append, List.cons_append]
      rw [List.append_assoc]
    have hb : ∀ (bs : List Am), (∀ a ∈ bs, a.args.length ≤ 2) → (tmsOf bs).length ≤ 2 * bs.length := by
      intro bs
      induction bs with
      | nil => intro _; simp [tmsOf]
      | cons a bs ihb =>
        intro hh
        have x1 := hh a List.mem_cons_self
        have x2 := ihb (fun a' ha' => hh a' (List.mem_cons_of_mem _ ha'))
        unfold tmsOf at x2 ⊢
        simp only [List.flatMap_cons, List.length_append, List.length_cons]
        omega
    have h3 := hb r.body (fun a ha => (h1.body a ha).1)
    have h4 := h1.head.1
    have h5 := h1.few
    rw [e]
    simp only [List.length_append, List.length_cons]
    omega

theorem rlok_of {qs : List (Rl × Value × Value)} {rs : List Rl} (hq : qs.map (·.1) = rs) (h8 : rs.length ≤ 8) (h : ∀ r ∈ rs, RlSmall r) : RlOkD qs := by
  have hl : qs.length = rs.length := by rw [← hq]; simp
  have hm : ∀ q ∈ qs, RlSmall q.1 := fun q hq' => h q.1 (by rw [← hq]; exact List.mem_map.2 ⟨q, hq', rfl⟩)
  refine ⟨by omega, fun q hq' => by have := (hm q hq').few; omega, ?_, fun a ha => ?_⟩
  · have := tms_len rs h
    rw [amsOf_map, hq]; omega
  · obtain ⟨q, hq', hqa⟩ := List.mem_flatMap.1 ha
    have hs := hm q hq'
    rcases List.mem_cons.1 hqa with rfl | hqa
    · exact ⟨by have := hs.head.1; omega, fun t ht => by have := hs.head.2 t ht; omega⟩
    · exact ⟨by have := (hs.body a hqa).1; omega, fun t ht => by have := (hs.body a hqa).2 t ht; omega⟩

theorem tokAt_of {W : World} {B : Nat} {v : Value} {ts : List RT} (h : W.ownsRow B 244 4 v ts.length (ts.flatMap rtC)) (hne : 0 < ts.length) : ∃ g cap, v = .slice (some ⟨g, 0, none⟩) ts.length cap ∧ TokAt W g ts := by
  obtain ⟨g, cap, e1, e2, e3, e4, e5⟩ := own_get h rtC_len hne
  refine ⟨g, cap, e1, ⟨e3, fun j hj => ⟨e5 j 0 hj _ (by decide) rfl, e5 j 1 hj _ (by decide) rfl, e5 j 2 hj _ (by decide) rfl, e5 j 3 hj _ (by decide) rfl⟩⟩, ?_⟩
  exact own_cells h (by rw [e1]; rfl)

/-- What Parse answers, and where it lies. -/
def ParseAns (s : ByteArray) (e : Ending) (w' : World) : Prop :=
  match parseD s with
  | .error (c, p) => e = .returned (.tuple #[.slice none 0 0, .int .i64 c, .int .i64 p])
  | .ok rs => ∃ v qs, e = .returned (.tuple #[v, .int .i64 0, .int .i64 0]) ∧ RulesIn w' v qs ∧ qs.map (·.1) = rs ∧ RlOkD qs ∧ rs.length ≤ 8 ∧ ∀ r ∈ rs, RlSmall r

set_option maxRecDepth 100000 in
set_option maxHeartbeats 8000000 in
theorem parse_ref (s : ByteArray) (w : World) (hs : s.size ≤ 1048576) :
    Calls Tryz.prog 64 #[.string s] w fun e w' => ParseAns s e w' ∧ Below w.heap.size w w' := by
  obtain ⟨N, hN⟩ : ∃ N, N = w.heap.size := ⟨_, rfl⟩
  have hNr := hN.symm
  have hru := runes_any s w hs
  rw [← hN] at hru ⊢
  by_cases hlong : 300 < (R s 0).length
  · have hD : parseD s = .error (1, 0) := by unfold parseD; rw [if_pos hlong]
    have HD : Hid (∀ (e : Ending) (w' : World), e = .returned (.tuple #[.slice none 0 0, .int .i64 1, .int .i64 0]) → ParseAns s e w') := by
      intro e w' he
      unfold ParseAns; rw [hD]; exact he
    clear hD
    generalize R s 0 = L at *
    go_enter Tryz.func64, Tryz.ntmps64
    go_wp2_with fail
    refine hru.mono ?_
    rintro e W1 ⟨v1, rfl, ho1, hb1⟩
    obtain ⟨a1, c1, rfl⟩ := own_form ho1
    clear ho1 hru
    go_wp2
    go_ret3
    exact ⟨HD.out _ _ rfl, hb1⟩
  · have hL : (R s 0).length ≤ 300 := by omega
    have htk := fun W1 => tokens_any s W1 hs hL
    have hln := refToks_len s
    have hend := refToks_end s
    have hD : parseD s = if (overR (lk0 false) (refToks s)).1 ≠ 0 then .error (overR (lk0 false) (refToks s)) else match readR ((refToks s).length + 1) (refToks s) with
      | none => .error (0, 0)
      | some rs => if (soundR rs).1 ≠ 0 then .error (soundR rs) else .ok rs := by unfold parseD; rw [if_neg hlong]
    generalize refToks s = ts at *
    have hne : 0 < ts.length := by
      obtain ⟨pre, E, h1, _⟩ := hend; rw [h1]; simp
    have hov := fun (g cap : Nat) (W : World) (h : TokRow W g ts) => over_any g cap ts false W h (by omega)
    by_cases hoe : (overR (lk0 false) ts).1 = 0
    · obtain ⟨rs, hr1, hr2, hr3⟩ := rules_read (ts.length + 1) ts (lk0 false) (by omega) rfl rfl rfl hend hoe (by decide)
      rw [if_neg (by simpa using hoe), hr1] at hD
      simp only at hD
      have hrd := fun (g cap : Nat) (W : World) (h : TokAt W g ts) => read_any g cap ts (ts.length + 1) rs W h (by omega) hr1
      have h8 : rs.length ≤ 8 := by simp [lk0] at hr2; exact hr2
      have HD : Hid (parseD s = if (soundR rs).1 ≠ 0 then .error (soundR rs) else .ok rs) := hD
      have HR3 : Hid (∀ r ∈ rs, RlSmall r) := hr3
      have hoe2 : Hid (∀ (g cap : Nat) (W : World), TokRow W g ts → Calls Tryz.prog 108 #[.slice (some ⟨g, 0, none⟩) ts.length cap, .bool false] W fun e w' => (∃ p : Nat, e = .returned (.tuple #[.int .i64 0, .int .i64 p])) ∧ Below W.heap.size W w') := by
        intro g cap W h
        refine (hov g cap W h).mono ?_
        rintro e w' ⟨rfl, hb⟩
        refine ⟨⟨(overR (lk0 false) ts).2, ?_⟩, hb⟩
        have e0 : (overR ⟨0, false, false, 0, 0, 0, 0⟩ ts).1 = 0 := hoe
        rw [e0]; rfl
      clear hov hD hr1 hr2 hr3 hoe hend hlong
      generalize R s 0 = L at *
      go_enter Tryz.func64, Tryz.ntmps64
      go_wp2_with fail
      refine hru.mono ?_
      rintro e W1 ⟨v1, rfl, ho1, hb1⟩
      obtain ⟨a1, c1, rfl⟩ := own_form ho1
      clear ho1 hru
      go_wp2_with fail
      refine (htk W1).mono ?_
      rintro e W2 ⟨v2, rfl, ho2, hb2⟩
      obtain ⟨g, cap, rfl, hTA⟩ := tokAt_of ho2 hne
      have hN1 : N ≤ W1.heap.size := by have := hb1.size; omega
      have hb2' : Below N w W2 := hb1.trans (hb2.mono hN1)
      have hN2 : N ≤ W2.heap.size := Nat.le_trans hN1 hb2.size
      clear ho2 htk hb1 hb2
      go_wp2_with fail
      refine (hoe2.out g cap W2 hTA.1).mono ?_
      rintro e W3 ⟨⟨p3, rfl⟩, hb3⟩
      have hTA3 := hTA.below hb3 hTA.1.1
      have hb3' : Below N w W3 := hb2'.trans (hb3.mono hN2)
      have hN3 : N ≤ W3.heap.size := Nat.le_trans hN2 hb3.size
      clear hb3 hTA hoe2 hb2'
      go_wp2_with fail
      refine (hrd g cap W3 hTA3).mono ?_
      rintro e W4 ⟨v4, qs, rfl, hO, hq⟩
      have hR4 := hO.rules
      have hb4' : Below N w W4 := hb3'.trans (hO.below.mono hN3)
      have hN4 : N ≤ W4.heap.size := Nat.le_trans hN3 hO.size
      have hok := rlok_of hq h8 HR3.out
      have hsd := sound_any v4 qs W4 hR4 hok
      rw [hq] at hsd
      clear hrd hO hb3' hTA3
      by_cases hse : (soundR rs).1 = 0
      · have HDD : Hid (∀ (e : Ending) (w' : World), (∃ v qs, e = .returned (.tuple #[v, .int .i64 0, .int .i64 0]) ∧ RulesIn w' v qs ∧ qs.map (·.1) = rs ∧ RlOkD qs ∧ rs.length ≤ 8 ∧ ∀ r ∈ rs, RlSmall r) → ParseAns s e w') := by
          intro e w' he
          unfold ParseAns; rw [HD.out, if_neg (by simpa using hse)]; exact he
        rw [hse] at hsd
        go_wp2_with fail
        refine hsd.mono ?_
        rintro e W5 ⟨rfl, hb5⟩
        have hR5 := hR4.below hb5
        have hb5' : Below N w W5 := hb4'.trans (hb5.mono hN4)
        clear hsd hR4 hb5 hb4'
        go_wp2
        go_ret3
        exact ⟨HDD.out _ _ ⟨v4, qs, rfl, hR5, hq, hok, h8, HR3.out⟩, hb5'⟩
      · have HDD : Hid (∀ (e : Ending) (w' : World), e = .returned (.tuple #[.slice none 0 0, .int .i64 (soundR rs).1, .int .i64 (soundR rs).2]) → ParseAns s e w') := by
          intro e w' he
          unfold ParseAns; rw [HD.out, if_pos hse]; exact he
        generalize (soundR rs).1 = se at *
        generalize (soundR rs).2 = si at *
        have m0 : (se == 0) = false := by simpa using hse
        have m1 : (se != 0) = true := by simpa using hse
        go_wp2_with fail
        refine hsd.mono ?_
        rintro e W5 ⟨rfl, hb5⟩
        have hb5' : Below N w W5 := hb4'.trans (hb5.mono hN4)
        clear hsd hR4 hb5 hb4'
        go_wp2
        go_ret3
        exact ⟨HDD.out _ _ rfl, hb5'⟩
    · rw [if_pos hoe] at hD
      have HDD : Hid (∀ (e : Ending) (w' : World), e = .returned (.tuple #[.slice none 0 0, .int .i64 (overR (lk0 false) ts).1, .int .i64 (overR (lk0 false) ts).2]) → ParseAns s e w') := by
        intro e w' he
        unfold ParseAns; rw [hD]; exact he
      have hov2 : Hid (∀ (g cap : Nat) (W : World), TokRow W g ts → Calls Tryz.prog 108 #[.slice (some ⟨g, 0, none⟩) ts.length cap, .bool false] W fun e w' => e = .returned (.tuple #[.int .i64 (overR (lk0 false) ts).1, .int .i64 (overR (lk0 false) ts).2]) ∧ Below W.heap.size W w') := hov
      clear hov hD hend hlong
      generalize (overR (lk0 false) ts).1 = oe at *
      generalize (overR (lk0 false) ts).2 = op at *
      generalize R s 0 = L at *
      have m0 : (oe == 0) = false := by simpa using hoe
      have m1 : (oe != 0) = true := by simpa using hoe
      go_enter Tryz.func64, Tryz.ntmps64
      go_wp2_with fail
      refine hru.mono ?_
      rintro e W1 ⟨v1, rfl, ho1, hb1⟩
      obtain ⟨a1, c1, rfl⟩ := own_form ho1
      clear ho1 hru
      go_wp2_with fail
      refine (htk W1).mono ?_
      rintro e W2 ⟨v2, rfl, ho2, hb2⟩
      obtain ⟨g, cap, rfl, hTA⟩ := tokAt_of ho2 hne
      have hN1 : N ≤ W1.heap.size := by have := hb1.size; omega
      have hb2' : Below N w W2 := hb1.trans (hb2.mono hN1)
      have hN2 : N ≤ W2.heap.size := Nat.le_trans hN1 hb2.size
      clear ho2 htk hb1 hb2
      go_wp2_with fail
      refine (hov2.out g cap W2 hTA.1).mono ?_
      rintro e W3 ⟨rfl, hb3⟩
      have hb3' : Below N w W3 := hb2'.trans (hb3.mono hN2)
      clear hb3 hTA hov2 hb2'
      go_wp2
      go_ret3
      exact ⟨HDD.out _ _ rfl, hb3'⟩

end Go.Proofs.YtjajnhemgphefaaGreatDoor

namespace Go.Proofs.YtjajnhemgphefaaGreatDoor
open Go.RowKit Go.Shelf
set_option linter.unusedVariables false
set_option linter.unusedSimpArgs false

def tmW (t : Tm) : ByteArray := if t.name.toList.isEmpty = true then ⟨#[88]⟩ ++ decS t.num else t.name
def argsW : Nat → List Tm → ByteArray
  | _, [] => ⟨#[]⟩
  | i, t :: l => (if 0 < i then ⟨#[44]⟩ else ⟨#[]⟩) ++ tmW t ++ argsW (i + 1) l
def atomW (a : Am) : ByteArray := (a.rel ++ ⟨#[40]⟩) ++ argsW 0 a.args ++ ⟨#[41]⟩

end Go.Proofs.YtjajnhemgphefaaGreatDoor

namespace Go.Proofs.YtjajnhemgphefaaGreatDoor
open Go.RowKit Go.Shelf
set_option linter.unusedVariables false
set_option linter.unusedSimpArgs false

def AmSz (K : Nat) (a : Am) : Prop := a.rel.size ≤ K ∧ ∀ t ∈ a.args, t.name.size ≤ K
def RlSz (K : Nat) (r : Rl) : Prop := AmSz K r.head ∧ ∀ a ∈ r.body, AmSz K a

theorem argsR_sz (K : Nat) : ∀ (us : List RT) (vs : List ByteArray) (L : List Tm) (vsF : List ByteArray) (n : Nat), (∀ u ∈ us, u.text.size ≤ K) → argsR vs us = some (L, vsF, n) → ∀ t ∈ L, t.name.size ≤ K
  | [], vs, L, vsF, n, _, h => by simp [argsR] at h
  | [a], vs, L, vsF, n, _, h => by simp [argsR] at h
  | a :: b :: us, vs, L, vsF, n, hu, h => by
    have ha : (argT vs a).name.size ≤ K := by
      unfold argT
      split
      · exact Nat.zero_le _
      · exact hu a List.mem_cons_self
    unfold argsR at h
    split at h
    · simp only [Option.some.injEq, Prod.mk.injEq] at h
      obtain ⟨rfl, rfl, rfl⟩ := h
      intro t ht; simp at ht; subst ht; exact ha
    · cases hr : argsR (argVs vs a) us with
      | none => rw [hr] at h; simp at h
      | some r =>
        obtain ⟨l', v', n'⟩ := r
        rw [hr] at h
        simp only [Option.some.injEq, Prod.mk.injEq] at h
        obtain ⟨rfl, rfl, rfl⟩ := h
        have ih := argsR_sz K us _ _ _ _ (fun u hu' => hu u (List.mem_cons_of_mem _ (List.mem_cons_of_mem _ hu'))) hr
        intro t ht
        rcases List.mem_cons.1 ht with rfl | ht
        · exact ha
        · exact ih t ht

theorem bodyR_sz (K : Nat) : ∀ (n f : Nat) (us : List RT) (vs : List ByteArray) (bs : List Am) (m : Nat), us.length ≤ n → (∀ u ∈ us, u.text.size ≤ K) → bodyR f vs us = some (bs, m) → ∀ a ∈ bs, AmSz K a
  | n, f, us, vs, bs, m, hn, hu, h => by
    obtain ⟨t, us1, rfl, ⟨_, rfl, _⟩ | ⟨_, r, p, us2, l, vs', k, f', bs', m', rfl, h1, h2, rfl, _⟩⟩ := bodyR_step h
    · intro a ha; cases ha
    · cases n with
      | zero => simp at hn
      | succ n =>
        have hu2 : ∀ u ∈ us2, u.text.size ≤ K := fun u hu' => hu u (List.mem_cons_of_mem _ (List.mem_cons_of_mem _ (List.mem_cons_of_mem _ hu')))
        have ih := bodyR_sz K n f' (us2.drop k) vs' bs' m' (by simp at hn ⊢; omega) (fun u hu' => hu2 u (List.mem_of_mem_drop hu')) h2
        intro a ha
        rcases List.mem_cons.1 ha with rfl | ha
        · exact ⟨hu r (List.mem_cons_of_mem _ List.mem_cons_self), argsR_sz K us2 _ _ _ _ hu2 h1⟩
        · exact ih a ha

theorem readR_sz (K : Nat) : ∀ (n f : Nat) (us : List RT) (rs : List Rl), us.length ≤ n → (∀ u ∈ us, u.text.size ≤ K) → readR f us = some rs → ∀ r ∈ rs, RlSz K r
  | n, f, us, rs, hn, hu, h => by
    obtain ⟨t, us1, rfl, ⟨_, rfl⟩ | ⟨_, p, us2, l, vs, k, bs, m, f', rs', rfl, h1, h2, h3, rfl⟩⟩ := readR_step h
    · intro r hr; cases hr
    · cases n with
      | zero => simp at hn
      | succ n =>
        have hu2 : ∀ u ∈ us2, u.text.size ≤ K := fun u hu' => hu u (List.mem_cons_of_mem _ (List.mem_cons_of_mem _ hu'))
        have hu3 : ∀ u ∈ us2.drop k, u.text.size ≤ K := fun u hu' => hu2 u (List.mem_of_mem_drop hu')
        have ih := readR_sz K n f' ((us2.drop k).drop (m + 1)) rs' (by simp at hn ⊢; omega) (fun u hu' => hu3 u (List.mem_of_mem_drop hu')) h3
        intro r hr
        rcases List.mem_cons.1 hr with rfl | hr
        · exact ⟨⟨hu t List.mem_cons_self, argsR_sz K us2 _ _ _ _ hu2 h1⟩, bodyR_sz K _ _ _ _ _ _ (Nat.le_refl _) hu3 h2⟩
        · exact ih r hr

theorem cat_size (l : List Rn) (h : ∀ r ∈ l, r.text.size ≤ 4) : (cat l).size ≤ 4 * l.length := by
  induction l with
  | nil => exact Nat.le_refl 0
  | cons x l ih =>
    have h1 := h x List.mem_cons_self
    have h2 := ih (fun r hr => h r (List.mem_cons_of_mem _ hr))
    simp only [cat, ByteArray.size_append, List.length_cons]; omega
theorem tw_sub (l : List Rn) : ∀ r ∈ tw l, r ∈ l := fun r hr => by rw [tw_take] at hr; exact List.mem_of_mem_take hr

theorem refT_size : ∀ (f : Nat) (l : List Rn) (i : Nat), (∀ r ∈ l, r.text.size ≤ 4) → ∀ t ∈ refT f l i, t.text.size ≤ 4 * l.length
  | 0, l, i, _, t, ht => by simp [refT] at ht
  | f + 1, [], i, _, t, ht => by simp [refT] at ht
  | f + 1, r :: l, i, h, t, ht => by
    have hr := h r List.mem_cons_self
    have hl : ∀ x ∈ l, x.text.size ≤ 4 := fun x hx => h x (List.mem_cons_of_mem _ hx)
    have hc := cat_size (tw l) (fun x hx => hl x (tw_sub l x hx))
    have htl := tw_le l
    have i1 := refT_size f (l.drop (tw l).length) (i + (1 + (tw l).length)) (fun x hx => hl x (List.mem_of_mem_drop hx)) t
    have i2 := refT_size f l (i + 1) hl t
    have i3 := refT_size f (l.drop 1) (i + 2) (fun x hx => hl x (List.mem_of_mem_drop hx)) t
    rw [List.length_drop] at i1 i3
    simp only [List.length_cons]
    unfold refT at ht
    split at ht
    · rcases List.mem_cons.1 ht with rfl | ht
      · simp only [ByteArray.size_append]; omega
      · have := i1 ht; omega
    · split at ht
      · rcases List.mem_cons.1 ht with rfl | ht
        · simp only; omega
        · have := i2 ht; omega
      · split at ht
        · rcases List.mem_cons.1 ht with rfl | ht
          · show (0 : Nat) ≤ _; omega
          · have := i3 ht; omega
        · split at ht
          · have := i2 ht; omega
          · rcases List.mem_cons.1 ht with rfl | ht
            · simp only; omega
            · have := i2 ht; omega

theorem refToks_size (s : ByteArray) (hL : (R s 0).length ≤ 300) : ∀ t ∈ refToks s, t.text.size ≤ 1200 := by
  intro t ht
  unfold refToks at ht
  rcases List.mem_append.1 ht with ht | ht
  · have := refT_size _ _ _ (fun r hr => (R_size s s.size 0 (by omega) r hr).2) t ht
    omega
  · simp at ht; subst ht; exact Nat.zero_le _

/-- Rules that Parse lets in have short words. -/
theorem parseD_sz (s : ByteArray) (rs : List Rl) (h : parseD s = .ok rs) : ∀ r ∈ rs, RlSz 1200 r := by
  unfold parseD at h
  split at h
  · cases h
  · rename_i hL
    split at h
    · cases h
    · split at h
      · cases h
      · rename_i rs' hr
        split at h
        · cases h
        · injection h with h; subst h
          exact readR_sz 1200 _ _ _ _ (Nat.le_refl _) (refToks_size s (by omega)) hr

def bodyW : Nat → List Am → ByteArray
  | _, [] => ⟨#[]⟩
  | i, a :: l => (if i = 0 then ⟨#[32, 58, 45, 32]⟩ else ⟨#[44, 32]⟩) ++ atomW a ++ bodyW (i + 1) l
def ruleW (r : Rl) : ByteArray := atomW r.head ++ bodyW 0 r.body ++ ⟨#[46, 10]⟩
def rulesW : List Rl → ByteArray
  | [] => ⟨#[]⟩
  | r :: l => ruleW r ++ rulesW l

def refRules (s : ByteArray) : ByteArray × Int × Nat :=
  match parseD s with
  | .error (c, p) => (⟨#[]⟩, c, p)
  | .ok rs => (rulesW rs, 0, 0)

end Go.Proofs.YtjajnhemgphefaaGreatDoor

namespace Go.Proofs.YtjajnhemgphefaaGreatDoor
open Go.RowKit Go.Shelf
set_option linter.unusedVariables false
set_option linter.unusedSimpArgs false

theorem parseD_err (s : ByteArray) (c : Int) (p : Nat) (h : parseD s = .error (c, p)) : c ≠ 0 := by
  unfold parseD at h
  split at h
  · injection h with h; injection h with h1 h2; omega
  · split at h
    · rename_i ho
      injection h with h
      rw [h] at ho; exact ho
    · rename_i ho
      obtain ⟨rs, hr1, _, _⟩ := rules_read ((refToks s).length + 1) (refToks s) (lk0 false) (by omega) rfl rfl rfl (refToks_end s) (by unfold okO; simpa using ho) (by decide)
      rw [hr1] at h
      simp only at h
      split at h
      · rename_i hs
        injection h with h
        rw [h] at hs; exact hs
      · cases h

end Go.Proofs.YtjajnhemgphefaaGreatDoor

namespace Go.Proofs.YtjajnhemgphefaaGreatDoor
open Go.RowKit Go.Shelf
set_option linter.unusedVariables false
set_option linter.unusedSimpArgs false

structure Gr where
  rel : ByteArray
  args : List ByteArray

/-- A row of texts. -/
def StrsIn (W : World) (v : Value) (l : List ByteArray) : Prop := W.ownsRow 0 9 1 v l.length (l.map Value.string)
def gdC (p : Gr × Value) : List Value := [.string p.1.rel, p.2]
theorem gdC_len (p : Gr × Value) : (gdC p).length = 2 := rfl
def gdV (p : Gr × Value) : Value := .agg #[.string p.1.rel, p.2]
structure GdsIn (W : World) (v : Value) (ps : List (Gr × Value)) : Prop where
  row : W.ownsRow 0 226 2 v ps.length (ps.flatMap gdC)
  each : ∀ p ∈ ps, StrsIn W p.2 p.1.args

theorem StrsIn.below {W W' : World} {v : Value} {l : List ByteArray} (h : StrsIn W v l) (hb : Below W.heap.size W W') : StrsIn W' v l := own_below h hb
theorem GdsIn.below {W W' : World} {v : Value} {ps : List (Gr × Value)} (h : GdsIn W v ps) (hb : Below W.heap.size W W') : GdsIn W' v ps := ⟨own_below h.row hb, fun p hp => (h.each p hp).below hb⟩

theorem StrsIn.cell {W : World} {v : Value} {l : List ByteArray} (h : StrsIn W v l) (j : Nat) (hj : j < l.length) : ∃ g cap, v = .slice (some ⟨g, 0, none⟩) l.length cap ∧ g < W.heap.size ∧ W.cell? ⟨g, j, none⟩ = some (.string l[j]) := by
  unfold StrsIn at h
  rw [strs_flat] at h
  obtain ⟨g, cap, e1, e2, e3, e4, e5⟩ := own_get h strC_len (by omega)
  have := e5 j 0 hj (.string l[j]) (by decide) rfl
  rw [Nat.mul_one, Nat.add_zero] at this
  exact ⟨g, cap, e1, e3, this⟩
theorem GdsIn.cell {W : World} {v : Value} {ps : List (Gr × Value)} (h : GdsIn W v ps) (k : Nat) (hk : k < ps.length) :
    ∃ g cap, v = .slice (some ⟨g, 0, none⟩) ps.length cap ∧ g < W.heap.size ∧ W.cell? ⟨g, k * 2, none⟩ = some (.string ps[k].1.rel) ∧ W.cell? ⟨g, k * 2 + 1, none⟩ = some ps[k].2 ∧ (∃ a c, ps[k].2 = .slice a ps[k].1.args.length c) ∧ StrsIn W ps[k].2 ps[k].1.args := by
  obtain ⟨g, cap, e1, e2, e3, e4, e5⟩ := own_get h.row gdC_len (by omega)
  have hA := h.each ps[k] (List.getElem_mem hk)
  exact ⟨g, cap, e1, e3, e5 k 0 hk _ (by decide) rfl, e5 k 1 hk _ (by decide) rfl, own_form hA, hA⟩

/-- Texts are the same when their bytes are. -/
theorem bytes_same {x y : ByteArray} (h : x.toList = y.toList) : x = y := by
  rw [ByteArray.toList_eq, ByteArray.toList_eq] at h
  exact ByteArray.ext (Array.toList_inj.1 h)
theorem beq_bytes (x y : ByteArray) : (x.toList == y.toList) = decide (x = y) := by
  rw [Bool.eq_iff_iff]
  simp only [beq_iff_eq, decide_eq_true_eq]
  exact ⟨bytes_same, fun h => by rw [h]⟩

def sameL : List ByteArray → List ByteArray → Bool
  | [], [] => true
  | x :: l, y :: m => (x.toList == y.toList) && sameL l m
  | _, _ => false
def sameG (a b : Gr) : Bool := (a.rel.toList == b.rel.toList) && sameL a.args b.args
theorem sameL_iff : ∀ (l m : List ByteArray), sameL l m = true ↔ l = m
  | [], [] => by simp [sameL]
  | [], y :: m => by simp [sameL]
  | x :: l, [] => by simp [sameL]
  | x :: l, y :: m => by simp only [sameL, Bool.and_eq_true, beq_bytes, decide_eq_true_eq, sameL_iff l m, List.cons.injEq]
theorem sameG_iff (a b : Gr) : sameG a b = true ↔ a = b := by
  obtain ⟨r, l⟩ := a
  obtain ⟨q, m⟩ := b
  simp only [sameG, Bool.and_eq_true, beq_bytes, decide_eq_true_eq, sameL_iff, Gr.mk.injEq]
theorem sameL_len (l m : List ByteArray) (h : l.length ≠ m.length) : sameL l m = false := by
  cases hs : sameL l m with
  | false => rfl
  | true => exact absurd (congrArg List.length ((sameL_iff l m).1 hs)) h

set_option maxRecDepth 100000 in
set_option maxHeartbeats 4000000 in
theorem same_any (p q : Gr × Value) (w : World) (hp : StrsIn w p.2 p.1.args) (hq : StrsIn w q.2 q.1.args) (hl : p.1.args.length ≤ 1000000) :
    Calls Tryz.prog 118 #[gdV p, gdV q] w fun e w' => e = .returned (.bool (sameG p.1 q.1)) ∧ Below w.heap.size w w' := by
  obtain ⟨⟨r1, l1⟩, v1⟩ := p
  obtain ⟨⟨r2, l2⟩, v2⟩ := q
  unfold gdV
  simp only at hp hq hl ⊢
  obtain ⟨a1, c1, rfl⟩ := own_form hp
  obtain ⟨a2, c2, rfl⟩ := own_form hq
  have hbw : Hid (∀ O O', Below w.heap.size w ((w.alloc O).alloc O')) := fun O O' => ((Below.refl _ w).alloc (Nat.le_refl _) O).alloc (by simp) O'
  have HC1 : Hid (∀ (O O' : Obj) (j : Nat) (hj : j < l1.length), ∃ g, a1 = some ⟨g, 0, none⟩ ∧ ((w.alloc O).alloc O').cell? ⟨g, j, none⟩ = some (.string l1[j])) := by
    intro O O' j hj
    obtain ⟨g, cap, e1, hg, hc⟩ := hp.cell j hj
    cases e1
    exact ⟨g, rfl, (Below.cell (hbw.out O O') hg).trans hc⟩
  have HC2 : Hid (∀ (O O' : Obj) (j : Nat) (hj : j < l2.length), ∃ g, a2 = some ⟨g, 0, none⟩ ∧ ((w.alloc O).alloc O').cell? ⟨g, j, none⟩ = some (.string l2[j])) := by
    intro O O' j hj
    obtain ⟨g, cap, e1, hg, hc⟩ := hq.cell j hj
    cases e1
    exact ⟨g, rfl, (Below.cell (hbw.out O O') hg).trans hc⟩
  clear hp hq
  have hS : sameG ⟨r1, l1⟩ ⟨r2, l2⟩ = ((r1.toList == r2.toList) && sameL l1 l2) := rfl
  rw [hS]
  clear hS
  cases hr : (r1.toList == r2.toList) with
  | false =>
    go_enter Tryz.func118, Tryz.ntmps118
    go_wp2
    go_ret
    exact ⟨by simp, hbw.out _ _⟩
  | true =>
    by_cases hlen : l1.length = l2.length
    · have h1 : ((l1.length : Int) == (l2.length : Int)) = true := by simp [hlen]
      obtain ⟨n, hn⟩ : ∃ n, l2.length = n := ⟨_, rfl⟩
      have HN2 : Hid (l2.length = n) := hn
      have HN1 : Hid (l1.length = n) := hlen.trans hn
      have e1 : l1.length = n := hlen.trans hn
      rw [e1] at hl ⊢
      rw [hn]
      clear h1 hlen hn e1
      go_enter Tryz.func118, Tryz.ntmps118
      go_wp2
      go_loopw [5] (fun x wr => ∃ k : Nat, x = .int .i64 k ∧ k ≤ n ∧ (∃ d, wr = (((w.alloc (.cells #[.string r1, .slice a1 n c1] 226)).alloc (.cells #[.string r2, .slice a2 n c2] 226))).drewN d) ∧ Hid (sameL (l1.drop k) (l2.drop k) = sameL l1 l2)) (fun x _ => n - (intOf x).toNat)
      case atStart => exact ⟨0, rfl, Nat.zero_le _, ⟨0, rfl⟩, rfl⟩
      case round =>
        obtain ⟨k, rfl, hle, ⟨d, rfl⟩, hsp⟩ := hrel
        by_cases hlt : k < n
        · have hk1 : k < l1.length := by rw [HN1.out]; exact hlt
          have hk2 : k < l2.length := by rw [HN2.out]; exact hlt
          obtain ⟨g1, rfl, d1⟩ := HC1.out (.cells #[.string r1, .slice a1 n c1] 226) (.cells #[.string r2, .slice a2 n c2] 226) k hk1
          obtain ⟨g2, rfl, d2⟩ := HC2.out (.cells #[.string r1, .slice (some ⟨g1, 0, none⟩) n c1] 226) (.cells #[.string r2, .slice a2 n c2] 226) k hk2
          rw [List.drop_eq_getElem_cons hk1, List.drop_eq_getElem_cons hk2] at hsp
          simp only [sameL] at hsp
          generalize l1[k] = x at *
          generalize l2[k] = y at *
          cases hxy : (x.toList == y.toList) with
          | true =>
            rw [hxy] at hsp
            simp only [Bool.true_and] at hsp
            go_wp2
            go_quiet (fail)
            go_wp2
            go_roundw
            case rel => exact ⟨k + 1, by go_num, by omega, ⟨_, rfl⟩, hsp⟩
            case measure => simp [intOf]; omega
          | false =>
            rw [hxy] at hsp
            simp only [Bool.false_and] at hsp
            go_wp2
            go_quiet (fail)
            go_wp2
            go_ret
            rw [← hsp.out]
            exact ⟨by simp, below_drewN (below_drewN (hbw.out _ _))⟩
        · have h1 : l1.drop k = [] := List.drop_eq_nil_of_le (by rw [HN1.out]; omega)
          have h2 : l2.drop k = [] := List.drop_eq_nil_of_le (by rw [HN2.out]; omega)
          rw [h1, h2] at hsp
          go_wp2
          go_ret
          rw [← hsp.out]
          exact ⟨by simp [sameL], below_drewN (hbw.out _ _)⟩
    · have hs := sameL_len l1 l2 hlen
      rw [hs]
      have h1 : ((l1.length : Int) == (l2.length : Int)) = false := by simp; omega
      have h2 : ((l1.length : Int) != (l2.length : Int)) = true := by simp; omega
      go_enter Tryz.func118, Tryz.ntmps118
      go_wp2
      go_ret
      exact ⟨by simp, hbw.out _ _⟩

end Go.Proofs.YtjajnhemgphefaaGreatDoor

namespace Go.Proofs.YtjajnhemgphefaaGreatDoor
open Go.RowKit Go.Shelf
set_option linter.unusedVariables false
set_option linter.unusedSimpArgs false

def inG (l : List Gr) (g : Gr) : Bool := l.any (fun x => sameG x g)
theorem inG_iff (l : List Gr) (g : Gr) : inG l g = true ↔ g ∈ l := by
  unfold inG
  rw [List.any_eq_true]
  constructor
  · rintro ⟨x, hx, hs⟩; rw [sameG_iff] at hs; rw [← hs]; exact hx
  · intro h; exact ⟨g, h, (sameG_iff g g).2 rfl⟩

set_option maxRecDepth 100000 in
set_option maxHeartbeats 4000000 in
theorem in_any (v : Value) (ps : List (Gr × Value)) (q : Gr × Value) (w : World) (hp : GdsIn w v ps) (hq : StrsIn w q.2 q.1.args) (hl : ps.length ≤ 1000000) (ha : ∀ p ∈ ps, p.1.args.length ≤ 1000000) :
    Calls Tryz.prog 122 #[v, gdV q] w fun e w' => e = .returned (.bool (inG (ps.map (·.1)) q.1)) ∧ Below w.heap.size w w' := by
  obtain ⟨pa, pc, rfl⟩ := own_form hp.row
  obtain ⟨⟨r2, l2⟩, v2⟩ := q
  unfold gdV
  simp only at hq ⊢
  obtain ⟨a2, c2, rfl⟩ := own_form hq
  obtain ⟨N, hN⟩ : ∃ N, N = w.heap.size := ⟨_, rfl⟩
  have hNr := hN.symm
  obtain ⟨W0, hW0⟩ : ∃ W0, W0 = w.alloc (.cells #[.string r2, .slice a2 l2.length c2] 226) := ⟨_, rfl⟩
  have hs0 : W0.heap.size = N + 1 := by rw [hW0]; simp [hNr]
  have hb0 : Below N w W0 := by rw [hW0]; exact (Below.refl _ w).alloc (by omega) _
  have hbox : W0.heap[N]? = some (Obj.cells #[.string r2, .slice a2 l2.length c2] 226 (0, 0)) := by rw [hW0, ← hNr]; exact World.alloc_heap_new w _
  have hp0 : GdsIn W0 (.slice pa ps.length pc) ps := hp.below (by rw [hNr]; exact hb0)
  have hq0 : StrsIn W0 (.slice a2 l2.length c2) l2 := StrsIn.below hq (by rw [hNr]; exact hb0)
  have HP : Hid (GdsIn W0 (.slice pa ps.length pc) ps) := hp0
  have HQ : Hid (StrsIn W0 (.slice a2 l2.length c2) l2) := hq0
  have HB0 : Hid (Below N w W0) := hb0
  have HBX : Hid _ := hbox
  have HS0 : Hid (W0.heap.size = N + 1) := hs0
  rw [← hN]
  clear hp hq hN hp0 hq0 hb0 hbox hs0
  go_enter Tryz.func122, Tryz.ntmps122
  go_wp2
  go_loopw [5] (fun x wr => ∃ k : Nat, x = .int .i64 k ∧ k ≤ ps.length ∧ Below (N + 1) W0 wr ∧ Hid (inG ((ps.drop k).map (·.1)) ⟨r2, l2⟩ = inG (ps.map (·.1)) ⟨r2, l2⟩)) (fun x _ => ps.length - (intOf x).toNat)
  case atStart => exact ⟨0, rfl, Nat.zero_le _, by rw [hW0]; exact Below.refl _ _, rfl⟩
  case round =>
    obtain ⟨k, rfl, hle, hbe, hsp⟩ := hrel
    have hbe' : Below W0.heap.size W0 wr := by rw [HS0.out]; exact hbe
    have hszw := hbe.size
    rw [HS0.out] at hszw
    by_cases hlt : k < ps.length
    · obtain ⟨g, cap, e1, hg, d0, d1, ⟨x1, x2, hx⟩, hS⟩ := (HP.out.below hbe').cell k hlt
      cases e1
      have hbx : wr.heap[N]? = some (Obj.cells #[.string r2, .slice a2 l2.length c2] 226 (0, 0)) := (hbe.block N (by omega)).trans HBX.out
      have b0 : wr.cell? ⟨N, 0, none⟩ = some (.string r2) := by simp [World.cell?, hbx]
      have b1 : wr.cell? ⟨N, 1, none⟩ = some (.slice a2 l2.length c2) := by simp [World.cell?, hbx]
      have hsm : Hid (∀ d, Calls Tryz.prog 118 #[.agg #[.string ps[k].1.rel, ps[k].2], .agg #[.string r2, .slice a2 l2.length c2]] (wr.drewN d) fun e w' => e = .returned (.bool (sameG ps[k].1 ⟨r2, l2⟩)) ∧ Below (N + 1) W0 w') := by
        intro d
        have hb := same_any ps[k] (⟨r2, l2⟩, .slice a2 l2.length c2) (wr.drewN d) (hS.below (below_drewN (Below.refl _ wr))) ((StrsIn.below HQ.out hbe').below (below_drewN (Below.refl _ wr))) (ha ps[k] (List.getElem_mem hlt))
        refine hb.mono ?_
        rintro e w' ⟨rfl, hb'⟩
        exact ⟨rfl, (below_drewN hbe).trans (hb'.mono (by show N + 1 ≤ wr.heap.size; omega))⟩
      rw [List.drop_eq_getElem_cons hlt, List.map_cons] at hsp
      have hsp2 : Hid ((sameG ps[k].1 ⟨r2, l2⟩ || inG ((ps.drop (k + 1)).map (·.1)) ⟨r2, l2⟩) = inG (ps.map (·.1)) ⟨r2, l2⟩) := hsp
      rw [hx] at d1 hsm
      generalize sameG ps[k].1 ⟨r2, l2⟩ = sb at *
      generalize ps[k].1.rel = pr at *
      generalize ps[k].1.args.length = pl at *
      have HBE : Hid (Below (N + 1) W0 wr) := hbe
      clear hbe hbe' hS hx hsp hbx
      go_wp2
      go_region_with (go_at_call 118; refine (hsm.out 1).mono ?_; rintro e w2 ⟨rfl, hb2⟩)
      all_goals
        cases sb with
        | true =>
          go_wp2
          go_ret
          rw [← hsp2.out]
          exact ⟨by simp, HB0.out.trans (hb2.mono (by omega))⟩
        | false =>
          go_wp2
          go_roundw
          case rel => exact ⟨k + 1, by go_num, by omega, hb2, by simpa using hsp2⟩
          case measure => simp [intOf]; omega
    · rw [List.drop_eq_nil_of_le (by omega)] at hsp
      go_wp2
      go_ret
      rw [← hsp.out]
      exact ⟨by simp [inG], HB0.out.trans (hbe.mono (by omega))⟩

end Go.Proofs.YtjajnhemgphefaaGreatDoor

namespace Go.Proofs.YtjajnhemgphefaaGreatDoor
open Go.RowKit Go.Shelf
set_option linter.unusedVariables false
set_option linter.unusedSimpArgs false

def nmOf (b : List ByteArray) (t : Tm) : ByteArray := if t.name.toList.isEmpty = true then b.getD t.num ⟨#[]⟩ else t.name
def putG (a : Am) (b : List ByteArray) : Gr := ⟨a.rel, a.args.map (nmOf b)⟩

structure PtSt (N : Nat) (w X : World) (rel : ByteArray) (va vg : Value) (acc : List ByteArray) : Prop where
  below : Below N w X
  box : X.heap[N]? = some (Obj.cells #[.string rel, va] 145 (0, 0))
  res : X.heap[N + 1]? = some (Obj.cells #[.string ⟨#[]⟩, .slice none 0 0] 226 (0, 0))
  gd : X.heap[N + 2]? = some (Obj.cells #[.string rel, vg] 226 (0, 0))
  own : X.ownsRow (N + 3) 9 1 vg acc.length (acc.map Value.string)

theorem PtSt.app {N : Nat} {w X Y : World} {rel x : ByteArray} {va vg vg' : Value} {acc : List ByteArray} {o : Obj} (h : PtSt N w X rel va vg acc) (hw : w.heap.size = N) (hg : (X.alloc o).grownBy Y vg.ownBlock) (ho : Y.ownsRow (N + 3) 9 1 vg' (acc.length + 1) (acc.map Value.string ++ [.string x])) :
    PtSt N w (Y.setCell ⟨N + 2, 1, none⟩ vg') rel va vg' (acc ++ [x]) := by
  have hsz : N + 3 ≤ X.heap.size := (Array.getElem?_eq_some_iff.1 h.gd).1
  have hlo : ∀ k, vg.ownBlock = some k → N + 3 ≤ k := fun k e => (own_str h.own k e).1
  have hk : ∀ k, k < N + 3 → Y.heap[k]? = X.heap[k]? := fun k hk => (hg.block k (by simp; omega) (fun e => by have := hlo k e.symm; omega)).trans (Below.heap_alloc _ _ _ (by omega))
  refine ⟨((h.below.alloc (by omega) o).grown hg (by simp; omega) (fun k e => by have := hlo k e; omega)).setCell (by simp) _, (Below.heap_setCell _ _ _ _ (by simp)).trans ((hk N (by omega)).trans h.box), (Below.heap_setCell _ _ _ _ (by simp)).trans ((hk (N + 1) (by omega)).trans h.res), heap_set1 ((hk (N + 2) (by omega)).trans h.gd) 1 vg', ?_⟩
  have h2 : Y.ownsRow (N + 3) 9 1 vg' (acc ++ [x]).length ((acc ++ [x]).map Value.string) := by simpa using ho
  exact own_keep h2 (fun g hg' _ => Below.heap_setCell _ _ _ _ (fun e => by have := (own_str ho g hg').1; simp at e; omega))

theorem PtSt.fin {N : Nat} {w X : World} {rel : ByteArray} {va vg : Value} {acc : List ByteArray} (h : PtSt N w X rel va vg acc) (hw : w.heap.size = N) (a b : Value) :
    ((X.setCell ⟨N + 1, 0, none⟩ a).setCell ⟨N + 1, 1, none⟩ b).ownsRow N 9 1 vg acc.length (acc.map Value.string) ∧ Below N w ((X.setCell ⟨N + 1, 0, none⟩ a).setCell ⟨N + 1, 1, none⟩ b) := by
  have hk : ∀ g, g ≠ N + 1 → ((X.setCell ⟨N + 1, 0, none⟩ a).setCell ⟨N + 1, 1, none⟩ b).heap[g]? = X.heap[g]? := fun g hg => (Below.heap_setCell _ _ _ _ hg).trans (Below.heap_setCell _ _ _ _ hg)
  exact ⟨own_down (own_keep h.own (fun g hg _ => hk g (by have := (own_str h.own g hg).1; omega))) (by omega), (h.below.setCell (by simp) _).setCell (by simp) _⟩

set_option maxRecDepth 100000 in
set_option maxHeartbeats 8000000 in
theorem put_any (p : Am × Value) (vb : Value) (b : List ByteArray) (w : World) (hA : AtomV w p) (hb : StrsIn w vb b) (hl : p.1.args.length ≤ 1000) (hn : ∀ t ∈ p.1.args, t.name.toList.isEmpty = true → t.num < b.length) (hbl : b.length ≤ 1000000) :
    Calls Tryz.prog 181 #[.agg #[.string p.1.rel, p.2], vb] w fun e w' => ∃ vg, e = .returned (.agg #[.string p.1.rel, vg]) ∧ w'.ownsRow w.heap.size 9 1 vg (putG p.1 b).args.length ((putG p.1 b).args.map Value.string) ∧ Below w.heap.size w w' := by
  obtain ⟨i0, hi, hz0, hz1, hz2⟩ := info_parts Tryz.infoStr
  obtain ⟨⟨rel, args⟩, va⟩ := p
  simp only at hl hn ⊢
  obtain ⟨a1, a2, hq⟩ := own_form hA
  simp only at hq
  subst hq
  obtain ⟨b1, b2, rfl⟩ := own_form hb
  obtain ⟨N, hN⟩ : ∃ N, N = w.heap.size := ⟨_, rfl⟩
  have hNr := hN.symm
  have HC : Hid (∀ (X : World), Below N w X → ∀ (j : Nat) (hj : j < args.length), ∃ g, a1 = some ⟨g, 0, none⟩ ∧ g < N ∧ X.cell? ⟨g, j * 2, none⟩ = some (.string args[j].name) ∧ X.cell? ⟨g, j * 2 + 1, none⟩ = some (.int .i64 args[j].num)) := by
    intro X hX j hj
    obtain ⟨g, cap, e1, hg, c0, c1⟩ := hA.cell j hj
    cases e1
    have hgN : g < N := by rw [hN]; exact hg
    exact ⟨g, rfl, hgN, (Below.cell hX hgN).trans c0, (Below.cell hX hgN).trans c1⟩
  have HBC : Hid (∀ (X : World), Below N w X → ∀ (j : Nat) (hj : j < b.length), ∃ g, b1 = some ⟨g, 0, none⟩ ∧ g < N ∧ X.cell? ⟨g, j, none⟩ = some (.string b[j])) := by
    intro X hX j hj
    obtain ⟨g, cap, e1, hg, c0⟩ := hb.cell j hj
    cases e1
    have hgN : g < N := by rw [hN]; exact hg
    exact ⟨g, rfl, hgN, (Below.cell hX hgN).trans c0⟩
  have HT : Hid ((putG ⟨rel, args⟩ b).args = args.map (nmOf b)) := rfl
  generalize (putG ⟨rel, args⟩ b).args = T at *
  rw [← hN]
  clear hA hb hN
  go_enter Tryz.func181, Tryz.ntmps181
  go_wp2
  go_loopw [6] (fun x wr => ∃ (k : Nat) (vg : Value) (acc : List ByteArray), x = .int .i64 k ∧ k ≤ args.length ∧ PtSt N w wr rel (.slice a1 args.length a2) vg acc ∧ acc.length ≤ k ∧ Hid (acc ++ (args.drop k).map (nmOf b) = T)) (fun x _ => args.length - (intOf x).toNat)
  case atStart =>
    refine ⟨0, _, [], rfl, Nat.zero_le _, ⟨(((Below.refl _ w).alloc (by omega) _).alloc (by simp; omega) _).alloc (by simp; omega) _, ?_, ?_, ?_, World.ownsRow_nil _ _ _ _⟩, Nat.le_refl _, HT.out.symm⟩
    · rw [Below.heap_alloc _ _ _ (by simp; omega), Below.heap_alloc _ _ _ (by simp; omega), ← hNr]; exact World.alloc_heap_new w _
    · rw [Below.heap_alloc _ _ _ (by simp; omega)]
      have := World.alloc_heap_new (w.alloc (.cells #[.string rel, .slice a1 args.length a2] 145)) (.cells #[.string ⟨#[]⟩, .slice none 0 0] 226)
      rw [World.size_alloc, hNr] at this; exact this
    · have := World.alloc_heap_new ((w.alloc (.cells #[.string rel, .slice a1 args.length a2] 145)).alloc (.cells #[.string ⟨#[]⟩, .slice none 0 0] 226)) (.cells #[.string rel, .slice none 0 0] 226)
      rw [World.size_alloc, World.size_alloc, hNr] at this; exact this
  case round =>
    obtain ⟨k, vg, acc, rfl, hle, hP, hak, hsp⟩ := hrel
    have b0 : wr.cell? ⟨N, 0, none⟩ = some (.string rel) := by simp [World.cell?, hP.box]
    have b1' : wr.cell? ⟨N, 1, none⟩ = some (.slice a1 args.length a2) := by simp [World.cell?, hP.box]
    have g0 : wr.cell? ⟨N + 2, 0, none⟩ = some (.string rel) := by simp [World.cell?, hP.gd]
    have g1 : wr.cell? ⟨N + 2, 1, none⟩ = some vg := by simp [World.cell?, hP.gd]
    by_cases hlt : k < args.length
    · obtain ⟨g, rfl, hgN, c0, c1⟩ := HC.out wr hP.below k hlt
      have hnk := hn args[k] (List.getElem_mem hlt)
      rw [List.drop_eq_getElem_cons hlt, List.map_cons] at hsp
      generalize args[k] = tm at *
      obtain ⟨nm, nu⟩ := tm
      simp only at c0 c1 hnk
      obtain ⟨y, hy⟩ : ∃ y, nmOf b ⟨nm, nu⟩ = y := ⟨_, rfl⟩
      rw [hy] at hsp
      have hsz3 : N + 3 ≤ wr.heap.size := (Array.getElem?_eq_some_iff.1 hP.gd).1
      have hc3 : acc.length + 1 ≤ maxLen := by unfold maxLen; omega
      have hc4 : (acc.length + 1) * 16 ≤ 140737488355328 := by omega
      have hc5 : Hid (∀ O, N + 3 ≤ (wr.alloc O).heap.size) := fun O => by simp; omega
      have h1c : ∀ u ∈ [Value.string y], u.oneCell' = true := by simp [Value.oneCell']
      have HP : Hid (PtSt N w wr rel (.slice (some ⟨g, 0, none⟩) args.length a2) vg acc) := hP
      have hF : Hid (∀ (O : Obj) (w1 : World), (wr.alloc O).grownBy w1 vg.ownBlock → w1.cell? ⟨N + 2, 1, none⟩ = some vg ∧ ∀ o, w1.frozen? ⟨N + 2, o, none⟩ = false) := by
        intro O w1 hg
        have h1 : w1.heap[N + 2]? = some (Obj.cells #[.string rel, vg] 226 (0, 0)) := (hg.block (N + 2) (by simp; omega) (fun e => by have := (own_str HP.out.own _ e.symm).1; omega)).trans ((Below.heap_alloc _ _ _ (by omega)).trans HP.out.gd)
        exact ⟨by simp [World.cell?, h1], fun o => by simp [World.frozen?, h1]⟩
      have hsp2 : Hid ((acc ++ [y]) ++ (args.drop (k + 1)).map (nmOf b) = T) := by
        show _ = _; rw [← hsp.out]; simp
      by_cases h1 : nm.toList.isEmpty = true
      · have hnu := hnk h1
        obtain ⟨g2, e2, hg2N, d0⟩ := HBC.out wr hP.below nu hnu
        have hyb : y = b[nu] := by
          rw [← hy]; unfold nmOf; rw [if_pos h1]; simp [List.getD, List.getElem?_eq_getElem hnu]
        rw [← hyb] at d0
        subst e2
        clear hP hsp hy hyb
        go_wp2_with (at_builtin; refine wpList_append_own _ rfl (.tmp 36) (.tmp 38) 22 rfl (N + 3) 9 i0 (.string ⟨#[]⟩) 1 16 Tryz.underlying22 hi hz0 hz1 hz2 rfl (by decide) _ _ _ rfl (HP.out.own.alloc _) ⟨wr.heap.size, 0, none⟩ 1 1 [.string y] rfl rfl (one_new _ _ _) h1c hc3 hc4 (hc5.out _) ?_; intro vg' w1 hown1 hgrow1 _; obtain ⟨f1, f2⟩ := hF.out _ w1 hgrow1; have HA : Hid (PtSt N w (w1.setCell ⟨N + 2, 1, none⟩ vg') rel (.slice (some ⟨g, 0, none⟩) args.length a2) vg' (acc ++ [y])) := HP.out.app hNr hgrow1 hown1; obtain ⟨gg, gc, hgv⟩ := ownsRow_succ hown1; subst hgv)
        go_roundw
        case rel => exact ⟨k + 1, _, acc ++ [y], by go_num, by omega, HA.out, by simp; omega, hsp2⟩
        case measure => simp [intOf]; omega
      · have h1' : nm.toList.isEmpty = false := by simpa using h1
        have hyb : y = nm := by rw [← hy]; unfold nmOf; rw [if_neg h1]
        subst hyb
        clear hP hsp hy h1
        go_wp2_with (at_builtin; refine wpList_append_own _ rfl (.tmp 36) (.tmp 38) 22 rfl (N + 3) 9 i0 (.string ⟨#[]⟩) 1 16 Tryz.underlying22 hi hz0 hz1 hz2 rfl (by decide) _ _ _ rfl (HP.out.own.alloc _) ⟨wr.heap.size, 0, none⟩ 1 1 [.string y] rfl rfl (one_new _ _ _) h1c hc3 hc4 (hc5.out _) ?_; intro vg' w1 hown1 hgrow1 _; obtain ⟨f1, f2⟩ := hF.out _ w1 hgrow1; have HA : Hid (PtSt N w (w1.setCell ⟨N + 2, 1, none⟩ vg') rel (.slice (some ⟨g, 0, none⟩) args.length a2) vg' (acc ++ [y])) := HP.out.app hNr hgrow1 hown1; obtain ⟨gg, gc, hgv⟩ := ownsRow_succ hown1; subst hgv)
        go_roundw
        case rel => exact ⟨k + 1, _, acc ++ [y], by go_num, by omega, HA.out, by simp; omega, hsp2⟩
        case measure => simp [intOf]; omega
    · rw [List.drop_eq_nil_of_le (by omega)] at hsp
      simp only [List.map_nil, List.append_nil] at hsp
      have hf := hP.fin hNr (.string rel) vg
      have hres := hP.res
      obtain ⟨vga, vgc, rfl⟩ := own_form hP.own
      have r0 : wr.cell? ⟨N + 1, 0, none⟩ = some (.string ⟨#[]⟩) := by simp [World.cell?, hres]
      have r1 : wr.cell? ⟨N + 1, 1, none⟩ = some (.slice none 0 0) := by simp [World.cell?, hres]
      have rf : ∀ o, wr.frozen? ⟨N + 1, o, none⟩ = false := fun o => by simp [World.frozen?, hres]
      have c00 : (wr.setCell ⟨N + 1, 0, none⟩ (.string rel)).cell? ⟨N + 1, 0, none⟩ = some (.string rel) := by simp [World.cell?, heap_set1 hres 0 (.string rel)]
      have c11 : ((wr.setCell ⟨N + 1, 0, none⟩ (.string rel)).setCell ⟨N + 1, 1, none⟩ (.slice vga acc.length vgc)).cell? ⟨N + 1, 1, none⟩ = some (.slice vga acc.length vgc) := by simp [World.cell?, heap_set1 (heap_set1 hres 0 (.string rel)) 1 (.slice vga acc.length vgc)]
      have HF : Hid _ := hf
      have HC00 : Hid _ := c00
      have HC11 : Hid _ := c11
      clear hP hf c00 c11
      go_wp2
      have c00 := HC00.out
      have c11 := HC11.out
      refine bodyPost_ret (v := .agg #[.string rel, .slice vga acc.length vgc]) (by simp [results, Tryz.results181, go_sem, c00, c11]) rfl ?_
      rw [← hsp.out]
      exact ⟨_, rfl, HF.out⟩

end Go.Proofs.YtjajnhemgphefaaGreatDoor

namespace Go.Proofs.YtjajnhemgphefaaGreatDoor
open Go.RowKit Go.Shelf
set_option linter.unusedVariables false
set_option linter.unusedSimpArgs false

theorem step_append2 {P : Program} {ops : Array Oper} {o : Oper} {a : Act} {w : World} {K : Act → World → Prop} {Q : Exit → Act → World → Prop} {E : Prop}
    (hg : o.guard = none) (s x : Operand) (t : TypeId) (hop : o.op = Op.call { callee := Callee.builtin Builtin.append, args := #[s, x], argTypes := #[t, t] })
    (base : Nat) (e : TypeId) (i : TypeInfo) (z : Value) (size bytes : Nat) (h1 : P.underlying t = some (.slice e)) (h2 : P.info? e = some i) (h3 : i.zero = some z) (h4 : i.size = size) (h5 : i.bytes = bytes) (h6 : z.cells.size = size) (h7 : 0 < size)
    (v : Value) (n : Nat) (xs : List Value) (hs : a.eval s = v) (hown : w.ownsRow base e size v n xs)
    (ad : Addr) (m c : Nat) (news : List Value) (hx : a.eval x = .slice (some ad) m c) (hn : news.length = m * size) (hc : ∀ j u, news[j]? = some u → w.cell? (ad.add j) = some u) (h1c : ∀ u ∈ news, u.oneCell' = true)
    (b1 : n + m ≤ maxLen) (b2 : (n + m) * bytes ≤ 140737488355328) (hbase : base ≤ w.heap.size)
    (hK : ∀ v' w', w'.ownsRow base e size v' (n + m) (xs ++ news) → w.grownBy w' v.ownBlock → K (a.put o.dst v') w') :
    if Region.wanted o (yielded ops a.tmps) = true then Oper.wp P o a w K Q else E := by
  have hw : Region.wanted o (yielded ops a.tmps) = true := by simp [Region.wanted, hg]
  rw [if_pos hw]
  obtain ⟨v', w', hrun, r1, r2, _⟩ := run_append_own (P := P) w base t o.type e i z size bytes h1 h2 h3 h4 h5 h6 h7 v n xs hown ad m c news hn hc h1c b1 b2 hbase
  unfold Oper.wp
  simp [execOp, hop, resolve, invoke, builtin, hs, hx, hrun, Result.andThen]
  exact hK v' w' r1 r2

def nameless (t : Tm) : Bool := t.name.toList.isEmpty
/-- The atom without variables that an atom is; none, if it has some. -/
def fixedG (a : Am) : Option Gr := if a.args.any nameless = true then none else some ⟨a.rel, a.args.map (·.name)⟩

def FixedAns (a : Am) (N : Nat) (e : Ending) (w' : World) : Prop :=
  match fixedG a with
  | none => e = .returned (.tuple #[.agg #[.string ⟨#[]⟩, .slice none 0 0], .bool false])
  | some g => ∃ vg, e = .returned (.tuple #[.agg #[.string g.rel, vg], .bool true]) ∧ w'.ownsRow N 9 1 vg g.args.length (g.args.map Value.string)

set_option maxRecDepth 100000 in
set_option maxHeartbeats 8000000 in
theorem fixed_any (p : Am × Value) (w : World) (hA : AtomV w p) (hl : p.1.args.length ≤ 1000) :
    Calls Tryz.prog 115 #[.agg #[.string p.1.rel, p.2]] w fun e w' => FixedAns p.1 w.heap.size e w' ∧ Below w.heap.size w w' := by
  obtain ⟨i0, hi, hz0, hz1, hz2⟩ := info_parts Tryz.infoStr
  obtain ⟨⟨rel, args⟩, va⟩ := p
  simp only at hl ⊢
  obtain ⟨a1, a2, hq⟩ := own_form hA
  simp only at hq
  subst hq
  obtain ⟨N, hN⟩ : ∃ N, N = w.heap.size := ⟨_, rfl⟩
  have hNr := hN.symm
  have HC : Hid (∀ (X : World), Below N w X → ∀ (j : Nat) (hj : j < args.length), ∃ g, a1 = some ⟨g, 0, none⟩ ∧ g < N ∧ X.cell? ⟨g, j * 2, none⟩ = some (.string args[j].name)) := by
    intro X hX j hj
    obtain ⟨g, cap, e1, hg, c0, c1⟩ := hA.cell j hj
    cases e1
    have hgN : g < N := by rw [hN]; exact hg
    exact ⟨g, rfl, hgN, (Below.cell hX hgN).trans c0⟩
  have HF0 : Hid (args.any nameless = true → ∀ (e : Ending) (w' : World), e = .returned (.tuple #[.agg #[.string ⟨#[]⟩, .slice none 0 0], .bool false]) → FixedAns ⟨rel, args⟩ N e w') := by
    intro h e w' he; unfold FixedAns fixedG; rw [if_pos h]; exact he
  have HF1 : Hid (args.any nameless = false → ∀ (e : Ending) (w' : World), (∃ vg, e = .returned (.tuple #[.agg #[.string rel, vg], .bool true]) ∧ w'.ownsRow N 9 1 vg (args.map (·.name)).length ((args.map (·.name)).map Value.string)) → FixedAns ⟨rel, args⟩ N e w') := by
    intro h e w' he; unfold FixedAns fixedG; rw [if_neg (by rw [h]; simp)]; exact he
  rw [← hN]
  clear hA hN
  go_enter Tryz.func115, Tryz.ntmps115
  go_wp2
  go_loopw [5] (fun x wr => ∃ (k : Nat) (vg : Value) (acc : List ByteArray), x = .int .i64 k ∧ k ≤ args.length ∧ PtSt N w wr rel (.slice a1 args.length a2) vg acc ∧ acc.length ≤ k ∧ Hid ((args.drop k).any nameless = args.any nameless) ∧ Hid (acc ++ (args.drop k).map (·.name) = args.map (·.name))) (fun x _ => args.length - (intOf x).toNat)
  case atStart =>
    refine ⟨0, _, [], rfl, Nat.zero_le _, ⟨(((Below.refl _ w).alloc (by omega) _).alloc (by simp; omega) _).alloc (by simp; omega) _, ?_, ?_, ?_, World.ownsRow_nil _ _ _ _⟩, Nat.le_refl _, rfl, rfl⟩
    · rw [Below.heap_alloc _ _ _ (by simp; omega), Below.heap_alloc _ _ _ (by simp; omega), ← hNr]; exact World.alloc_heap_new w _
    · rw [Below.heap_alloc _ _ _ (by simp; omega)]
      have := World.alloc_heap_new (w.alloc (.cells #[.string rel, .slice a1 args.length a2] 145)) (.cells #[.string ⟨#[]⟩, .slice none 0 0] 226)
      rw [World.size_alloc, hNr] at this; exact this
    · have := World.alloc_heap_new ((w.alloc (.cells #[.string rel, .slice a1 args.length a2] 145)).alloc (.cells #[.string ⟨#[]⟩, .slice none 0 0] 226)) (.cells #[.string rel, .slice none 0 0] 226)
      rw [World.size_alloc, World.size_alloc, hNr] at this; exact this
  case round =>
    obtain ⟨k, vg, acc, rfl, hle, hP, hak, hany, hsp⟩ := hrel
    have b1' : wr.cell? ⟨N, 1, none⟩ = some (.slice a1 args.length a2) := by simp [World.cell?, hP.box]
    have g0 : wr.cell? ⟨N + 2, 0, none⟩ = some (.string rel) := by simp [World.cell?, hP.gd]
    have g1 : wr.cell? ⟨N + 2, 1, none⟩ = some vg := by simp [World.cell?, hP.gd]
    have hres := hP.res
    have r0 : wr.cell? ⟨N + 1, 0, none⟩ = some (.string ⟨#[]⟩) := by simp [World.cell?, hres]
    have r1 : wr.cell? ⟨N + 1, 1, none⟩ = some (.slice none 0 0) := by simp [World.cell?, hres]
    have rf : ∀ o, wr.frozen? ⟨N + 1, o, none⟩ = false := fun o => by simp [World.frozen?, hres]
    by_cases hlt : k < args.length
    · obtain ⟨g, rfl, hgN, c0⟩ := HC.out wr hP.below k hlt
      rw [List.drop_eq_getElem_cons hlt] at hsp hany
      simp only [List.map_cons, List.any_cons] at hsp hany
      generalize args[k] = tm at *
      obtain ⟨nm, nu⟩ := tm
      simp only [nameless] at c0 hsp hany
      have hsz3 : N + 3 ≤ wr.heap.size := (Array.getElem?_eq_some_iff.1 hP.gd).1
      by_cases h1 : nm.toList.isEmpty = true
      · rw [h1] at hany
        have hA1 : args.any nameless = true := by rw [← hany.out]; simp
        have hfin : Hid (∀ (e : Ending) (w' : World), e = .returned (.tuple #[.agg #[.string ⟨#[]⟩, .slice none 0 0], .bool false]) → FixedAns ⟨rel, args⟩ N e w') := HF0.out hA1
        have hf := hP.fin hNr (.string ⟨#[]⟩) (.slice none 0 0)
        have c00 : (wr.setCell ⟨N + 1, 0, none⟩ (.string ⟨#[]⟩)).cell? ⟨N + 1, 0, none⟩ = some (.string ⟨#[]⟩) := by simp [World.cell?, heap_set1 hres 0 (.string ⟨#[]⟩)]
        have c11 : ((wr.setCell ⟨N + 1, 0, none⟩ (.string ⟨#[]⟩)).setCell ⟨N + 1, 1, none⟩ (.slice none 0 0)).cell? ⟨N + 1, 1, none⟩ = some (.slice none 0 0) := by simp [World.cell?, heap_set1 (heap_set1 hres 0 (.string ⟨#[]⟩)) 1 (.slice none 0 0)]
        have HFF : Hid _ := hf
        have HC00 : Hid _ := c00
        have HC11 : Hid _ := c11
        clear hP hsp hany hA1 hf c00 c11 hres
        go_wp2
        have c00 := HC00.out
        have c11 := HC11.out
        refine bodyPost_ret (v := .tuple #[.agg #[.string ⟨#[]⟩, .slice none 0 0], .bool false]) (by simp [results, Tryz.results115, go_sem, c00, c11]) rfl ?_
        exact ⟨hfin.out _ _ rfl, HFF.out.2⟩
      · have h1' : nm.toList.isEmpty = false := by simpa using h1
        rw [h1'] at hany
        simp only [Bool.false_or] at hany
        have g1A : ∀ O, (wr.alloc O).cell? ⟨N + 1 + 1, 1, none⟩ = some vg := fun O => (Below.cell ((Below.refl wr.heap.size wr).alloc (Nat.le_refl _) O) (by show N + 2 < wr.heap.size; omega)).trans g1
        have hc3 : acc.length + 1 ≤ maxLen := by unfold maxLen; omega
        have hc4 : (acc.length + 1) * 16 ≤ 140737488355328 := by omega
        have h1c : ∀ u ∈ [Value.string nm], u.oneCell' = true := by simp [Value.oneCell']
        have HP : Hid (PtSt N w wr rel (.slice (some ⟨g, 0, none⟩) args.length a2) vg acc) := hP
        have hA : Hid ((wr.alloc (.cells #[.string nm] 9)).ownsRow (N + 3) 9 1 vg acc.length (acc.map Value.string)) := hP.own.alloc _
        have hNw : Hid (∀ j u, [Value.string nm][j]? = some u → (wr.alloc (.cells #[.string nm] 9)).cell? ((⟨wr.heap.size, 0, none⟩ : Addr).add j) = some u) := one_new wr _ _
        have hc5 : Hid (N + 3 ≤ (wr.alloc (.cells #[.string nm] 9)).drew.heap.size) := by
          show N + 3 ≤ (wr.alloc _).heap.size; simp; omega
        have hF : Hid (∀ (w1 : World), (wr.alloc (.cells #[.string nm] 9)).drew.grownBy w1 vg.ownBlock → w1.cell? ⟨N + 2, 1, none⟩ = some vg ∧ ∀ o, w1.frozen? ⟨N + 2, o, none⟩ = false) := by
          intro w1 hg
          have h1 : w1.heap[N + 2]? = some (Obj.cells #[.string rel, vg] 226 (0, 0)) := (hg.block (N + 2) (by show N + 2 < (wr.alloc _).heap.size; simp; omega) (fun e => by have := (own_str HP.out.own _ e.symm).1; omega)).trans ((Below.heap_alloc _ _ _ (by omega)).trans HP.out.gd)
          exact ⟨by simp [World.cell?, h1], fun o => by simp [World.frozen?, h1]⟩
        have hAp : Hid (∀ (w1 : World) (vg' : Value), (wr.alloc (.cells #[.string nm] 9)).drew.grownBy w1 vg.ownBlock → w1.ownsRow (N + 3) 9 1 vg' (acc.length + 1) (acc.map Value.string ++ [.string nm]) → PtSt N w (w1.setCell ⟨N + 2, 1, none⟩ vg') rel (.slice (some ⟨g, 0, none⟩) args.length a2) vg' (acc ++ [nm])) := by
          intro w1 vg' hg ho
          exact HP.out.app hNr (o := .cells #[.string nm] 9) ⟨hg.os, hg.tape, hg.output, hg.size, hg.block⟩ ho
        have hsp2 : Hid ((acc ++ [nm]) ++ (args.drop (k + 1)).map (·.name) = args.map (·.name)) := by
          show _ = _; rw [← hsp.out]; simp
        clear hP hsp h1 hres
        go_wp2
        go_region_law (refine step_append2 rfl (.tmp 25) (.tmp 32) 22 rfl (N + 3) 9 i0 (.string ⟨#[]⟩) 1 16 Tryz.underlying22 hi hz0 hz1 hz2 rfl (by decide) vg acc.length (acc.map Value.string) (by simp [Act.eval, Act.put]) hA.out ⟨wr.heap.size, 0, none⟩ 1 1 [.string nm] (by simp [Act.eval, Act.put]) rfl hNw.out h1c hc3 hc4 hc5.out ?_; intro vg' w1 hown1 hgrow1; obtain ⟨f1, f2⟩ := hF.out w1 hgrow1; have HA : Hid (PtSt N w (w1.setCell ⟨N + 2, 1, none⟩ vg') rel (.slice (some ⟨g, 0, none⟩) args.length a2) vg' (acc ++ [nm])) := hAp.out w1 vg' hgrow1 hown1; obtain ⟨gg, gc, hgv⟩ := ownsRow_succ hown1; subst hgv)
        all_goals
          go_wp2
          go_roundw
          case rel => exact ⟨k + 1, _, acc ++ [nm], by go_num, by omega, HA.out, by simp; omega, hany, hsp2⟩
          case measure => simp [intOf]; omega
    · rw [List.drop_eq_nil_of_le (by omega)] at hsp hany
      simp only [List.map_nil, List.append_nil, List.any_nil] at hsp hany
      have hfin := HF1.out hany.out.symm
      have hf := hP.fin hNr (.string rel) vg
      obtain ⟨vga, vgc, rfl⟩ := own_form hP.own
      have c00 : (wr.setCell ⟨N + 1, 0, none⟩ (.string rel)).cell? ⟨N + 1, 0, none⟩ = some (.string rel) := by simp [World.cell?, heap_set1 hres 0 (.string rel)]
      have c11 : ((wr.setCell ⟨N + 1, 0, none⟩ (.string rel)).setCell ⟨N + 1, 1, none⟩ (.slice vga acc.length vgc)).cell? ⟨N + 1, 1, none⟩ = some (.slice vga acc.length vgc) := by simp [World.cell?, heap_set1 (heap_set1 hres 0 (.string rel)) 1 (.slice vga acc.length vgc)]
      have HFF : Hid _ := hf
      have HFN : Hid _ := hfin
      have HC00 : Hid _ := c00
      have HC11 : Hid _ := c11
      clear hP hf c00 c11 hres hfin hany
      go_wp2
      have c00 := HC00.out
      have c11 := HC11.out
      refine bodyPost_ret (v := .tuple #[.agg #[.string rel, .slice vga acc.length vgc], .bool true]) (by simp [results, Tryz.results115, go_sem, c00, c11]) rfl ?_
      refine ⟨HFN.out _ _ ⟨_, rfl, ?_⟩, HFF.out.2⟩
      rw [← hsp.out]
      exact HFF.out.1

end Go.Proofs.YtjajnhemgphefaaGreatDoor
