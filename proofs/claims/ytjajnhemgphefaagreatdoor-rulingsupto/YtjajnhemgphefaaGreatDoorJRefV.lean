/-
  The document's own answer: Parse.
-/
import Derived.Test.YtjajnhemgphefaaGreatDoorJRefT
namespace Go.Proofs.YtjajnhemgphefaaGreatDoor
open Go.RowKit Go.Shelf
set_option linter.unusedVariables false
set_option linter.unusedSimpArgs false

def lk0 (alone : Bool) : Lk := ⟨0, false, alone, 0, 0, 0, 0⟩
def parseD (s : ByteArray) : Except (Int × Nat) (List Rl) :=
  if 300 < (R s 0).length then .error (1, 0)
  else if (overR (lk0 false) (refToks s)).1 ≠ 0 then .error (overR (lk0 false) (refToks s))
  else match readR ((refToks s).length + 1) (refToks s) with
    | none => .error (0, 0)
    | some rs => if (soundR rs).1 ≠ 0 then .error (soundR rs) else .ok rs

theorem refT_len : ∀ (f : Nat) (l : List Rn) (i : Nat), (refT f l i).length ≤ l.length
  | 0, l, i => by simp [refT]
  | f + 1, [], i => by simp [refT]
  | f + 1, r :: l, i => by
    unfold refT
    have h1 := refT_len f (l.drop (tw l).length) (i + (1 + (tw l).length))
    have h2 := refT_len f l (i + 1)
    have h3 := refT_len f (l.drop 1) (i + 2)
    rw [List.length_drop] at h1 h3
    repeat' split
    all_goals simp only [List.length_cons]
    all_goals omega

theorem refToks_len (s : ByteArray) : (refToks s).length ≤ (R s 0).length + 1 := by
  unfold refToks
  have := refT_len (R s 0).length (R s 0) 0
  simp; omega
theorem refToks_end (s : ByteArray) : hasEnd (refToks s) := ⟨_, _, rfl, rfl⟩

theorem tms_len (rs : List Rl) (h : ∀ r ∈ rs, RlSmall r) : (tmsOf (amsR rs)).length ≤ 8 * rs.length := by
  induction rs with
  | nil => simp [amsR, tmsOf]
  | cons r rs ih =>
    have h1 := h r List.mem_cons_self
    have h2 := ih (fun r' hr' => h r' (List.mem_cons_of_mem _ hr'))
    have e : tmsOf (amsR (r :: rs)) = r.head.args ++ tmsOf r.body ++ tmsOf (amsR rs) := by
      unfold amsR tmsOf ruleAms; simp only [List.flatMap_cons, List.flatMap_append, List.cons_append]
      rw [List.append_assoc]
    have hb : ∀ (bs : List Am), (∀ a ∈ bs, a.args.length ≤ 2) → (tmsOf bs).length ≤ 2 * bs.length := by
      intro bs
      induction bs with
      | nil => intro _; simp [tmsOf]
      | cons a bs ihb =>
        intro hh
        have x1 := hh a List.mem_cons_self
        have x2 := ihb (fun a' ha' => hh a' (List.mem_cons_of_mem _ ha'))
        unfold tmsOf at x2 ⊢
        simp only [List.flatMap_cons, List.length_append, List.length_cons]
        omega
    have h3 := hb r.body (fun a ha => (h1.body a ha).1)
    have h4 := h1.head.1
    have h5 := h1.few
    rw [e]
    simp only [List.length_append, List.length_cons]
    omega

theorem rlok_of {qs : List (Rl × Value × Value)} {rs : List Rl} (hq : qs.map (·.1) = rs) (h8 : rs.length ≤ 8) (h : ∀ r ∈ rs, RlSmall r) : RlOk qs := by
  have hl : qs.length = rs.length := by rw [← hq]; simp
  have hm : ∀ q ∈ qs, RlSmall q.1 := fun q hq' => h q.1 (by rw [← hq]; exact List.mem_map.2 ⟨q, hq', rfl⟩)
  refine ⟨by omega, fun q hq' => by have := (hm q hq').few; omega, ?_, fun a ha => ?_⟩
  · have := tms_len rs h
    rw [amsOf_map, hq]; omega
  · obtain ⟨q, hq', hqa⟩ := List.mem_flatMap.1 ha
    have hs := hm q hq'
    rcases List.mem_cons.1 hqa with rfl | hqa
    · exact ⟨by have := hs.head.1; omega, fun t ht => by have := hs.head.2 t ht; omega⟩
    · exact ⟨by have := (hs.body a hqa).1; omega, fun t ht => by have := (hs.body a hqa).2 t ht; omega⟩

theorem tokAt_of {W : World} {B : Nat} {v : Value} {ts : List RT} (h : W.ownsRow B 244 4 v ts.length (ts.flatMap rtC)) (hne : 0 < ts.length) : ∃ g cap, v = .slice (some ⟨g, 0, none⟩) ts.length cap ∧ TokAt W g ts := by
  obtain ⟨g, cap, e1, e2, e3, e4, e5⟩ := own_get h rtC_len hne
  refine ⟨g, cap, e1, ⟨e3, fun j hj => ⟨e5 j 0 hj _ (by decide) rfl, e5 j 1 hj _ (by decide) rfl, e5 j 2 hj _ (by decide) rfl, e5 j 3 hj _ (by decide) rfl⟩⟩, ?_⟩
  exact own_cells h (by rw [e1]; rfl)

/-- What Parse answers, and where it lies. -/
def ParseAns (s : ByteArray) (e : Ending) (w' : World) : Prop :=
  match parseD s with
  | .error (c, p) => e = .returned (.tuple #[.slice none 0 0, .int .i64 c, .int .i64 p])
  | .ok rs => ∃ v qs, e = .returned (.tuple #[v, .int .i64 0, .int .i64 0]) ∧ RulesIn w' v qs ∧ qs.map (·.1) = rs ∧ RlOk qs ∧ rs.length ≤ 8 ∧ ∀ r ∈ rs, RlSmall r

set_option maxRecDepth 100000 in
set_option maxHeartbeats 8000000 in
theorem parse_ref (s : ByteArray) (w : World) (hs : s.size ≤ 1048576) :
    Calls Tryz.prog 64 #[.string s] w fun e w' => ParseAns s e w' ∧ Below w.heap.size w w' := by
  obtain ⟨N, hN⟩ : ∃ N, N = w.heap.size := ⟨_, rfl⟩
  have hNr := hN.symm
  have hru := runes_any s w hs
  rw [← hN] at hru ⊢
  by_cases hlong : 300 < (R s 0).length
  · have hD : parseD s = .error (1, 0) := by unfold parseD; rw [if_pos hlong]
    have HD : Hid (∀ (e : Ending) (w' : World), e = .returned (.tuple #[.slice none 0 0, .int .i64 1, .int .i64 0]) → ParseAns s e w') := by
      intro e w' he
      unfold ParseAns; rw [hD]; exact he
    clear hD
    generalize R s 0 = L at *
    go_enter Tryz.func64, Tryz.ntmps64
    go_wp2_with fail
    refine hru.mono ?_
    rintro e W1 ⟨v1, rfl, ho1, hb1⟩
    obtain ⟨a1, c1, rfl⟩ := own_form ho1
    clear ho1 hru
    go_wp2
    go_ret3
    exact ⟨HD.out _ _ rfl, hb1⟩
  · have hL : (R s 0).length ≤ 300 := by omega
    have htk := fun W1 => tokens_any s W1 hs hL
    have hln := refToks_len s
    have hend := refToks_end s
    have hD : parseD s = if (overR (lk0 false) (refToks s)).1 ≠ 0 then .error (overR (lk0 false) (refToks s)) else match readR ((refToks s).length + 1) (refToks s) with
      | none => .error (0, 0)
      | some rs => if (soundR rs).1 ≠ 0 then .error (soundR rs) else .ok rs := by unfold parseD; rw [if_neg hlong]
    generalize refToks s = ts at *
    have hne : 0 < ts.length := by
      obtain ⟨pre, E, h1, _⟩ := hend; rw [h1]; simp
    have hov := fun (g cap : Nat) (W : World) (h : TokRow W g ts) => over_any g cap ts false W h (by omega)
    by_cases hoe : (overR (lk0 false) ts).1 = 0
    · obtain ⟨rs, hr1, hr2, hr3⟩ := rules_read (ts.length + 1) ts (lk0 false) (by omega) rfl rfl rfl hend hoe (by decide)
      rw [if_neg (by simpa using hoe), hr1] at hD
      simp only at hD
      have hrd := fun (g cap : Nat) (W : World) (h : TokAt W g ts) => read_any g cap ts (ts.length + 1) rs W h (by omega) hr1
      have h8 : rs.length ≤ 8 := by simp [lk0] at hr2; exact hr2
      have HD : Hid (parseD s = if (soundR rs).1 ≠ 0 then .error (soundR rs) else .ok rs) := hD
      have HR3 : Hid (∀ r ∈ rs, RlSmall r) := hr3
      have hoe2 : Hid (∀ (g cap : Nat) (W : World), TokRow W g ts → Calls Tryz.prog 108 #[.slice (some ⟨g, 0, none⟩) ts.length cap, .bool false] W fun e w' => (∃ p : Nat, e = .returned (.tuple #[.int .i64 0, .int .i64 p])) ∧ Below W.heap.size W w') := by
        intro g cap W h
        refine (hov g cap W h).mono ?_
        rintro e w' ⟨rfl, hb⟩
        refine ⟨⟨(overR (lk0 false) ts).2, ?_⟩, hb⟩
        have e0 : (overR ⟨0, false, false, 0, 0, 0, 0⟩ ts).1 = 0 := hoe
        rw [e0]; rfl
      clear hov hD hr1 hr2 hr3 hoe hend hlong
      generalize R s 0 = L at *
      go_enter Tryz.func64, Tryz.ntmps64
      go_wp2_with fail
      refine hru.mono ?_
      rintro e W1 ⟨v1, rfl, ho1, hb1⟩
      obtain ⟨a1, c1, rfl⟩ := own_form ho1
      clear ho1 hru
      go_wp2_with fail
      refine (htk W1).mono ?_
      rintro e W2 ⟨v2, rfl, ho2, hb2⟩
      obtain ⟨g, cap, rfl, hTA⟩ := tokAt_of ho2 hne
      have hN1 : N ≤ W1.heap.size := by have := hb1.size; omega
      have hb2' : Below N w W2 := hb1.trans (hb2.mono hN1)
      have hN2 : N ≤ W2.heap.size := Nat.le_trans hN1 hb2.size
      clear ho2 htk hb1 hb2
      go_wp2_with fail
      refine (hoe2.out g cap W2 hTA.1).mono ?_
      rintro e W3 ⟨⟨p3, rfl⟩, hb3⟩
      have hTA3 := hTA.below hb3 hTA.1.1
      have hb3' : Below N w W3 := hb2'.trans (hb3.mono hN2)
      have hN3 : N ≤ W3.heap.size := Nat.le_trans hN2 hb3.size
      clear hb3 hTA hoe2 hb2'
      go_wp2_with fail
      refine (hrd g cap W3 hTA3).mono ?_
      rintro e W4 ⟨v4, qs, rfl, hO, hq⟩
      have hR4 := hO.rules
      have hb4' : Below N w W4 := hb3'.trans (hO.below.mono hN3)
      have hN4 : N ≤ W4.heap.size := Nat.le_trans hN3 hO.size
      have hok := rlok_of hq h8 HR3.out
      have hsd := sound_any v4 qs W4 hR4 hok
      rw [hq] at hsd
      clear hrd hO hb3' hTA3
      by_cases hse : (soundR rs).1 = 0
      · have HDD : Hid (∀ (e : Ending) (w' : World), (∃ v qs, e = .returned (.tuple #[v, .int .i64 0, .int .i64 0]) ∧ RulesIn w' v qs ∧ qs.map (·.1) = rs ∧ RlOk qs ∧ rs.length ≤ 8 ∧ ∀ r ∈ rs, RlSmall r) → ParseAns s e w') := by
          intro e w' he
          unfold ParseAns; rw [HD.out, if_neg (by simpa using hse)]; exact he
        rw [hse] at hsd
        go_wp2_with fail
        refine hsd.mono ?_
        rintro e W5 ⟨rfl, hb5⟩
        have hR5 := hR4.below hb5
        have hb5' : Below N w W5 := hb4'.trans (hb5.mono hN4)
        clear hsd hR4 hb5 hb4'
        go_wp2
        go_ret3
        exact ⟨HDD.out _ _ ⟨v4, qs, rfl, hR5, hq, hok, h8, HR3.out⟩, hb5'⟩
      · have HDD : Hid (∀ (e : Ending) (w' : World), e = .returned (.tuple #[.slice none 0 0, .int .i64 (soundR rs).1, .int .i64 (soundR rs).2]) → ParseAns s e w') := by
          intro e w' he
          unfold ParseAns; rw [HD.out, if_pos hse]; exact he
        generalize (soundR rs).1 = se at *
        generalize (soundR rs).2 = si at *
        have m0 : (se == 0) = false := by simpa using hse
        have m1 : (se != 0) = true := by simpa using hse
        go_wp2_with fail
        refine hsd.mono ?_
        rintro e W5 ⟨rfl, hb5⟩
        have hb5' : Below N w W5 := hb4'.trans (hb5.mono hN4)
        clear hsd hR4 hb5 hb4'
        go_wp2
        go_ret3
        exact ⟨HDD.out _ _ rfl, hb5'⟩
    · rw [if_pos hoe] at hD
      have HDD : Hid (∀ (e : Ending) (w' : World), e = .returned (.tuple #[.slice none 0 0, .int .i64 (overR (lk0 false) ts).1, .int .i64 (overR (lk0 false) ts).2]) → ParseAns s e w') := by
        intro e w' he
        unfold ParseAns; rw [hD]; exact he
      have hov2 : Hid (∀ (g cap : Nat) (W : World), TokRow W g ts → Calls Tryz.prog 108 #[.slice (some ⟨g, 0, none⟩) ts.length cap, .bool false] W fun e w' => e = .returned (.tuple #[.int .i64 (overR (lk0 false) ts).1, .int .i64 (overR (lk0 false) ts).2]) ∧ Below W.heap.size W w') := hov
      clear hov hD hend hlong
      generalize (overR (lk0 false) ts).1 = oe at *
      generalize (overR (lk0 false) ts).2 = op at *
      generalize R s 0 = L at *
      have m0 : (oe == 0) = false := by simpa using hoe
      have m1 : (oe != 0) = true := by simpa using hoe
      go_enter Tryz.func64, Tryz.ntmps64
      go_wp2_with fail
      refine hru.mono ?_
      rintro e W1 ⟨v1, rfl, ho1, hb1⟩
      obtain ⟨a1, c1, rfl⟩ := own_form ho1
      clear ho1 hru
      go_wp2_with fail
      refine (htk W1).mono ?_
      rintro e W2 ⟨v2, rfl, ho2, hb2⟩
      obtain ⟨g, cap, rfl, hTA⟩ := tokAt_of ho2 hne
      have hN1 : N ≤ W1.heap.size := by have := hb1.size; omega
      have hb2' : Below N w W2 := hb1.trans (hb2.mono hN1)
      have hN2 : N ≤ W2.heap.size := Nat.le_trans hN1 hb2.size
      clear ho2 htk hb1 hb2
      go_wp2_with fail
      refine (hov2.out g cap W2 hTA.1).mono ?_
      rintro e W3 ⟨rfl, hb3⟩
      have hb3' : Below N w W3 := hb2'.trans (hb3.mono hN2)
      clear hb3 hTA hov2 hb2'
      go_wp2
      go_ret3
      exact ⟨HDD.out _ _ rfl, hb3'⟩

end Go.Proofs.YtjajnhemgphefaaGreatDoor
