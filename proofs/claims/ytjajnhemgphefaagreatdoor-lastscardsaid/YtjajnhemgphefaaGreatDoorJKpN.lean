/-
  The statement Lasts.
  Proved: for every list of edges and every two numbers handed to it, the statement's function Lasts answers true, and what was handed in reads as before.
  Conditions: package unicode/utf8's two tables hold what the program's text lays (the card ties them).
-/
import Derived.Test.YtjajnhemgphefaaGreatDoorJKpL
import Derived.Test.YtjajnhemgphefaaGreatDoorCards
import Derived.Test.YtjajnhemgphefaaGreatDoorTie
import Derived.ProofKit
import Derived.OpenShut
import Derived.Carry
import Derived.Deep.DeepHandedRow
import Derived.Lib.LaidU8T
import Derived.SevenTiedAt
import Derived.Deep.Slices
namespace Go.Proofs.YtjajnhemgphefaaGreatDoor
open Go.RowKit Go.Shelf Go.Maps
set_option linter.unusedVariables false
set_option linter.unusedSimpArgs false

set_option maxRecDepth 100000 in
set_option maxHeartbeats 8000000 in
theorem lasts_any (a0 : Option Addr) (cap : Nat) (l : List (Int × Int × Int)) (a b : Int) (w : World) (hl : EdAt w a0 l) (hll : l.length ≤ maxLen) (hz : ∀ x ∈ l, IntOk x.1 ∧ IntOk x.2.1 ∧ IntOk x.2.2) (ha : IntOk a) (hb : IntOk b) (hT : Lib.Utf8Tabs 0 1 w) :
    Calls Tryz.prog 9 #[.slice a0 l.length cap, .int .i64 a, .int .i64 b] w fun e w' => e = .returned (.bool true) ∧ Below w.heap.size w w' := by
  have hbg : Hid (Calls Tryz.prog 17 #[.string txtP, .int .i64 5] w fun e w' => ∃ be M, e = .returned (.pointer (some ⟨be, 0, none⟩)) ∧ LeastM rsP (givenL rsP) M ∧ KSt w be [] (newE rsP 20 3 5 M) w') := begun_any txtP _ 5 w p_new (by decide) hT ⟨by decide, by decide⟩
  have HT : Hid _ := hT
  have HL : Hid (EdAt w a0 l) := hl
  have HZ : Hid _ := hz
  have HA : Hid (IntOk a) := ha
  have HB : Hid (IntOk b) := hb
  clear hT hl hz ha hb
  go_enter Tryz.func9, Tryz.ntmps9
  go_wp2_with fail
  refine Calls.mono hbg.out ?_
  rintro e W0 ⟨be, M, rfl, hM, hk0⟩
  have hof : Hid (∀ (r : ByteArray) (i j : Nat) W, r.size ≤ 1000 → i < 6 → j < 6 → Calls Tryz.prog 21 #[.string r, .int .i64 (i : Int), .int .i64 (j : Int)] W fun e w' => e = .returned (.string (ofB r i j)) ∧ W = w') := fun r i j W h1 h2 h3 => (kof_any r i j h1 h2 h3 W).mono (by rintro e w' ⟨h1, h2⟩; exact ⟨h1, h2.symm⟩)
  have hof01 : Hid (∀ (r : ByteArray) W, r.size ≤ 1000 → Calls Tryz.prog 21 #[.string r, .int .i64 0, .int .i64 1] W fun e w' => e = .returned (.string (ofB r 0 1)) ∧ W = w') := fun r W h1 => hof.out r 0 1 W h1 (by decide) (by decide)
  have hki : Hid (∀ (i j t : Nat) W, i < 6 → j < 6 → t < 16 → (∃ e, LsE e ∧ KSt w be [] e W) → Calls Tryz.prog 20 #[.pointer (some ⟨be, 0, none⟩), .string (ofB bEd i j), .int .i64 (t : Int)] W fun en W' => ∃ r, en = .returned (.int .i64 r) ∧ Hid (∃ e, LsE e ∧ KSt w be [] e W')) := by
    rintro i j t W hi hj ht ⟨e, ⟨h1, h2, h3, h4⟩, h5⟩
    refine (kinsert h5 HT.out (ofB bEd i j) t (by show (4 + 5 : Nat) ≤ _; decide) (fun c hc => by rw [atom_e hi hj] at hc; cases hc; exact ⟨am_ok _ (by decide) _ _, am_nums _ _ _⟩)).mono ?_
    rintro en W' ⟨k1, k2, _⟩
    refine ⟨_, k1, _, ⟨pa_kept h1 hi hj (by omega) (by decide), ?_, ?_, ?_⟩, k2⟩
    all_goals rcases pa_ins h1 hi hj (t := (t : Int)) (by omega) (by decide) with ⟨g1, _⟩ | ⟨_, _, _, _, g1⟩
    · rw [g1]; exact h2
    · rw [g1]; exact h2
    · rw [g1]; exact h3
    · rw [g1]; exact h3
    · rw [g1]; exact h4
    · rw [g1]; exact List.mem_append_left _ h4
  have hk1 : Hid (Calls Tryz.prog 20 #[.pointer (some ⟨be, 0, none⟩), .string (ofB bEd 0 1), .int .i64 4] W0 fun en W' => en = .returned (.int .i64 0) ∧ Hid (∃ e, LsE e ∧ KSt w be [] e W')) := by
    have hpa : PaE 15 (newE rsP 20 3 5 M) := ⟨rfl, rfl, rfl, by show PtsOk (namesR [] rsP); rw [p_names]; exact pts_nil, fun d hd => by cases hd⟩
    refine (kinsert hk0 HT.out (ofB bEd 0 1) 4 (by decide) (fun c hc => by rw [atom_e (by decide) (by decide)] at hc; cases hc; exact ⟨am_ok _ (by decide) _ _, am_nums _ _ _⟩)).mono ?_
    rintro en W' ⟨k1, k2, _⟩
    have hpk := pa_kept hpa (a := 0) (b := 1) (by decide) (by decide) (t := 4) ⟨by decide, by decide⟩ (by decide)
    rcases pa_ins hpa (a := 0) (b := 1) (by decide) (by decide) (t := 4) ⟨by decide, by decide⟩ (by decide) with ⟨_, g2, g3, g4, g5⟩ | ⟨g1, _, _, _, g2⟩
    · exfalso
      rcases g2 with g | g | g
      · exact absurd (g3.1 g) (by show ¬ (4 : Int) + 20 ≤ 0; decide)
      · have := g4 g; cases this
      · exact absurd (g5 g) (by show ¬ (0 : Nat) = 24; decide)
    · rw [g1] at k1
      refine ⟨k1, _, ⟨hpk, ?_, ?_, ?_⟩, k2⟩
      · rw [g2]; rfl
      · rw [g2]; rfl
      · rw [g2]; exact List.mem_append_right _ List.mem_cons_self
  have hpk : Hid (∀ (z : Int) (n : Nat) W, IntOk z → 0 < n → n ≤ 1000 → Calls Tryz.prog 19 #[.int .i64 z, .int .i64 (n : Int)] W fun e w' => ∃ k : Nat, k < n ∧ e = .returned (.int .i64 (k : Int)) ∧ W = w') := fun z n W hz h0 h1 => by
    refine (kpick_any z n W hz.1 hz.2 (by omega) (by omega)).mono ?_
    rintro e w' ⟨h1, h2⟩
    have hb := pickZ_bounds z n (by omega)
    refine ⟨(pickZ z n).toNat, by omega, ?_, h2.symm⟩
    rw [h1, Int.toNat_of_nonneg hb.1]
  have hpk6 : Hid (∀ (z : Int) W, IntOk z → Calls Tryz.prog 19 #[.int .i64 z, .int .i64 6] W fun e w' => ∃ k : Nat, k < 6 ∧ e = .returned (.int .i64 (k : Int)) ∧ W = w') := fun z W hz => hpk.out z 6 W hz (by decide) (by decide)
  have hpk16 : Hid (∀ (z : Int) W, IntOk z → Calls Tryz.prog 19 #[.int .i64 z, .int .i64 16] W fun e w' => ∃ k : Nat, k < 16 ∧ e = .returned (.int .i64 (k : Int)) ∧ W = w') := fun z W hz => hpk.out z 16 W hz (by decide) (by decide)
  clear hk0 hM hbg hpk
  go_wp2_with fail
  refine (hof01.out bEd W0 (by decide)).mono ?_
  rintro e w' ⟨rfl, hw'⟩
  subst hw'
  go_wp2_with fail
  refine Calls.mono hk1.out ?_
  rintro e W1 ⟨rfl, hs1⟩
  clear hk1
  have hlm : (l.length : Int) ≤ 9223372036854775807 := by unfold maxLen at hll; omega
  go_wp2_with fail
  go_loopw [10] (fun vi wr => ∃ i : Nat, vi = .int .i64 i ∧ i ≤ 12 ∧ Hid (∃ e, LsE e ∧ KSt w be [] e wr)) (fun vi _ => 12 - (intOf vi).toNat)
  case atStart => exact ⟨0, rfl, Nat.zero_le _, hs1⟩
  case round =>
    obtain ⟨i, rfl, hi, hst⟩ := hrel
    by_cases hlt : i < l.length ∧ i < 12
    · have i1 : (i : Int) < (l.length : Int) := by omega
      have i2 : (i : Int) < 12 := by omega
      obtain ⟨bb, off, e0, hbl, x0, x1, x2⟩ := HL.out i hlt.1
      cases e0
      obtain ⟨e, _, hks⟩ := hst.out
      have hbw := hks.below
      have y0 := (hbw.cell (p := ⟨bb, off + i * 3, none⟩) hbl).trans x0
      have y1 := (hbw.cell (p := ⟨bb, off + i * 3 + 1, none⟩) hbl).trans x1
      have y2 := (hbw.cell (p := ⟨bb, off + i * 3 + 2, none⟩) hbl).trans x2
      have hzz := HZ.out _ (List.getElem_mem hlt.1)
      have HZZ : Hid _ := hzz
      have hstD : Hid (∃ e, LsE e ∧ KSt w be [] e wr.drew) := by
        obtain ⟨e, g1, g2⟩ := hst.out
        exact ⟨e, g1, g2.drew⟩
      clear x0 x1 x2 hks hbw hzz
      generalize l[i] = z at *
      go_wp2_with fail
      refine (hpk16.out _ wr HZZ.out.2.2).mono ?_
      rintro e' w' ⟨t, ht, rfl, hw'⟩
      subst hw'
      go_wp2_with fail
      first | (go_region_with (first | (go_at_call 19; refine Calls.mono (hpk6.out _ _ (by first | exact HZZ.out.1 | exact HZZ.out.2.1)) ?_; rintro e' w' ⟨kp, hkp, rfl, hw'⟩; subst hw') | (go_at_call 21; refine Calls.mono (hof.out bEd _ _ _ (by decide) (by assumption) (by assumption)) ?_; rintro e' w' ⟨rfl, hw'⟩; subst hw') | (go_at_call 20; refine Calls.mono (hki.out _ _ t _ (by assumption) (by assumption) ht hstD.out) ?_; rintro e' W6 ⟨r6, rfl, hst6⟩))) | fail
      all_goals (
        go_wp2
        refine ⟨⟨i + 1, by go_num, by omega, hst6⟩, by simp [intOf]; omega⟩)
    · have htk : Hid _ := ls_first hst.out
      clear hki hst
      by_cases hl1 : i < l.length
      · have i1 : (i : Int) < (l.length : Int) := by omega
        have i2 : ¬ (i : Int) < 12 := by omega
        clear hlt hl1
        go_wp2_with fail
        refine Calls.mono htk.out ?_
        rintro e W2 ⟨rfl, K0, M0, hls⟩
        have hb1 := ls_bounds hls.out.1
        have hb2 := ls_long hls.out.1
        have HB1 : Hid _ := hb1
        have hS2 : Hid (LsS w be K0 M0 15 W2) := hls.out.2
        have hL0 : Hid (Ls0 K0 M0) := hls.out.1
        clear hls hb1 htk
        go_wp2_with fail
        refine Calls.mono (hpk6.out a _ HA.out) ?_
        rintro e w' ⟨ka, hka, rfl, hw'⟩
        subst hw'
        go_wp2_with fail
        refine Calls.mono (hpk6.out b _ HB.out) ?_
        rintro e w' ⟨kb, hkb, rfl, hw'⟩
        subst hw'
        go_wp2_with fail
        refine Calls.mono (hof.out bPa ka kb _ (by decide) hka hkb) ?_
        rintro e w' ⟨rfl, hw'⟩
        subst hw'
        go_wp2_with fail
        refine Calls.mono (hof01.out bPa _ (by decide)) ?_
        rintro e w' ⟨rfl, hw'⟩
        subst hw'
        have hu1 : Hid _ := ls_until hS2.out HT.out hka hkb
        go_wp2_with fail
        refine Calls.mono hu1.out ?_
        rintro e W3 ⟨rfl, hS3⟩
        have hu2 : Hid _ := ls_until hS3.out HT.out (i := 0) (j := 1) (by decide) (by decide)
        go_wp2_with fail
        refine Calls.mono hu2.out ?_
        rintro e W4 ⟨rfl, hS4⟩
        have hbu := HB1.out ⟨bPa, ptB ka, ptB kb⟩
        have hask : Hid (∀ (m : Int) W, 15 ≤ m → LsS w be K0 M0 m W → Calls Tryz.prog 25 #[.pointer (some ⟨be, 0, none⟩), .string (ofB bPa ka kb)] W fun en W' => ∃ (oa : Option Addr) (oc n : Nat), en = .returned (.tuple #[.slice oa n oc, .int .i64 0]) ∧ Hid (n ≤ 1 ∧ (n = 1 ↔ m < (M0 ⟨bPa, ptB ka, ptB kb⟩).getD 0)) ∧ Hid (LsS w be K0 M0 m W')) := fun m W h15 h => ls_ask hL0.out h h15 HT.out hka hkb
        generalize (M0 ⟨bPa, ptB ka, ptB kb⟩).getD 0 = u at *
        generalize (M0 ⟨bPa, ptB 0, ptB 1⟩).getD 0 = v at *
        clear hu1 hu2 hS2 hS3
        have j1 : ¬ v < 24 := by omega
        have j2 : ¬ u < 0 := by omega
        have j3 : ¬ 35 < u := by omega
        by_cases hu0 : 0 < u
        · have j4 : ¬ u ≤ 15 := by omega
          clear hb2
          go_wp2_with fail
          go_loopw [20] (fun vi wr => ∃ mm : Nat, vi = .int .i64 mm ∧ 15 ≤ mm ∧ mm ≤ 36 ∧ Hid (LsS w be K0 M0 (if mm = 15 then 15 else (mm : Int) - 1) wr)) (fun vi _ => 36 - (intOf vi).toNat)
          case atStart => exact ⟨15, rfl, by omega, by omega, hS4⟩
          case round =>
            obtain ⟨mm, rfl, h15, h36, hss⟩ := hrel
            by_cases hmm : mm < 36
            · have k1 : (mm : Int) < 36 := by omega
              have htt : Hid (Calls Tryz.prog 22 #[.pointer (some ⟨be, 0, none⟩), .int .i64 ((mm : Int) + 3)] wr fun en W' => en = .returned (.tuple #[.int .i64 (mm : Int), .int .i64 0]) ∧ Hid (LsS w be K0 M0 (mm : Int) W')) := by
                refine ls_tick hss.out ?_ ?_ (by omega)
                · split <;> omega
                · split <;> omega
              have hnext : Hid ((if mm + 1 = 15 then (15 : Int) else ((mm + 1 : Nat) : Int) - 1) = (mm : Int)) := by
                show _ = _
                rw [if_neg (by omega)]; omega
              clear hss
              go_wp2_with fail
              refine Calls.mono htt.out ?_
              rintro e W6 ⟨rfl, hS6⟩
              have hak : Hid _ := hask.out (mm : Int) W6 (by omega) hS6.out
              go_wp2_with fail
              refine Calls.mono hak.out ?_
              rintro e W7 ⟨oa, oc, n, rfl, hn, hS7⟩
              by_cases hmu : (mm : Int) < u
              · have hn1 := hn.out.2.2 hmu
                subst hn1
                clear hak htt hS6
                go_wp2
                refine ⟨⟨mm + 1, by go_num, by omega, by omega, ?_⟩, by simp [intOf]; omega⟩
                rw [hnext.out]; exact hS7
              · have hn0 : n = 0 := by
                  have h1 := hn.out.1
                  have h2 : ¬ n = 1 := fun e => hmu (hn.out.2.1 e)
                  omega
                subst hn0
                clear hak htt hS6
                go_wp2
                refine ⟨⟨mm + 1, by go_num, by omega, by omega, ?_⟩, by simp [intOf]; omega⟩
                rw [hnext.out]; exact hS7
            · have hmm6 : mm = 36 := by omega
              subst hmm6
              have hen : Hid _ := ls_end hL0.out (W := wr) hss.out HT.out
              clear hss hask
              go_wp2_with fail
              refine Calls.mono hen.out ?_
              rintro e W8 ⟨oa, oc, rfl, hb8⟩
              go_wp2
              go_ret
              exact ⟨rfl, hb8.out⟩
        · clear hb2
          go_wp2_with fail
          go_loopw [20] (fun vi wr => ∃ mm : Nat, vi = .int .i64 mm ∧ 15 ≤ mm ∧ mm ≤ 36 ∧ Hid (LsS w be K0 M0 (if mm = 15 then 15 else (mm : Int) - 1) wr)) (fun vi _ => 36 - (intOf vi).toNat)
          case atStart => exact ⟨15, rfl, by omega, by omega, hS4⟩
          case round =>
            obtain ⟨mm, rfl, h15, h36, hss⟩ := hrel
            by_cases hmm : mm < 36
            · have k1 : (mm : Int) < 36 := by omega
              have htt : Hid (Calls Tryz.prog 22 #[.pointer (some ⟨be, 0, none⟩), .int .i64 ((mm : Int) + 3)] wr fun en W' => en = .returned (.tuple #[.int .i64 (mm : Int), .int .i64 0]) ∧ Hid (LsS w be K0 M0 (mm : Int) W')) := by
                refine ls_tick hss.out ?_ ?_ (by omega)
                · split <;> omega
                · split <;> omega
              have hnext : Hid ((if mm + 1 = 15 then (15 : Int) else ((mm + 1 : Nat) : Int) - 1) = (mm : Int)) := by
                show _ = _
                rw [if_neg (by omega)]; omega
              clear hss
              go_wp2_with fail
              refine Calls.mono htt.out ?_
              rintro e W6 ⟨rfl, hS6⟩
              have hak : Hid _ := hask.out (mm : Int) W6 (by omega) hS6.out
              go_wp2_with fail
              refine Calls.mono hak.out ?_
              rintro e W7 ⟨oa, oc, n, rfl, hn, hS7⟩
              by_cases hmu : (mm : Int) < u
              · have hn1 := hn.out.2.2 hmu
                subst hn1
                clear hak htt hS6
                go_wp2
                refine ⟨⟨mm + 1, by go_num, by omega, by omega, ?_⟩, by simp [intOf]; omega⟩
                rw [hnext.out]; exact hS7
              · have hn0 : n = 0 := by
                  have h1 := hn.out.1
                  have h2 : ¬ n = 1 := fun e => hmu (hn.out.2.1 e)
                  omega
                subst hn0
                clear hak htt hS6
                go_wp2
                refine ⟨⟨mm + 1, by go_num, by omega, by omega, ?_⟩, by simp [intOf]; omega⟩
                rw [hnext.out]; exact hS7
            · have hmm6 : mm = 36 := by omega
              subst hmm6
              have hen : Hid _ := ls_end hL0.out (W := wr) hss.out HT.out
              clear hss hask
              go_wp2_with fail
              refine Calls.mono hen.out ?_
              rintro e W8 ⟨oa, oc, rfl, hb8⟩
              go_wp2
              go_ret
              exact ⟨rfl, hb8.out⟩
      · have i1 : ¬ (i : Int) < (l.length : Int) := by omega
        clear hlt hl1
        go_wp2_with fail
        refine Calls.mono htk.out ?_
        rintro e W2 ⟨rfl, K0, M0, hls⟩
        have hb1 := ls_bounds hls.out.1
        have hb2 := ls_long hls.out.1
        have HB1 : Hid _ := hb1
        have hS2 : Hid (LsS w be K0 M0 15 W2) := hls.out.2
        have hL0 : Hid (Ls0 K0 M0) := hls.out.1
        clear hls hb1 htk
        go_wp2_with fail
        refine Calls.mono (hpk6.out a _ HA.out) ?_
        rintro e w' ⟨ka, hka, rfl, hw'⟩
        subst hw'
        go_wp2_with fail
        refine Calls.mono (hpk6.out b _ HB.out) ?_
        rintro e w' ⟨kb, hkb, rfl, hw'⟩
        subst hw'
        go_wp2_with fail
        refine Calls.mono (hof.out bPa ka kb _ (by decide) hka hkb) ?_
        rintro e w' ⟨rfl, hw'⟩
        subst hw'
        go_wp2_with fail
        refine Calls.mono (hof01.out bPa _ (by decide)) ?_
        rintro e w' ⟨rfl, hw'⟩
        subst hw'
        have hu1 : Hid _ := ls_until hS2.out HT.out hka hkb
        go_wp2_with fail
        refine Calls.mono hu1.out ?_
        rintro e W3 ⟨rfl, hS3⟩
        have hu2 : Hid _ := ls_until hS3.out HT.out (i := 0) (j := 1) (by decide) (by decide)
        go_wp2_with fail
        refine Calls.mono hu2.out ?_
        rintro e W4 ⟨rfl, hS4⟩
        have hbu := HB1.out ⟨bPa, ptB ka, ptB kb⟩
        have hask : Hid (∀ (m : Int) W, 15 ≤ m → LsS w be K0 M0 m W → Calls Tryz.prog 25 #[.pointer (some ⟨be, 0, none⟩), .string (ofB bPa ka kb)] W fun en W' => ∃ (oa : Option Addr) (oc n : Nat), en = .returned (.tuple #[.slice oa n oc, .int .i64 0]) ∧ Hid (n ≤ 1 ∧ (n = 1 ↔ m < (M0 ⟨bPa, ptB ka, ptB kb⟩).getD 0)) ∧ Hid (LsS w be K0 M0 m W')) := fun m W h15 h => ls_ask hL0.out h h15 HT.out hka hkb
        generalize (M0 ⟨bPa, ptB ka, ptB kb⟩).getD 0 = u at *
        generalize (M0 ⟨bPa, ptB 0, ptB 1⟩).getD 0 = v at *
        clear hu1 hu2 hS2 hS3
        have j1 : ¬ v < 24 := by omega
        have j2 : ¬ u < 0 := by omega
        have j3 : ¬ 35 < u := by omega
        by_cases hu0 : 0 < u
        · have j4 : ¬ u ≤ 15 := by omega
          clear hb2
          go_wp2_with fail
          go_loopw [20] (fun vi wr => ∃ mm : Nat, vi = .int .i64 mm ∧ 15 ≤ mm ∧ mm ≤ 36 ∧ Hid (LsS w be K0 M0 (if mm = 15 then 15 else (mm : Int) - 1) wr)) (fun vi _ => 36 - (intOf vi).toNat)
          case atStart => exact ⟨15, rfl, by omega, by omega, hS4⟩
          case round =>
            obtain ⟨mm, rfl, h15, h36, hss⟩ := hrel
            by_cases hmm : mm < 36
            · have k1 : (mm : Int) < 36 := by omega
              have htt : Hid (Calls Tryz.prog 22 #[.pointer (some ⟨be, 0, none⟩), .int .i64 ((mm : Int) + 3)] wr fun en W' => en = .returned (.tuple #[.int .i64 (mm : Int), .int .i64 0]) ∧ Hid (LsS w be K0 M0 (mm : Int) W')) := by
                refine ls_tick hss.out ?_ ?_ (by omega)
                · split <;> omega
                · split <;> omega
              have hnext : Hid ((if mm + 1 = 15 then (15 : Int) else ((mm + 1 : Nat) : Int) - 1) = (mm : Int)) := by
                show _ = _
                rw [if_neg (by omega)]; omega
              clear hss
              go_wp2_with fail
              refine Calls.mono htt.out ?_
              rintro e W6 ⟨rfl, hS6⟩
              have hak : Hid _ := hask.out (mm : Int) W6 (by omega) hS6.out
              go_wp2_with fail
              refine Calls.mono hak.out ?_
              rintro e W7 ⟨oa, oc, n, rfl, hn, hS7⟩
              by_cases hmu : (mm : Int) < u
              · have hn1 := hn.out.2.2 hmu
                subst hn1
                clear hak htt hS6
                go_wp2
                refine ⟨⟨mm + 1, by go_num, by omega, by omega, ?_⟩, by simp [intOf]; omega⟩
                rw [hnext.out]; exact hS7
              · have hn0 : n = 0 := by
                  have h1 := hn.out.1
                  have h2 : ¬ n = 1 := fun e => hmu (hn.out.2.1 e)
                  omega
                subst hn0
                clear hak htt hS6
                go_wp2
                refine ⟨⟨mm + 1, by go_num, by omega, by omega, ?_⟩, by simp [intOf]; omega⟩
                rw [hnext.out]; exact hS7
            · have hmm6 : mm = 36 := by omega
              subst hmm6
              have hen : Hid _ := ls_end hL0.out (W := wr) hss.out HT.out
              clear hss hask
              go_wp2_with fail
              refine Calls.mono hen.out ?_
              rintro e W8 ⟨oa, oc, rfl, hb8⟩
              go_wp2
              go_ret
              exact ⟨rfl, hb8.out⟩
        · clear hb2
          go_wp2_with fail
          go_loopw [20] (fun vi wr => ∃ mm : Nat, vi = .int .i64 mm ∧ 15 ≤ mm ∧ mm ≤ 36 ∧ Hid (LsS w be K0 M0 (if mm = 15 then 15 else (mm : Int) - 1) wr)) (fun vi _ => 36 - (intOf vi).toNat)
          case atStart => exact ⟨15, rfl, by omega, by omega, hS4⟩
          case round =>
            obtain ⟨mm, rfl, h15, h36, hss⟩ := hrel
            by_cases hmm : mm < 36
            · have k1 : (mm : Int) < 36 := by omega
              have htt : Hid (Calls Tryz.prog 22 #[.pointer (some ⟨be, 0, none⟩), .int .i64 ((mm : Int) + 3)] wr fun en W' => en = .returned (.tuple #[.int .i64 (mm : Int), .int .i64 0]) ∧ Hid (LsS w be K0 M0 (mm : Int) W')) := by
                refine ls_tick hss.out ?_ ?_ (by omega)
                · split <;> omega
                · split <;> omega
              have hnext : Hid ((if mm + 1 = 15 then (15 : Int) else ((mm + 1 : Nat) : Int) - 1) = (mm : Int)) := by
                show _ = _
                rw [if_neg (by omega)]; omega
              clear hss
              go_wp2_with fail
              refine Calls.mono htt.out ?_
              rintro e W6 ⟨rfl, hS6⟩
              have hak : Hid _ := hask.out (mm : Int) W6 (by omega) hS6.out
              go_wp2_with fail
              refine Calls.mono hak.out ?_
              rintro e W7 ⟨oa, oc, n, rfl, hn, hS7⟩
              by_cases hmu : (mm : Int) < u
              · have hn1 := hn.out.2.2 hmu
                subst hn1
                clear hak htt hS6
                go_wp2
                refine ⟨⟨mm + 1, by go_num, by omega, by omega, ?_⟩, by simp [intOf]; omega⟩
                rw [hnext.out]; exact hS7
              · have hn0 : n = 0 := by
                  have h1 := hn.out.1
                  have h2 : ¬ n = 1 := fun e => hmu (hn.out.2.1 e)
                  omega
                subst hn0
                clear hak htt hS6
                go_wp2
                refine ⟨⟨mm + 1, by go_num, by omega, by omega, ?_⟩, by simp [intOf]; omega⟩
                rw [hnext.out]; exact hS7
            · have hmm6 : mm = 36 := by omega
              subst hmm6
              have hen : Hid _ := ls_end hL0.out (W := wr) hss.out HT.out
              clear hss hask
              go_wp2_with fail
              refine Calls.mono hen.out ?_
              rintro e W8 ⟨oa, oc, rfl, hb8⟩
              go_wp2
              go_ret
              exact ⟨rfl, hb8.out⟩

end Go.Proofs.YtjajnhemgphefaaGreatDoor

namespace Go.Proofs.YtjajnhemgphefaaGreatDoor
open Go.ChangeShapes Go.WideShapes Go.ChangeAt Go.RowKit Go.Shelf
set_option linter.unusedVariables false
set_option linter.unusedSimpArgs false

theorem own : ownKnob Tryz.prog.godebug = none := by kernel_rfl
theorem laidOutP : laidOutB Tryz.prog = true := by kernel_rfl
theorem cellsInt : Tryz.prog.cellsOf 3 = 1 := by kernel_rfl
theorem cellsEdge : Tryz.prog.cellsOf 46 = 3 := by kernel_rfl
theorem add_at {b off k : Nat} : (⟨b, off, none⟩ : Addr).add k = ⟨b, off + k, none⟩ := by
  unfold Addr.add
  split
  · rename_i h; subst h; rfl
  · rfl
theorem cell_lt {W : World} {b off : Nat} {v : Value} (h : W.cell? ⟨b, off, none⟩ = some v) : b < W.heap.size := by
  cases hh : W.heap[b]? with
  | none => simp [World.cell?, hh] at h
  | some o => exact (Array.getElem?_eq_some_iff.1 hh).1
set_option maxRecDepth 100000 in
/-- A row of edges that is handed in. -/
theorem ed_open {H : Type} {enc : TypeId × Value → H} {W : World} {base : Nat} {spare : Nat → Bool} {held : Bool} {fuel : Nat} {a0 : Option Addr} {len cap : Nat} {x : DataW H × List MemPlace} (h : DataW.trod enc Tryz.prog W base spare held fuel 39 [.slice a0 len cap] = some x) :
    ∃ l : List (Int × Int × Int), l.length = len ∧ len ≤ maxLen ∧ EdAt W a0 l ∧ ∀ y ∈ l, IntOk y.1 ∧ IntOk y.2.1 ∧ IntOk y.2.2 := by
  rcases Go.Deep.open_slice Tryz.underlying39 h with ⟨hcs, _⟩ | ⟨a, len', cap', m, n, D, Pl, hcs, _, hl, hm, hmm, _, hx⟩
  · simp only [List.cons.injEq, Value.slice.injEq, and_true] at hcs
    obtain ⟨rfl, rfl, rfl⟩ := hcs
    exact ⟨[], rfl, Nat.zero_le _, fun i hi => absurd hi (Nat.not_lt_zero _), fun y hy => by cases hy⟩
  · simp only [List.cons.injEq, Value.slice.injEq, and_true] at hcs
    obtain ⟨rfl, rfl, rfl⟩ := hcs
    have hlm : len ≤ m := by rw [hmm]; split <;> omega
    have each : ∀ i, i < len → ∃ z : Int × Int × Int, W.cell? (a.add (i * 3)) = some (.int .i64 z.1) ∧ W.cell? (a.add (i * 3 + 1)) = some (.int .i64 z.2.1) ∧ W.cell? (a.add (i * 3 + 2)) = some (.int .i64 z.2.2) ∧ IntOk z.1 ∧ IntOk z.2.1 ∧ IntOk z.2.2 := by
      intro i hi
      obtain ⟨cs', h1, h2⟩ := hx i (by omega)
      rw [cellsEdge] at h1
      obtain ⟨_, hlen, hcell⟩ := World.cells?_some h1
      obtain ⟨xs, k, _, _, _, hxl, hf⟩ := DataW.trod_struct Tryz.underlying46 h2
      have hxl' : xs.length = 3 := hxl
      match xs, hxl', cs', hlen with
      | [y0, y1, y2], _, [v0, v1, v2], _ =>
        have g0 := hf 0 _ rfl
        have g1 := hf 1 _ rfl
        have g2 := hf 2 _ rfl
        simp [cellsInt] at g0 g1 g2
        obtain ⟨n0, e0, _, w0⟩ := DataW.trod_int Tryz.underlying3 g0
        obtain ⟨n1, e1, _, w1⟩ := DataW.trod_int Tryz.underlying3 g1
        obtain ⟨n2, e2, _, w2⟩ := DataW.trod_int Tryz.underlying3 g2
        simp only [List.cons.injEq, and_true] at e0 e1 e2
        subst e0 e1 e2
        have c0 := hcell 0 (by decide)
        have c1 := hcell 1 (by decide)
        have c2 := hcell 2 (by decide)
        rw [Go.Deep.add_add] at c0 c1 c2
        exact ⟨(n0, n1, n2), by simpa using c0, by simpa using c1, by simpa using c2, bounds_i64 w0, bounds_i64 w1, bounds_i64 w2⟩
    obtain ⟨f, hf⟩ := Go.Deep.choose_lt each
    refine ⟨(List.range len).map f, by simp, by omega, fun i hi => ?_, fun y hy => ?_⟩
    · have hi' : i < len := by simpa using hi
      obtain ⟨c0, c1, c2, _⟩ := hf i hi'
      obtain ⟨b, off, pr⟩ := a
      have hpn : pr = none := by
        cases pr with
        | none => rfl
        | some q =>
          exfalso
          have h00 := (hf 0 (by omega)).1
          have e0 : (⟨b, off, some q⟩ : Addr).add (0 * 3) = ⟨b, off, some q⟩ := by simp [Addr.add]
          rw [e0] at h00
          simp only [World.cell?] at h00
          split at h00
          · simp at h00
          · cases h00
      subst hpn
      rw [add_at] at c0 c1 c2
      refine ⟨b, off, rfl, cell_lt c0, ?_, ?_, ?_⟩
      · simpa using c0
      · simpa [Nat.add_assoc] using c1
      · simpa [Nat.add_assoc] using c2
    · obtain ⟨i, hi, rfl⟩ := List.mem_map.1 hy
      exact (hf i (List.mem_range.1 hi)).2.2.2

def uren : Ren :=
  { f := fun n => n
    t := fun
      | 5 => 5
      | 119 => 355
      | 138 => 357
      | 139 => 358
      | n => n
    g := fun
      | 3 => 0
      | 4 => 1
      | n => n }

theorem u8types : U8Types Tryz.prog uren := {
  t5 := by kernel_rfl
  t119 := by kernel_rfl
  t138 := by kernel_rfl
  t139 := by kernel_rfl }
theorem u8extra : U8Extra Tryz.prog uren := {
  n3 := by kernel_rfl
  n4 := by kernel_rfl
  y3 := by kernel_rfl
  y4 := by kernel_rfl
  c5 := by kernel_rfl
  c119 := by kernel_rfl
  c138 := by kernel_rfl }

theorem first_same : Rows.laid_unicode_utf8_first = Lib.firstData := by kernel_rfl
theorem accept_same : (Rows.laid_unicode_utf8_acceptRanges : DataW Unit) = Lib.acceptData := by kernel_rfl

theorem tabs {W : World} (h : laidMetH Tryz.prog Rows.lastsRow.laid W) : Lib.Utf8Tabs 0 1 W := by
  have h2 : laidMet Tryz.prog Rows.lastsRow.laid W := h
  refine utf8Tabs_of_readsT u8types u8extra (Lib.laidMet.reads h2 ?_) (Lib.laidMet.reads h2 ?_)
  · rw [← first_same]; simp [Rows.lastsRow]
  · rw [← accept_same]; simp [Rows.lastsRow]

set_option maxRecDepth 100000 in
theorem contract (H : Type) (enc : TypeId × Value → H) (W : World) (base : Nat) (args : Array Value) (ds gs : List (DataW H)) (before : List MemPlace)
    (hval : ∀ (j : Nat) t v, Tryz.f9.params[j]? = some t → args[j]? = some v → Value.okWide Tryz.prog W .any base t v)
    (hW : DataW.Whole enc Tryz.prog Tryz.f9.params.toList Rows.lastsSpec.vars false W args.toList ds gs before) (hL : laidMetH Tryz.prog Rows.lastsRow.laid W) :
    Calls Tryz.prog 9 args W fun e W' => ∃ v, e = .returned v ∧ Rows.lastsSpec.post enc Tryz.prog Tryz.f9 false true false false W args v W' := by
  have hT := tabs hL
  have hW' := hW
  obtain ⟨p, q, hA0, hV, rfl, hfz, hnd⟩ := hW
  have hA : DataW.TrodAll enc Tryz.prog W 0 (fun _ => true) true Tryz.f9.params.toList args.toList ds p := hA0
  rw [Tryz.params9] at hA hval
  obtain ⟨v0, v1, v2, d0, d1, d2, p0, p1, p2, rfl, rfl, rfl, h0, h1, h2⟩ := trodAll_three hA
  obtain ⟨rfl, rfl⟩ := trodVars_none hV
  obtain ⟨nm, rfl, rfl, rfl, wn⟩ := open_int Tryz.underlying3 (hval 1 3 v1 rfl rfl) h1
  obtain ⟨bd, rfl, rfl, rfl, wb⟩ := open_int Tryz.underlying3 (hval 2 3 v2 rfl rfl) h2
  obtain ⟨a0, len, cap, rfl⟩ := okWide_slice Tryz.underlying39 (hval 0 39 v0 rfl rfl)
  clear hA0
  simp only [List.append_nil] at hW'
  have hlt : ∀ x ∈ p0, x.block < W.heap.size := fun x hx => by simpa using hW'.lt x hx
  have walk : Calls Tryz.prog 9 #[.slice a0 len cap, .int .i64 nm, .int .i64 bd] W fun e w' => e = .returned (.bool true) ∧ Below W.heap.size W w' := by
    obtain ⟨fuel, hf⟩ := h0
    obtain ⟨l, rfl, hm, hed, hz⟩ := ed_open hf
    exact lasts_any a0 cap l nm bd W hed hm hz (bounds_i64 wn) (bounds_i64 wb) hT
  refine walk.mono fun e W2 ⟨he, hB⟩ => ?_
  subst he
  refine ⟨_, rfl, _, _, _, [], p0 ++ ([] ++ []), [], hW', ?_, ?_, rfl, hB.frame _, fun h => by cases h⟩
  · exact trodAll_mk1 (shut_bool Tryz.underlying4 _)
  · exact trodAll_mk3 (Below.trod laidOutP (by kernel_rfl) (of_decide_eq_true (by kernel_rfl)) h0 hB hlt) (shut_int Tryz.underlying3 wn) (shut_int Tryz.underlying3 wb)

end Go.Proofs.YtjajnhemgphefaaGreatDoor
