/-
  The statement Folded: its walk.
  A slice of edges that is handed in, and the two tables of unicode/utf8: for the cards.
  Proved: for every list of steps and every number handed to it, the statement's function Folded answers true, and what was handed in reads as before.
  Conditions: package unicode/utf8's two tables hold what the program's text lays (the card ties them).
-/
import Derived.Test.YtjajnhemgphefaaGreatDoorJdKrC
import Derived.Deep.RegionHeld3
import Derived.Test.YtjajnhemgphefaaGreatDoorCards
import Derived.Test.YtjajnhemgphefaaGreatDoorTie
import Derived.Test.YtjajnhemgphefaaGreatDoorJdTerm
import Derived.ProofKit
import Derived.OpenShut
import Derived.Carry
import Derived.Deep.DeepHandedRow
import Derived.Lib.LaidU8T
import Derived.SevenTiedAt
import Derived.Deep.Slices
namespace Go.Proofs.YtjajnhemgphefaaGreatDoor
open Go.RowKit Go.Shelf Go.Maps
set_option linter.unusedVariables false
set_option linter.unusedSimpArgs false

/-- A row of steps in memory. -/
def OpAt (w : World) (a : Option Addr) (l : List (Int × Int × Int × Int)) : Prop := ∀ i (h : i < l.length), ∃ b off, a = some ⟨b, off, none⟩ ∧ b < w.heap.size ∧ w.cell? ⟨b, off + i * 4, none⟩ = some (.int .i64 (l[i]).1) ∧ w.cell? ⟨b, off + i * 4 + 1, none⟩ = some (.int .i64 (l[i]).2.1) ∧ w.cell? ⟨b, off + i * 4 + 2, none⟩ = some (.int .i64 (l[i]).2.2.1) ∧ w.cell? ⟨b, off + i * 4 + 3, none⟩ = some (.int .i64 (l[i]).2.2.2)
def OpOk (z : Int × Int × Int × Int) : Prop := IntOk z.1 ∧ IntOk z.2.1 ∧ IntOk z.2.2.1 ∧ IntOk z.2.2.2
theorem pick_w (z : Int) (w : World) (n : Int) (hz : IntOk z) (hn : 0 < n ∧ n ≤ 50) : Calls Tryz.prog 19 #[.int .i64 z, .int .i64 n] w fun e w' => e = .returned (.int .i64 (pickZ z n)) ∧ w = w' := by
  refine (kpick_any z n w hz.1 hz.2 (by omega) (by omega)).mono ?_
  rintro e w' ⟨h1, h2⟩
  exact ⟨h1, h2.symm⟩
theorem cell_two_new (w : World) (a b : Value) (t : TypeId) : ∀ j u, [a, b][j]? = some u → (w.alloc (.cells #[a, b] t)).cell? ((⟨w.heap.size, 0, none⟩ : Addr).add j) = some u := by
  intro j u hj
  match j, hj with
  | 0, hj => simp at hj; subst hj; simp [Addr.add]
  | 1, hj => simp at hj; subst hj; simp [Addr.add]
  | j + 2, hj => simp at hj
theorem wpl_appendF {P : Program} (w : World) {ops : Array Oper} {rest : List Oper} {o : Oper} {a : Act} {Q : Exit → Act → World → Prop} (hgd : o.guard = none) (s x : Operand) (t : TypeId)
    (ho : o.op = .call { callee := .builtin .append, args := #[s, x], argTypes := #[t, t] }) (base : Nat) (e : TypeId) (i : TypeInfo) (z : Value) (size bytes : Nat) (h1 : P.underlying t = some (.slice e)) (h2 : P.info? e = some i) (h3 : i.zero = some z) (h4 : i.size = size) (h5 : i.bytes = bytes) (h6 : z.cells.size = size) (h7 : 0 < size)
    (v : Value) (n : Nat) (xs : List Value) (hs : a.eval s = v) (hown : w.ownsRow base e size v n xs)
    (ad : Addr) (m c : Nat) (news : List Value) (hx : a.eval x = .slice (some ad) m c) (hn : news.length = m * size) (hc : ∀ j u, news[j]? = some u → w.cell? (ad.add j) = some u) (h1c : ∀ u ∈ news, u.oneCell' = true)
    (b1 : n + m ≤ maxLen) (b2 : (n + m) * bytes ≤ 140737488355328) (hbase : base ≤ w.heap.size)
    (h : ∀ v' w', w'.ownsRow base e size v' (n + m) (xs ++ news) → w.grownBy w' v.ownBlock → (v'.ownBlock = v.ownBlock ∨ v'.ownBlock = some w.heap.size) → wpList P ops Q rest (a.put o.dst v') w') : wpList P ops Q (o :: rest) a w := by
  refine wpList_plain hgd fun K hK' => ?_
  obtain ⟨v', w', hrun, r1, r2, _, r3⟩ := run_append_own_at (P := P) w base t o.type e i z size bytes h1 h2 h3 h4 h5 h6 h7 v n xs hown ad m c news hn hc h1c b1 b2 hbase
  unfold Oper.wp
  simp [execOp, ho, resolve, invoke, builtin, hs, hx, hrun, Result.andThen]
  exact hK' _ _ (h v' w' r1 r2 r3)
theorem infoSn : (Tryz.prog.info? 64).map (fun i => (i.zero, i.size, i.bytes)) = some (some (.agg #[.int .i64 0, .slice none 0 0]), 2, 32) := by kernel_rfl
set_option maxRecDepth 100000 in
set_option maxHeartbeats 8000000 in
theorem folded_any (a0 : Option Addr) (cap : Nat) (l : List (Int × Int × Int × Int)) (q : Int) (w : World) (hl : OpAt w a0 l) (hll : l.length ≤ maxLen) (hz : ∀ x ∈ l, OpOk x) (hq : IntOk q) (hT : Lib.Utf8Tabs 0 1 w) :
    Calls Tryz.prog 11 #[.slice a0 l.length cap, .int .i64 q] w fun e w' => e = .returned (.bool true) ∧ Below w.heap.size w w' := by
  have hpk : Hid (Calls Tryz.prog 19 #[.int .i64 q, .int .i64 50] w fun e w' => e = .returned (.int .i64 (pickZ q 50)) ∧ w = w') := pick_w q w 50 hq (by decide)
  have hpb := pickZ_bounds q 50 (by decide)
  obtain ⟨n, hn⟩ : ∃ n, 1 + pickZ q 50 = n := ⟨_, rfl⟩
  have hnb : 1 ≤ n ∧ n ≤ 50 := by omega
  have hwr : IntKind.i64.wrap (1 + pickZ q 50) = n := by rw [hn]; exact wrap_small _ (by omega) (by omega)
  have hbg : Hid (Calls Tryz.prog 17 #[.string txtP, .int .i64 n] w fun e w' => ∃ be M, e = .returned (.pointer (some ⟨be, 0, none⟩)) ∧ Hid (LeastM rsP (givenL rsP) M ∧ KSt w be [] (newE rsP 20 3 n M) w')) := (begun_any txtP _ n w p_new (by decide) hT hnb).mono (by rintro e w' ⟨be, M, h1, h2, h3⟩; exact ⟨be, M, h1, h2, h3⟩)
  have HT : Hid _ := hT
  have HL : Hid (OpAt w a0 l) := hl
  have HZ : Hid _ := hz
  have hlm : (l.length : Int) ≤ 9223372036854775807 := by unfold maxLen at hll; omega
  clear hT hl hz hq hn hpb
  obtain ⟨i0, hin0, hz0, hz1, hz2⟩ := info_parts infoSn
  go_enter Tryz.func11, Tryz.ntmps11
  go_wp2_with fail
  refine Calls.mono hpk.out ?_
  rintro e w' ⟨rfl, hw'⟩
  subst hw'
  go_wp2_with fail
  refine Calls.mono hbg.out ?_
  rintro e W0 ⟨be, M, rfl, hk0⟩
  have hsu : Hid (Calls Tryz.prog 26 #[.pointer (some ⟨be, 0, none⟩), .string bPa] W0 fun en W' => en = .returned (.tuple #[.int .i64 0, .int .i64 0]) ∧ Hid (KSt w be [] (eF n M) W')) := by
    refine (ksub hk0.out.2 HT.out bPa (by decide)).mono ?_
    rintro en W' ⟨h1, h2, _⟩
    rw [p_sub] at h1 h2
    exact ⟨h1, h2⟩
  have HM : Hid _ := hk0.out.1
  clear hk0 hbg hpk
  go_wp2_with fail
  refine Calls.mono hsu.out ?_
  rintro e W1 ⟨rfl, h1⟩
  clear hsu
  have hsu : Hid (Calls Tryz.prog 26 #[.pointer (some ⟨be, 0, none⟩), .string bPa] W1 fun en W' => en = .returned (.tuple #[.int .i64 1, .int .i64 0]) ∧ Hid (KSt w be [] (eFF n M) W')) := by
    refine (ksub h1.out HT.out bPa (by decide)).mono ?_
    rintro en W' ⟨h1, h2, _⟩
    rw [p_sub2] at h1 h2
    exact ⟨h1, h2⟩
  clear h1
  go_wp2_with fail
  refine Calls.mono hsu.out ?_
  rintro e W2 ⟨rfl, h2⟩
  clear hsu
  have hak : Hid _ := fo_askT (fot_new HM.out h2.out) HT.out
  clear h2
  go_wp2_with fail
  refine Calls.mono hak.out ?_
  rintro e W3 ⟨oa, on, oc, rfl, h3⟩
  clear hak
  obtain ⟨xs, hk1, hk2, hk3, hk4⟩ := fo_row h3.out
  have hkr : Hid (W3.ownsRow w.heap.size 64 2 (.slice none 0 0) 0 xs) := hk1
  have hkf : Hid (∀ (O : Obj) (w1 : World) (v' : Value), w1.ownsRow w.heap.size 64 2 v' (0 + 1) (xs ++ [.int .i64 0, .slice oa on oc]) → (W3.alloc O).grownBy w1 (Value.slice none 0 0).ownBlock → (v'.ownBlock = (Value.slice none 0 0).ownBlock ∨ v'.ownBlock = some (W3.alloc O).heap.size) → FoX w be W2.heap.size (W2.heap.size + 1) v' 0 false false w1) := hk4
  have hb6 : ∀ O, w.heap.size ≤ (W3.alloc O).heap.size := fun O => by simp; omega
  clear hk1 hk4 h3
  go_wp2_with (at_builtin; refine wpl_appendF _ rfl _ _ 62 rfl w.heap.size 64 i0 _ 2 32 Tryz.underlying62 hin0 hz0 hz1 hz2 rfl (by decide) _ 0 xs rfl (World.ownsRow.alloc hkr.out _) ⟨W3.heap.size, 0, none⟩ 1 _ [.int .i64 0, .slice oa on oc] rfl rfl (cell_two_new _ _ _ _) (by simp [Value.oneCell']) (by unfold maxLen; omega) (by omega) (hb6 _) ?_; intro v6 w6 hown6 hgrow6 hat6; obtain ⟨ka6, kc6, hf6⟩ := owns_form hown6; subst hf6; have hst0 : Hid (FoX w be W2.heap.size (W2.heap.size + 1) (.slice ka6 (0 + 1) kc6) 0 false false w6) := hkf.out _ w6 _ hown6 hgrow6 hat6; clear hown6 hgrow6 hat6)
  clear hkr hkf hb6 hk2 hk3
  generalize W2.heap.size = B1 at *
  go_loopw [12, 15, 16, 17] (fun vs vc vl vi wr => ∃ (i n kc : Nat) (ka : Option Addr) (c mk : Int), vi = .int .i64 i ∧ vs = .slice ka n kc ∧ vc = .int .i64 c ∧ vl = .int .i64 mk ∧ i ≤ l.length ∧ 0 ≤ c ∧ c ≤ 900000 ∧ Hid (FoX w be B1 (B1 + 1) (.slice ka n kc) mk false false wr)) (fun _ _ _ vi _ => l.length - (intOf vi).toNat)
  case atStart => exact ⟨0, 0 + 1, kc6, ka6, 0, 0, rfl, rfl, rfl, rfl, Nat.zero_le _, by decide, by decide, hst0⟩
  case round =>
    clear hst0
    obtain ⟨i, n, kc, ka, c, mk, rfl, rfl, rfl, rfl, hi, hc0, hc9, hst⟩ := hrel
    by_cases hlt : i < l.length
    · have i1 : (i : Int) < (l.length : Int) := by omega
      obtain ⟨bb, off, e0, hbl, x0, x1, x2, x3⟩ := HL.out i hlt
      subst e0
      have HZX : Hid (OpOk l[i]) := HZ.out _ (List.getElem_mem hlt)
      have hbw : Below w.heap.size w wr := hst.out.below.1
      have bb0 : wr.cell? ⟨bb, off + i * 4, none⟩ = some (.int .i64 (l[i]).1) := (hbw.cell (p := ⟨bb, off + i * 4, none⟩) hbl).trans x0
      have bb1 : wr.cell? ⟨bb, off + i * 4 + 1, none⟩ = some (.int .i64 (l[i]).2.1) := (hbw.cell (p := ⟨bb, off + i * 4 + 1, none⟩) hbl).trans x1
      have bb2 : wr.cell? ⟨bb, off + i * 4 + 2, none⟩ = some (.int .i64 (l[i]).2.2.1) := (hbw.cell (p := ⟨bb, off + i * 4 + 2, none⟩) hbl).trans x2
      have bb3 : wr.cell? ⟨bb, off + i * 4 + 3, none⟩ = some (.int .i64 (l[i]).2.2.2) := (hbw.cell (p := ⟨bb, off + i * 4 + 3, none⟩) hbl).trans x3
      have hbr : bb < wr.heap.size := Nat.lt_of_lt_of_le hbl hbw.size
      clear x0 x1 x2 x3 hbw
      generalize l[i] = z at *
      have hpz : Hid (∀ (y : Int) W (n : Int), IntOk y → (0 < n ∧ n ≤ 50) → Calls Tryz.prog 19 #[.int .i64 y, .int .i64 n] W fun e w' => e = .returned (.int .i64 (pickZ y n)) ∧ W = w') := fun y W n h1 h2 => pick_w y W n h1 h2
      go_wp2_with fail
      refine Calls.mono (hpz.out _ _ _ HZX.out.1 (by decide)) ?_
      rintro e' w' ⟨rfl, hw'⟩
      subst hw'
      obtain ⟨V, hV⟩ : ∃ V, wr.alloc (.cells #[.int .i64 z.1, .int .i64 z.2.1, .int .i64 z.2.2.1, .int .i64 z.2.2.2] 66) = V := ⟨_, rfl⟩
      have hVN : V.heap[wr.heap.size]? = some (Obj.cells #[.int .i64 z.1, .int .i64 z.2.1, .int .i64 z.2.2.1, .int .i64 z.2.2.2] 66 (0, 0)) := by rw [← hV]; exact World.alloc_heap_new wr _
      have hsV : Hid (FoK w be B1 (B1 + 1) (.slice ka n kc) mk wr.heap.size V) := by rw [← hV]; exact hst.out.alloc _
      generalize wr.heap.size = N at *
      have hcl : ∀ W : World, W.heap[N]? = V.heap[N]? → W.cell? ⟨N, 1, none⟩ = some (.int .i64 z.2.1) ∧ W.cell? ⟨N, 2, none⟩ = some (.int .i64 z.2.2.1) ∧ W.cell? ⟨N, 3, none⟩ = some (.int .i64 z.2.2.2) := fun W hW => by
        have hh := hW.trans hVN
        exact ⟨by simp [World.cell?, hh], by simp [World.cell?, hh], by simp [World.cell?, hh]⟩
      have HCL : Hid _ := hcl
      rw [hV]
      clear hst bb0 bb1 bb2 bb3 hbr hVN hcl
      have hd6 := pickZ_bounds z.1 6 (by decide)
      generalize pickZ z.1 6 = d at *
      obtain ⟨y1, y2, y3⟩ := HCL.out V rfl
      obtain hd | rfl | rfl | rfl : (d = 0 ∨ d = 1 ∨ d = 2) ∨ d = 3 ∨ d = 4 ∨ d = 5 := by omega
      · have hp6 : ∀ z, pickZ z 6 = (p6 z : Int) := fun z => by unfold p6; rw [Int.toNat_of_nonneg (pickZ_bounds _ _ (by decide)).1]
        have hpa := hp6 z.2.1
        have hpb := hp6 z.2.2.1
        have hp2 := pickZ_bounds z.2.2.2 20 (by decide)
        obtain ⟨pz, hpc⟩ : ∃ pz, pickZ z.2.2.2 20 = pz := ⟨_, rfl⟩
        rw [hpc] at hp2
        have ha6 := p6_lt z.2.1
        have hb6 := p6_lt z.2.2.1
        clear hp6
        generalize p6 z.2.1 = pa at *
        generalize p6 z.2.2.1 = pb at *
        have hoz : Hid (∀ W, Calls Tryz.prog 21 #[.string bEd, .int .i64 (pa : Int), .int .i64 (pb : Int)] W fun e w' => e = .returned (.string (ofB bEd pa pb)) ∧ W = w') := fun W => (kof_any bEd pa pb (by decide) ha6 hb6 W).mono (by rintro e w' ⟨h1, h2⟩; exact ⟨h1, h2.symm⟩)
        have hw1 : IntKind.i64.wrap (c - 10) = c - 10 := wrap_small _ (by omega) (by omega)
        obtain ⟨T, hTT⟩ : ∃ T, max 0 (c - 10) + pz = T := ⟨_, rfl⟩
        have hTb : 0 ≤ T ∧ T ≤ 900020 := by omega
        have hw2 : IntKind.i64.wrap (max 0 (c - 10) + pz) = T := by rw [hTT]; exact wrap_small _ (by omega) (by omega)
        have hin : Hid (∀ W, Below V.heap.size V W → Calls Tryz.prog 20 #[.pointer (some ⟨be, 0, none⟩), .string (ofB bEd pa pb), .int .i64 T] W fun en W' => ∃ r : Int, en = .returned (.int .i64 r) ∧ (W'.cell? ⟨N, 1, none⟩ = some (.int .i64 z.2.1) ∧ W'.cell? ⟨N, 2, none⟩ = some (.int .i64 z.2.2.1) ∧ W'.cell? ⟨N, 3, none⟩ = some (.int .i64 z.2.2.2)) ∧ Hid (FoX w be B1 (B1 + 1) (.slice ka n kc) mk false false W')) := fun W hW => by
          have hN : N < V.heap.size := by
            cases hh : V.heap[N]? with
            | none => simp [World.cell?, hh] at y1
            | some o => exact (Array.getElem?_eq_some_iff.1 hh).1
          refine (fo_insertK (hsV.out.same hW) HT.out ha6 hb6 (t := T) (by omega)).mono ?_
          rintro en W' ⟨r, k1, k2, k3⟩
          exact ⟨r, k1, HCL.out W' (k2.trans (hW.block N hN)), k3⟩
        have hb0 : Hid (Below V.heap.size V V.drew) := (Below.refl _ V).drew
        clear hTT hsV
        obtain ⟨x1, x2, x3⟩ : V.drew.cell? ⟨N, 1, none⟩ = some (.int .i64 z.2.1) ∧ V.drew.cell? ⟨N, 2, none⟩ = some (.int .i64 z.2.2.1) ∧ V.drew.cell? ⟨N, 3, none⟩ = some (.int .i64 z.2.2.2) := ⟨y1, y2, y3⟩
        rcases hd with rfl | rfl | rfl
        all_goals (
          go_wp2_with fail
          first | (go_region_held3 (fun w' => w'.cell? ⟨N, 1, none⟩ = some (.int .i64 z.2.1) ∧ w'.cell? ⟨N, 2, none⟩ = some (.int .i64 z.2.2.1) ∧ w'.cell? ⟨N, 3, none⟩ = some (.int .i64 z.2.2.2)) (first | exact ⟨x1, x2, x3⟩ | assumption) (first | (go_at_call 19; refine Calls.mono (hpz.out _ _ _ (by first | exact HZX.out.2.1 | exact HZX.out.2.2.1 | exact HZX.out.2.2.2) (by decide)) ?_; rintro e' w' ⟨rfl, hw'⟩; subst hw') | (go_at_call 21; refine Calls.mono (hoz.out _) ?_; rintro e' w' ⟨rfl, hw'⟩; subst hw') | (go_at_call 20; refine Calls.mono (hin.out _ hb0.out) ?_; rintro e' W3' ⟨r, rfl, hbx3, hst3⟩))) | fail
          all_goals (
            clear hin hbx3 hoz hpz
            go_wp2
            refine ⟨⟨i + 1, n, kc, ka, c, mk, by go_num, rfl, rfl, rfl, by omega, hc0, hc9, hst3⟩, by simp [intOf]; omega⟩))
      · have hp9 := pickZ_bounds z.2.1 9 (by decide)
        have hpi : Hid (∀ W, Calls Tryz.prog 19 #[.int .i64 z.2.1, .int .i64 9] W fun e w' => e = .returned (.int .i64 (pickZ z.2.1 9)) ∧ W = w') := fun W => pick_w _ W 9 HZX.out.2.1 (by decide)
        generalize pickZ z.2.1 9 = pz at *
        have hw3 : IntKind.i64.wrap (c + pz) = c + pz := wrap_small _ (by omega) (by omega)
        obtain ⟨c', hc'⟩ : ∃ c', min (c + pz) 900000 = c' := ⟨_, rfl⟩
        have hcb : 0 ≤ c' ∧ c' ≤ 900000 := by omega
        go_wp2_with fail
        refine Calls.mono (hpi.out _) ?_
        rintro e' w' ⟨rfl, hw'⟩
        subst hw'
        go_wp2_with fail
        refine Calls.mono (fo_tk hsV.out.x (c := c') (by omega)) ?_
        rintro e' W7 ⟨r, rfl, h7⟩
        by_cases hr : r = mk
        · have h8 : Hid (FoX w be B1 (B1 + 1) (.slice ka n kc) mk false false W7) := h7.out.1 hr
          subst hr
          clear h7 y1 y2 y3 hsV hpi
          go_wp2
          refine ⟨⟨i + 1, n, kc, ka, c', r, by go_num, rfl, rfl, rfl, by omega, hcb.1, hcb.2, h8⟩, by simp [intOf]; omega⟩
        · have hT7 : Hid _ := fo_askT (h7.out.2 hr) HT.out
          have hr' : (r == mk) = false := by simpa using hr
          clear h7 y1 y2 y3 hsV hpi
          go_wp2_with fail
          refine Calls.mono hT7.out ?_
          rintro e' W8 ⟨pa, pn, pc, rfl, h8⟩
          clear hT7
          obtain ⟨xs8, hk1, hk2, hk3, hk4⟩ := fo_row h8.out
          have hkr : Hid (W8.ownsRow w.heap.size 64 2 (.slice ka n kc) n xs8) := hk1
          have hkf : Hid (∀ (O : Obj) (w1 : World) (v' : Value), w1.ownsRow w.heap.size 64 2 v' (n + 1) (xs8 ++ [.int .i64 r, .slice pa pn pc]) → (W8.alloc O).grownBy w1 (Value.slice ka n kc).ownBlock → (v'.ownBlock = (Value.slice ka n kc).ownBlock ∨ v'.ownBlock = some (W8.alloc O).heap.size) → FoX w be B1 (B1 + 1) v' r false false w1) := hk4
          have hb8 : ∀ O, w.heap.size ≤ (W8.alloc O).heap.size := fun O => by simp; omega
          clear hk1 hk4 h8
          go_wp2_with (at_builtin; refine wpl_appendF _ rfl _ _ 62 rfl w.heap.size 64 i0 _ 2 32 Tryz.underlying62 hin0 hz0 hz1 hz2 rfl (by decide) _ n xs8 rfl (World.ownsRow.alloc hkr.out _) ⟨W8.heap.size, 0, none⟩ 1 _ [.int .i64 r, .slice pa pn pc] rfl rfl (cell_two_new _ _ _ _) (by simp [Value.oneCell']) (by unfold maxLen; omega) (by omega) (hb8 _) ?_; intro v9 w9 hown9 hgrow9 hat9; obtain ⟨ka9, kc9, hf9⟩ := owns_form hown9; subst hf9; have hst9 : Hid (FoX w be B1 (B1 + 1) (.slice ka9 (n + 1) kc9) r false false w9) := hkf.out _ w9 _ hown9 hgrow9 hat9; clear hown9 hgrow9 hat9)
          refine ⟨⟨i + 1, n + 1, kc9, ka9, c', r, by go_num, rfl, rfl, rfl, by omega, hcb.1, hcb.2, hst9⟩, by simp [intOf]; omega⟩
      · have hp4 := pickZ_bounds z.2.1 40 (by decide)
        have hpi : Hid (∀ W, Calls Tryz.prog 19 #[.int .i64 z.2.1, .int .i64 40] W fun e w' => e = .returned (.int .i64 (pickZ z.2.1 40)) ∧ W = w') := fun W => pick_w _ W 40 HZX.out.2.1 (by decide)
        generalize pickZ z.2.1 40 = pz at *
        obtain ⟨mo, hmo⟩ : ∃ mo : Nat, 1 + pz = (mo : Int) := ⟨(1 + pz).toNat, by omega⟩
        have hmb : mo ≤ 1000000 := by omega
        have hw4 : IntKind.i64.wrap (1 + pz) = (mo : Int) := by rw [hmo]; exact wrap_small _ (by omega) (by omega)
        have hdr : Hid _ := fo_draw0 hsV.out.x hmb
        clear hmo hsV
        go_wp2_with fail
        refine Calls.mono (hpi.out _) ?_
        rintro e' w' ⟨rfl, hw'⟩
        subst hw'
        go_wp2_with fail
        refine Calls.mono hdr.out ?_
        rintro e' W7 ⟨b7, rfl, _, h7⟩
        have h8 : Hid (FoX w be B1 (B1 + 1) (.slice ka n kc) mk false false W7) := h7.out.fewer
        clear h7 hdr y1 y2 y3 hpi
        go_wp2
        refine ⟨⟨i + 1, n, kc, ka, c, mk, by go_num, rfl, rfl, rfl, by omega, hc0, hc9, h8⟩, by simp [intOf]; omega⟩
      · have hp4 := pickZ_bounds z.2.1 4 (by decide)
        have hpi : Hid (∀ W, Calls Tryz.prog 19 #[.int .i64 z.2.1, .int .i64 4] W fun e w' => e = .returned (.int .i64 (pickZ z.2.1 4)) ∧ W = w') := fun W => pick_w _ W 4 HZX.out.2.1 (by decide)
        obtain ⟨mo, hmo⟩ : ∃ mo : Nat, pickZ z.2.1 4 = (mo : Int) := ⟨(pickZ z.2.1 4).toNat, by omega⟩
        rw [hmo] at hpi hp4
        have hmb : mo ≤ 1000000 := by omega
        have hdr : Hid _ := fo_draw1 hsV.out.x hmb
        clear hmo hsV
        go_wp2_with fail
        refine Calls.mono (hpi.out _) ?_
        rintro e' w' ⟨rfl, hw'⟩
        subst hw'
        go_wp2_with fail
        refine Calls.mono hdr.out ?_
        rintro e' W7 ⟨b7, rfl, _, h7⟩
        have h8 : Hid (FoX w be B1 (B1 + 1) (.slice ka n kc) mk false false W7) := h7.out.fewer
        clear h7 hdr y1 y2 y3 hpi
        go_wp2
        refine ⟨⟨i + 1, n, kc, ka, c, mk, by go_num, rfl, rfl, rfl, by omega, hc0, hc9, h8⟩, by simp [intOf]; omega⟩
    · have i1 : ¬ (i : Int) < (l.length : Int) := by omega
      have hd1 : Hid _ := fo_draw0 (most := 1000) hst.out (by decide)
      clear hst
      go_wp2_with fail
      refine Calls.mono hd1.out ?_
      rintro e' W7 ⟨b7, rfl, hb7, h7⟩
      have hb7' := hb7 (Nat.le_refl _)
      subst hb7'
      have hd2 : Hid _ := fo_draw1 (most := 1000) h7.out (by decide)
      clear h7 hd1 hb7
      go_wp2_with fail
      refine Calls.mono hd2.out ?_
      rintro e' W8 ⟨b8, rfl, hb8, h8⟩
      have hb8' := hb8 (Nat.le_refl _)
      subst hb8'
      have hak : Hid _ := fo_askE h8.out HT.out
      clear h8 hd2 hb8
      go_wp2_with fail
      refine Calls.mono hak.out ?_
      rintro e' W9 ⟨pa, pn, pc, rfl, h9⟩
      have hl1 : Hid _ := fo_like1 h9.out
      clear h9 hak
      go_wp2_with fail
      refine Calls.mono hl1.out ?_
      rintro e' W10 ⟨rfl, h10⟩
      have hl2 : Hid _ := fo_like2 h10.out
      clear h10 hl1
      go_wp2_with fail
      refine Calls.mono hl2.out ?_
      rintro e' W11 ⟨rfl, h11⟩
      obtain ⟨e1, e2, e3⟩ := fo_end h11.out
      have HE : Hid _ := e3
      clear h11 hl2 e3
      go_wp2
      go_ret
      exact ⟨rfl, HE.out⟩

end Go.Proofs.YtjajnhemgphefaaGreatDoor

namespace Go.Proofs.YtjajnhemgphefaaGreatDoor
open Go.ChangeShapes Go.WideShapes Go.ChangeAt Go.RowKit Go.Shelf
set_option linter.unusedVariables false
set_option linter.unusedSimpArgs false

theorem own : ownKnob Tryz.prog.godebug = none := by kernel_rfl
theorem laidOutP : laidOutB Tryz.prog = true := by kernel_rfl
theorem cellsInt : Tryz.prog.cellsOf 3 = 1 := by kernel_rfl
theorem add_at {b off k : Nat} : (⟨b, off, none⟩ : Addr).add k = ⟨b, off + k, none⟩ := by
  unfold Addr.add
  split
  · rename_i h; subst h; rfl
  · rfl
theorem cell_lt {W : World} {b off : Nat} {v : Value} (h : W.cell? ⟨b, off, none⟩ = some v) : b < W.heap.size := by
  cases hh : W.heap[b]? with
  | none => simp [World.cell?, hh] at h
  | some o => exact (Array.getElem?_eq_some_iff.1 hh).1
def uren : Ren :=
  { f := fun n => n
    t := fun
      | 5 => 5
      | 119 => 355
      | 138 => 357
      | 139 => 358
      | n => n
    g := fun
      | 3 => 0
      | 4 => 1
      | n => n }

theorem u8types : U8Types Tryz.prog uren := {
  t5 := by kernel_rfl
  t119 := by kernel_rfl
  t138 := by kernel_rfl
  t139 := by kernel_rfl }
theorem u8extra : U8Extra Tryz.prog uren := {
  n3 := by kernel_rfl
  n4 := by kernel_rfl
  y3 := by kernel_rfl
  y4 := by kernel_rfl
  c5 := by kernel_rfl
  c119 := by kernel_rfl
  c138 := by kernel_rfl }

theorem first_same : Rows.laid_unicode_utf8_first = Lib.firstData := by kernel_rfl
theorem accept_same : (Rows.laid_unicode_utf8_acceptRanges : DataW Unit) = Lib.acceptData := by kernel_rfl

end Go.Proofs.YtjajnhemgphefaaGreatDoor

namespace Go.Proofs.YtjajnhemgphefaaGreatDoor
open Go.ChangeShapes Go.WideShapes Go.ChangeAt Go.RowKit Go.Shelf
set_option linter.unusedVariables false
set_option linter.unusedSimpArgs false

theorem cellsOp : Tryz.prog.cellsOf 66 = 4 := by kernel_rfl
set_option maxRecDepth 100000 in
/-- A row of steps that is handed in. -/
theorem op_open {H : Type} {enc : TypeId × Value → H} {W : World} {base : Nat} {spare : Nat → Bool} {held : Bool} {fuel : Nat} {a0 : Option Addr} {len cap : Nat} {x : DataW H × List MemPlace} (h : DataW.trod enc Tryz.prog W base spare held fuel 58 [.slice a0 len cap] = some x) :
    ∃ l : List (Int × Int × Int × Int), l.length = len ∧ len ≤ maxLen ∧ OpAt W a0 l ∧ ∀ y ∈ l, OpOk y := by
  rcases Go.Deep.open_slice Tryz.underlying58 h with ⟨hcs, _⟩ | ⟨a, len', cap', m, n, D, Pl, hcs, _, hl, hm, hmm, _, hx⟩
  · simp only [List.cons.injEq, Value.slice.injEq, and_true] at hcs
    obtain ⟨rfl, rfl, rfl⟩ := hcs
    exact ⟨[], rfl, Nat.zero_le _, fun i hi => absurd hi (Nat.not_lt_zero _), fun y hy => by cases hy⟩
  · simp only [List.cons.injEq, Value.slice.injEq, and_true] at hcs
    obtain ⟨rfl, rfl, rfl⟩ := hcs
    have hlm : len ≤ m := by rw [hmm]; split <;> omega
    have each : ∀ i, i < len → ∃ z : Int × Int × Int × Int, W.cell? (a.add (i * 4)) = some (.int .i64 z.1) ∧ W.cell? (a.add (i * 4 + 1)) = some (.int .i64 z.2.1) ∧ W.cell? (a.add (i * 4 + 2)) = some (.int .i64 z.2.2.1) ∧ W.cell? (a.add (i * 4 + 3)) = some (.int .i64 z.2.2.2) ∧ OpOk z := by
      intro i hi
      obtain ⟨cs', h1, h2⟩ := hx i (by omega)
      rw [cellsOp] at h1
      obtain ⟨_, hlen, hcell⟩ := World.cells?_some h1
      obtain ⟨xs, k, _, _, _, hxl, hf⟩ := DataW.trod_struct Tryz.underlying66 h2
      have hxl' : xs.length = 4 := hxl
      match xs, hxl', cs', hlen with
      | [y0, y1, y2, y3], _, [v0, v1, v2, v3], _ =>
        have g0 := hf 0 _ rfl
        have g1 := hf 1 _ rfl
        have g2 := hf 2 _ rfl
        have g3 := hf 3 _ rfl
        simp [cellsInt] at g0 g1 g2 g3
        obtain ⟨n0, e0, _, w0⟩ := DataW.trod_int Tryz.underlying3 g0
        obtain ⟨n1, e1, _, w1⟩ := DataW.trod_int Tryz.underlying3 g1
        obtain ⟨n2, e2, _, w2⟩ := DataW.trod_int Tryz.underlying3 g2
        obtain ⟨n3, e3, _, w3⟩ := DataW.trod_int Tryz.underlying3 g3
        simp only [List.cons.injEq, and_true] at e0 e1 e2 e3
        subst e0 e1 e2 e3
        have c0 := hcell 0 (by decide)
        have c1 := hcell 1 (by decide)
        have c2 := hcell 2 (by decide)
        have c3 := hcell 3 (by decide)
        rw [Go.Deep.add_add] at c0 c1 c2 c3
        exact ⟨(n0, n1, n2, n3), by simpa using c0, by simpa using c1, by simpa using c2, by simpa using c3, bounds_i64 w0, bounds_i64 w1, bounds_i64 w2, bounds_i64 w3⟩
    obtain ⟨f, hf⟩ := Go.Deep.choose_lt each
    refine ⟨(List.range len).map f, by simp, by omega, fun i hi => ?_, fun y hy => ?_⟩
    · have hi' : i < len := by simpa using hi
      obtain ⟨c0, c1, c2, c3, _⟩ := hf i hi'
      obtain ⟨b, off, pr⟩ := a
      have hpn : pr = none := by
        cases pr with
        | none => rfl
        | some q =>
          exfalso
          have h00 := (hf 0 (by omega)).1
          have e0 : (⟨b, off, some q⟩ : Addr).add (0 * 4) = ⟨b, off, some q⟩ := by simp [Addr.add]
          rw [e0] at h00
          simp only [World.cell?] at h00
          split at h00
          · simp at h00
          · cases h00
      subst hpn
      rw [add_at] at c0 c1 c2 c3
      refine ⟨b, off, rfl, cell_lt c0, ?_, ?_, ?_, ?_⟩
      · simpa using c0
      · simpa [Nat.add_assoc] using c1
      · simpa [Nat.add_assoc] using c2
      · simpa [Nat.add_assoc] using c3
    · obtain ⟨i, hi, rfl⟩ := List.mem_map.1 hy
      exact (hf i (List.mem_range.1 hi)).2.2.2.2

theorem tabs {W : World} (h : laidMetH Tryz.prog Rows.foldedRow.laid W) : Lib.Utf8Tabs 0 1 W := by
  have h2 : laidMet Tryz.prog Rows.foldedRow.laid W := h
  refine utf8Tabs_of_readsT u8types u8extra (Lib.laidMet.reads h2 ?_) (Lib.laidMet.reads h2 ?_)
  · rw [← first_same]; simp [Rows.foldedRow]
  · rw [← accept_same]; simp [Rows.foldedRow]

set_option maxRecDepth 100000 in
theorem contract (H : Type) (enc : TypeId × Value → H) (W : World) (base : Nat) (args : Array Value) (ds gs : List (DataW H)) (before : List MemPlace)
    (hval : ∀ (j : Nat) t v, Tryz.f11.params[j]? = some t → args[j]? = some v → Value.okWide Tryz.prog W .any base t v)
    (hW : DataW.Whole enc Tryz.prog Tryz.f11.params.toList Rows.foldedSpec.vars false W args.toList ds gs before) (hL : laidMetH Tryz.prog Rows.foldedRow.laid W) :
    Calls Tryz.prog 11 args W fun e W' => ∃ v, e = .returned v ∧ Rows.foldedSpec.post enc Tryz.prog Tryz.f11 false true false false W args v W' := by
  have hT := tabs hL
  have hW' := hW
  obtain ⟨p, q, hA0, hV, rfl, hfz, hnd⟩ := hW
  have hA : DataW.TrodAll enc Tryz.prog W 0 (fun _ => true) true Tryz.f11.params.toList args.toList ds p := hA0
  rw [Tryz.params11] at hA hval
  obtain ⟨v0, v1, d0, d1, p0, p1, rfl, rfl, rfl, h0, h1⟩ := trodAll_two hA
  obtain ⟨rfl, rfl⟩ := trodVars_none hV
  obtain ⟨nm, rfl, rfl, rfl, wn⟩ := open_int Tryz.underlying3 (hval 1 3 v1 rfl rfl) h1
  obtain ⟨a0, len, cap, rfl⟩ := okWide_slice Tryz.underlying58 (hval 0 58 v0 rfl rfl)
  clear hA0
  simp only [List.append_nil] at hW'
  have hlt : ∀ x ∈ p0, x.block < W.heap.size := fun x hx => by simpa using hW'.lt x hx
  have walk : Calls Tryz.prog 11 #[.slice a0 len cap, .int .i64 nm] W fun e w' => e = .returned (.bool true) ∧ Below W.heap.size W w' := by
    obtain ⟨fuel, hf⟩ := h0
    obtain ⟨l, rfl, hm, hed, hz⟩ := op_open hf
    exact folded_any a0 cap l nm W hed hm hz (bounds_i64 wn) hT
  refine walk.mono fun e W2 ⟨he, hB⟩ => ?_
  subst he
  refine ⟨_, rfl, _, _, _, [], p0 ++ [], [], hW', ?_, ?_, rfl, hB.frame _, fun h => by cases h⟩
  · exact trodAll_mk1 (shut_bool Tryz.underlying4 _)
  · exact trodAll_mk2 (Below.trod laidOutP (by kernel_rfl) (of_decide_eq_true (by kernel_rfl)) h0 hB hlt) (shut_int Tryz.underlying3 wn)

end Go.Proofs.YtjajnhemgphefaaGreatDoor
