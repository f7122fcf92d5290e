/-
  The statement Reached: its walk.
-/
import Derived.Test.YtjajnhemgphefaaGreatDoorJcKqU
import Derived.Test.YtjajnhemgphefaaGreatDoorJcFw
namespace Go.Proofs.YtjajnhemgphefaaGreatDoor
open Go.RowKit Go.Shelf Go.Maps
set_option linter.unusedVariables false
set_option linter.unusedSimpArgs false

/-- A row of numbers in memory. -/
def IaAt (w : World) (a : Option Addr) (l : List Int) : Prop := ∀ i (h : i < l.length), ∃ b off, a = some ⟨b, off, none⟩ ∧ b < w.heap.size ∧ w.cell? ⟨b, off + i, none⟩ = some (.int .i64 l[i])
theorem pick_x (z : Int) (w : World) (n : Int) (hz : IntOk z) (hn : n = 6 ∨ n = 25) : Calls Tryz.prog 19 #[.int .i64 z, .int .i64 n] w fun e w' => e = .returned (.int .i64 (pickZ z n)) ∧ w = w' := by
  refine (kpick_any z n w hz.1 hz.2 (by omega) (by omega)).mono ?_
  rintro e w' ⟨h1, h2⟩
  exact ⟨h1, h2.symm⟩

theorem wpl_append_at {P : Program} (w : World) {ops : Array Oper} {rest : List Oper} {o : Oper} {a : Act} {Q : Exit → Act → World → Prop} (hgd : o.guard = none) (s x : Operand) (t : TypeId)
    (ho : o.op = .call { callee := .builtin .append, args := #[s, x], argTypes := #[t, t] }) (base : Nat) (e : TypeId) (i : TypeInfo) (z : Value) (size bytes : Nat) (h1 : P.underlying t = some (.slice e)) (h2 : P.info? e = some i) (h3 : i.zero = some z) (h4 : i.size = size) (h5 : i.bytes = bytes) (h6 : z.cells.size = size) (h7 : 0 < size)
    (v : Value) (n : Nat) (xs : List Value) (hs : a.eval s = v) (hown : w.ownsRow base e size v n xs)
    (ad : Addr) (m c : Nat) (news : List Value) (hx : a.eval x = .slice (some ad) m c) (hn : news.length = m * size) (hc : ∀ j u, news[j]? = some u → w.cell? (ad.add j) = some u) (h1c : ∀ u ∈ news, u.oneCell' = true)
    (b1 : n + m ≤ maxLen) (b2 : (n + m) * bytes ≤ 140737488355328) (hbase : base ≤ w.heap.size)
    (h : ∀ v' w', w'.ownsRow base e size v' (n + m) (xs ++ news) → w.grownBy w' v.ownBlock → (v'.ownBlock = v.ownBlock ∨ v'.ownBlock = some w.heap.size) → wpList P ops Q rest (a.put o.dst v') w') : wpList P ops Q (o :: rest) a w := by
  refine wpList_plain hgd fun K hK' => ?_
  obtain ⟨v', w', hrun, r1, r2, _, r3⟩ := run_append_own_at (P := P) w base t o.type e i z size bytes h1 h2 h3 h4 h5 h6 h7 v n xs hown ad m c news hn hc h1c b1 b2 hbase
  unfold Oper.wp
  simp [execOp, ho, resolve, invoke, builtin, hs, hx, hrun, Result.andThen]
  exact hK' _ _ (h v' w' r1 r2 r3)
theorem infoEd : (Tryz.prog.info? 46).map (fun i => (i.zero, i.size, i.bytes)) = some (some (.agg #[.int .i64 0, .int .i64 0, .int .i64 0]), 3, 24) := by kernel_rfl
/-- A region that comes to one end, whatever its order. -/
theorem wp_one {P : Program} {c : Code} {Q : Exit → Act → World → Prop} {a : Act} {w : World} {A : Act} {W : World} (hreg : Code.wp P c (fun e' a' w' => match e' with | Exit.normal => a' = A ∧ w' = W | _ => False) a w) (hQ : Q Exit.normal A W) : Code.wp P c Q a w := by
  refine Code.wp_mono (fun e' a' w' hh => ?_) hreg
  cases e' <;> first | exact hh.elim | (obtain ⟨rfl, rfl⟩ := hh; exact hQ)

set_option maxRecDepth 100000 in
set_option maxHeartbeats 8000000 in
theorem reached_any (a0 b0 : Option Addr) (cap capb : Nat) (l : List (Int × Int × Int)) (ms : List Int) (w : World) (hl : EdAt w a0 l) (hll : l.length ≤ maxLen) (hz : ∀ x ∈ l, IntOk x.1 ∧ IntOk x.2.1 ∧ IntOk x.2.2) (hm : IaAt w b0 ms) (hml : ms.length ≤ maxLen) (hmz : ∀ x ∈ ms, IntOk x) (hT : Lib.Utf8Tabs 0 1 w) :
    Calls Tryz.prog 8 #[.slice a0 l.length cap, .slice b0 ms.length capb] w fun e w' => e = .returned (.bool true) ∧ Below w.heap.size w w' := by
  have hbg : Hid (Calls Tryz.prog 17 #[.string txtP, .int .i64 5] w fun e w' => ∃ be M, e = .returned (.pointer (some ⟨be, 0, none⟩)) ∧ Hid (LeastM rsP (givenL rsP) M ∧ KSt w be [] (newE rsP 20 3 5 M) w')) := (begun_any txtP _ 5 w p_new (by decide) hT ⟨by decide, by decide⟩).mono (by rintro e w' ⟨be, M, h1, h2, h3⟩; exact ⟨be, M, h1, h2, h3⟩)
  have HT : Hid _ := hT
  have HL : Hid (EdAt w a0 l) := hl
  have HZ : Hid _ := hz
  have HM : Hid (IaAt w b0 ms) := hm
  have HMZ : Hid _ := hmz
  have hlm : (l.length : Int) ≤ 9223372036854775807 := by unfold maxLen at hll; omega
  have hmm : (ms.length : Int) ≤ 9223372036854775807 := by unfold maxLen at hml; omega
  clear hT hl hz hm hmz
  go_enter Tryz.func8, Tryz.ntmps8
  go_wp2_with fail
  refine Calls.mono hbg.out ?_
  rintro e W0 ⟨be, M, rfl, hk0⟩
  have hfr : Hid _ := re_first hk0.out.1 hk0.out.2
  clear hbg hk0
  go_wp2_with fail
  refine Calls.mono hfr.out ?_
  rintro e W1 ⟨rfl, h1⟩
  clear hfr
  have hpz : Hid (∀ (z : Int) W (n : Int), IntOk z → (n = 6 ∨ n = 25) → Calls Tryz.prog 19 #[.int .i64 z, .int .i64 n] W fun e w' => e = .returned (.int .i64 (pickZ z n)) ∧ W = w') := fun z W n h1 h2 => pick_x z W n h1 h2
  go_wp2_with fail
  go_loopw [6, 7, 8, 9, 10] (fun vk vc vm vp vi wr => ∃ (i n kc Bm : Nat) (ka : Option Addr) (c mk : Int), vi = .int .i64 i ∧ vk = .slice ka n kc ∧ vc = .int .i64 c ∧ vm = .int .i64 mk ∧ vp = .pointer (some ⟨Bm, 0, none⟩) ∧ i ≤ max l.length ms.length ∧ 0 ≤ c ∧ c ≤ 900000 ∧ Hid (mk = max 0 (c - 3) ∧ (i = 0 → c = 0)) ∧ Hid (ReS w be [] (decide (i = 0)) mk (.slice ka n kc) Bm wr)) (fun _ _ _ _ vi _ => max l.length ms.length - (intOf vi).toNat)
  case atStart => exact ⟨0, 0, 0, _, none, 0, 0, rfl, rfl, rfl, rfl, rfl, Nat.zero_le _, by decide, by decide, ⟨by decide, fun _ => rfl⟩, h1⟩
  case round =>
    clear h1
    obtain ⟨i, n, kc, Bm, ka, c, mk, rfl, rfl, rfl, rfl, rfl, hi, hc0, hc9, hmk, hst⟩ := hrel
    by_cases hA : i < l.length
    · have i1 : (i : Int) < (l.length : Int) := by omega
      obtain ⟨bb, off, e0, hbl, x0, x1, x2⟩ := HL.out i hA
      subst e0
      have hzx := HZ.out _ (List.getElem_mem hA)
      have HZX : Hid _ := hzx
      have hbw : Below w.heap.size w wr := hst.out.below.1
      have y0 := (hbw.cell (p := ⟨bb, off + i * 3, none⟩) hbl).trans x0
      have y1 := (hbw.cell (p := ⟨bb, off + i * 3 + 1, none⟩) hbl).trans x1
      have y2 := (hbw.cell (p := ⟨bb, off + i * 3 + 2, none⟩) hbl).trans x2
      have bb0 : wr.drew.cell? ⟨bb, off + i * 3, none⟩ = some (.int .i64 (l[i]).1) := y0
      have bb1 : wr.drew.cell? ⟨bb, off + i * 3 + 1, none⟩ = some (.int .i64 (l[i]).2.1) := y1
      have bb2 : wr.drew.cell? ⟨bb, off + i * 3 + 2, none⟩ = some (.int .i64 (l[i]).2.2) := y2
      have hbr : bb < wr.heap.size := Nat.lt_of_lt_of_le hbl hbw.size
      clear x0 x1 x2 hzx hbw
      generalize l[i] = z at *
      have hp6 : ∀ z, pickZ z 6 = (p6 z : Int) := fun z => by unfold p6; rw [Int.toNat_of_nonneg (pickZ_bounds _ _ (by decide)).1]
      have hpa := hp6 z.1
      have hpb := hp6 z.2.1
      have hp25 := pickZ_bounds z.2.2 25 (by decide)
      have hw1 : IntKind.i64.wrap (c - 15) = c - 15 := wrap_small _ (by omega) (by omega)
      obtain ⟨T, hTT⟩ : ∃ T, max 0 (c - 15) + pickZ z.2.2 25 = T := ⟨_, rfl⟩
      have hTb : 0 ≤ T ∧ T ≤ 900024 := by omega
      have hw2 : IntKind.i64.wrap (max 0 (c - 15) + pickZ z.2.2 25) = T := by rw [hTT]; exact wrap_small _ (by omega) (by omega)
      have ha6 := p6_lt z.1
      have hb6 := p6_lt z.2.1
      clear hp6 hTT hp25
      have hS : Hid (∀ W, Below wr.heap.size wr W → W.cell? ⟨bb, off + i * 3, none⟩ = some (.int .i64 z.1) ∧ W.cell? ⟨bb, off + i * 3 + 1, none⟩ = some (.int .i64 z.2.1) ∧ W.cell? ⟨bb, off + i * 3 + 2, none⟩ = some (.int .i64 z.2.2)) := fun W hb => ⟨(hb.cell (p := ⟨bb, off + i * 3, none⟩) hbr).trans y0, (hb.cell (p := ⟨bb, off + i * 3 + 1, none⟩) hbr).trans y1, (hb.cell (p := ⟨bb, off + i * 3 + 2, none⟩) hbr).trans y2⟩
      have hb0 : Hid (Below wr.heap.size wr wr.drew) := (Below.refl _ wr).drew
      have hb1 : Hid (∀ O, Below wr.heap.size wr (wr.drew.alloc O)) := fun O => hb0.out.alloc (Nat.le_refl _) O
      have hb2 : Hid (∀ O p v, p.block = wr.heap.size → Below wr.heap.size wr ((wr.drew.alloc O).setCell p v)) := fun O p v hp => (hb1.out O).setCell (by omega) v
      go_wp2_with fail
      apply wp_one (W := (wr.alloc (.cells #[.int .i64 (p6 z.1 : Int), .int .i64 (p6 z.2.1 : Int), .int .i64 T] 46)).drew)
      case hreg =>
        go_region_held3 (fun w' => w'.cell? ⟨bb, off + i * 3, none⟩ = some (.int .i64 z.1) ∧ w'.cell? ⟨bb, off + i * 3 + 1, none⟩ = some (.int .i64 z.2.1) ∧ w'.cell? ⟨bb, off + i * 3 + 2, none⟩ = some (.int .i64 z.2.2)) (first | exact ⟨bb0, bb1, bb2⟩ | exact hS.out _ (hb1.out _) | exact hS.out _ (hb2.out _ _ _ rfl) | assumption) (first | (go_at_call 19; refine Calls.mono (hpz.out _ _ _ (by first | exact HZX.out.1 | exact HZX.out.2.1 | exact HZX.out.2.2) (by first | exact .inl rfl | exact .inr rfl)) ?_; rintro e' w' ⟨rfl, hw'⟩; subst hw') | go_simp)
        all_goals exact ⟨rfl, rfl⟩
      case hQ =>
        clear bb0 bb1 bb2 hS hb0 hb1 hb2 y0 y1 y2 hpa hpb hw1 hw2
        generalize p6 z.1 = pa at *
        generalize p6 z.2.1 = pb at *
        obtain ⟨V, hV⟩ : ∃ V, (wr.alloc (.cells #[.int .i64 (pa : Int), .int .i64 (pb : Int), .int .i64 T] 46)).drew = V := ⟨_, rfl⟩
        have hVN : V.heap[wr.heap.size]? = some (Obj.cells #[.int .i64 (pa : Int), .int .i64 (pb : Int), .int .i64 T] 46 (0, 0)) := by rw [← hV]; exact World.alloc_heap_new wr _
        have hsV : Hid (ReS w be [wr.heap.size] (decide (i = 0)) mk (.slice ka n kc) Bm V.drew) := by
          rw [← hV]
          exact (hst.out.alloc _).same (Below.refl _ _).drew.drew
        have hin : Hid (Calls Tryz.prog 20 #[.pointer (some ⟨be, 0, none⟩), .string (ofB bEd pa pb), .int .i64 T] V.drew fun en W' => ∃ r : Int, en = .returned (.int .i64 r) ∧ (r = 0 ∨ r = 8 ∨ r = 9 ∨ r = 10) ∧ (W'.cell? ⟨wr.heap.size, 0, none⟩ = some (.int .i64 (pa : Int)) ∧ W'.cell? ⟨wr.heap.size, 1, none⟩ = some (.int .i64 (pb : Int)) ∧ W'.cell? ⟨wr.heap.size, 2, none⟩ = some (.int .i64 T)) ∧ Hid ((r = 8 ↔ T + 20 ≤ mk) ∧ (r ≠ 0 → ¬ i = 0 ∧ ReS w be [wr.heap.size] false mk (.slice ka n kc) Bm W') ∧ (r = 0 → ReP w be [wr.heap.size] mk (.slice ka n kc) n Bm (pa, pb, T) W'))) := by
          refine (re_insert hsV.out HT.out ha6 hb6 (t := T) (by omega) rfl).mono ?_
          rintro en W' ⟨r, k1, k2, k3, k4, k5, k6⟩
          have hbx := (k5 _ List.mem_cons_self).trans (show V.drew.heap[wr.heap.size]? = _ from hVN)
          refine ⟨r, k1, k2, ⟨by simp [World.cell?, hbx], by simp [World.cell?, hbx], by simp [World.cell?, hbx]⟩, k3, fun h0 => ⟨fun hi0 => h0 (k4 (by simpa using hi0) ?_), k6.out.1 h0⟩, k6.out.2⟩
          have := hmk.out.1
          have := hmk.out.2 hi0
          omega
        have bb0 : V.drew.cell? ⟨wr.heap.size, 0, none⟩ = some (.int .i64 (pa : Int)) := by show V.cell? _ = _; simp [World.cell?, hVN]
        have bb1 : V.drew.cell? ⟨wr.heap.size, 1, none⟩ = some (.int .i64 (pb : Int)) := by show V.cell? _ = _; simp [World.cell?, hVN]
        have bb2 : V.drew.cell? ⟨wr.heap.size, 2, none⟩ = some (.int .i64 T) := by show V.cell? _ = _; simp [World.cell?, hVN]
        have hoz : Hid (∀ W, Calls Tryz.prog 21 #[.string bEd, .int .i64 (pa : Int), .int .i64 (pb : Int)] W fun e w' => e = .returned (.string (ofB bEd pa pb)) ∧ W = w') := fun W => (kof_any bEd pa pb (by decide) ha6 hb6 W).mono (by rintro e w' ⟨h1, h2⟩; exact ⟨h1, h2.symm⟩)
        clear hsV hst hVN
        rw [hV]
        go_wp2_with fail
        go_region_held3 (fun w' => w'.cell? ⟨wr.heap.size, 0, none⟩ = some (.int .i64 (pa : Int)) ∧ w'.cell? ⟨wr.heap.size, 1, none⟩ = some (.int .i64 (pb : Int)) ∧ w'.cell? ⟨wr.heap.size, 2, none⟩ = some (.int .i64 T)) (first | exact ⟨bb0, bb1, bb2⟩ | assumption) (first | (go_at_call 21; refine Calls.mono (hoz.out _) ?_; rintro e' w' ⟨rfl, hw'⟩; subst hw') | (go_at_call 20; refine Calls.mono hin.out ?_; rintro e' W3 ⟨r, rfl, hr4, hbx3, hres⟩))
        obtain ⟨t0, t1, t2⟩ := hbx3
        clear bb0 bb1 bb2 hin hoz
        have hw5 : IntKind.i64.wrap (T + 20) = T + 20 := wrap_small _ (by omega) (by omega)
        obtain ⟨i0, hin0, hz0, hz1, hz2⟩ := info_parts infoEd
        rcases hr4 with rfl | rfl | rfl | rfl
        · have hlate : decide (T + 20 ≤ mk) = false := by simp only [decide_eq_false_iff_not]; intro h; exact absurd (hres.out.1.2 h) (by decide)
          have hP : Hid (ReP w be [wr.heap.size] mk (.slice ka n kc) n Bm (pa, pb, T) W3) := hres.out.2.2 rfl
          obtain ⟨kl, hk1, hk2, hk3, hk4⟩ := rep_row hP.out
          have hkr : Hid _ := hk1
          have hkf : Hid _ := hk4
          have hkn : n ≤ 1000000000 := hk2
          clear hk1 hk4 hk2 hP
          clear hres
          cases hi1 : ((i : Int) == 0)
          all_goals (
            by_cases hB : i < ms.length
            · have j1 : (i : Int) < (ms.length : Int) := by omega
              obtain ⟨mb, mo, e0, hmb, x0⟩ := HM.out i hB
              subst e0
              have hmz := HMZ.out _ (List.getElem_mem hB)
              have hs0 : Hid (∀ W, Below w.heap.size w W → W.cell? ⟨mb, mo + i, none⟩ = some (.int .i64 ms[i])) := fun W hb => (hb.cell (p := ⟨mb, mo + i, none⟩) hmb).trans x0
              generalize ms[i] = mz at *
              have hp12 := pickZ_bounds mz 12 (by decide)
              have hpi : Hid (∀ W, Calls Tryz.prog 19 #[.int .i64 mz, .int .i64 12] W fun e w' => e = .returned (.int .i64 (pickZ mz 12)) ∧ W = w') := fun W => (kpick_any mz 12 W hmz.1 hmz.2 (by decide) (by decide)).mono (by rintro e w' ⟨h1, h2⟩; exact ⟨h1, h2.symm⟩)
              generalize pickZ mz 12 = pz at *
              have hw3 : IntKind.i64.wrap (c + pz) = c + pz := wrap_small _ (by omega) (by omega)
              obtain ⟨c', hc'⟩ : ∃ c', min (c + pz) 900000 = c' := ⟨_, rfl⟩
              have hcb : 0 ≤ c' ∧ c' ≤ 900000 ∧ c ≤ c' := by omega
              have hw4 : IntKind.i64.wrap (c' - 3) = c' - 3 := wrap_small _ (by omega) (by omega)
              clear hmz
              go_wp2_with (at_builtin; refine wpl_append_at _ rfl (.tmp 96) (.tmp 98) 39 rfl w.heap.size 46 i0 _ 3 24 Tryz.underlying39 hin0 hz0 hz1 hz2 rfl (by decide) _ n (kl.flatMap edC) rfl (World.ownsRow.alloc hkr.out _) ⟨W3.heap.size, 0, none⟩ 1 _ [.int .i64 (pa : Int), .int .i64 (pb : Int), .int .i64 T] rfl rfl (cell_three_new _ _ _ _ _) (by simp [Value.oneCell']) (by unfold maxLen; omega) (by omega) (by simp; omega) ?_; intro v6 w6 hown6 hgrow6 hat6; obtain ⟨ka6, kc6, hf6⟩ := owns_form hown6; subst hf6; have hst2 : Hid (ReS w be [] false mk (.slice ka6 (n + 1) kc6) Bm w6) := hkf.out _ w6 _ hown6 hgrow6 hat6; have s0 : w6.cell? ⟨mb, mo + i, none⟩ = some (.int .i64 mz) := hs0.out w6 hst2.out.below.1)
              all_goals (
                refine Calls.mono (hpi.out _) ?_
                rintro e' w' ⟨rfl, hw'⟩
                subst hw'
                go_wp2_with fail
                refine Calls.mono (re_tk hst2.out (c := c') (by omega)) ?_
                rintro e' W7 ⟨rfl, h7⟩
                clear s0
                by_cases hmv : mk < c' - 3
                · have hmx : max mk (c' - 3) = c' - 3 := by omega
                  have hT7 : Hid _ := re_reckon (h7.out.2 hmv)
                  clear h7
                  go_wp2_with fail
                  refine Calls.mono hT7.out ?_
                  rintro e' W8 ⟨rfl, h8⟩
                  have hri : Hid _ := re_right h8.out HT.out
                  clear hT7 h8
                  go_wp2_with fail
                  refine Calls.mono hri.out ?_
                  rintro e' W9 ⟨rfl, h9⟩
                  clear hri
                  go_wp2
                  refine ⟨⟨i + 1, n + 1, kc6, W7.heap.size, ka6, c', c' - 3, by go_num, rfl, rfl, rfl, rfl, by omega, hcb.1, hcb.2.1, ⟨by have := hmk.out.1; omega, fun h => by omega⟩, by simpa using h9⟩, by simp [intOf]; omega⟩
                · have hmx : max mk (c' - 3) = mk := by omega
                  have hmv' : decide (mk < c' - 3) = false := by simpa using hmv
                  have hri : Hid _ := re_right (h7.out.1 (by omega)) HT.out
                  clear h7
                  go_wp2_with fail
                  refine Calls.mono hri.out ?_
                  rintro e' W9 ⟨rfl, h9⟩
                  clear hri
                  go_wp2
                  refine ⟨⟨i + 1, n + 1, kc6, Bm, ka6, c', mk, by go_num, rfl, rfl, rfl, rfl, by omega, hcb.1, hcb.2.1, ⟨by have := hmk.out.1; omega, fun h => by omega⟩, by simpa using h9⟩, by simp [intOf]; omega⟩)
            · have j1 : ¬ (i : Int) < (ms.length : Int) := by omega
              go_wp2_with (at_builtin; refine wpl_append_at _ rfl (.tmp 96) (.tmp 98) 39 rfl w.heap.size 46 i0 _ 3 24 Tryz.underlying39 hin0 hz0 hz1 hz2 rfl (by decide) _ n (kl.flatMap edC) rfl (World.ownsRow.alloc hkr.out _) ⟨W3.heap.size, 0, none⟩ 1 _ [.int .i64 (pa : Int), .int .i64 (pb : Int), .int .i64 T] rfl rfl (cell_three_new _ _ _ _ _) (by simp [Value.oneCell']) (by unfold maxLen; omega) (by omega) (by simp; omega) ?_; intro v6 w6 hown6 hgrow6 hat6; obtain ⟨ka6, kc6, hf6⟩ := owns_form hown6; subst hf6; have hst2 : Hid (ReS w be [] false mk (.slice ka6 (n + 1) kc6) Bm w6) := hkf.out _ w6 _ hown6 hgrow6 hat6)
              all_goals (
              refine Calls.mono (re_right hst2.out HT.out) ?_
              rintro e' W9 ⟨rfl, h9⟩
              go_wp2
              refine ⟨⟨i + 1, n + 1, kc6, Bm, ka6, c, mk, by go_num, rfl, rfl, rfl, rfl, by omega, hc0, hc9, ⟨hmk.out.1, fun h => by omega⟩, by simpa using h9⟩, by simp [intOf]; omega⟩))
        · have hlate : decide (T + 20 ≤ mk) = true := by simpa using hres.out.1.1 rfl
          have hi0 : ¬ i = 0 := (hres.out.2.1 (by decide)).1
          have hi1 : ((i : Int) == 0) = false := by simp; omega
          have hst2 : Hid (ReS w be [] false mk (.slice ka n kc) Bm W3) := (hres.out.2.1 (by decide)).2.fewer
          clear hres
          by_cases hB : i < ms.length
          · have j1 : (i : Int) < (ms.length : Int) := by omega
            obtain ⟨mb, mo, e0, hmb, x0⟩ := HM.out i hB
            subst e0
            have hmz := HMZ.out _ (List.getElem_mem hB)
            have s0 : W3.cell? ⟨mb, mo + i, none⟩ = some (.int .i64 ms[i]) := (hst2.out.below.1.cell (p := ⟨mb, mo + i, none⟩) hmb).trans x0
            generalize ms[i] = mz at *
            have hp12 := pickZ_bounds mz 12 (by decide)
            have hpi : Hid (∀ W, Calls Tryz.prog 19 #[.int .i64 mz, .int .i64 12] W fun e w' => e = .returned (.int .i64 (pickZ mz 12)) ∧ W = w') := fun W => (kpick_any mz 12 W hmz.1 hmz.2 (by decide) (by decide)).mono (by rintro e w' ⟨h1, h2⟩; exact ⟨h1, h2.symm⟩)
            generalize pickZ mz 12 = pz at *
            have hw3 : IntKind.i64.wrap (c + pz) = c + pz := wrap_small _ (by omega) (by omega)
            obtain ⟨c', hc'⟩ : ∃ c', min (c + pz) 900000 = c' := ⟨_, rfl⟩
            have hcb : 0 ≤ c' ∧ c' ≤ 900000 ∧ c ≤ c' := by omega
            have hw4 : IntKind.i64.wrap (c' - 3) = c' - 3 := wrap_small _ (by omega) (by omega)
            have htk : Hid (∀ W, Below W3.heap.size W3 W → Calls Tryz.prog 22 #[.pointer (some ⟨be, 0, none⟩), .int .i64 c'] W fun en W' => en = .returned (.tuple #[.int .i64 (max mk (c' - 3)), .int .i64 0]) ∧ Hid ((c' - 3 ≤ mk → ReS w be [] false mk (.slice ka n kc) Bm W') ∧ (mk < c' - 3 → ReT w be (c' - 3) (.slice ka n kc) W'))) := fun W hb => re_tk (hst2.out.same hb) (by omega)
            have hbd : Hid (Below W3.heap.size W3 W3.drew) := (Below.refl _ _).drew
            clear hst2 hmz
            go_wp2_with fail
            refine Calls.mono (hpi.out _) ?_
            rintro e' w' ⟨rfl, hw'⟩
            subst hw'
            go_wp2_with fail
            refine Calls.mono (htk.out _ (by first | exact Below.refl _ _ | exact hbd.out)) ?_
            rintro e' W7 ⟨rfl, h7⟩
            clear htk s0
            by_cases hmv : mk < c' - 3
            · have hmx : max mk (c' - 3) = c' - 3 := by omega
              have hT7 : Hid _ := re_reckon (h7.out.2 hmv)
              clear h7
              go_wp2_with fail
              refine Calls.mono hT7.out ?_
              rintro e' W8 ⟨rfl, h8⟩
              have hri : Hid _ := re_right h8.out HT.out
              clear hT7 h8
              go_wp2_with fail
              refine Calls.mono hri.out ?_
              rintro e' W9 ⟨rfl, h9⟩
              clear hri
              go_wp2
              refine ⟨⟨i + 1, n, kc, W7.heap.size, ka, c', c' - 3, by go_num, rfl, rfl, rfl, rfl, by omega, hcb.1, hcb.2.1, ⟨by have := hmk.out.1; omega, fun h => by omega⟩, by simpa using h9⟩, by simp [intOf]; omega⟩
            · have hmx : max mk (c' - 3) = mk := by omega
              have hmv' : decide (mk < c' - 3) = false := by simpa using hmv
              have hri : Hid _ := re_right (h7.out.1 (by omega)) HT.out
              clear h7
              go_wp2_with fail
              refine Calls.mono hri.out ?_
              rintro e' W9 ⟨rfl, h9⟩
              clear hri
              go_wp2
              refine ⟨⟨i + 1, n, kc, Bm, ka, c', mk, by go_num, rfl, rfl, rfl, rfl, by omega, hcb.1, hcb.2.1, ⟨by have := hmk.out.1; omega, fun h => by omega⟩, by simpa using h9⟩, by simp [intOf]; omega⟩
          · have j1 : ¬ (i : Int) < (ms.length : Int) := by omega
            have hri : Hid _ := re_right hst2.out HT.out
            clear hst2
            go_wp2_with fail
            refine Calls.mono hri.out ?_
            rintro e' W9 ⟨rfl, h9⟩
            clear hri
            go_wp2
            refine ⟨⟨i + 1, n, kc, Bm, ka, c, mk, by go_num, rfl, rfl, rfl, rfl, by omega, hc0, hc9, ⟨hmk.out.1, fun h => by omega⟩, by simpa using h9⟩, by simp [intOf]; omega⟩
        · have hlate : decide (T + 20 ≤ mk) = false := by simp only [decide_eq_false_iff_not]; intro h; exact absurd (hres.out.1.2 h) (by decide)
          have hi0 : ¬ i = 0 := (hres.out.2.1 (by decide)).1
          have hi1 : ((i : Int) == 0) = false := by simp; omega
          have hst2 : Hid (ReS w be [] false mk (.slice ka n kc) Bm W3) := (hres.out.2.1 (by decide)).2.fewer
          clear hres
          by_cases hB : i < ms.length
          · have j1 : (i : Int) < (ms.length : Int) := by omega
            obtain ⟨mb, mo, e0, hmb, x0⟩ := HM.out i hB
            subst e0
            have hmz := HMZ.out _ (List.getElem_mem hB)
            have s0 : W3.cell? ⟨mb, mo + i, none⟩ = some (.int .i64 ms[i]) := (hst2.out.below.1.cell (p := ⟨mb, mo + i, none⟩) hmb).trans x0
            generalize ms[i] = mz at *
            have hp12 := pickZ_bounds mz 12 (by decide)
            have hpi : Hid (∀ W, Calls Tryz.prog 19 #[.int .i64 mz, .int .i64 12] W fun e w' => e = .returned (.int .i64 (pickZ mz 12)) ∧ W = w') := fun W => (kpick_any mz 12 W hmz.1 hmz.2 (by decide) (by decide)).mono (by rintro e w' ⟨h1, h2⟩; exact ⟨h1, h2.symm⟩)
            generalize pickZ mz 12 = pz at *
            have hw3 : IntKind.i64.wrap (c + pz) = c + pz := wrap_small _ (by omega) (by omega)
            obtain ⟨c', hc'⟩ : ∃ c', min (c + pz) 900000 = c' := ⟨_, rfl⟩
            have hcb : 0 ≤ c' ∧ c' ≤ 900000 ∧ c ≤ c' := by omega
            have hw4 : IntKind.i64.wrap (c' - 3) = c' - 3 := wrap_small _ (by omega) (by omega)
            have htk : Hid (∀ W, Below W3.heap.size W3 W → Calls Tryz.prog 22 #[.pointer (some ⟨be, 0, none⟩), .int .i64 c'] W fun en W' => en = .returned (.tuple #[.int .i64 (max mk (c' - 3)), .int .i64 0]) ∧ Hid ((c' - 3 ≤ mk → ReS w be [] false mk (.slice ka n kc) Bm W') ∧ (mk < c' - 3 → ReT w be (c' - 3) (.slice ka n kc) W'))) := fun W hb => re_tk (hst2.out.same hb) (by omega)
            have hbd : Hid (Below W3.heap.size W3 W3.drew) := (Below.refl _ _).drew
            clear hst2 hmz
            go_wp2_with fail
            refine Calls.mono (hpi.out _) ?_
            rintro e' w' ⟨rfl, hw'⟩
            subst hw'
            go_wp2_with fail
            refine Calls.mono (htk.out _ (by first | exact Below.refl _ _ | exact hbd.out)) ?_
            rintro e' W7 ⟨rfl, h7⟩
            clear htk s0
            by_cases hmv : mk < c' - 3
            · have hmx : max mk (c' - 3) = c' - 3 := by omega
              have hT7 : Hid _ := re_reckon (h7.out.2 hmv)
              clear h7
              go_wp2_with fail
              refine Calls.mono hT7.out ?_
              rintro e' W8 ⟨rfl, h8⟩
              have hri : Hid _ := re_right h8.out HT.out
              clear hT7 h8
              go_wp2_with fail
              refine Calls.mono hri.out ?_
              rintro e' W9 ⟨rfl, h9⟩
              clear hri
              go_wp2
              refine ⟨⟨i + 1, n, kc, W7.heap.size, ka, c', c' - 3, by go_num, rfl, rfl, rfl, rfl, by omega, hcb.1, hcb.2.1, ⟨by have := hmk.out.1; omega, fun h => by omega⟩, by simpa using h9⟩, by simp [intOf]; omega⟩
            · have hmx : max mk (c' - 3) = mk := by omega
              have hmv' : decide (mk < c' - 3) = false := by simpa using hmv
              have hri : Hid _ := re_right (h7.out.1 (by omega)) HT.out
              clear h7
              go_wp2_with fail
              refine Calls.mono hri.out ?_
              rintro e' W9 ⟨rfl, h9⟩
              clear hri
              go_wp2
              refine ⟨⟨i + 1, n, kc, Bm, ka, c', mk, by go_num, rfl, rfl, rfl, rfl, by omega, hcb.1, hcb.2.1, ⟨by have := hmk.out.1; omega, fun h => by omega⟩, by simpa using h9⟩, by simp [intOf]; omega⟩
          · have j1 : ¬ (i : Int) < (ms.length : Int) := by omega
            have hri : Hid _ := re_right hst2.out HT.out
            clear hst2
            go_wp2_with fail
            refine Calls.mono hri.out ?_
            rintro e' W9 ⟨rfl, h9⟩
            clear hri
            go_wp2
            refine ⟨⟨i + 1, n, kc, Bm, ka, c, mk, by go_num, rfl, rfl, rfl, rfl, by omega, hc0, hc9, ⟨hmk.out.1, fun h => by omega⟩, by simpa using h9⟩, by simp [intOf]; omega⟩
        · have hlate : decide (T + 20 ≤ mk) = false := by simp only [decide_eq_false_iff_not]; intro h; exact absurd (hres.out.1.2 h) (by decide)
          have hi0 : ¬ i = 0 := (hres.out.2.1 (by decide)).1
          have hi1 : ((i : Int) == 0) = false := by simp; omega
          have hst2 : Hid (ReS w be [] false mk (.slice ka n kc) Bm W3) := (hres.out.2.1 (by decide)).2.fewer
          clear hres
          by_cases hB : i < ms.length
          · have j1 : (i : Int) < (ms.length : Int) := by omega
            obtain ⟨mb, mo, e0, hmb, x0⟩ := HM.out i hB
            subst e0
            have hmz := HMZ.out _ (List.getElem_mem hB)
            have s0 : W3.cell? ⟨mb, mo + i, none⟩ = some (.int .i64 ms[i]) := (hst2.out.below.1.cell (p := ⟨mb, mo + i, none⟩) hmb).trans x0
            generalize ms[i] = mz at *
            have hp12 := pickZ_bounds mz 12 (by decide)
            have hpi : Hid (∀ W, Calls Tryz.prog 19 #[.int .i64 mz, .int .i64 12] W fun e w' => e = .returned (.int .i64 (pickZ mz 12)) ∧ W = w') := fun W => (kpick_any mz 12 W hmz.1 hmz.2 (by decide) (by decide)).mono (by rintro e w' ⟨h1, h2⟩; exact ⟨h1, h2.symm⟩)
            generalize pickZ mz 12 = pz at *
            have hw3 : IntKind.i64.wrap (c + pz) = c + pz := wrap_small _ (by omega) (by omega)
            obtain ⟨c', hc'⟩ : ∃ c', min (c + pz) 900000 = c' := ⟨_, rfl⟩
            have hcb : 0 ≤ c' ∧ c' ≤ 900000 ∧ c ≤ c' := by omega
            have hw4 : IntKind.i64.wrap (c' - 3) = c' - 3 := wrap_small _ (by omega) (by omega)
            have htk : Hid (∀ W, Below W3.heap.size W3 W → Calls Tryz.prog 22 #[.pointer (some ⟨be, 0, none⟩), .int .i64 c'] W fun en W' => en = .returned (.tuple #[.int .i64 (max mk (c' - 3)), .int .i64 0]) ∧ Hid ((c' - 3 ≤ mk → ReS w be [] false mk (.slice ka n kc) Bm W') ∧ (mk < c' - 3 → ReT w be (c' - 3) (.slice ka n kc) W'))) := fun W hb => re_tk (hst2.out.same hb) (by omega)
            have hbd : Hid (Below W3.heap.size W3 W3.drew) := (Below.refl _ _).drew
            clear hst2 hmz
            go_wp2_with fail
            refine Calls.mono (hpi.out _) ?_
            rintro e' w' ⟨rfl, hw'⟩
            subst hw'
            go_wp2_with fail
            refine Calls.mono (htk.out _ (by first | exact Below.refl _ _ | exact hbd.out)) ?_
            rintro e' W7 ⟨rfl, h7⟩
            clear htk s0
            by_cases hmv : mk < c' - 3
            · have hmx : max mk (c' - 3) = c' - 3 := by omega
              have hT7 : Hid _ := re_reckon (h7.out.2 hmv)
              clear h7
              go_wp2_with fail
              refine Calls.mono hT7.out ?_
              rintro e' W8 ⟨rfl, h8⟩
              have hri : Hid _ := re_right h8.out HT.out
              clear hT7 h8
              go_wp2_with fail
              refine Calls.mono hri.out ?_
              rintro e' W9 ⟨rfl, h9⟩
              clear hri
              go_wp2
              refine ⟨⟨i + 1, n, kc, W7.heap.size, ka, c', c' - 3, by go_num, rfl, rfl, rfl, rfl, by omega, hcb.1, hcb.2.1, ⟨by have := hmk.out.1; omega, fun h => by omega⟩, by simpa using h9⟩, by simp [intOf]; omega⟩
            · have hmx : max mk (c' - 3) = mk := by omega
              have hmv' : decide (mk < c' - 3) = false := by simpa using hmv
              have hri : Hid _ := re_right (h7.out.1 (by omega)) HT.out
              clear h7
              go_wp2_with fail
              refine Calls.mono hri.out ?_
              rintro e' W9 ⟨rfl, h9⟩
              clear hri
              go_wp2
              refine ⟨⟨i + 1, n, kc, Bm, ka, c', mk, by go_num, rfl, rfl, rfl, rfl, by omega, hcb.1, hcb.2.1, ⟨by have := hmk.out.1; omega, fun h => by omega⟩, by simpa using h9⟩, by simp [intOf]; omega⟩
          · have j1 : ¬ (i : Int) < (ms.length : Int) := by omega
            have hri : Hid _ := re_right hst2.out HT.out
            clear hst2
            go_wp2_with fail
            refine Calls.mono hri.out ?_
            rintro e' W9 ⟨rfl, h9⟩
            clear hri
            go_wp2
            refine ⟨⟨i + 1, n, kc, Bm, ka, c, mk, by go_num, rfl, rfl, rfl, rfl, by omega, hc0, hc9, ⟨hmk.out.1, fun h => by omega⟩, by simpa using h9⟩, by simp [intOf]; omega⟩
    · have i1 : ¬ (i : Int) < (l.length : Int) := by omega
      have hst2 : Hid (ReS w be [] false mk (.slice ka n kc) Bm wr) := hst.out.fewer
      clear hst
      by_cases hB : i < ms.length
      · have j1 : (i : Int) < (ms.length : Int) := by omega
        obtain ⟨mb, mo, e0, hmb, x0⟩ := HM.out i hB
        subst e0
        have hmz := HMZ.out _ (List.getElem_mem hB)
        have s0 : wr.cell? ⟨mb, mo + i, none⟩ = some (.int .i64 ms[i]) := (hst2.out.below.1.cell (p := ⟨mb, mo + i, none⟩) hmb).trans x0
        generalize ms[i] = mz at *
        have hp12 := pickZ_bounds mz 12 (by decide)
        have hpi : Hid (∀ W, Calls Tryz.prog 19 #[.int .i64 mz, .int .i64 12] W fun e w' => e = .returned (.int .i64 (pickZ mz 12)) ∧ W = w') := fun W => (kpick_any mz 12 W hmz.1 hmz.2 (by decide) (by decide)).mono (by rintro e w' ⟨h1, h2⟩; exact ⟨h1, h2.symm⟩)
        generalize pickZ mz 12 = pz at *
        have hw3 : IntKind.i64.wrap (c + pz) = c + pz := wrap_small _ (by omega) (by omega)
        obtain ⟨c', hc'⟩ : ∃ c', min (c + pz) 900000 = c' := ⟨_, rfl⟩
        have hcb : 0 ≤ c' ∧ c' ≤ 900000 ∧ c ≤ c' := by omega
        have hw4 : IntKind.i64.wrap (c' - 3) = c' - 3 := wrap_small _ (by omega) (by omega)
        have htk : Hid (∀ W, Below wr.heap.size wr W → Calls Tryz.prog 22 #[.pointer (some ⟨be, 0, none⟩), .int .i64 c'] W fun en W' => en = .returned (.tuple #[.int .i64 (max mk (c' - 3)), .int .i64 0]) ∧ Hid ((c' - 3 ≤ mk → ReS w be [] false mk (.slice ka n kc) Bm W') ∧ (mk < c' - 3 → ReT w be (c' - 3) (.slice ka n kc) W'))) := fun W hb => re_tk (hst2.out.same hb) (by omega)
        have hbd : Hid (Below wr.heap.size wr wr.drew) := (Below.refl _ _).drew
        clear hst2 hmz
        go_wp2_with fail
        refine Calls.mono (hpi.out _) ?_
        rintro e' w' ⟨rfl, hw'⟩
        subst hw'
        go_wp2_with fail
        refine Calls.mono (htk.out _ (by first | exact Below.refl _ _ | exact hbd.out)) ?_
        rintro e' W7 ⟨rfl, h7⟩
        clear htk s0
        by_cases hmv : mk < c' - 3
        · have hmx : max mk (c' - 3) = c' - 3 := by omega
          have hT7 : Hid _ := re_reckon (h7.out.2 hmv)
          clear h7
          go_wp2_with fail
          refine Calls.mono hT7.out ?_
          rintro e' W8 ⟨rfl, h8⟩
          have hri : Hid _ := re_right h8.out HT.out
          clear hT7 h8
          go_wp2_with fail
          refine Calls.mono hri.out ?_
          rintro e' W9 ⟨rfl, h9⟩
          clear hri
          go_wp2
          refine ⟨⟨i + 1, n, kc, W7.heap.size, ka, c', c' - 3, by go_num, rfl, rfl, rfl, rfl, by omega, hcb.1, hcb.2.1, ⟨by have := hmk.out.1; omega, fun h => by omega⟩, by simpa using h9⟩, by simp [intOf]; omega⟩
        · have hmx : max mk (c' - 3) = mk := by omega
          have hmv' : decide (mk < c' - 3) = false := by simpa using hmv
          have hri : Hid _ := re_right (h7.out.1 (by omega)) HT.out
          clear h7
          go_wp2_with fail
          refine Calls.mono hri.out ?_
          rintro e' W9 ⟨rfl, h9⟩
          clear hri
          go_wp2
          refine ⟨⟨i + 1, n, kc, Bm, ka, c', mk, by go_num, rfl, rfl, rfl, rfl, by omega, hcb.1, hcb.2.1, ⟨by have := hmk.out.1; omega, fun h => by omega⟩, by simpa using h9⟩, by simp [intOf]; omega⟩
      · have j1 : ¬ (i : Int) < (ms.length : Int) := by omega
        have hri : Hid _ := re_right hst2.out HT.out
        clear hst2
        go_wp2_with fail
        refine Calls.mono hri.out ?_
        rintro e' W9 ⟨rfl, h9⟩
        have hfin : Hid (Below w.heap.size w W9) := h9.out.below.1
        clear hri h9
        go_wp2
        go_ret
        exact ⟨rfl, hfin.out⟩

end Go.Proofs.YtjajnhemgphefaaGreatDoor
