/-
  The document's own answer: rules, read off tokens.
-/
import Derived.Test.YtjajnhemgphefaaGreatDoorJRefL
namespace Go.Proofs.YtjajnhemgphefaaGreatDoor
open Go.RowKit Go.Shelf
set_option linter.unusedVariables false
set_option linter.unusedSimpArgs false

theorem argsR_len : ∀ (us : List RT) (vs : List ByteArray) (l : List Tm) (vsF : List ByteArray) (n : Nat), argsR vs us = some (l, vsF, n) → vsF.length ≤ vs.length + n ∧ n ≤ us.length ∧ 2 ≤ n ∧ l.length ≤ n
  | [], vs, l, vsF, n, h => by simp [argsR] at h
  | [a], vs, l, vsF, n, h => by simp [argsR] at h
  | a :: b :: us, vs, l, vsF, n, h => by
    have hv := argVs_len vs a
    unfold argsR at h
    split at h
    · simp only [Option.some.injEq, Prod.mk.injEq] at h
      obtain ⟨rfl, rfl, rfl⟩ := h
      simp; omega
    · cases hr : argsR (argVs vs a) us with
      | none => rw [hr] at h; simp at h
      | some r =>
        obtain ⟨l', v', n'⟩ := r
        rw [hr] at h
        simp only [Option.some.injEq, Prod.mk.injEq] at h
        obtain ⟨rfl, rfl, rfl⟩ := h
        have := argsR_len us _ _ _ _ hr
        simp; omega

theorem TokAt.below {B : Nat} {a b : World} {g : Nat} {ts : List RT} (h : TokAt a g ts) (hb : Below B a b) (hg : g < B) : TokAt b g ts :=
  ⟨h.1.below hb hg, by obtain ⟨c, hc⟩ := h.2; exact ⟨c, (hb.block g hg).trans hc⟩⟩

/-- The next rule. -/
theorem readR_step {f : Nat} {us : List RT} {rs : List Rl} (h : readR f us = some rs) :
    ∃ t us1, us = t :: us1 ∧ ((t.kind = 4 ∧ rs = []) ∨ (t.kind ≠ 4 ∧ ∃ p us2 l vs n bs m f' rs', us1 = p :: us2 ∧ argsR [] us2 = some (l, vs, n) ∧ bodyR us2.length vs (us2.drop n) = some (bs, m) ∧ readR f' ((us2.drop n).drop (m + 1)) = some rs' ∧ rs = ⟨⟨t.text, l⟩, bs⟩ :: rs')) := by
  cases f with
  | zero => simp [readR] at h
  | succ f =>
    unfold readR at h
    match us, h with
    | [], h => simp at h
    | t :: us1, h =>
      refine ⟨t, us1, rfl, ?_⟩
      simp only at h
      split at h
      · rename_i hk; exact .inl ⟨hk, by simpa using h.symm⟩
      · rename_i hk
        refine .inr ⟨hk, ?_⟩
        match us1, h with
        | [], h => simp at h
        | p :: us2, h =>
          simp only at h
          cases h1 : argsR [] us2 with
          | none => rw [h1] at h; simp at h
          | some r1 =>
            obtain ⟨l, vs, n⟩ := r1
            rw [h1] at h
            simp only at h
            cases h2 : bodyR us2.length vs (us2.drop n) with
            | none => rw [h2] at h; simp at h
            | some r2 =>
              obtain ⟨bs, m⟩ := r2
              rw [h2] at h
              simp only at h
              cases h3 : readR f ((us2.drop n).drop (m + 1)) with
              | none => rw [h3] at h; simp at h
              | some r3 =>
                rw [h3] at h
                simp only [Option.some.injEq] at h
                exact ⟨p, us2, l, vs, n, bs, m, f, r3, rfl, h1, h2, h3, h.symm⟩

/-- The next atom of a body. -/
theorem bodyR_step {f : Nat} {vs : List ByteArray} {us : List RT} {bs : List Am} {m : Nat} (h : bodyR f vs us = some (bs, m)) :
    ∃ t us1, us = t :: us1 ∧ ((t.kind = 46 ∧ bs = [] ∧ m = 0) ∨ (t.kind ≠ 46 ∧ ∃ r p us2 l vs' n f' bs' m', us1 = r :: p :: us2 ∧ argsR vs us2 = some (l, vs', n) ∧ bodyR f' vs' (us2.drop n) = some (bs', m') ∧ bs = ⟨r.text, l⟩ :: bs' ∧ m = 3 + n + m')) := by
  cases f with
  | zero => simp [bodyR] at h
  | succ f =>
    unfold bodyR at h
    match us, h with
    | [], h => simp at h
    | t :: us1, h =>
      refine ⟨t, us1, rfl, ?_⟩
      simp only at h
      split at h
      · rename_i hk
        simp only [Option.some.injEq, Prod.mk.injEq] at h
        exact .inl ⟨hk, h.1.symm, h.2.symm⟩
      · rename_i hk
        refine .inr ⟨hk, ?_⟩
        match us1, h with
        | [], h => simp at h
        | [r], h => simp at h
        | r :: p :: us2, h =>
          simp only at h
          cases h1 : argsR vs us2 with
          | none => rw [h1] at h; simp at h
          | some r1 =>
            obtain ⟨l, vs', n⟩ := r1
            rw [h1] at h
            simp only at h
            cases h2 : bodyR f vs' (us2.drop n) with
            | none => rw [h2] at h; simp at h
            | some r2 =>
              obtain ⟨bs', m'⟩ := r2
              rw [h2] at h
              simp only [Option.some.injEq, Prod.mk.injEq] at h
              exact ⟨r, p, us2, l, vs', n, f, bs', m', rfl, h1, h2, h.1.symm, h.2.symm⟩

theorem drop_one {α : Type} {ts : List α} {j : Nat} {a : α} {us : List α} (h : ts.drop j = a :: us) : ∃ h1 : j < ts.length, ts[j] = a ∧ ts.drop (j + 1) = us := by
  have hl := congrArg List.length h
  rw [List.length_drop] at hl
  simp only [List.length_cons] at hl
  have h1 : j < ts.length := by omega
  rw [List.drop_eq_getElem_cons h1] at h
  injection h with h2 h3
  exact ⟨h1, h2, h3⟩

theorem Tryz.infoAm : (Tryz.prog.info? 145).map (fun i => (i.zero, i.size, i.bytes)) = some (some (.agg #[.string ⟨#[]⟩, .slice none 0 0]), 2, 40) := by kernel_rfl
theorem Tryz.infoRl : (Tryz.prog.info? 148).map (fun i => (i.zero, i.size, i.bytes)) = some (some (.agg #[.string ⟨#[]⟩, .slice none 0 0, .slice none 0 0]), 3, 64) := by kernel_rfl

theorem three_new (w : World) (x y z : Value) (t : TypeId) : ∀ j u, [x, y, z][j]? = some u → (w.alloc (.cells #[x, y, z] t)).cell? ((⟨w.heap.size, 0, none⟩ : Addr).add j) = some u := by
  intro j u hj
  match j, hj with
  | 0, hj => simp at hj; subst hj; simp [Addr.add]
  | 1, hj => simp at hj; subst hj; simp [Addr.add]
  | 2, hj => simp at hj; subst hj; simp [Addr.add]
  | j + 3, hj => simp at hj

theorem OutSt.start {N : Nat} {w X W1 : World} {vl : Value} {qs : List (Rl × Value × Value)} (h : OutSt N w X vl qs) (hs : StrOnly N X W1) {hd : Am} {va v1 : Value} {vs : List ByteArray} (hva : W1.ownsRow X.heap.size 215 2 va hd.args.length (hd.args.flatMap tmC))
    (hv : W1.ownsRow N 9 1 v1 vs.length (vs.map Value.string)) (a : Array Value) :
    InSt N W1.heap.size w ((W1.alloc (.cells a 145)).alloc (.cells #[.string hd.rel, va, .slice none 0 0] 148)) vl qs hd va (.slice none 0 0) [] v1 vs := by
  have hsz := hs.size
  have hN := h.size
  have hb : Below N w W1 := h.below.trans (below_str hs hN)
  have k1 : Kp W1.heap.size X W1 := Kp.ofStr hs
  have k2 : Kp W1.heap.size W1 ((W1.alloc (.cells a 145)).alloc (.cells #[.string hd.rel, va, .slice none 0 0] 148)) := (Kp.alloc _ _).trans (Kp.alloc _ _)
  have hrows := hs.own (by decide) h.rows
  refine ⟨by omega, (hb.alloc (by omega) _).alloc (by simp; omega) _, (hrows.alloc _).alloc _, fun g hg => by have := (own_str hrows g hg).2.1; omega, fun q hq => (((h.each q hq).mono (by omega)).kept k1).kept k2, ?_, ?_, World.ownsRow_nil _ _ _ _, (fun p hp => by cases hp), (hv.alloc _).alloc _⟩
  · have := World.alloc_heap_new (W1.alloc (.cells a 145)) (.cells #[.string hd.rel, va, .slice none 0 0] 148)
    rw [World.size_alloc] at this; exact this
  · have h1 : AtomV W1 (hd, va) := own_down hva (Nat.zero_le _)
    exact h1.kept k2

set_option maxRecDepth 100000 in
set_option maxHeartbeats 8000000 in
theorem read_any (g cap : Nat) (ts : List RT) (f : Nat) (rs : List Rl) (w : World) (hts : TokAt w g ts) (hl : ts.length ≤ 400) (hrd : readR f ts = some rs) :
    Calls Tryz.prog 109 #[.slice (some ⟨g, 0, none⟩) ts.length cap] w fun e w' => ∃ v qs, e = .returned v ∧ OutSt w.heap.size w w' v qs ∧ qs.map (·.1) = rs := by
  obtain ⟨i0, hi, hz0, hz1, hz2⟩ := info_parts Tryz.infoAm
  obtain ⟨j0, hj, jz0, jz1, jz2⟩ := info_parts Tryz.infoRl
  obtain ⟨N, hN⟩ : ∃ N, N = w.heap.size := ⟨_, rfl⟩
  have hNr := hN.symm
  have hgN : g < N := by rw [hN]; exact hts.1.1
  rw [← hN]
  have HTS : Hid (TokAt w g ts) := hts
  clear hN hts
  go_enter Tryz.func109, Tryz.ntmps109
  go_wp2
  go_loopw [3, 4] (fun p q wr => ∃ (i f' : Nat) (vl : Value) (qs : List (Rl × Value × Value)) (rest : List Rl), vl = p ∧ q = .int .i64 i ∧ OutSt N w wr vl qs ∧ Hid (readR f' (ts.drop i) = some rest ∧ qs.map (·.1) ++ rest = rs) ∧ qs.length ≤ i) (fun _ q _ => ts.length - (intOf q).toNat)
  case atStart => exact ⟨0, f, _, [], rs, rfl, rfl, ⟨Below.refl _ _, by omega, World.ownsRow_nil _ _ _ _, fun q hq => by cases hq⟩, ⟨hrd, rfl⟩, Nat.le_refl _⟩
  case round =>
    obtain ⟨i, f', vl, qs, rest, rfl, rfl, hO, hsp, hqi⟩ := hrel
    obtain ⟨hr1, hr2⟩ := hsp.out
    obtain ⟨t, us1, hus, hc⟩ := readR_step hr1
    obtain ⟨hilt, hti, hus1⟩ := drop_one hus
    have htok := HTS.out.below hO.below hgN
    have k0 := (htok.1.2 i hilt).1
    rw [hti] at k0
    rcases hc with ⟨hk, rfl⟩ | ⟨hk, p, us2, l, vs, n, bs, m, f2, rs', rfl, ha, hbd, hrd', rfl⟩
    · rw [hk] at k0
      have HO : Hid (OutSt N w wr vl qs) := hO
      have HR : Hid _ := hr2
      clear hr1 hr2 hO hsp hus1
      go_wp2
      go_ret
      exact ⟨vl, qs, rfl, HO.out, by have := HR.out; simpa using this⟩
    · have mk : (t.kind == 4) = false := by simpa using hk
      have mk' : (t.kind != 4) = true := by simpa using hk
      obtain ⟨hi1, _, hus2⟩ := drop_one hus1
      have hal := argsR_len _ _ _ _ _ ha
      have hd2 : ts.drop (i + 2) = us2 := hus2
      have hau : argsR [] (ts.drop (i + 2)) = some (l, vs, n) := by rw [hd2]; exact ha
      have hat := atom_any g cap ts i N (.slice none 0 0) [] l vs n wr htok hl hilt hO.size (by simp) (World.ownsRow_nil _ _ _ _) hau
      rw [hti] at hat
      have HO : Hid (OutSt N w wr vl qs) := hO
      have HR : Hid _ := hr2
      have hul : us2.length ≤ 400 := by rw [← hd2, List.length_drop]; omega
      have hdn : us2.drop n = ts.drop (i + 2 + n) := by rw [← hd2, List.drop_drop]
      rw [hdn] at hbd hrd'
      rw [List.drop_drop] at hrd'
      have HBD : Hid _ := hbd
      have HRD : Hid _ := hrd'
      have hn2 : i + 2 + n ≤ ts.length := by have := congrArg List.length hd2; rw [List.length_drop] at this; omega
      clear hr1 hr2 hO hsp hus1 hus2 hbd hrd' ha hau hd2 hdn htok hus
      generalize t.kind = tk at *
      generalize t.text = tx at *
      go_wp2_with fail
      refine hat.mono ?_
      rintro e W1 ⟨va, v1, rfl, hva, hv1, hs1⟩
      have hIn : InSt N W1.heap.size w ((W1.alloc (.cells #[.string tx, va] 145)).alloc (.cells #[.string tx, va, .slice none 0 0] 148)) vl qs ⟨tx, l⟩ va (.slice none 0 0) [] v1 vs := HO.out.start (hd := ⟨tx, l⟩) hs1 hva hv1 _
      obtain ⟨S, hS⟩ : ∃ S, S = W1.heap.size := ⟨_, rfl⟩
      have hSr := hS.symm
      rw [← hS] at hIn
      obtain ⟨aa, ac, rfl⟩ := own_form hva
      have HIn : Hid _ := hIn
      clear hIn hS hat hva hv1 hs1 HO
      go_wp2
      go_loopw [6, 7] (fun p q wr => ∃ (j fb m' : Nat) (vk vb : Value) (vsk : List ByteArray) (ps : List (Am × Value)) (rb : List Am), vk = q ∧ p = .int .i64 j ∧ InSt N S w wr vl qs ⟨tx, l⟩ (.slice aa l.length ac) vb ps vk vsk ∧ Hid (bodyR fb vsk (ts.drop j) = some (rb, m') ∧ ps.map (·.1) ++ rb = bs ∧ j + m' = i + 2 + n + m) ∧ ps.length ≤ j ∧ vsk.length ≤ j ∧ i + 2 ≤ j) (fun p _ _ => ts.length - (intOf p).toNat)
      case atStart => exact ⟨i + 2 + n, us2.length, m, v1, _, vs, [], bs, rfl, by go_num, HIn.out, ⟨HBD.out, rfl, rfl⟩, by simp, by have := hal.1; simp at this; omega, by omega⟩
      case round =>
        obtain ⟨j, fb, m', vk, vb, vsk, ps, rb, rfl, rfl, hI, hsp, hpj, hvj, hij⟩ := hrel
        obtain ⟨b1, b2, b3⟩ := hsp.out
        obtain ⟨t2, us3, hus, hc⟩ := bodyR_step b1
        obtain ⟨hjlt, htj, hus3⟩ := drop_one hus
        have htok := HTS.out.below hI.below hgN
        have kj := (htok.1.2 j hjlt).1
        rw [htj] at kj
        rcases hc with ⟨hk2, rfl, rfl⟩ | ⟨hk2, r, p, us4, l2, vs2, n2, fb2, bs2, m2, rfl, ha2, hb2, rfl, rfl⟩
        · rw [hk2] at kj
          have hS1 : S + 2 ≤ wr.heap.size := (Array.getElem?_eq_some_iff.1 hI.xb).1
          have x0 : wr.cell? ⟨S + 1, 0, none⟩ = some (.string tx) := by simp [World.cell?, hI.xb]
          have x1 : wr.cell? ⟨S + 1, 1, none⟩ = some (.slice aa l.length ac) := by simp [World.cell?, hI.xb]
          have x2 : wr.cell? ⟨S + 1, 2, none⟩ = some vb := by simp [World.cell?, hI.xb]
          obtain ⟨ba, bc, rfl⟩ := own_form hI.brow
          have HI : Hid (InSt N S w wr vl qs ⟨tx, l⟩ (.slice aa l.length ac) (.slice ba ps.length bc) ps vk vsk) := hI
          have hc3 : qs.length + 1 ≤ maxLen := by unfold maxLen; omega
          have hc4 : (qs.length + 1) * 64 ≤ 140737488355328 := by omega
          have hc5 : Hid (∀ O, N ≤ (wr.alloc O).heap.size) := fun O => by have := hI.ns; simp; omega
          have h1c : ∀ u ∈ [Value.string tx, .slice aa l.length ac, .slice ba ps.length bc], u.oneCell' = true := by simp [Value.oneCell']
          have HB2 : Hid _ := b2
          clear hI b1 b2 hsp hus hus3 htok HIn
          go_wp2_with (at_builtin; refine wpList_append_own _ rfl (.tmp 50) (.tmp 52) 139 rfl N 148 j0 (.agg #[.string ⟨#[]⟩, .slice none 0 0, .slice none 0 0]) 3 64 Tryz.underlying139 hj jz0 jz1 jz2 rfl (by decide) _ _ _ rfl (HI.out.rows.alloc _) ⟨wr.heap.size, 0, none⟩ 1 1 [.string tx, .slice aa l.length ac, .slice ba ps.length bc] rfl rfl (three_new _ _ _ _ _) h1c hc3 hc4 (hc5.out _) ?_; intro vl' w1 hown1 hgrow1 _)
          have hD := HI.out.done hgrow1 hown1
          clear hown1 hgrow1
          go_roundw
          case rel =>
            refine ⟨j + 1, f2, vl', _, rs', rfl, by go_num, hD, ⟨?_, ?_⟩, by simp; omega⟩
            · rw [← HRD.out]; congr 2; omega
            · rw [← HR.out, ← HB2.out]; simp
          case measure => simp [intOf]; omega
        · have mk2 : (t2.kind == 46) = false := by simpa using hk2
          have mk2' : (t2.kind != 46) = true := by simpa using hk2
          obtain ⟨hj1, hrj, hus4⟩ := drop_one hus3
          obtain ⟨hj2, _, hus5⟩ := drop_one hus4
          have hal2 := argsR_len _ _ _ _ _ ha2
          have hd3 : ts.drop (j + 1 + 2) = us4 := hus5
          have hau : argsR vsk (ts.drop (j + 1 + 2)) = some (l2, vs2, n2) := by rw [hd3]; exact ha2
          have hNw : N ≤ wr.heap.size := by have := (Array.getElem?_eq_some_iff.1 hI.xb).1; have := hI.ns; omega
          have hat2 : Calls Tryz.prog 177 #[.slice (some ⟨g, 0, none⟩) ts.length cap, .int .i64 ((j : Int) + 1), vk] wr fun e w' => ∃ va v', e = .returned (.tuple #[.agg #[.string ts[j + 1].text, va], .int .i64 (j + 1 + 2 + n2 : Nat), v']) ∧
              w'.ownsRow wr.heap.size 215 2 va l2.length (l2.flatMap tmC) ∧ w'.ownsRow N 9 1 v' vs2.length (vs2.map Value.string) ∧ StrOnly N wr w' := atom_any g cap ts (j + 1) N vk vsk l2 vs2 n2 wr htok hl hj1 hNw (by omega) hI.vars hau
          rw [hrj] at hat2
          have hun : us4.length + (j + 3) = ts.length := by have := congrArg List.length hd3; rw [List.length_drop] at this; omega
          have hdn : us4.drop n2 = ts.drop (j + 1 + 2 + n2) := by rw [← hd3, List.drop_drop]
          rw [hdn] at hb2
          have HB1 : Hid _ := hb2
          have HB2 : Hid _ := b2
          have HI : Hid (InSt N S w wr vl qs ⟨tx, l⟩ (.slice aa l.length ac) vb ps vk vsk) := hI
          have hc3 : ps.length + 1 ≤ maxLen := by unfold maxLen; omega
          have hc4 : (ps.length + 1) * 40 ≤ 140737488355328 := by omega
          clear hI b1 b2 hsp hus hus3 hus4 hus5 htok HIn hau hd3 hdn ha2 hb2
          generalize t2.kind = tk2 at *
          generalize r.text = tx2 at *
          go_wp2_with fail
          refine hat2.mono ?_
          rintro e w2 ⟨va2, v2, rfl, hva2, hv2, hs2⟩
          have hJ := HI.out.atom hs2 hv2
          have hAV : AtomV w2 (⟨tx2, l2⟩, va2) := own_down hva2 (Nat.zero_le _)
          obtain ⟨a2, c2, rfl⟩ := own_form hva2
          have x2 : w2.cell? ⟨S + 1, 2, none⟩ = some vb := by simp [World.cell?, hJ.xb]
          have hS2 : S + 2 ≤ w2.heap.size := (Array.getElem?_eq_some_iff.1 hJ.xb).1
          have xq : ∀ O, (w2.alloc O).cell? ⟨S + 1, 2, none⟩ = some vb := fun O => (Below.cell ((Below.refl w2.heap.size w2).alloc (Nat.le_refl _) O) (by simp; omega)).trans x2
          have HJ : Hid (InSt N S w w2 vl qs ⟨tx, l⟩ (.slice aa l.length ac) vb ps v2 vs2) := hJ
          have HAV : Hid (AtomV w2 (⟨tx2, l2⟩, .slice a2 l2.length c2)) := hAV
          have hc5 : Hid (∀ O O', S + 2 ≤ ((w2.alloc O).alloc O').heap.size) := fun O O' => by simp; omega
          have h1c : ∀ u ∈ [Value.string tx2, .slice a2 l2.length c2], u.oneCell' = true := by simp [Value.oneCell']
          have hn2' : Hid (∀ (O : Obj) (x y : Value) (t : TypeId) (i : Nat) (q : Value), [x, y][i]? = some q → ((w2.alloc O).alloc (.cells #[x, y] t)).cell? ((⟨w2.heap.size + 1, 0, none⟩ : Addr).add i) = some q) := by
            intro O x y t i q hq
            have := two_new (w2.alloc O) x y t i q hq
            rw [World.size_alloc] at this; exact this
          have hxw : Hid (∀ (O O' : Obj) (w1 : World), ((w2.alloc O).alloc O').grownBy w1 vb.ownBlock → w1.cell? ⟨S + 1, 2, none⟩ = some vb ∧ (∀ o, w1.frozen? ⟨S + 1, o, none⟩ = false)) := by
            intro O O' w1 hg
            have h2 := (HJ.out.alloc O).alloc O'
            have h1 : w1.heap[S + 1]? = _ := (hg.block (S + 1) (Array.getElem?_eq_some_iff.1 h2.xb).1 (fun e => by have := (own_str h2.brow _ e.symm).1; omega)).trans h2.xb
            exact ⟨by simp [World.cell?, h1], fun o => by simp [World.frozen?, h1]⟩
          clear hJ hAV hva2 hv2 hs2 hat2
          go_wp2_with (at_builtin; refine wpList_append_own _ rfl (.tmp 43) (.tmp 45) 146 rfl (S + 2) 145 i0 (.agg #[.string ⟨#[]⟩, .slice none 0 0]) 2 40 Tryz.underlying146 hi hz0 hz1 hz2 rfl (by decide) _ _ _ rfl ((HJ.out.brow.alloc _).alloc _) ⟨w2.heap.size + 1, 0, none⟩ 1 1 [.string tx2, .slice a2 l2.length c2] rfl rfl (hn2'.out _ _ _ _) h1c hc3 hc4 (hc5.out _ _) ?_; intro vb' w1 hown1 hgrow1 _; obtain ⟨xc, xf⟩ := hxw.out _ _ w1 hgrow1; have HA : Hid (InSt N S w (w1.setCell ⟨S + 1, 2, none⟩ vb') vl qs ⟨tx, l⟩ (.slice aa l.length ac) vb' (ps ++ [(⟨tx2, l2⟩, .slice a2 l2.length c2)]) v2 vs2) := ((HJ.out.alloc _).alloc _).app hNr _ (((HAV.out.kept (Kp.alloc (S := S) _ _))).kept (Kp.alloc (S := S) _ _)) hgrow1 hown1; obtain ⟨gb, cb, hvb⟩ := ownsRow_succ hown1; subst hvb)
          go_roundw
          case rel =>
            refine ⟨j + 1 + 2 + n2, fb2, m2, v2, _, vs2, _, bs2, rfl, by go_num, HA.out, ⟨HB1.out, ?_, by omega⟩, by simp; omega, by have := hal2.1; omega, by omega⟩
            rw [← HB2.out]; simp
          case measure => simp [intOf]; omega

end Go.Proofs.YtjajnhemgphefaaGreatDoor
