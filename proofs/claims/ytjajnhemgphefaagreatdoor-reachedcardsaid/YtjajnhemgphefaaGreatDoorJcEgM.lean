/-
  The engine's data: what its methods answer, and that it stays as it should be.
  A feed in plain data: what waits, and what a Poll tells of it.
  The engine: Until.
-/
import Derived.Test.YtjajnhemgphefaaGreatDoorJcEgL
import Derived.Test.YtjajnhemgphefaaGreatDoorJcFd6
import Derived.Test.YtjajnhemgphefaaGreatDoorJcRangeM
namespace Go.Proofs.YtjajnhemgphefaaGreatDoor
open Go.RowKit Go.Shelf Go.Maps
set_option linter.unusedVariables false
set_option linter.unusedSimpArgs false

theorem seenL_mem (vs : List ByteArray) (x y : ByteArray) : y ∈ seenL vs x ↔ y ∈ vs ∨ y = x := by
  unfold seenL seenN
  by_cases h : vs.findIdx (sameB x) < vs.length
  · rw [if_pos h]
    have h1 := List.findIdx_getElem (w := h)
    rw [sameB_iff] at h1
    constructor
    · exact .inl
    · rintro (h2 | rfl)
      · exact h2
      · rw [h1]; exact List.getElem_mem h
  · rw [if_neg h]; simp
theorem seenL_nodup {vs : List ByteArray} (hn : vs.Nodup) (x : ByteArray) : (seenL vs x).Nodup := by
  unfold seenL seenN
  by_cases h : vs.findIdx (sameB x) < vs.length
  · rw [if_pos h]; exact hn
  · rw [if_neg h]
    rw [List.findIdx_lt_length] at h
    refine List.nodup_append.2 ⟨hn, by simp, fun a ha b hb e => h ⟨a, ha, ?_⟩⟩
    simp at hb; subst hb; rw [sameB_iff]; exact e.symm
theorem nmL_mem : ∀ (l : List Tm) (vs : List ByteArray) (y : ByteArray), y ∈ nmL vs l ↔ y ∈ vs ∨ ∃ t ∈ l, t.name ≠ eB ∧ y = t.name
  | [], vs, y => by simp [nmL]
  | t :: l, vs, y => by
    have ih := nmL_mem l (nmStep vs t) y
    have e1 : nmL vs (t :: l) = nmL (nmStep vs t) l := rfl
    rw [e1, ih]
    unfold nmStep
    by_cases h : t.name.toList.isEmpty = true
    · rw [if_pos h]
      rw [empty_iff] at h
      constructor
      · rintro (h1 | ⟨u, hu, h2⟩)
        · exact .inl h1
        · exact .inr ⟨u, by simp [hu], h2⟩
      · rintro (h1 | ⟨u, hu, h2, h3⟩)
        · exact .inl h1
        · simp only [List.mem_cons] at hu
          rcases hu with rfl | hu
          · exact absurd h h2
          · exact .inr ⟨u, hu, h2, h3⟩
    · rw [if_neg h, seenL_mem]
      have h' : t.name ≠ eB := fun e => h ((empty_iff _).2 e)
      constructor
      · rintro ((h1 | h1) | ⟨u, hu, h2⟩)
        · exact .inl h1
        · exact .inr ⟨t, by simp, h', h1⟩
        · exact .inr ⟨u, by simp [hu], h2⟩
      · rintro (h1 | ⟨u, hu, h2, h3⟩)
        · exact .inl (.inl h1)
        · simp only [List.mem_cons] at hu
          rcases hu with rfl | hu
          · exact .inl (.inr h3)
          · exact .inr ⟨u, hu, h2, h3⟩
theorem nmL_nodup : ∀ (l : List Tm) (vs : List ByteArray), vs.Nodup → (nmL vs l).Nodup
  | [], vs, h => h
  | t :: l, vs, h => by
    have e1 : nmL vs (t :: l) = nmL (nmStep vs t) l := rfl
    rw [e1]
    refine nmL_nodup l _ ?_
    unfold nmStep
    split
    · exact h
    · exact seenL_nodup h _

/-- What accept, and Insert, answer. -/
def accR (e : Eg) (a : Am) (t : Int) : Int × Eg :=
  if overB e.win e.mark t = true then (8, e) else if hasD e.kept (groundA nms0 a, t) = true then (9, e)
  else if e.kept.length = 24 ∨ 8 < (nmL e.names a.args).length then (10, e)
  else (0, { e with names := nmL e.names a.args, kept := e.kept ++ [(groundA nms0 a, t)] })
def insR (e : Eg) (s : ByteArray) (t : Int) : Int × Eg :=
  match atomR s with
  | none => (2, e)
  | some a => if groundB a = false then (2, e) else if derB e.rs a.rel = true then (7, e) else if ckR e.rs a ≠ 0 then (ckR e.rs a, e) else if ¬ (0 ≤ t ∧ t ≤ 1000000) then (6, e) else accR e a t
/-- The facts that hold at a watermark, with their ends. -/
def factsF (e : Eg) (m : Int) : List (Gd × Int) := ((e.kept.filter (fun d => !overB e.win m d.2)).filter (fun d => decide (d.2 ≤ m))).map (fun d => (d.1, d.2 + e.win))
/-- A feed behind a move. -/
def MoveF (M M' : Gd → Option Int) (m q : Int) (f f' : Fs) : Prop :=
  (f.behind = true ∧ f' = f) ∨ (f.behind = false ∧ ∃ g1 g2, beyP M M' f.form g1 ∧ beyP M' M f.form g2 ∧ ((q < ((f.que ++ textsR 3 g1 ++ textsR 2 g2).length : Int) + 1 ∧ f' = { f with behind := true, snap := [], que := [] }) ∨ (((f.que ++ textsR 3 g1 ++ textsR 2 g2).length : Int) + 1 ≤ q ∧ f' = { f with que := f.que ++ textsR 3 g1 ++ textsR 2 g2 ++ [⟨4, 0, ⟨#[]⟩, m⟩] })))
/-- The engine behind a move of its watermark. -/
def MoveE (e : Eg) (m : Int) (e' : Eg) : Prop := ∃ M' fds', LeastM e.rs (factsF e m ++ givenL e.rs) M' ∧ fds'.length = e.fds.length ∧ (∀ i (h : i < e.fds.length) (h' : i < fds'.length), MoveF e.M M' m e.que e.fds[i] fds'[i]) ∧ e' = { e with mark := m, kept := e.kept.filter (fun d => !overB e.win m d.2), M := M', fds := fds' }
/-- What Tick answers. -/
def TickE (e : Eg) (c : Int) (e' : Eg) (r : Int × Int) : Prop :=
  (¬ (0 ≤ c ∧ c ≤ 1000000) ∧ e' = e ∧ r = (0, 6)) ∨ ((0 ≤ c ∧ c ≤ 1000000) ∧ r = (e'.mark, 0) ∧ ((c - e.lat ≤ e.mark ∧ e' = e) ∨ (e.mark < c - e.lat ∧ MoveE e (c - e.lat) e')))

theorem EgOk.mono {e e' : Eg} (h : EgOk e) (h1 : e'.rs = e.rs) (h2 : e'.win = e.win) (h3 : e'.lat = e.lat) (h4 : e'.que = e.que) (h5 : e'.mark = e.mark) (h6 : e'.names = e.names) (h7 : e'.kept = e.kept) (h8 : e'.M = e.M)
    (f3 : e'.fds.length ≤ 3) (fds : ∀ f ∈ e'.fds, FormOk f.form ∧ f.snap.length ≤ 1000 ∧ f.que.length ≤ 50) : EgOk e' := by
  obtain ⟨rs, win, lat, que, mark, names, kept, M, fds'⟩ := e'
  simp only at *
  subst h1 h2 h3 h4 h5 h6 h7 h8
  exact ⟨h.rs, h.win, h.lat, h.que, h.mark, h.n8, h.nsz, h.nrs, h.k24, h.kept, h.md, f3, fds⟩

theorem ground_names {a : Am} (h : groundB a = true) : ∀ t ∈ a.args, t.name ≠ eB := by
  intro t ht e
  unfold groundB at h
  simp only [Bool.not_eq_true', List.any_eq_false] at h
  exact h t ht ((empty_iff _).2 e)
theorem ck_zero {rs : List Rl} {a : Am} (h : ckR rs a = 0) : arR rs a.rel ≠ 0 ∧ arR rs a.rel = a.args.length := by
  unfold ckR at h
  split at h
  · cases h
  · rename_i h0
    split at h
    · rename_i h1; exact ⟨h0, h1⟩
    · cases h
theorem rel_mem {rs : List Rl} {x : ByteArray} (h : arR rs x ≠ 0) : x ∈ relsR rs := by
  unfold arR at h
  cases ha : arOf (rs.flatMap ruleAms) x.data.toList with
  | none => rw [ha] at h; exact absurd rfl h
  | some n =>
    obtain ⟨a, h1, h2, _⟩ := arOf_mem ha
    exact List.mem_map.2 ⟨a, h1, ba_inj h2⟩
theorem fact_in {rs : List Rl} (h : RsOk rs) {a : Am} (hg : groundB a = true) (hc : ckR rs a = 0) {ns : List ByteArray} (hns : ∀ t ∈ a.args, t.name ∈ ns) : groundA nms0 a ∈ uni (relsR rs) ns ∧ arOk (arR rs) (groundA nms0 a) := by
  obtain ⟨h0, h1⟩ := ck_zero hc
  have hn := ground_names hg
  have hl : a.args.length = 1 ∨ a.args.length = 2 := by rcases arR_cases h a.rel with e | e | e <;> omega
  rcases hl with hl | hl
  · match ha : a.args, hl with
    | [t], _ =>
      have ht := hn t (by rw [ha]; simp)
      have hg : groundA nms0 a = ⟨a.rel, t.name, eB⟩ := by unfold groundA; rw [ha]; show (⟨a.rel, ofT nms0 t, eB⟩ : Gd) = _; rw [ofT_name ht]
      rw [hg]
      exact ⟨mem_uni.2 ⟨rel_mem h0, hns t (by rw [ha]; simp), .inl rfl⟩, ht, .inl ⟨by show arR rs a.rel = 1; rw [h1, ha]; rfl, rfl⟩⟩
  · match ha : a.args, hl with
    | [t, u], _ =>
      have ht := hn t (by rw [ha]; simp)
      have hu := hn u (by rw [ha]; simp)
      have hg : groundA nms0 a = ⟨a.rel, t.name, u.name⟩ := by unfold groundA; rw [ha]; show (⟨a.rel, ofT nms0 t, ofT nms0 u⟩ : Gd) = _; rw [ofT_name ht, ofT_name hu]
      rw [hg]
      exact ⟨mem_uni.2 ⟨rel_mem h0, hns t (by rw [ha]; simp), .inr (hns u (by rw [ha]; simp))⟩, ht, .inr ⟨by show arR rs a.rel = 2; rw [h1, ha]; rfl, hu⟩⟩

theorem acc_ok {e : Eg} (h : EgOk e) {a : Am} (hak : AmOk a) (hg : groundB a = true) (hc : ckR e.rs a = 0) {t : Int} (ht : 0 ≤ t ∧ t ≤ 1000000) : EgOk (accR e a t).2 := by
  unfold accR
  split
  · exact h
  split
  · exact h
  split
  · exact h
  rename_i hfull
  have hmem := nmL_mem a.args e.names
  have hsub : ∀ x ∈ e.names, x ∈ nmL e.names a.args := fun x hx => (hmem x).2 (.inl hx)
  have hnm := ground_names hg
  have h24 := h.k24
  refine ⟨h.rs, h.win, h.lat, h.que, h.mark, by show (nmL e.names a.args).length ≤ 8; omega, fun x hx => ?_, fun r hr t ht hne => hsub _ (h.nrs r hr t ht hne), by show (e.kept ++ _).length ≤ 24; simp; omega, fun d hd => ?_, fun g hg => ⟨(h.md g hg).1, uni_mono hsub (h.md g hg).2⟩, h.f3, h.fds⟩
  · rcases (hmem x).1 hx with hx | ⟨u, hu, _, rfl⟩
    · exact h.nsz x hx
    · exact (hak.tms u hu).name
  · rcases List.mem_append.1 hd with hd | hd
    · have := h.kept d hd
      exact ⟨uni_mono hsub this.1, this.2⟩
    · simp only [List.mem_cons, List.not_mem_nil, or_false] at hd
      subst hd
      have := fact_in h.rs hg hc (ns := nmL e.names a.args) (fun u hu => (hmem _).2 (.inr ⟨u, hu, hnm u hu, rfl⟩))
      exact ⟨this.1, this.2, ht⟩
theorem ins_ok {e : Eg} (h : EgOk e) (s : ByteArray) (hak : ∀ a, atomR s = some a → AmOk a) (t : Int) : EgOk (insR e s t).2 := by
  unfold insR
  cases ha : atomR s with
  | none => exact h
  | some a =>
    simp only
    split
    · exact h
    rename_i hg
    split
    · exact h
    split
    · exact h
    rename_i hc
    split
    · exact h
    rename_i ht
    exact acc_ok h (hak a ha) (by simpa using hg) (by simpa using hc) (by simpa using ht)

theorem facts_ok {e : Eg} (h : EgOk e) (m : Int) : FcOk e.rs e.names (factsF e m) := by
  unfold factsF
  refine ⟨?_, fun x hx => ?_⟩
  · rw [List.length_map]
    have h1 := List.length_filter_le (fun d : Gd × Int => decide (d.2 ≤ m)) (e.kept.filter (fun d => !overB e.win m d.2))
    have h2 := List.length_filter_le (fun d : Gd × Int => !overB e.win m d.2) e.kept
    have := h.k24
    omega
  · obtain ⟨d, hd, rfl⟩ := List.mem_map.1 hx
    have hk := h.kept d ((List.mem_filter.1 (List.mem_filter.1 hd).1).1)
    have hw := h.win
    exact ⟨hk.1, hk.2.1, by show 0 ≤ d.2 + e.win; omega, by show d.2 + e.win ≤ 2000000; omega⟩
theorem move_ok {e e' : Eg} (h : EgOk e) {m : Int} (hm : 0 ≤ m ∧ m ≤ 1000000) (hv : MoveE e m e') : EgOk e' := by
  obtain ⟨M', fds', h1, h2, h3, rfl⟩ := hv
  have hf3 := h.f3
  refine ⟨h.rs, h.win, h.lat, h.que, hm, h.n8, h.nsz, h.nrs, Nat.le_trans (List.length_filter_le _ _) h.k24, fun d hd => h.kept d (List.mem_filter.1 hd).1, least_in h.rs h.nrs (facts_ok h m) h1, by show fds'.length ≤ 3; omega, fun f hf => ?_⟩
  obtain ⟨i, hi, rfl⟩ := List.getElem_of_mem hf
  have hi' : i < e.fds.length := by have : i < fds'.length := hi; omega
  have hfo := h.fds _ (List.getElem_mem hi')
  have hq := h.que
  rcases h3 i hi' hi with ⟨_, h4⟩ | ⟨_, g1, g2, _, _, ⟨_, h4⟩ | ⟨h5, h4⟩⟩
  · rw [h4]; exact hfo
  · rw [h4]; exact ⟨hfo.1, by simp, by simp⟩
  · rw [h4]
    refine ⟨hfo.1, hfo.2.1, ?_⟩
    show (_ ++ [_]).length ≤ 50
    rw [List.length_append]
    simp only [List.length_cons, List.length_nil]
    omega
theorem tick_ok {e e' : Eg} (h : EgOk e) {c : Int} {r : Int × Int} (ht : TickE e c e' r) : EgOk e' := by
  rcases ht with ⟨_, rfl, _⟩ | ⟨hc, _, ⟨_, rfl⟩ | ⟨h1, h2⟩⟩
  · exact h
  · exact h
  · have hl := h.lat
    have hmk := h.mark
    exact move_ok h ⟨by omega, by omega⟩ h2
end Go.Proofs.YtjajnhemgphefaaGreatDoor

namespace Go.Proofs.YtjajnhemgphefaaGreatDoor
open Go.RowKit Go.Shelf Go.Maps
set_option linter.unusedVariables false
set_option linter.unusedSimpArgs false

end Go.Proofs.YtjajnhemgphefaaGreatDoor

namespace Go.Proofs.YtjajnhemgphefaaGreatDoor
open Go.RowKit Go.Shelf Go.Maps
set_option linter.unusedVariables false
set_option linter.unusedSimpArgs false

/-- What Until answers. -/
def untilR (e : Eg) (s : ByteArray) : Int × Int := match atomR s with
  | none => (0, 2)
  | some a => if groundB a = false then (0, 2) else if ckR e.rs a = 0 then ((e.M (groundA nms0 a)).getD 0, 0) else (0, ckR e.rs a)

theorem atom_gd {a : Am} (h : AmOk a) : GdOk (groundA nms0 a) := ground_ok (fun k => ba_nil k) (big h.rel) (fun t ht => big (h.tms t ht).name)

set_option maxRecDepth 100000 in
set_option maxHeartbeats 4000000 in
theorem until_any (S : Nat → Prop) (be : Nat) (e : Eg) (s : ByteArray) (w : World) (h : EngAt w S be e) (hok : EgOk e) (hs : s.size ≤ 4611686018427387904) (hT : Lib.Utf8Tabs 0 1 w) (hn : ∀ a, atomR s = some a → ∀ t ∈ a.args, t.num < 6) :
    Calls Tryz.prog 24 #[.pointer (some ⟨be, 0, none⟩), .string s] w fun en w' => en = .returned (.tuple #[.int .i64 (untilR e s).1, .int .i64 (untilR e s).2]) ∧ Below w.heap.size w w' := by
  have hrg := readGround_any s w hs hT
  unfold GroundPost at hrg
  cases ha : atomR s with
  | none =>
    rw [ha] at hrg
    have hu : Hid (untilR e s = (0, 2)) := by show _ = _; unfold untilR; rw [ha]
    have HR : Hid _ := hrg
    clear hrg ha h hok
    rw [hu.out]
    go_enter Tryz.func24, Tryz.ntmps24
    go_wp2_with (go_at_call 40; refine Calls.mono HR.out ?_; rintro e' W1 ⟨hb1, rfl⟩)
    go_ret2
    exact ⟨rfl, hb1.alloc hb1.size _⟩
  | some a =>
    rw [ha] at hrg
    have hn' := hn a ha
    have hu : Hid (untilR e s = if groundB a = false then (0, 2) else if ckR e.rs a = 0 then ((e.M (groundA nms0 a)).getD 0, 0) else (0, ckR e.rs a)) := by show _ = _; unfold untilR; rw [ha]
    obtain ⟨gb, hgb⟩ : ∃ gb, groundB a = gb := ⟨_, rfl⟩
    have HR : Hid (Calls Tryz.prog 40 #[.string s] w fun e' w' => Below w.heap.size w w' ∧ ∃ va, e' = .returned (.tuple #[.agg #[.string a.rel, va], .bool gb]) ∧ AmOk a ∧ SealT w' w'.heap.size va a.args) := by
      show Calls _ _ _ _ _
      rw [← hgb]; exact hrg
    rw [hgb] at hu
    have hEW : Hid (∀ W, Below w.heap.size w W → EngAt W S be e) := fun W hb => h.below hb
    obtain ⟨vr, vn, vk, vf, bm, rb, b45, b87, bfs, Sf, hv⟩ := h
    have hblk : Hid (∀ W, Below w.heap.size w W → W.heap[be]? = some (Obj.cells #[vr, .int .i64 e.win, .int .i64 e.lat, .int .i64 e.que, .int .i64 e.mark, vn, vk, .map (some bm), vf] 101 (0, 0)) ∧ MdAt W bm 5000 e.M) := fun W hb => ⟨(hv.below hb).blk, (hv.below hb).md⟩
    have HRS : Hid (RsOk e.rs) := hok.rs
    clear hrg ha hv hok hT hn
    clear hgb
    cases gb with
    | false =>
      rw [if_pos rfl] at hu
      rw [hu.out]
      clear hu
      go_enter Tryz.func24, Tryz.ntmps24
      go_wp2_with (go_at_call 40; refine Calls.mono HR.out ?_; rintro e' W1 ⟨hb1, va, rfl, hak, hsl⟩; obtain ⟨xa, xc, hxf⟩ := hsl.form; subst hxf; have HAK : Hid _ := hak; have HSL : Hid _ := hsl; clear hak hsl)
      go_ret2
      exact ⟨rfl, hb1.alloc hb1.size _⟩
    | true =>
      rw [if_neg (by decide)] at hu
      go_enter Tryz.func24, Tryz.ntmps24
      go_wp2_with fail
      refine Calls.mono HR.out ?_
      rintro e' W1 ⟨hb1, va, rfl, hak, hsl⟩
      obtain ⟨xa, xc, hxf⟩ := hsl.form
      subst hxf
      have hckc : Hid (∀ W, Below w.heap.size w W → Calls Tryz.prog 42 #[.pointer (some ⟨be, 0, none⟩), .agg #[.string a.rel, .slice xa a.args.length xc]] W fun en w' => en = .returned (.int .i64 (ckR e.rs a)) ∧ Below W.heap.size W w') := fun W hb => checkRel_any S be e W (hEW.out W hb) HRS.out a _ _ _ rfl hak.args
      have hof : Hid (∀ W, Below W1.heap.size W1 W → Calls Tryz.prog 48 #[.agg #[.string a.rel, .slice xa a.args.length xc]] W fun e w' => e = .returned (.agg #[.string (groundA nms0 a).rel, .string (groundA nms0 a).x, .string (groundA nms0 a).y]) ∧ Below W.heap.size W w') := fun W hb => of_atom_any a _ W1.heap.size W (hsl.rk (RuleKept.ofBelow hb)) hak.args hn'
      have hen : Hid (∀ W, Below w.heap.size w W → Calls Tryz.prog 47 #[.map (some bm), .agg #[.string (groundA nms0 a).rel, .string (groundA nms0 a).x, .string (groundA nms0 a).y]] W fun e' w' => e' = .returned (.int .i64 ((e.M (groundA nms0 a)).getD 0)) ∧ Below W.heap.size W w') := fun W hb => end_any bm 5000 e.M (groundA nms0 a) (atom_gd hak) W (hblk.out W hb).2
      have hW1 : w.heap.size ≤ W1.heap.size := hb1.size
      have hbA : Hid (Below w.heap.size w (W1.alloc (.cells #[.string a.rel, .slice xa a.args.length xc] 92)) ∧ Below W1.heap.size W1 (W1.alloc (.cells #[.string a.rel, .slice xa a.args.length xc] 92))) := ⟨hb1.alloc hb1.size _, (Below.refl _ W1).alloc (Nat.le_refl _) _⟩
      have hbox : Hid (∀ W2, Below (W1.alloc (.cells #[.string a.rel, .slice xa a.args.length xc] 92)).heap.size (W1.alloc (.cells #[.string a.rel, .slice xa a.args.length xc] 92)) W2 → W2.heap[W1.heap.size]? = some (Obj.cells #[.string a.rel, .slice xa a.args.length xc] 92 (0, 0)) ∧ Below w.heap.size w W2 ∧ Below W1.heap.size W1 W2) := fun W2 hb =>
        ⟨(hb.block _ (by simp)).trans (World.alloc_heap_new W1 _), hbA.out.1.trans (hb.mono (by simp; omega)), hbA.out.2.trans (hb.mono (by simp))⟩
      clear hak hsl hEW
      by_cases hck : ckR e.rs a = 0
      · rw [if_pos hck] at hu
        rw [hck] at hckc
        clear hck
        go_wp2_with fail
        refine (hckc.out _ hbA.out.1).mono ?_
        rintro e' W2 ⟨rfl, hb2⟩
        obtain ⟨p1, hb3, hb4⟩ := hbox.out W2 hb2
        have t0 : W2.cell? ⟨W1.heap.size, 0, none⟩ = some (.string a.rel) := by simp [World.cell?, p1]
        have t1 : W2.cell? ⟨W1.heap.size, 1, none⟩ = some (.slice xa a.args.length xc) := by simp [World.cell?, p1]
        have q1 := (hblk.out W2 hb3).1
        have t7 : W2.cell? ⟨be, 7, none⟩ = some (.map (some bm)) := by simp [World.cell?, q1]
        have hD2 : Hid (Below W1.heap.size W1 W2.drew ∧ Below w.heap.size w W2.drew) := ⟨hb4.drew, hb3.drew⟩
        have hafter : Hid (∀ W3, Below W2.drew.heap.size W2.drew W3 → Below w.heap.size w W3 ∧ W3.cell? ⟨be, 7, none⟩ = some (.map (some bm))) := fun W3 hb => by
          have hx : Below w.heap.size w W3 := hb3.drew.trans (hb.mono (by show _ ≤ W2.heap.size; exact hb3.size))
          have := (hblk.out W3 hx).1
          exact ⟨hx, by simp [World.cell?, this]⟩
        clear p1 q1 hb2
        go_wp2_with fail
        first | (go_region_with (first | (go_at_call 48; refine (hof.out _ hD2.out.1).mono ?_; rintro e' W3 ⟨rfl, hb5⟩; obtain ⟨hb6, s7⟩ := hafter.out W3 hb5) | (go_at_call 47; refine (hen.out W3 hb6).mono ?_; rintro e' W4 ⟨rfl, hb7⟩))) | fail
        all_goals go_wp2
        all_goals go_ret2
        all_goals exact ⟨by rw [hu.out]; rfl, hb6.trans (hb7.mono hb6.size)⟩
      · rw [if_neg hck] at hu
        have hck' : (ckR e.rs a == 0) = false := by simp [hck]
        generalize ckR e.rs a = ck at *
        go_wp2_with (go_at_call 42; refine (hckc.out _ hbA.out.1).mono ?_; rintro e' W2 ⟨rfl, hb2⟩; obtain ⟨p1, hb3, hb4⟩ := hbox.out W2 hb2)
        go_ret2
        exact ⟨by rw [hu.out]; rfl, hb3⟩

end Go.Proofs.YtjajnhemgphefaaGreatDoor
