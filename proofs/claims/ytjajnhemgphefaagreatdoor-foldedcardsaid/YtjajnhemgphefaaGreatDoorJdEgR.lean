/-
  The engine's data: what its methods answer, and that it stays as it should be.
-/
import Derived.Test.YtjajnhemgphefaaGreatDoorJdEgL
import Derived.Test.YtjajnhemgphefaaGreatDoorJdFd6
import Derived.Test.YtjajnhemgphefaaGreatDoorJdEgF
import Derived.Test.YtjajnhemgphefaaGreatDoorJdMoB
namespace Go.Proofs.YtjajnhemgphefaaGreatDoor
open Go.RowKit Go.Shelf Go.Maps
set_option linter.unusedVariables false
set_option linter.unusedSimpArgs false

theorem seenL_mem (vs : List ByteArray) (x y : ByteArray) : y ∈ seenL vs x ↔ y ∈ vs ∨ y = x := by
  unfold seenL seenN
  by_cases h : vs.findIdx (sameB x) < vs.length
  · rw [if_pos h]
    have h1 := List.findIdx_getElem (w := h)
    rw [sameB_iff] at h1
    constructor
    · exact .inl
    · rintro (h2 | rfl)
      · exact h2
      · rw [h1]; exact List.getElem_mem h
  · rw [if_neg h]; simp
theorem seenL_nodup {vs : List ByteArray} (hn : vs.Nodup) (x : ByteArray) : (seenL vs x).Nodup := by
  unfold seenL seenN
  by_cases h : vs.findIdx (sameB x) < vs.length
  · rw [if_pos h]; exact hn
  · rw [if_neg h]
    rw [List.findIdx_lt_length] at h
    refine List.nodup_append.2 ⟨hn, by simp, fun a ha b hb e => h ⟨a, ha, ?_⟩⟩
    simp at hb; subst hb; rw [sameB_iff]; exact e.symm
theorem nmL_mem : ∀ (l : List Tm) (vs : List ByteArray) (y : ByteArray), y ∈ nmL vs l ↔ y ∈ vs ∨ ∃ t ∈ l, t.name ≠ eB ∧ y = t.name
  | [], vs, y => by simp [nmL]
  | t :: l, vs, y => by
    have ih := nmL_mem l (nmStep vs t) y
    have e1 : nmL vs (t :: l) = nmL (nmStep vs t) l := rfl
    rw [e1, ih]
    unfold nmStep
    by_cases h : t.name.toList.isEmpty = true
    · rw [if_pos h]
      rw [empty_iff] at h
      constructor
      · rintro (h1 | ⟨u, hu, h2⟩)
        · exact .inl h1
        · exact .inr ⟨u, by simp [hu], h2⟩
      · rintro (h1 | ⟨u, hu, h2, h3⟩)
        · exact .inl h1
        · simp only [List.mem_cons] at hu
          rcases hu with rfl | hu
          · exact absurd h h2
          · exact .inr ⟨u, hu, h2, h3⟩
    · rw [if_neg h, seenL_mem]
      have h' : t.name ≠ eB := fun e => h ((empty_iff _).2 e)
      constructor
      · rintro ((h1 | h1) | ⟨u, hu, h2⟩)
        · exact .inl h1
        · exact .inr ⟨t, by simp, h', h1⟩
        · exact .inr ⟨u, by simp [hu], h2⟩
      · rintro (h1 | ⟨u, hu, h2, h3⟩)
        · exact .inl (.inl h1)
        · simp only [List.mem_cons] at hu
          rcases hu with rfl | hu
          · exact .inl (.inr h3)
          · exact .inr ⟨u, hu, h2, h3⟩
theorem nmL_nodup : ∀ (l : List Tm) (vs : List ByteArray), vs.Nodup → (nmL vs l).Nodup
  | [], vs, h => h
  | t :: l, vs, h => by
    have e1 : nmL vs (t :: l) = nmL (nmStep vs t) l := rfl
    rw [e1]
    refine nmL_nodup l _ ?_
    unfold nmStep
    split
    · exact h
    · exact seenL_nodup h _

/-- What accept, and Insert, answer. -/
def accR (e : Eg) (a : Am) (t : Int) : Int × Eg :=
  if overB e.win e.mark t = true then (8, e) else if hasD e.kept (groundA nms0 a, t) = true then (9, e)
  else if e.kept.length = 24 ∨ 8 < (nmL e.names a.args).length then (10, e)
  else (0, { e with names := nmL e.names a.args, kept := e.kept ++ [(groundA nms0 a, t)] })
def insR (e : Eg) (s : ByteArray) (t : Int) : Int × Eg :=
  match atomR s with
  | none => (2, e)
  | some a => if groundB a = false then (2, e) else if derB e.rs a.rel = true then (7, e) else if ckR e.rs a ≠ 0 then (ckR e.rs a, e) else if ¬ (0 ≤ t ∧ t ≤ 1000000) then (6, e) else accR e a t
/-- What Subscribe answers. -/
def subR (e : Eg) (s : ByteArray) : Int × Int × Eg :=
  if nameB s = false then (0, 2, e) else if arR e.rs s = 0 then (0, 7, e) else if e.fds.length = 3 then (0, 10, e)
  else (e.fds.length, 0, { e with fds := e.fds ++ [⟨formA s (arR e.rs s), true, [], [], 0⟩] })
/-- The facts that hold at a watermark, with their ends. -/
def factsF (e : Eg) (m : Int) : List (Gd × Int) := ((e.kept.filter (fun d => !overB e.win m d.2)).filter (fun d => decide (d.2 ≤ m))).map (fun d => (d.1, d.2 + e.win))
/-- A feed behind a move. -/
def MoveF (M M' : Gd → Option Int) (m q : Int) (f f' : Fs) : Prop :=
  (f.behind = true ∧ f' = f) ∨ (f.behind = false ∧ ∃ g1 g2, beyP M M' f.form g1 ∧ beyP M' M f.form g2 ∧ ((q < ((f.que ++ textsR 3 g1 ++ textsR 2 g2).length : Int) + 1 ∧ f' = { f with behind := true, snap := [], que := [] }) ∨ (((f.que ++ textsR 3 g1 ++ textsR 2 g2).length : Int) + 1 ≤ q ∧ f' = { f with que := f.que ++ textsR 3 g1 ++ textsR 2 g2 ++ [⟨4, 0, ⟨#[]⟩, m⟩] })))
/-- The engine behind a move of its watermark. -/
def MoveE (e : Eg) (m : Int) (e' : Eg) : Prop := ∃ M' fds', LeastM e.rs (factsF e m ++ givenL e.rs) M' ∧ fds'.length = e.fds.length ∧ (∀ i (h : i < e.fds.length) (h' : i < fds'.length), MoveF e.M M' m e.que e.fds[i] fds'[i]) ∧ e' = { e with mark := m, kept := e.kept.filter (fun d => !overB e.win m d.2), M := M', fds := fds' }
/-- What Tick answers. -/
def TickE (e : Eg) (c : Int) (e' : Eg) (r : Int × Int) : Prop :=
  (¬ (0 ≤ c ∧ c ≤ 1000000) ∧ e' = e ∧ r = (0, 6)) ∨ ((0 ≤ c ∧ c ≤ 1000000) ∧ r = (e'.mark, 0) ∧ ((c - e.lat ≤ e.mark ∧ e' = e) ∨ (e.mark < c - e.lat ∧ MoveE e (c - e.lat) e')))

theorem EgOk.mono {e e' : Eg} (h : EgOk e) (h1 : e'.rs = e.rs) (h2 : e'.win = e.win) (h3 : e'.lat = e.lat) (h4 : e'.que = e.que) (h5 : e'.mark = e.mark) (h6 : e'.names = e.names) (h7 : e'.kept = e.kept) (h8 : e'.M = e.M)
    (f3 : e'.fds.length ≤ 3) (fds : ∀ f ∈ e'.fds, FormOk f.form ∧ f.snap.length ≤ 1000 ∧ f.que.length ≤ 50) : EgOk e' := by
  obtain ⟨rs, win, lat, que, mark, names, kept, M, fds'⟩ := e'
  simp only at *
  subst h1 h2 h3 h4 h5 h6 h7 h8
  exact ⟨h.rs, h.win, h.lat, h.que, h.mark, h.n8, h.nsz, h.nrs, h.k24, h.kept, h.md, f3, fds⟩

theorem name_size {s : ByteArray} (h : nameB s = true) : s.size ≤ 32 := by
  unfold nameB at h
  simp only [Bool.and_eq_true, Bool.not_eq_true', decide_eq_false_iff_not] at h
  have := size_le_runes s
  omega
theorem sub_ok {e : Eg} (h : EgOk e) (s : ByteArray) : EgOk (subR e s).2.2 := by
  unfold subR
  split
  · exact h
  rename_i hn
  split
  · exact h
  split
  · exact h
  rename_i h3
  have hs := name_size (s := s) (by simpa using hn)
  have hf := h.f3
  refine h.mono rfl rfl rfl rfl rfl rfl rfl rfl (by simp; omega) (fun f hf => ?_)
  rcases List.mem_append.1 hf with hf | hf
  · exact h.fds f hf
  · simp only [List.mem_cons, List.not_mem_nil, or_false] at hf
    subst hf
    refine ⟨⟨?_, ?_, ?_, ?_⟩, by simp, by simp⟩
    · show (formA s _).args.length ≤ 2
      rw [formA_len]
      rcases arR_cases h.rs s with e | e | e <;> omega
    · intro t ht
      obtain ⟨k, hk, rfl⟩ := List.mem_map.1 ht
      have := List.mem_range.1 hk
      rcases arR_cases h.rs s with e | e | e
      · show k < 6; omega
      · show k < 6; omega
      · show k < 6; omega
    · show s.size ≤ 2000; omega
    · intro t ht
      obtain ⟨k, hk, rfl⟩ := List.mem_map.1 ht
      show (0 : Nat) ≤ 2000
      decide

theorem ground_names {a : Am} (h : groundB a = true) : ∀ t ∈ a.args, t.name ≠ eB := by
  intro t ht e
  unfold groundB at h
  simp only [Bool.not_eq_true', List.any_eq_false] at h
  exact h t ht ((empty_iff _).2 e)
theorem ck_zero {rs : List Rl} {a : Am} (h : ckR rs a = 0) : arR rs a.rel ≠ 0 ∧ arR rs a.rel = a.args.length := by
  unfold ckR at h
  split at h
  · cases h
  · rename_i h0
    split at h
    · rename_i h1; exact ⟨h0, h1⟩
    · cases h
theorem rel_mem {rs : List Rl} {x : ByteArray} (h : arR rs x ≠ 0) : x ∈ relsR rs := by
  unfold arR at h
  cases ha : arOf (rs.flatMap ruleAms) x.data.toList with
  | none => rw [ha] at h; exact absurd rfl h
  | some n =>
    obtain ⟨a, h1, h2, _⟩ := arOf_mem ha
    exact List.mem_map.2 ⟨a, h1, ba_inj h2⟩
theorem fact_in {rs : List Rl} (h : RsOk rs) {a : Am} (hg : groundB a = true) (hc : ckR rs a = 0) {ns : List ByteArray} (hns : ∀ t ∈ a.args, t.name ∈ ns) : groundA nms0 a ∈ uni (relsR rs) ns ∧ arOk (arR rs) (groundA nms0 a) := by
  obtain ⟨h0, h1⟩ := ck_zero hc
  have hn := ground_names hg
  have hl : a.args.length = 1 ∨ a.args.length = 2 := by rcases arR_cases h a.rel with e | e | e <;> omega
  rcases hl with hl | hl
  · match ha : a.args, hl with
    | [t], _ =>
      have ht := hn t (by rw [ha]; simp)
      have hg : groundA nms0 a = ⟨a.rel, t.name, eB⟩ := by unfold groundA; rw [ha]; show (⟨a.rel, ofT nms0 t, eB⟩ : Gd) = _; rw [ofT_name ht]
      rw [hg]
      exact ⟨mem_uni.2 ⟨rel_mem h0, hns t (by rw [ha]; simp), .inl rfl⟩, ht, .inl ⟨by show arR rs a.rel = 1; rw [h1, ha]; rfl, rfl⟩⟩
  · match ha : a.args, hl with
    | [t, u], _ =>
      have ht := hn t (by rw [ha]; simp)
      have hu := hn u (by rw [ha]; simp)
      have hg : groundA nms0 a = ⟨a.rel, t.name, u.name⟩ := by unfold groundA; rw [ha]; show (⟨a.rel, ofT nms0 t, ofT nms0 u⟩ : Gd) = _; rw [ofT_name ht, ofT_name hu]
      rw [hg]
      exact ⟨mem_uni.2 ⟨rel_mem h0, hns t (by rw [ha]; simp), .inr (hns u (by rw [ha]; simp))⟩, ht, .inr ⟨by show arR rs a.rel = 2; rw [h1, ha]; rfl, hu⟩⟩

theorem acc_ok {e : Eg} (h : EgOk e) {a : Am} (hak : AmOk a) (hg : groundB a = true) (hc : ckR e.rs a = 0) {t : Int} (ht : 0 ≤ t ∧ t ≤ 1000000) : EgOk (accR e a t).2 := by
  unfold accR
  split
  · exact h
  split
  · exact h
  split
  · exact h
  rename_i hfull
  have hmem := nmL_mem a.args e.names
  have hsub : ∀ x ∈ e.names, x ∈ nmL e.names a.args := fun x hx => (hmem x).2 (.inl hx)
  have hnm := ground_names hg
  have h24 := h.k24
  refine ⟨h.rs, h.win, h.lat, h.que, h.mark, by show (nmL e.names a.args).length ≤ 8; omega, fun x hx => ?_, fun r hr t ht hne => hsub _ (h.nrs r hr t ht hne), by show (e.kept ++ _).length ≤ 24; simp; omega, fun d hd => ?_, fun g hg => ⟨(h.md g hg).1, uni_mono hsub (h.md g hg).2⟩, h.f3, h.fds⟩
  · rcases (hmem x).1 hx with hx | ⟨u, hu, _, rfl⟩
    · exact h.nsz x hx
    · exact (hak.tms u hu).name
  · rcases List.mem_append.1 hd with hd | hd
    · have := h.kept d hd
      exact ⟨uni_mono hsub this.1, this.2⟩
    · simp only [List.mem_cons, List.not_mem_nil, or_false] at hd
      subst hd
      have := fact_in h.rs hg hc (ns := nmL e.names a.args) (fun u hu => (hmem _).2 (.inr ⟨u, hu, hnm u hu, rfl⟩))
      exact ⟨this.1, this.2, ht⟩
theorem ins_ok {e : Eg} (h : EgOk e) (s : ByteArray) (hak : ∀ a, atomR s = some a → AmOk a) (t : Int) : EgOk (insR e s t).2 := by
  unfold insR
  cases ha : atomR s with
  | none => exact h
  | some a =>
    simp only
    split
    · exact h
    rename_i hg
    split
    · exact h
    split
    · exact h
    rename_i hc
    split
    · exact h
    rename_i ht
    exact acc_ok h (hak a ha) (by simpa using hg) (by simpa using hc) (by simpa using ht)

theorem facts_ok {e : Eg} (h : EgOk e) (m : Int) : FcOk e.rs e.names (factsF e m) := by
  unfold factsF
  refine ⟨?_, fun x hx => ?_⟩
  · rw [List.length_map]
    have h1 := List.length_filter_le (fun d : Gd × Int => decide (d.2 ≤ m)) (e.kept.filter (fun d => !overB e.win m d.2))
    have h2 := List.length_filter_le (fun d : Gd × Int => !overB e.win m d.2) e.kept
    have := h.k24
    omega
  · obtain ⟨d, hd, rfl⟩ := List.mem_map.1 hx
    have hk := h.kept d ((List.mem_filter.1 (List.mem_filter.1 hd).1).1)
    have hw := h.win
    exact ⟨hk.1, hk.2.1, by show 0 ≤ d.2 + e.win; omega, by show d.2 + e.win ≤ 2000000; omega⟩
theorem move_ok {e e' : Eg} (h : EgOk e) {m : Int} (hm : 0 ≤ m ∧ m ≤ 1000000) (hv : MoveE e m e') : EgOk e' := by
  obtain ⟨M', fds', h1, h2, h3, rfl⟩ := hv
  have hf3 := h.f3
  refine ⟨h.rs, h.win, h.lat, h.que, hm, h.n8, h.nsz, h.nrs, Nat.le_trans (List.length_filter_le _ _) h.k24, fun d hd => h.kept d (List.mem_filter.1 hd).1, least_in h.rs h.nrs (facts_ok h m) h1, by show fds'.length ≤ 3; omega, fun f hf => ?_⟩
  obtain ⟨i, hi, rfl⟩ := List.getElem_of_mem hf
  have hi' : i < e.fds.length := by have : i < fds'.length := hi; omega
  have hfo := h.fds _ (List.getElem_mem hi')
  have hq := h.que
  rcases h3 i hi' hi with ⟨_, h4⟩ | ⟨_, g1, g2, _, _, ⟨_, h4⟩ | ⟨h5, h4⟩⟩
  · rw [h4]; exact hfo
  · rw [h4]; exact ⟨hfo.1, by simp, by simp⟩
  · rw [h4]
    refine ⟨hfo.1, hfo.2.1, ?_⟩
    show (_ ++ [_]).length ≤ 50
    rw [List.length_append]
    simp only [List.length_cons, List.length_nil]
    omega
theorem tick_ok {e e' : Eg} (h : EgOk e) {c : Int} {r : Int × Int} (ht : TickE e c e' r) : EgOk e' := by
  rcases ht with ⟨_, rfl, _⟩ | ⟨hc, _, ⟨_, rfl⟩ | ⟨h1, h2⟩⟩
  · exact h
  · exact h
  · have hl := h.lat
    have hmk := h.mark
    exact move_ok h ⟨by omega, by omega⟩ h2
theorem poll_ok {e : Eg} (h : EgOk e) {k : Nat} (hk : k < e.fds.length) {r : Rc} {f' : Fs} (hp : PollR e.M e.mark e.fds[k] r f') : EgOk { e with fds := e.fds.set k f' } := by
  refine h.mono rfl rfl rfl rfl rfl rfl rfl rfl (by simp; exact h.f3) (fun f hf => ?_)
  have hfo := h.fds _ (List.getElem_mem hk)
  rcases List.mem_or_eq_of_mem_set hf with hf | rfl
  · exact h.fds f hf
  obtain ⟨r0, f0, hn, hc⟩ := hp
  have h0 : FormOk f0.form ∧ f0.snap.length ≤ 1000 ∧ f0.que.length ≤ 50 := by
    rcases hn with ⟨l, e1, rfl⟩ | ⟨_, _, _, gs, hg, rfl⟩ | ⟨_, _, l, e1, rfl⟩ | ⟨_, _, _, _, rfl⟩
    · refine ⟨hfo.1, ?_, hfo.2.2⟩
      have := hfo.2.1
      rw [e1] at this; simp at this
      show l.length ≤ 1000
      omega
    · refine ⟨hfo.1, ?_, hfo.2.2⟩
      have h72 := fit_few hg (fun g hg => (h.md g hg).2) h.n8
      have hl : (recsT 2 (sortT (gs.map (fun g => (textG g).data.toList)))).length = gs.length := textsR_len 2 gs
      show (_ ++ [_]).length ≤ 1000
      rw [List.length_append, hl]
      simp only [List.length_cons, List.length_nil]
      omega
    · refine ⟨hfo.1, hfo.2.1, ?_⟩
      have := hfo.2.2
      rw [e1] at this; simp at this
      show l.length ≤ 50
      omega
    · exact hfo
  rcases hc with ⟨_, _, rfl⟩ | ⟨_, _, rfl⟩
  · exact h0
  · exact h0

end Go.Proofs.YtjajnhemgphefaaGreatDoor
