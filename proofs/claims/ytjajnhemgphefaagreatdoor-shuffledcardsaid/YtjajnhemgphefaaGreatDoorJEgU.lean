/-
  The engine's data: what its methods answer, and that it stays as it should be.
  The engine: what accept and move call: the names copied, no facts to delete.
  The engine: accept.
-/
import Derived.Test.YtjajnhemgphefaaGreatDoorJEgN
import Derived.Test.YtjajnhemgphefaaGreatDoorJEgI
import Derived.Test.YtjajnhemgphefaaGreatDoorJEgF
import Derived.Test.YtjajnhemgphefaaGreatDoorJRangeM
import Derived.Test.YtjajnhemgphefaaGreatDoorJGr
import Derived.Test.YtjajnhemgphefaaGreatDoorJEgO
import Derived.Maps.AppendAt
namespace Go.Proofs.YtjajnhemgphefaaGreatDoor
open Go.RowKit Go.Shelf Go.Maps
set_option linter.unusedVariables false
set_option linter.unusedSimpArgs false

theorem seenL_mem (vs : List ByteArray) (x y : ByteArray) : y ∈ seenL vs x ↔ y ∈ vs ∨ y = x := by
  unfold seenL seenN
  by_cases h : vs.findIdx (sameB x) < vs.length
  · rw [if_pos h]
    have h1 := List.findIdx_getElem (w := h)
    rw [sameB_iff] at h1
    constructor
    · exact .inl
    · rintro (h2 | rfl)
      · exact h2
      · rw [h1]; exact List.getElem_mem h
  · rw [if_neg h]; simp
theorem seenL_nodup {vs : List ByteArray} (hn : vs.Nodup) (x : ByteArray) : (seenL vs x).Nodup := by
  unfold seenL seenN
  by_cases h : vs.findIdx (sameB x) < vs.length
  · rw [if_pos h]; exact hn
  · rw [if_neg h]
    rw [List.findIdx_lt_length] at h
    refine List.nodup_append.2 ⟨hn, by simp, fun a ha b hb e => h ⟨a, ha, ?_⟩⟩
    simp at hb; subst hb; rw [sameB_iff]; exact e.symm
theorem nmL_mem : ∀ (l : List Tm) (vs : List ByteArray) (y : ByteArray), y ∈ nmL vs l ↔ y ∈ vs ∨ ∃ t ∈ l, t.name ≠ eB ∧ y = t.name
  | [], vs, y => by simp [nmL]
  | t :: l, vs, y => by
    have ih := nmL_mem l (nmStep vs t) y
    have e1 : nmL vs (t :: l) = nmL (nmStep vs t) l := rfl
    rw [e1, ih]
    unfold nmStep
    by_cases h : t.name.toList.isEmpty = true
    · rw [if_pos h]
      rw [empty_iff] at h
      constructor
      · rintro (h1 | ⟨u, hu, h2⟩)
        · exact .inl h1
        · exact .inr ⟨u, by simp [hu], h2⟩
      · rintro (h1 | ⟨u, hu, h2, h3⟩)
        · exact .inl h1
        · simp only [List.mem_cons] at hu
          rcases hu with rfl | hu
          · exact absurd h h2
          · exact .inr ⟨u, hu, h2, h3⟩
    · rw [if_neg h, seenL_mem]
      have h' : t.name ≠ eB := fun e => h ((empty_iff _).2 e)
      constructor
      · rintro ((h1 | h1) | ⟨u, hu, h2⟩)
        · exact .inl h1
        · exact .inr ⟨t, by simp, h', h1⟩
        · exact .inr ⟨u, by simp [hu], h2⟩
      · rintro (h1 | ⟨u, hu, h2, h3⟩)
        · exact .inl (.inl h1)
        · simp only [List.mem_cons] at hu
          rcases hu with rfl | hu
          · exact .inl (.inr h3)
          · exact .inr ⟨u, hu, h2, h3⟩
theorem nmL_nodup : ∀ (l : List Tm) (vs : List ByteArray), vs.Nodup → (nmL vs l).Nodup
  | [], vs, h => h
  | t :: l, vs, h => by
    have e1 : nmL vs (t :: l) = nmL (nmStep vs t) l := rfl
    rw [e1]
    refine nmL_nodup l _ ?_
    unfold nmStep
    split
    · exact h
    · exact seenL_nodup h _

/-- What accept, and Insert, answer. -/
def accR (e : Eg) (a : Am) (t : Int) : Int × Eg :=
  if overB e.win e.mark t = true then (8, e) else if hasD e.kept (groundA nms0 a, t) = true then (9, e)
  else if e.kept.length = 24 ∨ 8 < (nmL e.names a.args).length then (10, e)
  else (0, { e with names := nmL e.names a.args, kept := e.kept ++ [(groundA nms0 a, t)] })
def insR (e : Eg) (s : ByteArray) (t : Int) : Int × Eg :=
  match atomR s with
  | none => (2, e)
  | some a => if groundB a = false then (2, e) else if derB e.rs a.rel = true then (7, e) else if ckR e.rs a ≠ 0 then (ckR e.rs a, e) else if ¬ (0 ≤ t ∧ t ≤ 1000000) then (6, e) else accR e a t
/-- What Subscribe answers. -/
def subR (e : Eg) (s : ByteArray) : Int × Int × Eg :=
  if nameB s = false then (0, 2, e) else if arR e.rs s = 0 then (0, 7, e) else if e.fds.length = 3 then (0, 10, e)
  else (e.fds.length, 0, { e with fds := e.fds ++ [⟨formA s (arR e.rs s), true, [], [], 0⟩] })
/-- The facts that hold at a watermark, with their ends. -/
def factsF (e : Eg) (m : Int) : List (Gd × Int) := ((e.kept.filter (fun d => !overB e.win m d.2)).filter (fun d => decide (d.2 ≤ m))).map (fun d => (d.1, d.2 + e.win))
/-- A feed behind a move. -/
def MoveF (M M' : Gd → Option Int) (m q : Int) (f f' : Fs) : Prop :=
  (f.behind = true ∧ f' = f) ∨ (f.behind = false ∧ ∃ g1 g2, beyP M M' f.form g1 ∧ beyP M' M f.form g2 ∧ ((q < ((f.que ++ textsR 3 g1 ++ textsR 2 g2).length : Int) + 1 ∧ f' = { f with behind := true, snap := [], que := [] }) ∨ (((f.que ++ textsR 3 g1 ++ textsR 2 g2).length : Int) + 1 ≤ q ∧ f' = { f with que := f.que ++ textsR 3 g1 ++ textsR 2 g2 ++ [⟨4, 0, ⟨#[]⟩, m⟩] })))
/-- The engine behind a move of its watermark. -/
def MoveE (e : Eg) (m : Int) (e' : Eg) : Prop := ∃ M' fds', LeastM e.rs (factsF e m ++ givenL e.rs) M' ∧ fds'.length = e.fds.length ∧ (∀ i (h : i < e.fds.length) (h' : i < fds'.length), MoveF e.M M' m e.que e.fds[i] fds'[i]) ∧ e' = { e with mark := m, kept := e.kept.filter (fun d => !overB e.win m d.2), M := M', fds := fds' }
/-- What Tick answers. -/
def TickE (e : Eg) (c : Int) (e' : Eg) (r : Int × Int) : Prop :=
  (¬ (0 ≤ c ∧ c ≤ 1000000) ∧ e' = e ∧ r = (0, 6)) ∨ ((0 ≤ c ∧ c ≤ 1000000) ∧ r = (e'.mark, 0) ∧ ((c - e.lat ≤ e.mark ∧ e' = e) ∨ (e.mark < c - e.lat ∧ MoveE e (c - e.lat) e')))

theorem EgOk.mono {e e' : Eg} (h : EgOk e) (h1 : e'.rs = e.rs) (h2 : e'.win = e.win) (h3 : e'.lat = e.lat) (h4 : e'.que = e.que) (h5 : e'.mark = e.mark) (h6 : e'.names = e.names) (h7 : e'.kept = e.kept) (h8 : e'.M = e.M)
    (f3 : e'.fds.length ≤ 3) (fds : ∀ f ∈ e'.fds, FormOk f.form ∧ f.snap.length ≤ 1000 ∧ f.que.length ≤ 50) : EgOk e' := by
  obtain ⟨rs, win, lat, que, mark, names, kept, M, fds'⟩ := e'
  simp only at *
  subst h1 h2 h3 h4 h5 h6 h7 h8
  exact ⟨h.rs, h.win, h.lat, h.que, h.mark, h.n8, h.nsz, h.nrs, h.k24, h.kept, h.md, f3, fds⟩

theorem name_size {s : ByteArray} (h : nameB s = true) : s.size ≤ 32 := by
  unfold nameB at h
  simp only [Bool.and_eq_true, Bool.not_eq_true', decide_eq_false_iff_not] at h
  have := size_le_runes s
  omega
theorem sub_ok {e : Eg} (h : EgOk e) (s : ByteArray) : EgOk (subR e s).2.2 := by
  unfold subR
  split
  · exact h
  rename_i hn
  split
  · exact h
  split
  · exact h
  rename_i h3
  have hs := name_size (s := s) (by simpa using hn)
  have hf := h.f3
  refine h.mono rfl rfl rfl rfl rfl rfl rfl rfl (by simp; omega) (fun f hf => ?_)
  rcases List.mem_append.1 hf with hf | hf
  · exact h.fds f hf
  · simp only [List.mem_cons, List.not_mem_nil, or_false] at hf
    subst hf
    refine ⟨⟨?_, ?_, ?_, ?_⟩, by simp, by simp⟩
    · show (formA s _).args.length ≤ 2
      rw [formA_len]
      rcases arR_cases h.rs s with e | e | e <;> omega
    · intro t ht
      obtain ⟨k, hk, rfl⟩ := List.mem_map.1 ht
      have := List.mem_range.1 hk
      rcases arR_cases h.rs s with e | e | e
      · show k < 6; omega
      · show k < 6; omega
      · show k < 6; omega
    · show s.size ≤ 2000; omega
    · intro t ht
      obtain ⟨k, hk, rfl⟩ := List.mem_map.1 ht
      show (0 : Nat) ≤ 2000
      decide

theorem ground_names {a : Am} (h : groundB a = true) : ∀ t ∈ a.args, t.name ≠ eB := by
  intro t ht e
  unfold groundB at h
  simp only [Bool.not_eq_true', List.any_eq_false] at h
  exact h t ht ((empty_iff _).2 e)
theorem ck_zero {rs : List Rl} {a : Am} (h : ckR rs a = 0) : arR rs a.rel ≠ 0 ∧ arR rs a.rel = a.args.length := by
  unfold ckR at h
  split at h
  · cases h
  · rename_i h0
    split at h
    · rename_i h1; exact ⟨h0, h1⟩
    · cases h
theorem rel_mem {rs : List Rl} {x : ByteArray} (h : arR rs x ≠ 0) : x ∈ relsR rs := by
  unfold arR at h
  cases ha : arOf (rs.flatMap ruleAms) x.data.toList with
  | none => rw [ha] at h; exact absurd rfl h
  | some n =>
    obtain ⟨a, h1, h2, _⟩ := arOf_mem ha
    exact List.mem_map.2 ⟨a, h1, ba_inj h2⟩
theorem fact_in {rs : List Rl} (h : RsOk rs) {a : Am} (hg : groundB a = true) (hc : ckR rs a = 0) {ns : List ByteArray} (hns : ∀ t ∈ a.args, t.name ∈ ns) : groundA nms0 a ∈ uni (relsR rs) ns ∧ arOk (arR rs) (groundA nms0 a) := by
  obtain ⟨h0, h1⟩ := ck_zero hc
  have hn := ground_names hg
  have hl : a.args.length = 1 ∨ a.args.length = 2 := by rcases arR_cases h a.rel with e | e | e <;> omega
  rcases hl with hl | hl
  · match ha : a.args, hl with
    | [t], _ =>
      have ht := hn t (by rw [ha]; simp)
      have hg : groundA nms0 a = ⟨a.rel, t.name, eB⟩ := by unfold groundA; rw [ha]; show (⟨a.rel, ofT nms0 t, eB⟩ : Gd) = _; rw [ofT_name ht]
      rw [hg]
      exact ⟨mem_uni.2 ⟨rel_mem h0, hns t (by rw [ha]; simp), .inl rfl⟩, ht, .inl ⟨by show arR rs a.rel = 1; rw [h1, ha]; rfl, rfl⟩⟩
  · match ha : a.args, hl with
    | [t, u], _ =>
      have ht := hn t (by rw [ha]; simp)
      have hu := hn u (by rw [ha]; simp)
      have hg : groundA nms0 a = ⟨a.rel, t.name, u.name⟩ := by unfold groundA; rw [ha]; show (⟨a.rel, ofT nms0 t, ofT nms0 u⟩ : Gd) = _; rw [ofT_name ht, ofT_name hu]
      rw [hg]
      exact ⟨mem_uni.2 ⟨rel_mem h0, hns t (by rw [ha]; simp), .inr (hns u (by rw [ha]; simp))⟩, ht, .inr ⟨by show arR rs a.rel = 2; rw [h1, ha]; rfl, hu⟩⟩

theorem acc_ok {e : Eg} (h : EgOk e) {a : Am} (hak : AmOk a) (hg : groundB a = true) (hc : ckR e.rs a = 0) {t : Int} (ht : 0 ≤ t ∧ t ≤ 1000000) : EgOk (accR e a t).2 := by
  unfold accR
  split
  · exact h
  split
  · exact h
  split
  · exact h
  rename_i hfull
  have hmem := nmL_mem a.args e.names
  have hsub : ∀ x ∈ e.names, x ∈ nmL e.names a.args := fun x hx => (hmem x).2 (.inl hx)
  have hnm := ground_names hg
  have h24 := h.k24
  refine ⟨h.rs, h.win, h.lat, h.que, h.mark, by show (nmL e.names a.args).length ≤ 8; omega, fun x hx => ?_, fun r hr t ht hne => hsub _ (h.nrs r hr t ht hne), by show (e.kept ++ _).length ≤ 24; simp; omega, fun d hd => ?_, fun g hg => ⟨(h.md g hg).1, uni_mono hsub (h.md g hg).2⟩, h.f3, h.fds⟩
  · rcases (hmem x).1 hx with hx | ⟨u, hu, _, rfl⟩
    · exact h.nsz x hx
    · exact (hak.tms u hu).name
  · rcases List.mem_append.1 hd with hd | hd
    · have := h.kept d hd
      exact ⟨uni_mono hsub this.1, this.2⟩
    · simp only [List.mem_cons, List.not_mem_nil, or_false] at hd
      subst hd
      have := fact_in h.rs hg hc (ns := nmL e.names a.args) (fun u hu => (hmem _).2 (.inr ⟨u, hu, hnm u hu, rfl⟩))
      exact ⟨this.1, this.2, ht⟩
theorem ins_ok {e : Eg} (h : EgOk e) (s : ByteArray) (hak : ∀ a, atomR s = some a → AmOk a) (t : Int) : EgOk (insR e s t).2 := by
  unfold insR
  cases ha : atomR s with
  | none => exact h
  | some a =>
    simp only
    split
    · exact h
    rename_i hg
    split
    · exact h
    split
    · exact h
    rename_i hc
    split
    · exact h
    rename_i ht
    exact acc_ok h (hak a ha) (by simpa using hg) (by simpa using hc) (by simpa using ht)

theorem facts_ok {e : Eg} (h : EgOk e) (m : Int) : FcOk e.rs e.names (factsF e m) := by
  unfold factsF
  refine ⟨?_, fun x hx => ?_⟩
  · rw [List.length_map]
    have h1 := List.length_filter_le (fun d : Gd × Int => decide (d.2 ≤ m)) (e.kept.filter (fun d => !overB e.win m d.2))
    have h2 := List.length_filter_le (fun d : Gd × Int => !overB e.win m d.2) e.kept
    have := h.k24
    omega
  · obtain ⟨d, hd, rfl⟩ := List.mem_map.1 hx
    have hk := h.kept d ((List.mem_filter.1 (List.mem_filter.1 hd).1).1)
    have hw := h.win
    exact ⟨hk.1, hk.2.1, by show 0 ≤ d.2 + e.win; omega, by show d.2 + e.win ≤ 2000000; omega⟩
theorem move_ok {e e' : Eg} (h : EgOk e) {m : Int} (hm : 0 ≤ m ∧ m ≤ 1000000) (hv : MoveE e m e') : EgOk e' := by
  obtain ⟨M', fds', h1, h2, h3, rfl⟩ := hv
  have hf3 := h.f3
  refine ⟨h.rs, h.win, h.lat, h.que, hm, h.n8, h.nsz, h.nrs, Nat.le_trans (List.length_filter_le _ _) h.k24, fun d hd => h.kept d (List.mem_filter.1 hd).1, least_in h.rs h.nrs (facts_ok h m) h1, by show fds'.length ≤ 3; omega, fun f hf => ?_⟩
  obtain ⟨i, hi, rfl⟩ := List.getElem_of_mem hf
  have hi' : i < e.fds.length := by have : i < fds'.length := hi; omega
  have hfo := h.fds _ (List.getElem_mem hi')
  have hq := h.que
  rcases h3 i hi' hi with ⟨_, h4⟩ | ⟨_, g1, g2, _, _, ⟨_, h4⟩ | ⟨h5, h4⟩⟩
  · rw [h4]; exact hfo
  · rw [h4]; exact ⟨hfo.1, by simp, by simp⟩
  · rw [h4]
    refine ⟨hfo.1, hfo.2.1, ?_⟩
    show (_ ++ [_]).length ≤ 50
    rw [List.length_append]
    simp only [List.length_cons, List.length_nil]
    omega
theorem tick_ok {e e' : Eg} (h : EgOk e) {c : Int} {r : Int × Int} (ht : TickE e c e' r) : EgOk e' := by
  rcases ht with ⟨_, rfl, _⟩ | ⟨hc, _, ⟨_, rfl⟩ | ⟨h1, h2⟩⟩
  · exact h
  · exact h
  · have hl := h.lat
    have hmk := h.mark
    exact move_ok h ⟨by omega, by omega⟩ h2
theorem poll_ok {e : Eg} (h : EgOk e) {k : Nat} (hk : k < e.fds.length) {r : Rc} {f' : Fs} (hp : PollR e.M e.mark e.fds[k] r f') : EgOk { e with fds := e.fds.set k f' } := by
  refine h.mono rfl rfl rfl rfl rfl rfl rfl rfl (by simp; exact h.f3) (fun f hf => ?_)
  have hfo := h.fds _ (List.getElem_mem hk)
  rcases List.mem_or_eq_of_mem_set hf with hf | rfl
  · exact h.fds f hf
  obtain ⟨r0, f0, hn, hc⟩ := hp
  have h0 : FormOk f0.form ∧ f0.snap.length ≤ 1000 ∧ f0.que.length ≤ 50 := by
    rcases hn with ⟨l, e1, rfl⟩ | ⟨_, _, _, gs, hg, rfl⟩ | ⟨_, _, l, e1, rfl⟩ | ⟨_, _, _, _, rfl⟩
    · refine ⟨hfo.1, ?_, hfo.2.2⟩
      have := hfo.2.1
      rw [e1] at this; simp at this
      show l.length ≤ 1000
      omega
    · refine ⟨hfo.1, ?_, hfo.2.2⟩
      have h72 := fit_few hg (fun g hg => (h.md g hg).2) h.n8
      have hl : (recsT 2 (sortT (gs.map (fun g => (textG g).data.toList)))).length = gs.length := textsR_len 2 gs
      show (_ ++ [_]).length ≤ 1000
      rw [List.length_append, hl]
      simp only [List.length_cons, List.length_nil]
      omega
    · refine ⟨hfo.1, hfo.2.1, ?_⟩
      have := hfo.2.2
      rw [e1] at this; simp at this
      show l.length ≤ 50
      omega
    · exact hfo
  rcases hc with ⟨_, _, rfl⟩ | ⟨_, _, rfl⟩
  · exact h0
  · exact h0

end Go.Proofs.YtjajnhemgphefaaGreatDoor

namespace Go.Proofs.YtjajnhemgphefaaGreatDoor
open Go.RowKit Go.Shelf Go.Maps
set_option linter.unusedVariables false
set_option linter.unusedSimpArgs false

theorem cloneN_any (v : Value) (ns : List ByteArray) (b : Nat) (w : World) (h : w.ownsRow b 9 1 v ns.length (ns.map Value.string)) (hl : ns.length ≤ 1000) :
    Calls Tryz.prog 83 #[v] w fun e w' => ∃ (oa : Option Addr) (oc : Nat), e = .returned (.slice oa ns.length oc) ∧ w'.ownsRow w.heap.size 9 1 (.slice oa ns.length oc) ns.length (ns.map Value.string) ∧ Below w.heap.size w w' := by
  obtain ⟨h0, ⟨hv, hn⟩ | ⟨g, cap, cur, hv, hb, hw, h1, h2, h3, h4⟩⟩ := h
  · subst hv
    have hz : ns = [] := List.eq_nil_of_length_eq_zero hn
    subst hz
    refine (Tryz.slices_Clone_string_nil 0 0 w).mono ?_
    rintro e w' ⟨rfl, rfl⟩
    exact ⟨none, 0, rfl, ⟨rfl, .inl ⟨rfl, rfl⟩⟩, Below.refl _ _⟩
  · subst hv
    refine (Tryz.slices_Clone_string g 0 ns.length cap ns w (Nat.le_refl _) (by omega) (fun j hj => ?_)).mono ?_
    · have e1 : (ns.map Value.string)[j]? = some (.string ns[j]) := by rw [List.getElem?_map, List.getElem?_eq_getElem hj]; rfl
      rw [← h4, List.getElem?_take, if_pos (by omega)] at e1
      simp only [World.cell?, hw, Nat.zero_add]
      have e2 : cur[j]? = some (.string ns[j]) := by simpa using e1
      rw [e2, List.getD_eq_getElem?_getD, List.getElem?_eq_getElem hj]
      rfl
    · rintro e w' ⟨v', rfl, ho, _, hb'⟩
      rw [List.take_length] at ho
      obtain ⟨oa, oc, hof⟩ := owns_form ho
      subst hof
      exact ⟨oa, oc, rfl, ho, hb'⟩

set_option maxHeartbeats 400000 in
theorem idxD_nil (f : Value) (w : World) : Calls Tryz.prog 145 #[.slice none 0 0, .func (.func 86) #[] #[f]] w fun e w' => e = .returned (.int .i64 (-1)) ∧ Below w.heap.size w w' := by
  go_enter Tryz.func145, Tryz.ntmps145
  go_wp2
  go_loopw [8] (fun i wr => i = .int .i64 0 ∧ Below w.heap.size w wr) (fun i _ => 0)
  case atStart => exact ⟨rfl, Below.refl _ _⟩
  case round =>
    obtain ⟨rfl, hb⟩ := hrel
    go_wp2
    go_ret
    exact ⟨rfl, hb⟩

theorem deleteD_nil (f : Value) (w : World) : Calls Tryz.prog 85 #[.slice none 0 0, .func (.func 86) #[] #[f]] w fun e w' => e = .returned (.slice none 0 0) ∧ Below w.heap.size w w' := by
  have hI : Hid (∀ W, Calls Tryz.prog 145 #[.slice none 0 0, .func (.func 86) #[] #[f]] W fun e w' => e = .returned (.int .i64 (-1)) ∧ Below W.heap.size W w') := fun W => idxD_nil f W
  go_enter Tryz.func85, Tryz.ntmps85
  go_wp2_with (go_at_call 145; refine (hI.out _).mono ?_; rintro e W1 ⟨rfl, hb1⟩)
  go_ret
  exact ⟨rfl, hb1⟩

/-- AddNames over the arguments of an atom. -/
theorem addArgs_any (v : Value) (ns : List ByteArray) (base Bs b : Nat) (va : Value) (ts : List Tm) (w : World) (hbox : w.heap[Bs]? = some (Obj.cells #[va] 90 (0, 0))) (hs : SealT w b va ts) (hl : ts.length ≤ 2) (hown : w.ownsRow base 9 1 v ns.length (ns.map Value.string)) (hbw : base ≤ w.heap.size) (hn : ns.length ≤ 900) :
    Calls Tryz.prog 76 #[v, .func (.func 144) #[] #[.pointer (some ⟨Bs, 0, none⟩)]] w fun e w' => ∃ (oa : Option Addr) (oc : Nat), e = .returned (.slice oa (nmL ns ts).length oc) ∧ w'.ownsRow base 9 1 (.slice oa (nmL ns ts).length oc) (nmL ns ts).length ((nmL ns ts).map Value.string) ∧ Below base w w' := by
  refine (addNames_seq 144 #[.pointer (some ⟨Bs, 0, none⟩)] ts (fun _ => True) ts.length v ns base w (enters_of Tryz.func144 (by kernel_rfl) rfl) (fun O => ?_) (by omega) hown hbw hn).mono ?_
  · have hb : Below w.heap.size w (w.alloc O) := (Below.refl _ w).alloc (Nat.le_refl _) O
    exact valuesT_seq Bs b va ts (w.alloc O) ((hb.block _ (Array.getElem?_eq_some_iff.1 hbox).1).trans hbox) (hs.rk (RuleKept.ofBelow hb)) (by omega)
  · rintro e w' ⟨v', rfl, ho, hso⟩
    obtain ⟨oa, oc, hof⟩ := owns_form ho
    subst hof
    exact ⟨oa, oc, rfl, ho, ⟨hso.os, hso.tape, hso.output, hso.size, fun k hk => hso.block k (by omega) (.inl hk)⟩⟩

theorem fnew_any (x : ByteArray) (va : Value) (ta : Option Addr) (tn tc : Nat) (hva : va = .slice ta tn tc) (w : World) :
    Calls Tryz.prog 54 #[.agg #[.string x, va]] w fun e w' => ∃ B, e = .returned (.pointer (some ⟨B, 0, none⟩)) ∧ w.heap.size ≤ B ∧ w'.heap[B]? = some (Obj.cells #[.string x, va, .bool true, .slice none 0 0, .slice none 0 0, .int .i64 0] 198 (0, 0)) ∧ Below w.heap.size w w' := by
  subst hva
  go_enter Tryz.func54, Tryz.ntmps54
  go_wp2
  go_ret
  refine ⟨w.heap.size + 1, rfl, by omega, ?_, ((Below.refl _ w).alloc (Nat.le_refl _) _).alloc (by simp) _⟩
  have := World.alloc_heap_new (w.alloc (.cells #[.string x, .slice ta tn tc] 92)) (.cells #[.string x, .slice ta tn tc, .bool true, .slice none 0 0, .slice none 0 0, .int .i64 0] 198)
  rw [World.size_alloc] at this
  exact this

end Go.Proofs.YtjajnhemgphefaaGreatDoor

namespace Go.Proofs.YtjajnhemgphefaaGreatDoor
open Go.RowKit Go.Shelf Go.Maps
set_option linter.unusedVariables false
set_option linter.unusedSimpArgs false

theorem infoDt : (Tryz.prog.info? 161).map (fun i => (i.zero, i.size, i.bytes)) = some (some (.agg #[.string ⟨#[]⟩, .string ⟨#[]⟩, .string ⟨#[]⟩, .int .i64 0]), 4, 56) := by kernel_rfl

theorem step_append_at {P : Program} {ops : Array Oper} {o : Oper} {a : Act} {w : World} {K : Act → World → Prop} {Q : Exit → Act → World → Prop} {E : Prop}
    (hg : o.guard = none) (s x : Operand) (t : TypeId) (hop : o.op = Op.call { callee := Callee.builtin Builtin.append, args := #[s, x], argTypes := #[t, t] })
    (base : Nat) (e : TypeId) (i : TypeInfo) (z : Value) (size bytes : Nat) (h1 : P.underlying t = some (.slice e)) (h2 : P.info? e = some i) (h3 : i.zero = some z) (h4 : i.size = size) (h5 : i.bytes = bytes) (h6 : z.cells.size = size) (h7 : 0 < size)
    (v : Value) (n : Nat) (xs : List Value) (hs : a.eval s = v) (hown : w.ownsRow base e size v n xs)
    (ad : Addr) (m c : Nat) (news : List Value) (hx : a.eval x = .slice (some ad) m c) (hn : news.length = m * size) (hc : ∀ j u, news[j]? = some u → w.cell? (ad.add j) = some u) (h1c : ∀ u ∈ news, u.oneCell' = true)
    (b1 : n + m ≤ maxLen) (b2 : (n + m) * bytes ≤ 140737488355328) (hbase : base ≤ w.heap.size)
    (hK : ∀ v' w', w'.ownsRow base e size v' (n + m) (xs ++ news) → w.grownBy w' v.ownBlock → (v'.ownBlock = v.ownBlock ∨ v'.ownBlock = some w.heap.size) → K (a.put o.dst v') w') :
    if Region.wanted o (yielded ops a.tmps) = true then Oper.wp P o a w K Q else E := by
  have hw : Region.wanted o (yielded ops a.tmps) = true := by simp [Region.wanted, hg]
  rw [if_pos hw]
  obtain ⟨v', w', hrun, r1, r2, _, r3⟩ := run_append_own_at (P := P) w base t o.type e i z size bytes h1 h2 h3 h4 h5 h6 h7 v n xs hown ad m c news hn hc h1c b1 b2 hbase
  unfold Oper.wp
  simp [execOp, hop, resolve, invoke, builtin, hs, hx, hrun, Result.andThen]
  exact hK v' w' r1 r2 r3

set_option maxRecDepth 100000 in
set_option maxHeartbeats 4000000 in
theorem accept_any (S : Nat → Prop) (be : Nat) (e : Eg) (a : Am) (ta : Option Addr) (tc b : Nat) (t : Int) (w : World) (h : EngAt w S be e) (hok : EgOk e) (hak : AmOk a) (hsl : SealT w b (.slice ta a.args.length tc) a.args) (hn : ∀ t ∈ a.args, t.num < 6) (ht : 0 ≤ t ∧ t ≤ 1000000) :
    Calls Tryz.prog 44 #[.pointer (some ⟨be, 0, none⟩), .agg #[.string a.rel, .slice ta a.args.length tc], .int .i64 t] w fun en w' => en = .returned (.int .i64 (accR e a t).1) ∧ EngPost S be (accR e a t).2 w w' := by
  have HE : Hid (EngAt w S be e) := h
  obtain ⟨vr, vn, vk, vf, bm, rb, b45, b87, bfs, Sf, hv⟩ := h
  obtain ⟨N, hN⟩ : ∃ N, w.heap.size = N := ⟨_, rfl⟩
  have hbe := hv.lt
  obtain ⟨na, nc, hnf⟩ := owns_form hv.names
  subst hnf
  obtain ⟨ka, kc, hkf⟩ := owns_form hv.kept
  subst hkf
  obtain ⟨fa, fc, hff⟩ := owns_form hv.frow
  subst hff
  have hblk : Hid (∀ W, Below w.heap.size w W → W.heap[be]? = some (Obj.cells #[vr, .int .i64 e.win, .int .i64 e.lat, .int .i64 e.que, .int .i64 e.mark, .slice na e.names.length nc, .slice ka e.kept.length kc, .map (some bm), .slice fa bfs.length fc] 101 (0, 0))) := fun W hb => (hv.below hb).blk
  have hcells : Hid (∀ W, Below w.heap.size w W → W.cell? ⟨be, 5, none⟩ = some (.slice na e.names.length nc) ∧ W.frozen? ⟨be, 5, none⟩ = false ∧ W.cell? ⟨be, 6, none⟩ = some (.slice ka e.kept.length kc) ∧ W.frozen? ⟨be, 6, none⟩ = false) := fun W hb => by
    have := hblk.out W hb
    refine ⟨by simp [World.cell?, this], by simp [World.frozen?, this], by simp [World.cell?, this], by simp [World.frozen?, this]⟩
  have hov : Hid (∀ W, Below w.heap.size w W → Calls Tryz.prog 81 #[.pointer (some ⟨be, 0, none⟩), .int .i64 t] W fun e' w' => e' = .returned (.bool (overB e.win e.mark t)) ∧ W.drew = w') := fun W hb => by
    have := hblk.out W hb
    refine (isOver_any be t e.win e.mark W (by simp [World.cell?, this]) (by simp [World.cell?, this]) ht ⟨by have := hok.win; omega, hok.win.2⟩).mono ?_
    rintro e' w' ⟨h1, h2⟩; exact ⟨h1, h2.symm⟩
  have hof : Hid (∀ W, Below w.heap.size w W → Calls Tryz.prog 48 #[.agg #[.string a.rel, .slice ta a.args.length tc]] W fun e' w' => e' = .returned (.agg #[.string (groundA nms0 a).rel, .string (groundA nms0 a).x, .string (groundA nms0 a).y]) ∧ Below W.heap.size W w') := fun W hb => of_atom_any a _ b W (hsl.rk (RuleKept.ofBelow hb)) hak.args hn
  have hct : Hid (∀ W, Below w.heap.size w W → Calls Tryz.prog 82 #[.slice ka e.kept.length kc, .agg #[.string (groundA nms0 a).rel, .string (groundA nms0 a).x, .string (groundA nms0 a).y, .int .i64 t]] W fun e' w' => e' = .returned (.bool (hasD e.kept (groundA nms0 a, t))) ∧ Below W.heap.size W w') := fun W hb => containsD_any _ e.kept 0 (groundA nms0 a, t) W (own_below hv.kept hb) (by have := hok.k24; omega)
  have hcl : Hid (∀ W, Below w.heap.size w W → Calls Tryz.prog 83 #[.slice na e.names.length nc] W fun e' w' => ∃ (oa : Option Addr) (oc : Nat), e' = .returned (.slice oa e.names.length oc) ∧ w'.ownsRow W.heap.size 9 1 (.slice oa e.names.length oc) e.names.length (e.names.map Value.string) ∧ Below W.heap.size W w') := fun W hb => cloneN_any _ e.names 0 W (own_below hv.names hb) (by have := hok.n8; omega)
  have hva : Hid (∀ W, Calls Tryz.prog 84 #[.slice ta a.args.length tc] W fun e' w' => e' = .returned (.func (.func 144) #[] #[.pointer (some ⟨W.heap.size, 0, none⟩)]) ∧ W.alloc (.cells #[.slice ta a.args.length tc] 90) = w') := fun W => by
    refine (valuesT_any _ W _ _ _ rfl).mono ?_
    rintro e' w' ⟨h1, h2⟩; exact ⟨h1, h2.symm⟩
  have hadd : Hid (∀ W3 base (oa : Option Addr) (oc : Nat), Below w.heap.size w W3 → base ≤ W3.heap.size → w.heap.size ≤ base → W3.ownsRow base 9 1 (.slice oa e.names.length oc) e.names.length (e.names.map Value.string) → Calls Tryz.prog 76 #[.slice oa e.names.length oc, .func (.func 144) #[] #[.pointer (some ⟨W3.heap.size, 0, none⟩)]] (W3.alloc (.cells #[.slice ta a.args.length tc] 90)) fun e' w' => ∃ (oa : Option Addr) (oc : Nat), e' = .returned (.slice oa (nmL e.names a.args).length oc) ∧ w'.ownsRow base 9 1 (.slice oa (nmL e.names a.args).length oc) (nmL e.names a.args).length ((nmL e.names a.args).map Value.string) ∧ Below base W3 w') := fun W3 base oa oc hb h1 h2 ho => by
    have hb3 : Below W3.heap.size W3 (W3.alloc (.cells #[.slice ta a.args.length tc] 90)) := (Below.refl _ W3).alloc (Nat.le_refl _) _
    refine (addArgs_any _ e.names base W3.heap.size b _ a.args _ (World.alloc_heap_new W3 _) ((hsl.rk (RuleKept.ofBelow hb)).rk (RuleKept.ofBelow hb3)) hak.args (own_below ho hb3) (by simp; omega) (by have := hok.n8; omega)).mono ?_
    rintro e' w' ⟨oa, oc, k1, k2, k3⟩
    exact ⟨oa, oc, k1, k2, (hb3.mono h1).trans k3⟩
  have hV : Hid (EngV w S be e vr (.slice na e.names.length nc) (.slice ka e.kept.length kc) (.slice fa bfs.length fc) bm rb b45 b87 bfs Sf) := hv
  have h24 : e.kept.length ≤ 24 := hok.k24
  have hAcc : Hid (accR e a t = if overB e.win e.mark t = true then (8, e) else if hasD e.kept (groundA nms0 a, t) = true then (9, e) else if e.kept.length = 24 ∨ 8 < (nmL e.names a.args).length then (10, e) else (0, { e with names := nmL e.names a.args, kept := e.kept ++ [(groundA nms0 a, t)] })) := rfl
  have hb0 : ∀ O, Below w.heap.size w (w.alloc O) := fun O => (Below.refl _ w).alloc (Nat.le_refl _) O
  have HB0 : Hid _ := hb0
  clear hv hok hsl hn hb0
  cases hob : overB e.win e.mark t with
  | true =>
    rw [hob, if_pos rfl] at hAcc
    rw [hob] at hov
    rw [hAcc.out]
    clear hob
    go_enter Tryz.func44, Tryz.ntmps44
    go_wp2_with (go_at_call 81; refine (hov.out _ (HB0.out _)).mono ?_; rintro e' w' ⟨rfl, hw'⟩; subst hw')
    go_ret
    exact ⟨rfl, EngPost.same HE.out (HB0.out _).drew⟩
  | false =>
    rw [hob, if_neg (by decide)] at hAcc
    rw [hob] at hov
    clear hob
    go_enter Tryz.func44, Tryz.ntmps44
    go_wp2_with (go_at_call 81; refine (hov.out _ (HB0.out _)).mono ?_; rintro e' w' ⟨rfl, hw'⟩; subst hw')
    have hbD : Hid (Below w.heap.size w (w.alloc (.cells #[.string a.rel, .slice ta a.args.length tc] 92)).drew) := (HB0.out _).drew
    have hbx : Hid (∀ W, Below (w.alloc (.cells #[.string a.rel, .slice ta a.args.length tc] 92)).drew.heap.size (w.alloc (.cells #[.string a.rel, .slice ta a.args.length tc] 92)).drew W → Below w.heap.size w W ∧ W.cell? ⟨N, 0, none⟩ = some (.string a.rel) ∧ W.cell? ⟨N, 1, none⟩ = some (.slice ta a.args.length tc) ∧ N + 1 ≤ W.heap.size) := fun W hb => by
      have h1 := (hb.block w.heap.size (by show _ < (w.alloc _).heap.size; simp)).trans (World.alloc_heap_new w _)
      rw [hN] at h1
      have h2 : (w.alloc (.cells #[.string a.rel, .slice ta a.args.length tc] 92)).drew.heap.size = w.heap.size + 1 := by show (w.alloc _).heap.size = _; simp
      have h3 := hb.size
      exact ⟨hbD.out.trans (hb.mono (by omega)), by simp [World.cell?, h1], by simp [World.cell?, h1], by omega⟩
    generalize (w.alloc (.cells #[.string a.rel, .slice ta a.args.length tc] 92)).drew = WD at *
    refine (hof.out WD hbD.out).mono ?_
    rintro e' W1 ⟨rfl, hb1⟩
    obtain ⟨hbw1, c0, c1, hs1⟩ := hbx.out W1 hb1
    obtain ⟨c5, y5, c6, y6⟩ := hcells.out W1 hbw1
    obtain ⟨gd, hgd⟩ : ∃ gd, groundA nms0 a = gd := ⟨_, rfl⟩
    rw [hgd] at hct hAcc
    simp only [hgd]
    obtain ⟨W2, hW2⟩ : ∃ W2, W1.alloc (.cells #[.string gd.rel, .string gd.x, .string gd.y, .int .i64 t] 161) = W2 := ⟨_, rfl⟩
    have hb2 : Below W1.heap.size W1 W2 := by rw [← hW2]; exact (Below.refl _ W1).alloc (Nat.le_refl _) _
    have hbw2 : Below w.heap.size w W2 := hbw1.trans (hb2.mono hbw1.size)
    have hs2 : W2.heap.size = W1.heap.size + 1 := by rw [← hW2]; simp
    obtain ⟨N1, hN1⟩ : ∃ N1, W1.heap.size = N1 := ⟨_, rfl⟩
    have hbox : Hid (∀ W, Below W2.heap.size W2 W → Below w.heap.size w W ∧ W.cell? ⟨N, 0, none⟩ = some (.string a.rel) ∧ W.cell? ⟨N, 1, none⟩ = some (.slice ta a.args.length tc) ∧ W.cell? ⟨N1, 0, none⟩ = some (.string gd.rel) ∧ W.cell? ⟨N1, 1, none⟩ = some (.string gd.x) ∧ W.cell? ⟨N1, 2, none⟩ = some (.string gd.y) ∧ W.cell? ⟨N1, 3, none⟩ = some (.int .i64 t)) := fun W hb => by
      have h1 : W.heap[N1]? = some (Obj.cells #[.string gd.rel, .string gd.x, .string gd.y, .int .i64 t] 161 (0, 0)) := by
        refine (hb.block N1 (by omega)).trans ?_
        rw [← hW2, ← hN1]; exact World.alloc_heap_new W1 _
      have h2 : Below W1.heap.size W1 W := hb2.trans (hb.mono (by omega))
      have h3 := hbx.out W (hb1.trans (h2.mono hb1.size))
      exact ⟨h3.1, h3.2.1, h3.2.2.1, by simp [World.cell?, h1], by simp [World.cell?, h1], by simp [World.cell?, h1], by simp [World.cell?, h1]⟩
    obtain ⟨_, d0, d1, q0, q1, q2, q3⟩ := hbox.out W2 (Below.refl _ _)
    obtain ⟨k5, z5, k6, z6⟩ := hcells.out W2 hbw2
    have hD2 : Hid (Below w.heap.size w W2.drew) := hbw2.drew
    have HN1 : Hid _ := hN1
    have HS2 : Hid _ := hs2
    have HN : Hid _ := hN
    clear hs2 hb2 hb1 hbx c0 c1 c5 y5 c6 y6 hof hov hgd
    cases hhd : hasD e.kept (gd, t) with
    | true =>
      rw [hhd, if_pos rfl] at hAcc
      rw [hhd] at hct
      clear hhd
      go_wp2_with fail
      first | (go_region_with (go_at_call 82; refine (hct.out _ hD2.out).mono ?_; rintro e' W3 ⟨rfl, hb3⟩)) | fail
      all_goals go_wp2
      all_goals go_ret
      all_goals (rw [hAcc.out]; exact ⟨rfl, EngPost.same HE.out (hD2.out.trans (hb3.mono hD2.out.size))⟩)
    | false =>
      rw [hhd, if_neg (by decide)] at hAcc
      rw [hhd] at hct
      clear hhd
      have h3f : Hid (∀ W3, Below W2.drew.heap.size W2.drew W3 → Below w.heap.size w W3 ∧ W3.cell? ⟨N, 1, none⟩ = some (.slice ta a.args.length tc) ∧ W3.cell? ⟨be, 5, none⟩ = some (.slice na e.names.length nc) ∧ W3.frozen? ⟨be, 5, none⟩ = false ∧ Hid (Below w.heap.size w W3.drew)) := fun W3 hb3 => by
        have hb3' : Below W2.heap.size W2 W3 := ⟨hb3.os, hb3.tape, hb3.output, hb3.size, hb3.block⟩
        have h1 := hbox.out W3 hb3'
        have h2 := hcells.out W3 h1.1
        exact ⟨h1.1, h1.2.2.1, h2.1, h2.2.1, h1.1.drew⟩
      have h4f : Hid (∀ W3, Below W2.drew.heap.size W2.drew W3 → ∀ W4, Below W3.drew.heap.size W3.drew W4 → W4.cell? ⟨N, 1, none⟩ = some (.slice ta a.args.length tc) ∧ Below w.heap.size w W4 ∧ W3.drew.heap.size ≤ W4.heap.size ∧ w.heap.size ≤ W3.drew.heap.size) := fun W3 hb3 W4 hb => by
        have hb3' : Below W2.heap.size W2 W3 := ⟨hb3.os, hb3.tape, hb3.output, hb3.size, hb3.block⟩
        have h1 : Below W2.heap.size W2 W4 := hb3'.trans ⟨hb.os, hb.tape, hb.output, hb.size, fun k hk => hb.block k (by have := hb3'.size; show k < W3.heap.size; omega)⟩
        have h2 := hbox.out W4 h1
        exact ⟨h2.2.2.1, h2.1, hb.size, (hbox.out W3 hb3').1.size⟩
      have hne : be ≠ N1 := by have := hbw1.size; have := HN1.out; omega
      have h5f : Hid (∀ W3, Below W2.drew.heap.size W2.drew W3 → ∀ W4 W5, Below W3.drew.heap.size W3.drew W4 → Below W3.drew.heap.size W4 W5 → Below w.heap.size w W5 ∧ W5.cell? ⟨be, 5, none⟩ = some (.slice na e.names.length nc) ∧ W5.frozen? ⟨be, 5, none⟩ = false ∧ W5.cell? ⟨be, 6, none⟩ = some (.slice ka e.kept.length kc) ∧ W5.frozen? ⟨be, 6, none⟩ = false ∧ (∀ v, (W5.setCell ⟨be, 5, none⟩ v).cell? ⟨be, 6, none⟩ = some (.slice ka e.kept.length kc)) ∧ (∀ v, (W5.setCell ⟨be, 5, none⟩ v).cell? ⟨N1, 0, none⟩ = some (.string gd.rel)) ∧ (∀ v, (W5.setCell ⟨be, 5, none⟩ v).cell? ⟨N1, 1, none⟩ = some (.string gd.x)) ∧ (∀ v, (W5.setCell ⟨be, 5, none⟩ v).cell? ⟨N1, 2, none⟩ = some (.string gd.y)) ∧ (∀ v, (W5.setCell ⟨be, 5, none⟩ v).cell? ⟨N1, 3, none⟩ = some (.int .i64 t))) := fun W3 hb3 W4 W5 h1 h2 => by
        have hb3' : Below W2.heap.size W2 W3 := ⟨hb3.os, hb3.tape, hb3.output, hb3.size, hb3.block⟩
        have h3 := h1.trans h2
        have h4 := hbox.out W5 (hb3'.trans ⟨h3.os, h3.tape, h3.output, h3.size, fun k hk => h3.block k (by have := hb3'.size; show k < W3.heap.size; omega)⟩)
        have h5 := hcells.out W5 h4.1
        have h6 := hblk.out W5 h4.1
        have h7 : ∀ v, (W5.setCell ⟨be, 5, none⟩ v).cell? ⟨be, 6, none⟩ = some (.slice ka e.kept.length kc) := fun v => by
          have := heap_set h6 5 v
          simp [World.cell?, this]
        exact ⟨h4.1, h5.1, h5.2.1, h5.2.2.1, h5.2.2.2, h7, fun v => (cell_other _ _ _ _ _ _ (Ne.symm hne)).trans h4.2.2.2.1, fun v => (cell_other _ _ _ _ _ _ (Ne.symm hne)).trans h4.2.2.2.2.1, fun v => (cell_other _ _ _ _ _ _ (Ne.symm hne)).trans h4.2.2.2.2.2.1, fun v => (cell_other _ _ _ _ _ _ (Ne.symm hne)).trans h4.2.2.2.2.2.2⟩
      by_cases hf : e.kept.length = 24 ∨ 8 < (nmL e.names a.args).length
      · rw [if_pos hf] at hAcc
        by_cases hf1 : e.kept.length = 24
        · have i2 : ((e.kept.length : Int) == 24) = true := by simp [hf1]
          clear hf hf1
          go_wp2_with fail
          first | (go_region_with (go_at_call 82; refine (hct.out _ hD2.out).mono ?_; rintro e' W3 ⟨rfl, hb3⟩)) | fail
          all_goals go_wp2_with fail
          all_goals (
            obtain ⟨hbw3, r1, m5, x5, hbD3⟩ := h3f.out W3 hb3
            have hb4' : Hid _ := h4f.out W3 hb3
            have hb5' : Hid _ := h5f.out W3 hb3
            clear hb3
            first | (go_region_with (first | (go_at_call 83; refine (hcl.out _ hbD3.out).mono ?_; rintro e' W4 ⟨oa, oc, rfl, ho4, hb4⟩; obtain ⟨s1, hbw4, hz4, hz3⟩ := hb4'.out W4 hb4) | (go_at_call 84; refine (hva.out _).mono ?_; rintro e' w' ⟨rfl, hw'⟩; subst hw') | (go_at_call 76; refine (hadd.out W4 W3.drew.heap.size oa oc hbw4 hz4 hz3 ho4).mono ?_; rintro e' W5 ⟨pa, pc, rfl, ho5, hb5⟩; obtain ⟨hbw5, f5, y5, f6, y6, g6, g0, g1, g2, g3⟩ := hb5'.out W4 W5 hb4 hb5; clear hb4'))) | fail)
          all_goals go_wp2
          all_goals go_ret
          all_goals (rw [hAcc.out]; exact ⟨rfl, EngPost.same HE.out hbw5⟩)
        · have i1 : ¬ (e.kept.length : Int) = 24 := by omega
          have i2 : ((e.kept.length : Int) == 24) = false := by simp [i1]
          have i3 : (8 : Int) < ((nmL e.names a.args).length : Int) := by omega
          clear hf
          go_wp2_with fail
          first | (go_region_with (go_at_call 82; refine (hct.out _ hD2.out).mono ?_; rintro e' W3 ⟨rfl, hb3⟩)) | fail
          all_goals go_wp2_with fail
          all_goals (
            obtain ⟨hbw3, r1, m5, x5, hbD3⟩ := h3f.out W3 hb3
            have hb4' : Hid _ := h4f.out W3 hb3
            have hb5' : Hid _ := h5f.out W3 hb3
            clear hb3
            first | (go_region_with (first | (go_at_call 83; refine (hcl.out _ hbD3.out).mono ?_; rintro e' W4 ⟨oa, oc, rfl, ho4, hb4⟩; obtain ⟨s1, hbw4, hz4, hz3⟩ := hb4'.out W4 hb4) | (go_at_call 84; refine (hva.out _).mono ?_; rintro e' w' ⟨rfl, hw'⟩; subst hw') | (go_at_call 76; refine (hadd.out W4 W3.drew.heap.size oa oc hbw4 hz4 hz3 ho4).mono ?_; rintro e' W5 ⟨pa, pc, rfl, ho5, hb5⟩; obtain ⟨hbw5, f5, y5, f6, y6, g6, g0, g1, g2, g3⟩ := hb5'.out W4 W5 hb4 hb5; clear hb4'))) | fail)
          all_goals go_wp2
          all_goals go_ret
          all_goals (rw [hAcc.out]; exact ⟨rfl, EngPost.same HE.out hbw5⟩)
      · rw [if_neg hf] at hAcc
        have i1 : ¬ (e.kept.length : Int) = 24 := by omega
        have i2 : ((e.kept.length : Int) == 24) = false := by simp [i1]
        have i3 : ¬ (8 : Int) < ((nmL e.names a.args).length : Int) := by omega
        clear hf
        obtain ⟨j0, hi, hz0, hz1, hz2⟩ := info_parts infoDt
        have hb1' : e.kept.length + 1 ≤ maxLen := by unfold maxLen; omega
        have hb2' : (e.kept.length + 1) * 56 ≤ 140737488355328 := by omega
        have hkeep : Hid (∀ W5, Below w.heap.size w W5 → ∀ v, (W5.setCell ⟨be, 5, none⟩ v).drew.ownsRow 0 161 4 (.slice ka e.kept.length kc) e.kept.length (e.kept.flatMap lastC)) := fun W5 hb v => by
          have h5 := hV.out.below hb
          have := owns_set h5.kept ⟨be, 5, none⟩ v (owns_ne h5.kept h5.blk (by decide))
          exact ⟨this.1, this.2⟩
        have hlt5 : Hid (∀ W5, Below w.heap.size w W5 → ∀ v, be < (W5.setCell ⟨be, 5, none⟩ v).drew.heap.size) := fun W5 hb v => by
          have := hb.size
          show be < (W5.setCell ⟨be, 5, none⟩ v).heap.size
          simp
          omega
        have hend : Hid (∀ W5 nb (pa : Option Addr) (pc : Nat), w.heap.size ≤ nb → Below w.heap.size w W5 → W5.ownsRow nb 9 1 (.slice pa (nmL e.names a.args).length pc) (nmL e.names a.args).length ((nmL e.names a.args).map Value.string) → ∀ (O : Obj) (w1 : World) (v' : Value), w1.ownsRow 0 161 4 v' (e.kept.length + 1) (e.kept.flatMap lastC ++ [.string gd.rel, .string gd.x, .string gd.y, .int .i64 t]) → ((W5.setCell ⟨be, 5, none⟩ (.slice pa (nmL e.names a.args).length pc)).drew.alloc O).grownBy w1 (Value.slice ka e.kept.length kc).ownBlock → (v'.ownBlock = (Value.slice ka e.kept.length kc).ownBlock ∨ v'.ownBlock = some ((W5.setCell ⟨be, 5, none⟩ (.slice pa (nmL e.names a.args).length pc)).drew.alloc O).heap.size) → w1.cell? ⟨be, 6, none⟩ = some (.slice ka e.kept.length kc) ∧ w1.frozen? ⟨be, 6, none⟩ = false ∧ EngPost S be { e with names := nmL e.names a.args, kept := e.kept ++ [(gd, t)] } w (w1.setCell ⟨be, 6, none⟩ v')) := fun W5 nb pa pc hnb hb ho O w1 v' h1 h2 h3 =>
          acc_mem hV.out hb (d := (gd, t)) hnb ho O h1 ⟨h2.os, h2.tape, h2.output, h2.size, h2.block⟩ h3
        go_wp2_with fail
        first | (go_region_with (go_at_call 82; refine (hct.out _ hD2.out).mono ?_; rintro e' W3 ⟨rfl, hb3⟩)) | fail
        all_goals go_wp2_with fail
        all_goals (
          obtain ⟨hbw3, r1, m5, x5, hbD3⟩ := h3f.out W3 hb3
          have hb4' : Hid _ := h4f.out W3 hb3
          have hb5' : Hid _ := h5f.out W3 hb3
          clear hb3
          first | (go_region_with (first | (go_at_call 83; refine (hcl.out _ hbD3.out).mono ?_; rintro e' W4 ⟨oa, oc, rfl, ho4, hb4⟩; obtain ⟨s1, hbw4, hz4, hz3⟩ := hb4'.out W4 hb4) | (go_at_call 84; refine (hva.out _).mono ?_; rintro e' w' ⟨rfl, hw'⟩; subst hw') | (go_at_call 76; refine (hadd.out W4 W3.drew.heap.size oa oc hbw4 hz4 hz3 ho4).mono ?_; rintro e' W5 ⟨pa, pc, rfl, ho5, hb5⟩; obtain ⟨hbw5, f5, y5, f6, y6, g6, g0, g1, g2, g3⟩ := hb5'.out W4 W5 hb4 hb5; clear hb4'))) | fail)
        all_goals go_wp2_with fail
        all_goals (
          have hk5 : (W5.setCell ⟨be, 5, none⟩ (.slice pa (nmL e.names a.args).length pc)).drew.ownsRow 0 161 4 (.slice ka e.kept.length kc) e.kept.length (e.kept.flatMap lastC) := hkeep.out W5 hbw5 _
          have hfin : Hid _ := hend.out W5 _ pa pc hz3 hbw5 ho5
          have hs5 : be < (W5.setCell ⟨be, 5, none⟩ (.slice pa (nmL e.names a.args).length pc)).drew.heap.size := hlt5.out W5 hbw5 _
          have v0 : (W5.setCell ⟨be, 5, none⟩ (.slice pa (nmL e.names a.args).length pc)).drew.cell? ⟨N1, 0, none⟩ = some (.string gd.rel) := g0 _
          have v1 : (W5.setCell ⟨be, 5, none⟩ (.slice pa (nmL e.names a.args).length pc)).drew.cell? ⟨N1, 1, none⟩ = some (.string gd.x) := g1 _
          have v2 : (W5.setCell ⟨be, 5, none⟩ (.slice pa (nmL e.names a.args).length pc)).drew.cell? ⟨N1, 2, none⟩ = some (.string gd.y) := g2 _
          have v3 : (W5.setCell ⟨be, 5, none⟩ (.slice pa (nmL e.names a.args).length pc)).drew.cell? ⟨N1, 3, none⟩ = some (.int .i64 t) := g3 _
          have v6 : (W5.setCell ⟨be, 5, none⟩ (.slice pa (nmL e.names a.args).length pc)).drew.cell? ⟨be, 6, none⟩ = some (.slice ka e.kept.length kc) := g6 _
          clear g0 g1 g2 g3 g6 f5 y5 f6 y6 ho5 hb5 hb5'
          generalize hV5 : (W5.setCell ⟨be, 5, none⟩ (.slice pa (nmL e.names a.args).length pc)).drew = V5 at *
          have v6' : ∀ O, (V5.alloc O).cell? ⟨be, 6, none⟩ = some (.slice ka e.kept.length kc) := fun O => cell_later ((Below.refl V5.heap.size V5).alloc (Nat.le_refl _) O) v6
          go_region_law (first | (refine step_append_at rfl (.tmp 50) (.tmp 52) 96 rfl 0 161 j0 (.agg #[.string ⟨#[]⟩, .string ⟨#[]⟩, .string ⟨#[]⟩, .int .i64 0]) 4 56 Tryz.underlying96 hi hz0 hz1 hz2 rfl (by decide) (.slice ka e.kept.length kc) e.kept.length (e.kept.flatMap lastC) (by simp [Act.eval, Act.put]) (World.ownsRow.alloc hk5 _) ⟨V5.heap.size, 0, none⟩ 1 1 [.string gd.rel, .string gd.x, .string gd.y, .int .i64 t] (by simp [Act.eval, Act.put]) rfl (cell_four_new _ _ _ _ _ _) (by simp [Value.oneCell']) hb1' hb2' (Nat.zero_le _) ?_; intro v' w1 hown1 hgrow1 hat1; obtain ⟨g', cap', hv'⟩ := ownsRow_succ hown1; subst hv'; obtain ⟨s6, t6, hpost⟩ := hfin.out _ w1 _ hown1 hgrow1 hat1) | go_simp))
        all_goals (
          go_wp2
          go_ret
          rw [hAcc.out]
          exact ⟨rfl, hpost⟩)

end Go.Proofs.YtjajnhemgphefaaGreatDoor
