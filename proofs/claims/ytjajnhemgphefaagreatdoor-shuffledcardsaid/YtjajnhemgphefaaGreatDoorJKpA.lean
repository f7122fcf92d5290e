/-
  What the statements of ebbkeep call beside the program: pick, point, of.
  The statement Reset in plain data: one relation that is another; its facts, and what is told of them.
-/
import Derived.Test.YtjajnhemgphefaaGreatDoorJFirst
import Derived.BigQuiet
import Derived.Test.YtjajnhemgphefaaGreatDoorJEgT
import Derived.KernelRfl
namespace Go.Proofs.YtjajnhemgphefaaGreatDoor
open Go.RowKit
set_option linter.unusedVariables false
set_option linter.unusedSimpArgs false

def ptB (i : Nat) : ByteArray := ⟨#[UInt8.ofNat (97 + i)]⟩
/-- A relation of two points, as it is written. -/
def ofB (r : ByteArray) (a b : Nat) : ByteArray := ⟨r.data ++ #[40, UInt8.ofNat (97 + a), 44, UInt8.ofNat (97 + b), 41]⟩
theorem lt6 {a : Nat} (h : a < 6) : a = 0 ∨ a = 1 ∨ a = 2 ∨ a = 3 ∨ a = 4 ∨ a = 5 := by omega
def pickZ (c n : Int) : Int := if c < 0 then (-(c + 1)) % n else c % n
theorem pickZ_bounds (c n : Int) (hn : 0 < n) : 0 ≤ pickZ c n ∧ pickZ c n < n := by
  unfold pickZ
  split
  · exact ⟨Int.emod_nonneg _ (by omega), Int.emod_lt_of_pos _ hn⟩
  · exact ⟨Int.emod_nonneg _ (by omega), Int.emod_lt_of_pos _ hn⟩
theorem pick_neg (c n : Int) (hc : c < 0) : -(c + 1).tmod n = pickZ c n := by
  unfold pickZ
  rw [if_pos hc]
  obtain ⟨a, ha⟩ : ∃ a, a = -(c + 1) := ⟨_, rfl⟩
  have : c + 1 = -a := by omega
  rw [this, Int.neg_tmod, Int.neg_neg, Int.neg_neg, Int.tmod_eq_emod_of_nonneg (by omega)]

set_option maxHeartbeats 400000 in
theorem kpick_any (c n : Int) (w : World) (h1 : -9223372036854775808 ≤ c) (h2 : c ≤ 9223372036854775807) (hn : 0 < n) (hn2 : n ≤ 1000) :
    Calls Tryz.prog 19 #[.int .i64 c, .int .i64 n] w fun e w' => e = .returned (.int .i64 (pickZ c n)) ∧ w' = w := by
  have hn0 : (n == 0) = false := by simp; omega
  by_cases hc : c < 0
  · go_enter Tryz.func19, Tryz.ntmps19
    go_wp2
    go_ret
    exact ⟨ret_int (pick_neg c n hc), rfl⟩
  · go_enter Tryz.func19, Tryz.ntmps19
    go_wp2
    go_ret
    exact ⟨ret_int (by unfold pickZ; rw [if_neg (by omega)]), rfl⟩

set_option maxRecDepth 100000 in
theorem kpoint_any (n : Nat) (hn : n < 6) (w : World) :
    Calls Tryz.prog 45 #[.int .i64 n] w fun e w' => e = .returned (.string (ptB n)) ∧ w' = w := by
  rcases lt6 hn with rfl | rfl | rfl | rfl | rfl | rfl
  all_goals
    go_enter Tryz.func45, Tryz.ntmps45
    go_wp2
    go_ret
    exact ⟨rfl, rfl⟩

set_option maxRecDepth 100000 in
theorem kof_any (r : ByteArray) (a b : Nat) (hr : r.size ≤ 1000) (ha : a < 6) (hb : b < 6) (w : World) :
    Calls Tryz.prog 21 #[.string r, .int .i64 a, .int .i64 b] w fun e w' => e = .returned (.string (ofB r a b)) ∧ w' = w := by
  have hp : Hid (∀ n : Nat, n < 6 → ∀ W, Calls Tryz.prog 45 #[.int .i64 n] W fun e w' => e = .returned (.string (ptB n)) ∧ W = w') := fun n hn W => (kpoint_any n hn W).mono (by rintro e w' ⟨h1, h2⟩; exact ⟨h1, h2.symm⟩)
  have s1 : ∀ n, (ptB n).size = 1 := fun _ => rfl
  have n1 : ¬ 9223372036854775807 < r.size + 1 := by omega
  have n2 : ¬ 9223372036854775807 < r.size + 1 + (ptB a).size := by rw [s1]; omega
  have n3 : ¬ 9223372036854775807 < r.size + 1 + (ptB a).size + 1 := by rw [s1]; omega
  have n4 : ¬ 9223372036854775807 < r.size + 1 + (ptB a).size + 1 + (ptB b).size := by rw [s1, s1]; omega
  have n5 : ¬ 9223372036854775807 < r.size + 1 + (ptB a).size + 1 + (ptB b).size + 1 := by rw [s1, s1]; omega
  have HO : Hid (r ++ ⟨#[40]⟩ ++ ptB a ++ ⟨#[44]⟩ ++ ptB b ++ ⟨#[41]⟩ = ofB r a b) := by
    show _ = _
    unfold ofB ptB
    cases r with
    | mk d =>
      apply ByteArray.ext
      apply Array.ext'
      simp [ByteArray.data_append]
  clear s1
  go_enter Tryz.func21, Tryz.ntmps21
  go_wp2_with (first | (go_at_call 45; refine (hp.out a ha _).mono ?_; rintro e w' ⟨rfl, rfl⟩) | (go_at_call 45; refine (hp.out b hb _).mono ?_; rintro e w' ⟨rfl, rfl⟩))
  go_ret
  rw [← HO.out]
  exact ⟨rfl, rfl⟩

end Go.Proofs.YtjajnhemgphefaaGreatDoor

namespace Go.Proofs.YtjajnhemgphefaaGreatDoor
open Go.RowKit Go.Shelf Go.Maps
set_option linter.unusedVariables false
set_option linter.unusedSimpArgs false

def bP : ByteArray := ⟨#[112]⟩
def bQ : ByteArray := ⟨#[113]⟩
def amB (r : ByteArray) (a b : Nat) : Am := ⟨r, [⟨ptB a, 0⟩, ⟨ptB b, 0⟩]⟩
theorem pt_inj {i j : Nat} (hi : i < 6) (hj : j < 6) (h : ptB i = ptB j) : i = j := by
  have h1 := congrArg (fun x : ByteArray => (x.data[0]?.getD 0).toNat) h
  simp [ptB] at h1
  omega
theorem pt_ne (i : Nat) : ptB i ≠ eB := by
  intro h
  have h1 := congrArg (fun x : ByteArray => x.data.size) h
  simp [ptB, eB] at h1

def txtQ : ByteArray := ⟨#[112, 40, 88, 44, 89, 41, 58, 45, 113, 40, 88, 44, 89, 41, 46]⟩
theorem q_count : Lib.runeCount txtQ = 15 := by kernel_rfl
theorem q_parse : parseR txtQ = .ok (copyR bP bQ) := by kernel_rfl
theorem q_check : checkS (copyR bP bQ) = (0, 0) := by kernel_rfl
theorem atom_q {a b : Nat} (ha : a < 6) (hb : b < 6) : atomR (ofB bQ a b) = some (amB bQ a b) := by
  rcases lt6 ha with rfl | rfl | rfl | rfl | rfl | rfl <;> rcases lt6 hb with rfl | rfl | rfl | rfl | rfl | rfl <;> kernel_rfl
theorem q_ams : (copyR bP bQ).flatMap ruleAms = [⟨bP, [v0T, v1T]⟩, ⟨bQ, [v0T, v1T]⟩] := rfl
theorem q_arP : arR (copyR bP bQ) bP = 2 := by kernel_rfl
theorem q_arQ : arR (copyR bP bQ) bQ = 2 := by kernel_rfl
theorem q_der : derB (copyR bP bQ) bQ = false := by kernel_rfl
theorem q_ok : RsOk (copyR bP bQ) := by
  have hA : ∀ x, x.size ≤ 1200 → AmOk ⟨x, [v0T, v1T]⟩ := fun x hx => ⟨hx, Nat.le_refl 2, fun t ht => by
    simp only [List.mem_cons, List.not_mem_nil, or_false] at ht
    rcases ht with rfl | rfl <;> exact ⟨by decide, by decide⟩⟩
  refine ⟨by decide, fun r hr => ?_, fun a ha => ?_, fun a ha t ht => ?_, fun r hr t ht _ => ?_⟩
  · simp only [copyR, List.mem_cons, List.not_mem_nil, or_false] at hr
    subst hr
    exact ⟨hA _ (by decide), by decide, fun a ha => by simp only [List.mem_cons, List.not_mem_nil, or_false] at ha; subst ha; exact hA _ (by decide)⟩
  · rw [q_ams] at ha
    simp only [List.mem_cons, List.not_mem_nil, or_false] at ha
    rcases ha with rfl | rfl
    · exact ⟨q_arP.symm, .inr rfl⟩
    · exact ⟨q_arQ.symm, .inr rfl⟩
  · rw [q_ams] at ha
    simp only [List.mem_cons, List.not_mem_nil, or_false] at ha
    rcases ha with rfl | rfl <;> (simp only [List.mem_cons, List.not_mem_nil, or_false] at ht; rcases ht with rfl | rfl <;> decide)
  · simp only [copyR, List.mem_cons, List.not_mem_nil, or_false] at hr
    subst hr
    exact ⟨⟨bQ, [v0T, v1T]⟩, List.mem_cons_self, t, ht, by assumption, rfl⟩
theorem q_given : givenL (copyR bP bQ) = [] := rfl

theorem md_ok {e : Eg} (h : EgOk e) : mdOk (arR e.rs) e.M := fun g hg => ⟨(h.md g hg).1, uni_ok (fun x hx => big (rels_size h.rs x hx)) (fun x hx => big (h.nsz x hx)) g (h.md g hg).2⟩

/-- The i-th fact. -/
def qG (r : ByteArray) (i : Nat) : Gd := ⟨r, ptB (i % 6), ptB (i / 6)⟩
def qf (i : Nat) : Gd × Int := (qG bQ i, 5)
theorem qG_inj {r : ByteArray} {i j : Nat} (hi : i < 36) (hj : j < 36) (h : qG r i = qG r j) : i = j := by
  unfold qG at h
  simp only [Gd.mk.injEq, true_and] at h
  have h1 := pt_inj (by omega) (by omega) h.1
  have h2 := pt_inj (by omega) (by omega) h.2
  omega
theorem qG_nodup (r : ByteArray) {k : Nat} (hk : k ≤ 36) : ((List.range k).map (qG r)).Nodup := by
  rw [List.Nodup, List.pairwise_map]
  refine List.Pairwise.imp_of_mem (fun {a b} ha hb hne e => hne (qG_inj ?_ ?_ e)) List.nodup_range
  · have := List.mem_range.1 ha; omega
  · have := List.mem_range.1 hb; omega

/-- What holds of the one relation is what is given of the other. -/
theorem reset_model {F : List (Gd × Int)} {M : Gd → Option Int} (hM : LeastM (copyR bP bQ) F M) (hF : ∀ x ∈ F, x.1.rel = bQ) (x y : ByteArray) : (M ⟨bP, x, y⟩).isSome = true ↔ ∃ t, (⟨bQ, x, y⟩, t) ∈ F := by
  have hne : bP ≠ bQ := by decide
  constructor
  · intro h
    obtain ⟨t, ht⟩ := Option.isSome_iff_exists.1 h
    rcases (copy_der hne F (t - 1) x y).1 (hM.sound _ t ht (t - 1) (by omega)) with ⟨u, h1, _⟩ | ⟨u, h1, _⟩
    · exact absurd (hF _ h1) hne
    · exact ⟨u, h1⟩
  · rintro ⟨t, h⟩
    obtain ⟨u, hu, _⟩ := hM.complete (t - 1) ⟨bP, x, y⟩ ((copy_der hne F (t - 1) x y).2 (.inr ⟨t, h, by omega⟩))
    rw [hu]; rfl
theorem none_model {R : List Rl} {M : Gd → Option Int} (hM : LeastM R [] M) (g : Gd) : M g = none := by
  cases h : M g with
  | none => rfl
  | some t =>
    obtain ⟨x, hx, _⟩ := der_some (hM.sound g t h (t - 1) (by omega))
    cases hx
/-- So many are told as there are facts. -/
theorem reset_fit {k : Nat} (hk : k ≤ 36) {M : Gd → Option Int} (hM : LeastM (copyR bP bQ) (((List.range k).map qf).map (fun d => (d.1, d.2 + 20))) M) (hok : mdOk (arR (copyR bP bQ)) M) {gs : List Gd} (h : fitP M (formA bP 2) gs) : gs.length = k := by
  obtain ⟨h1, h2⟩ := fit_vv hok q_arP (gs := gs) h
  have hF : ∀ x ∈ ((List.range k).map qf).map (fun d => (d.1, d.2 + 20)), x.1.rel = bQ := by
    intro x hx
    simp only [List.map_map, List.mem_map, Function.comp] at hx
    obtain ⟨i, _, rfl⟩ := hx
    rfl
  have hp : gs.Perm ((List.range k).map (qG bP)) := (List.perm_ext_iff_of_nodup h1 (qG_nodup bP hk)).2 (fun g => by
    rw [h2 g]
    constructor
    · rintro ⟨e1, e2⟩
      have hg : (⟨bP, g.x, g.y⟩ : Gd) = g := by rw [← e1]
      rw [← hg] at e2
      obtain ⟨t, ht⟩ := (reset_model hM hF g.x g.y).1 e2
      simp only [List.map_map, List.mem_map, Function.comp] at ht
      obtain ⟨i, hi, e3⟩ := ht
      refine List.mem_map.2 ⟨i, hi, ?_⟩
      rw [← hg]
      simp only [qf, qG, Prod.mk.injEq, Gd.mk.injEq, true_and] at e3
      unfold qG
      rw [e3.1.1, e3.1.2]
    · intro hg
      obtain ⟨i, hi, rfl⟩ := List.mem_map.1 hg
      refine ⟨rfl, (reset_model hM hF _ _).2 ⟨25, ?_⟩⟩
      simp only [List.map_map, List.mem_map, Function.comp]
      exact ⟨i, hi, rfl⟩)
  have := hp.length_eq
  simpa using this

/-- The names of six points. -/
def PtsOk (ns : List ByteArray) : Prop := ns.Nodup ∧ ∀ x ∈ ns, ∃ j, j < 6 ∧ x = ptB j
theorem pts_nil : PtsOk [] := ⟨List.nodup_nil, by simp⟩
theorem pts_add {ns : List ByteArray} (h : PtsOk ns) (r : ByteArray) {a b : Nat} (ha : a < 6) (hb : b < 6) : PtsOk (nmL ns (amB r a b).args) := by
  refine ⟨nmL_nodup _ _ h.1, fun x hx => ?_⟩
  rcases (nmL_mem _ _ _).1 hx with hx | ⟨t, ht, _, rfl⟩
  · exact h.2 x hx
  · simp only [amB, List.mem_cons, List.not_mem_nil, or_false] at ht
    rcases ht with rfl | rfl
    · exact ⟨a, ha, rfl⟩
    · exact ⟨b, hb, rfl⟩
theorem pts_six {ns : List ByteArray} (h : PtsOk ns) : ns.length ≤ 6 := by
  have := nodup_le ns ((List.range 6).map ptB) h.1 (fun x hx => by
    obtain ⟨j, hj, rfl⟩ := h.2 x hx
    exact List.mem_map.2 ⟨j, List.mem_range.2 hj, rfl⟩)
  simpa using this
theorem ground_am (r : ByteArray) (a b : Nat) : groundA nms0 (amB r a b) = ⟨r, ptB a, ptB b⟩ := by
  show (⟨r, ofT nms0 ⟨ptB a, 0⟩, ofT nms0 ⟨ptB b, 0⟩⟩ : Gd) = _
  rw [ofT_name (by exact pt_ne a), ofT_name (by exact pt_ne b)]
theorem am_ground (r : ByteArray) (a b : Nat) : groundB (amB r a b) = true := by
  unfold groundB amB
  have h : ∀ i, varB ⟨ptB i, 0⟩ = false := fun i => by
    unfold varB
    cases hc : (ptB i).toList.isEmpty with
    | false => rfl
    | true => exact absurd ((empty_iff _).1 hc) (pt_ne i)
  simp [h]
theorem am_ok (r : ByteArray) (hr : r.size ≤ 1200) (a b : Nat) : AmOk (amB r a b) := by
  refine ⟨hr, Nat.le_refl 2, fun t ht => ?_⟩
  simp only [amB, List.mem_cons, List.not_mem_nil, or_false] at ht
  rcases ht with rfl | rfl <;> exact ⟨by show (1 : Nat) ≤ 1200; decide, by show (0 : Nat) ≤ 50; decide⟩
theorem sameD_iff (x y : Gd × Int) : sameD x y = true ↔ x = y := by
  unfold sameD
  simp only [Bool.and_eq_true, beq_iff_eq, ba_list]
  constructor
  · rintro ⟨⟨h1, h2, h3⟩, h4⟩
    obtain ⟨⟨a, b, c⟩, d⟩ := x
    obtain ⟨⟨a', b', c'⟩, d'⟩ := y
    simp only at h1 h2 h3 h4
    rw [ba_inj h1, ba_inj h2, ba_inj h3, h4]
  · rintro rfl; simp
theorem hasD_iff (l : List (Gd × Int)) (x : Gd × Int) : hasD l x = true ↔ x ∈ l := by
  unfold hasD
  rw [List.any_eq_true]
  constructor
  · rintro ⟨y, hy, h⟩; rw [sameD_iff] at h; subst h; exact hy
  · intro h; exact ⟨x, h, (sameD_iff _ _).2 rfl⟩

/-- The engine of Reset behind i facts. -/
structure RsE (n : Int) (i : Nat) (e : Eg) : Prop where
  rs : e.rs = copyR bP bQ
  win : e.win = 20
  lat : e.lat = 3
  que : e.que = n
  mark : e.mark = 0
  names : PtsOk e.names
  kept : e.kept = (List.range i).map qf
  M : ∀ g, e.M g = none
  fds : e.fds = [⟨formA bP 2, false, [], [], 2⟩]

theorem reset_ins {n : Int} {i : Nat} {e : Eg} (h : RsE n i e) (hi : i < 24) : (insR e (ofB bQ (i % 6) (i / 6)) 5).1 = 0 ∧ RsE n (i + 1) (insR e (ofB bQ (i % 6) (i / 6)) 5).2 := by
  have ha : i % 6 < 6 := Nat.mod_lt _ (by decide)
  have hb : i / 6 < 6 := by omega
  have hins : insR e (ofB bQ (i % 6) (i / 6)) 5 = (0, { e with names := nmL e.names (amB bQ (i % 6) (i / 6)).args, kept := e.kept ++ [qf i] }) := by
    unfold insR
    rw [atom_q ha hb]
    simp only
    rw [if_neg (by rw [am_ground]; decide), if_neg (by rw [h.rs]; show ¬ derB (copyR bP bQ) bQ = true; rw [q_der]; decide), if_neg (by
      have : ckR e.rs (amB bQ (i % 6) (i / 6)) = 0 := by
        unfold ckR
        show (if arR e.rs bQ = 0 then (7 : Int) else if arR e.rs bQ = 2 then 0 else 4) = 0
        rw [h.rs, q_arQ]; rfl
      rw [this]; decide), if_neg (by decide)]
    unfold accR
    rw [if_neg (by rw [h.win, h.mark]; decide), ground_am]
    rw [if_neg (by
      rw [hasD_iff, h.kept]
      intro hm
      obtain ⟨j, hj, e1⟩ := List.mem_map.1 hm
      have hj' := List.mem_range.1 hj
      have e2 : qG bQ j = qG bQ i := congrArg Prod.fst e1
      have := qG_inj (by omega) (by omega) e2
      omega), if_neg (by
      have := pts_six (pts_add h.names bQ ha hb)
      rw [h.kept]
      simp only [List.length_map, List.length_range]
      omega)]
    rfl
  rw [hins]
  refine ⟨rfl, h.rs, h.win, h.lat, h.que, h.mark, pts_add h.names bQ ha hb, ?_, h.M, h.fds⟩
  show e.kept ++ [qf i] = _
  rw [h.kept, List.range_succ, List.map_append]
  rfl

/-- Behind the Tick: all facts are told, or the feed is behind. -/
structure RsT (k : Nat) (e : Eg) (f : Fs) : Prop where
  mark : e.mark = 6
  fds : e.fds = [f]
  form : f.form = formA bP 2
  told : f.told = 2
  snap : f.snap = []
  fit : ∀ gs, fitP e.M (formA bP 2) gs → gs.length = k
theorem reset_tick {n : Int} {k : Nat} {e e' : Eg} {r : Int × Int} (h : RsE n k e) (hk : k ≤ 24) (hok : EgOk e) (ht : TickE e 9 e' r) :
    r = (6, 0) ∧ ∃ f, RsT k e' f ∧ ((n < (k : Int) + 1 ∧ f.behind = true ∧ f.que = []) ∨ ((k : Int) + 1 ≤ n ∧ f.behind = false ∧ ∃ g2, g2.length = k ∧ f.que = textsR 2 g2 ++ [⟨4, 0, ⟨#[]⟩, 6⟩])) := by
  have hok' := tick_ok hok ht
  rcases ht with ⟨h0, _, _⟩ | ⟨_, hr, ⟨h1, _⟩ | ⟨_, hmv⟩⟩
  · exact absurd ⟨by decide, by decide⟩ h0
  · rw [h.lat, h.mark] at h1; exact absurd h1 (by decide)
  rw [h.lat] at hmv
  obtain ⟨M', fds', hM, hl, hmf, rfl⟩ := hmv
  have hfacts : factsF e ((9 : Int) - 3) = ((List.range k).map qf).map (fun d => (d.1, d.2 + 20)) := by
    unfold factsF
    rw [h.kept, h.win]
    have f1 : ∀ l : List Nat, ((l.map qf).filter (fun d => !overB 20 ((9 : Int) - 3) d.2)) = l.map qf := by
      intro l
      rw [List.filter_eq_self]
      intro d hd
      obtain ⟨j, _, rfl⟩ := List.mem_map.1 hd
      show (!overB 20 ((9 : Int) - 3) 5) = true
      decide
    have f2 : ∀ l : List Nat, ((l.map qf).filter (fun d => decide (d.2 ≤ (9 : Int) - 3))) = l.map qf := by
      intro l
      rw [List.filter_eq_self]
      intro d hd
      obtain ⟨j, _, rfl⟩ := List.mem_map.1 hd
      show decide ((5 : Int) ≤ (9 : Int) - 3) = true
      decide
    rw [f1, f2]
  rw [hfacts, h.rs, q_given, List.append_nil] at hM
  have hmd : mdOk (arR (copyR bP bQ)) M' := by
    have := md_ok hok'
    rw [show ({ e with mark := (9 : Int) - 3, kept := e.kept.filter (fun d => !overB e.win ((9 : Int) - 3) d.2), M := M', fds := fds' } : Eg).rs = copyR bP bQ from h.rs] at this
    exact this
  have hfit : ∀ gs, fitP M' (formA bP 2) gs → gs.length = k := fun gs hg => reset_fit (by omega) hM hmd hg
  have hl1 : fds'.length = 1 := by rw [hl, h.fds]; rfl
  obtain ⟨f, rfl⟩ : ∃ f, fds' = [f] := by
    match fds', hl1 with
    | [f], _ => exact ⟨f, rfl⟩
  have hm0 := hmf 0 (by rw [h.fds]; decide) (by simp)
  have e0 : e.fds[0]'(by rw [h.fds]; decide) = ⟨formA bP 2, false, [], [], 2⟩ := by simp only [h.fds]; rfl
  rw [e0] at hm0
  simp only [List.getElem_cons_zero] at hm0
  refine ⟨hr, f, ?_⟩
  rcases hm0 with ⟨hb, _⟩ | ⟨_, g1, g2, hg1, hg2, hc⟩
  · cases hb
  have hg1' : g1 = [] := by
    obtain ⟨g0, ⟨ks, k1, k2, rfl⟩, rfl⟩ := hg1
    have : ks = [] := List.eq_nil_iff_forall_not_mem.2 (fun ⟨x, y⟩ hx => by
      have := ((k2 x y).1 hx).2.2
      rw [h.M] at this; cases this)
    subst this; rfl
  have hg2' : g2.length = k := by
    obtain ⟨g0, hg0, rfl⟩ := hg2
    have : g0.filter (fun g => (e.M g).isNone) = g0 := by
      rw [List.filter_eq_self]
      intro g _
      rw [h.M]; rfl
    rw [this]
    exact hfit g0 hg0
  subst hg1'
  have hlen : ((([] : List Rc) ++ textsR 3 [] ++ textsR 2 g2).length : Int) = k := by
    have h0 : textsR 3 [] = [] := List.eq_nil_of_length_eq_zero (textsR_len 3 [])
    rw [h0, List.nil_append, List.nil_append, textsR_len, hg2']
  rw [hlen, h.que] at hc
  have h0 : textsR 3 [] = [] := List.eq_nil_of_length_eq_zero (textsR_len 3 [])
  rcases hc with ⟨hc, rfl⟩ | ⟨hc, rfl⟩
  · exact ⟨⟨rfl, rfl, rfl, rfl, rfl, hfit⟩, .inl ⟨hc, rfl, rfl⟩⟩
  · refine ⟨⟨rfl, rfl, rfl, rfl, rfl, hfit⟩, .inr ⟨hc, rfl, g2, hg2', ?_⟩⟩
    show [] ++ textsR 3 [] ++ textsR 2 g2 ++ _ = _
    rw [h0]; rfl

end Go.Proofs.YtjajnhemgphefaaGreatDoor
