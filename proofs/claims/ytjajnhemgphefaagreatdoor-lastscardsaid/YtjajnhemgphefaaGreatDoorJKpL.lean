/-
  The statement Lasts in plain data: what holds as the watermark goes on and nothing more comes.
  Ask and Until as the statements of ebbkeep use them.
  The statement Lasts: what its engine answers.
-/
import Derived.Test.YtjajnhemgphefaaGreatDoorJKpI
namespace Go.Proofs.YtjajnhemgphefaaGreatDoor
open Go.RowKit Go.Shelf Go.Maps
set_option linter.unusedVariables false
set_option linter.unusedSimpArgs false

/-- Facts with their ends. -/
def endsF (l : List (Gd × Int)) : List (Gd × Int) := l.map (fun d => (d.1, d.2 + 20))
/-- The facts of K0 that are not over at m. -/
def atK (K0 : List (Gd × Int)) (m : Int) : List (Gd × Int) := K0.filter (fun d => decide (m < d.2 + 20))
/-- An engine at a watermark, behind facts of times up to 15. -/
structure LsK (K0 : List (Gd × Int)) (m : Int) (e : Eg) : Prop where
  pa : PaE 15 e
  mark : e.mark = m
  kept : e.kept = atK K0 m
  old : ∀ d ∈ K0, 0 ≤ d.2 ∧ d.2 ≤ 15 ∧ d.1.rel = bEd
theorem atK_mem {K0 : List (Gd × Int)} {m : Int} {d : Gd × Int} : d ∈ atK K0 m ↔ d ∈ K0 ∧ m < d.2 + 20 := by
  unfold atK; rw [List.mem_filter]; simp
theorem endsF_mem {K0 : List (Gd × Int)} {m : Int} {x : Gd × Int} : x ∈ endsF (atK K0 m) ↔ (x.1, x.2 - 20) ∈ K0 ∧ m < x.2 := by
  unfold endsF
  rw [List.mem_map]
  constructor
  · rintro ⟨d, hd, rfl⟩
    obtain ⟨h1, h2⟩ := atK_mem.1 hd
    have e1 : ((d.1, d.2 + 20).2 : Int) - 20 = d.2 := by show d.2 + 20 - 20 = d.2; omega
    exact ⟨by rw [e1]; exact h1, h2⟩
  · rintro ⟨h1, h2⟩
    refine ⟨(x.1, x.2 - 20), atK_mem.2 ⟨h1, by show m < x.2 - 20 + 20; omega⟩, ?_⟩
    show (x.1, x.2 - 20 + 20) = x
    rw [Int.sub_add_cancel]
theorem ls_move {K0 : List (Gd × Int)} {m m' : Int} {e e' : Eg} {r : Int × Int} (h : LsK K0 m e) (h1 : m < m') (h15 : 15 ≤ m') (hb : m' ≤ 900000) (ht : TickE e (m' + 3) e' r) :
    r = (m', 0) ∧ LsK K0 m' e' ∧ LeastM rsP (endsF e'.kept) e'.M ∧ e'.fds.length = e.fds.length := by
  rcases ht with ⟨hn, _⟩ | ⟨_, hr, ⟨hle, _⟩ | ⟨_, hmv⟩⟩
  · exact absurd ⟨by omega, by omega⟩ hn
  · rw [h.pa.lat, h.mark] at hle; omega
  rw [h.pa.lat, show m' + 3 - 3 = m' by omega] at hmv
  obtain ⟨M', fds', hM, hl, _, rfl⟩ := hmv
  have hk : e.kept.filter (fun d => !overB e.win m' d.2) = atK K0 m' := by
    rw [h.kept, h.pa.win]
    unfold atK
    rw [List.filter_filter]
    congr 1
    funext d
    unfold overB
    by_cases h2 : m' < d.2 + 20
    · simp [h2]; omega
    · simp [h2]
  have hf : factsF e m' = endsF (atK K0 m') := by
    unfold factsF endsF
    rw [hk, h.pa.win]
    congr 1
    rw [List.filter_eq_self]
    intro d hd
    have := h.old d (atK_mem.1 hd).1
    simp; omega
  refine ⟨hr, ⟨⟨h.pa.rs, h.pa.win, h.pa.lat, h.pa.names, fun d hd => h.pa.kept d (List.mem_filter.1 hd).1⟩, rfl, hk, h.old⟩, ?_, hl⟩
  rw [hf, h.pa.rs, p_given, List.append_nil] at hM
  show LeastM rsP (endsF (e.kept.filter _)) M'
  rw [hk]
  exact hM
theorem ls_stay {K0 : List (Gd × Int)} {m : Int} {e e' : Eg} {r : Int × Int} (h : LsK K0 m e) (h0 : 0 ≤ m) (hb : m ≤ 900000) (ht : TickE e (m + 3) e' r) : r = (m, 0) ∧ e' = e := by
  rcases ht with ⟨hn, _⟩ | ⟨_, hr, ⟨_, rfl⟩ | ⟨hlt, _⟩⟩
  · exact absurd ⟨by omega, by omega⟩ hn
  · exact ⟨by rw [hr, h.mark], rfl⟩
  · rw [h.pa.lat, h.mark] at hlt; omega
/-- What holds at a watermark is what was told to last beyond it. -/
theorem ls_iff {K0 : List (Gd × Int)} {m0 m : Int} (hm : m0 ≤ m) {M0 M : Gd → Option Int} (h0 : LeastM rsP (endsF (atK K0 m0)) M0) (h : LeastM rsP (endsF (atK K0 m)) M) (g : Gd) : (M g).isSome = true ↔ ∃ u, M0 g = some u ∧ m < u := by
  have hD : ∀ e, m ≤ e → ∀ g, Der rsP (endsF (atK K0 m0)) e g ↔ Der rsP (endsF (atK K0 m)) e g := fun e he g => Der.later (fun x hx => by
    rw [endsF_mem, endsF_mem]
    exact ⟨fun h => ⟨h.1, by omega⟩, fun h => ⟨h.1, by omega⟩⟩) g
  constructor
  · intro hs
    obtain ⟨t, ht⟩ := Option.isSome_iff_exists.1 hs
    obtain ⟨x, hx, hxt⟩ := h.end_mem ht
    have hmt : m < t := by rw [← hxt]; exact (endsF_mem.1 hx).2
    have hd := (hD (t - 1) (by omega) g).2 (h.sound g t ht (t - 1) (by omega))
    obtain ⟨u, hu, hlt⟩ := h0.complete (t - 1) g hd
    exact ⟨u, hu, by omega⟩
  · rintro ⟨u, hu, hlt⟩
    have hd := (hD (u - 1) (by omega) g).1 (h0.sound g u hu (u - 1) (by omega))
    obtain ⟨t, ht, _⟩ := h.complete (u - 1) g hd
    rw [ht]; rfl
theorem ls_bound {K0 : List (Gd × Int)} (hK : ∀ d ∈ K0, 0 ≤ d.2 ∧ d.2 ≤ 15 ∧ d.1.rel = bEd) {m : Int} {M : Gd → Option Int} (h : LeastM rsP (endsF (atK K0 m)) M) {g : Gd} {u : Int} (hu : M g = some u) : m < u ∧ 20 ≤ u ∧ u ≤ 35 := by
  obtain ⟨x, hx, hxt⟩ := h.end_mem hu
  obtain ⟨h1, h2⟩ := endsF_mem.1 hx
  have := hK _ h1
  simp only at this
  omega
/-- An edge is a path. -/
theorem ls_edge {K0 : List (Gd × Int)} (hK : ∀ d ∈ K0, 0 ≤ d.2 ∧ d.2 ≤ 15 ∧ d.1.rel = bEd) {m : Int} {M : Gd → Option Int} (h : LeastM rsP (endsF (atK K0 m)) M) {x y : ByteArray} {t : Int} (hd : (⟨bEd, x, y⟩, t) ∈ K0) (hm : m < t + 20) : ∃ u, M ⟨bPa, x, y⟩ = some u ∧ t + 20 ≤ u := by
  have hF : ∀ z ∈ endsF (atK K0 m), z.1.rel = bEd := fun z hz => (hK _ (endsF_mem.1 hz).1).2.2
  have hr : rsP = pathR bPa bEd ++ [] := by simp [rsP]
  have hder : Der rsP (endsF (atK K0 m)) (t + 19) ⟨bPa, x, y⟩ := by
    rw [hr]
    refine (path_der pe_ne (X := []) (by simp) _ hF _ x y).2 (fun S h1 _ => h1 x y ⟨t + 20, ?_, by omega⟩)
    refine endsF_mem.2 ⟨?_, hm⟩
    show (⟨bEd, x, y⟩, t + 20 - 20) ∈ K0
    rw [Int.add_sub_cancel]; exact hd
  obtain ⟨u, hu, hlt⟩ := h.complete _ _ hder
  exact ⟨u, hu, by omega⟩
/-- Nothing lasts beyond 35. -/
theorem ls_over {K0 : List (Gd × Int)} (hK : ∀ d ∈ K0, 0 ≤ d.2 ∧ d.2 ≤ 15 ∧ d.1.rel = bEd) {M : Gd → Option Int} (h : LeastM rsP (endsF (atK K0 35)) M) (g : Gd) : M g = none := by
  cases hc : M g with
  | none => rfl
  | some u =>
    have := ls_bound hK h hc
    omega

end Go.Proofs.YtjajnhemgphefaaGreatDoor

namespace Go.Proofs.YtjajnhemgphefaaGreatDoor
open Go.RowKit Go.Shelf Go.Maps
set_option linter.unusedVariables false
set_option linter.unusedSimpArgs false

section
variable {w W : World} {be : Nat} {bs : List Nat} {e : Eg}
theorem kuntil (h : KSt w be bs e W) (hT : Lib.Utf8Tabs 0 1 w) (s : ByteArray) (hs : s.size ≤ 4611686018427387904) (hn : ∀ a, atomR s = some a → ∀ t ∈ a.args, t.num < 6) :
    Calls Tryz.prog 24 #[.pointer (some ⟨be, 0, none⟩), .string s] W fun en W' => en = .returned (.tuple #[.int .i64 (untilR e s).1, .int .i64 (untilR e s).2]) ∧ KSt w be bs e W' ∧ Kept bs W W' := by
  obtain ⟨S, h1, h2⟩ := h.eng
  refine (until_any S be e s W h1 h.ok hs (Utf8Tabs_below hT h.below) hn).mono ?_
  rintro en W' ⟨k1, k2⟩
  exact ⟨k1, h.same k2⟩
theorem kask (h : KSt w be bs e W) (hT : Lib.Utf8Tabs 0 1 w) (s : ByteArray) (hs : s.size ≤ 4611686018427387904) (a : Am) (ha : atomR s = some a) (hn : ∀ t ∈ a.args, t.num < 6) (hck : ckR e.rs a = 0) :
    Calls Tryz.prog 25 #[.pointer (some ⟨be, 0, none⟩), .string s] W fun en W' => ∃ (oa : Option Addr) (oc : Nat) (gs : List Gd), en = .returned (.tuple #[.slice oa gs.length oc, .int .i64 0]) ∧ fitP e.M a gs ∧ W'.ownsRow W.heap.size 9 1 (.slice oa gs.length oc) gs.length ((textsOf gs).map strV) ∧ KSt w be bs e W' ∧ Kept bs W W' := by
  obtain ⟨S, h1, h2⟩ := h.eng
  refine (ask_any S be e s W h1 h.ok hs (Utf8Tabs_below hT h.below) (fun b hb => by rw [ha] at hb; cases hb; exact hn)).mono ?_
  rintro en W' ⟨k1, k2⟩
  rw [ha] at k2
  rcases k2 with ⟨k2, _⟩ | ⟨_, v, gs, k3, k4, k5⟩
  · exact absurd hck k2
  · obtain ⟨oa, oc, hof⟩ := owns_form k5
    subst hof
    rw [textsOf_len] at k4 k5
    exact ⟨oa, oc, gs, k4, k3, k5, h.same k1⟩
end
theorem am_nums (r : ByteArray) (a b : Nat) : ∀ t ∈ (amB r a b).args, t.num < 6 := by
  intro t ht
  simp only [amB, List.mem_cons, List.not_mem_nil, or_false] at ht
  rcases ht with rfl | rfl <;> exact Nat.zero_lt_succ 5
/-- Until of a path. -/
theorem until_p {e : Eg} (h : e.rs = rsP) {a b : Nat} (ha : a < 6) (hb : b < 6) : untilR e (ofB bPa a b) = ((e.M ⟨bPa, ptB a, ptB b⟩).getD 0, 0) := by
  unfold untilR
  rw [atom_p ha hb]
  simp only
  rw [if_neg (by rw [am_ground]; decide), if_pos (ck_p h a b), ground_am]
theorem kuntil_p {w W : World} {be : Nat} {bs : List Nat} {e : Eg} (h : KSt w be bs e W) (hrs : e.rs = rsP) (hT : Lib.Utf8Tabs 0 1 w) {a b : Nat} (ha : a < 6) (hb : b < 6) :
    Calls Tryz.prog 24 #[.pointer (some ⟨be, 0, none⟩), .string (ofB bPa a b)] W fun en W' => en = .returned (.tuple #[.int .i64 ((e.M ⟨bPa, ptB a, ptB b⟩).getD 0), .int .i64 0]) ∧ KSt w be bs e W' := by
  refine (kuntil h hT (ofB bPa a b) (by show (4 + 5 : Nat) ≤ _; decide) (fun c hc => by rw [atom_p ha hb] at hc; cases hc; exact am_nums _ _ _)).mono ?_
  rintro en W' ⟨k1, k2, _⟩
  rw [until_p hrs ha hb] at k1
  exact ⟨k1, k2⟩
theorem kask_p {w W : World} {be : Nat} {bs : List Nat} {e : Eg} (h : KSt w be bs e W) (hrs : e.rs = rsP) (hT : Lib.Utf8Tabs 0 1 w) {a b : Nat} (ha : a < 6) (hb : b < 6) :
    Calls Tryz.prog 25 #[.pointer (some ⟨be, 0, none⟩), .string (ofB bPa a b)] W fun en W' => ∃ (oa : Option Addr) (oc n : Nat), en = .returned (.tuple #[.slice oa n oc, .int .i64 0]) ∧ (n = if (e.M ⟨bPa, ptB a, ptB b⟩).isSome = true then 1 else 0) ∧ KSt w be bs e W' := by
  refine (kask h hT (ofB bPa a b) (by show (4 + 5 : Nat) ≤ _; decide) (amB bPa a b) (atom_p ha hb) (am_nums _ _ _) (ck_p hrs a b)).mono ?_
  rintro en W' ⟨oa, oc, gs, k1, k2, _, k4, _⟩
  have hmd := md_ok h.ok
  rw [hrs] at hmd
  exact ⟨oa, oc, gs.length, k1, fit_ground hmd k2, k4⟩
/-- Nothing is told where nothing holds. -/
theorem kask_none {w W : World} {be : Nat} {bs : List Nat} {e : Eg} (h : KSt w be bs e W) (hrs : e.rs = rsP) (hT : Lib.Utf8Tabs 0 1 w) (hM : ∀ g, e.M g = none) :
    Calls Tryz.prog 25 #[.pointer (some ⟨be, 0, none⟩), .string txtXY] W fun en W' => ∃ (oa : Option Addr) (oc : Nat), en = .returned (.tuple #[.slice oa 0 oc, .int .i64 0]) ∧ KSt w be bs e W' := by
  refine (kask h hT txtXY (by decide) ⟨bPa, [v0T, v1T]⟩ atom_xy (by intro t ht; simp only [List.mem_cons, List.not_mem_nil, or_false] at ht; rcases ht with rfl | rfl <;> decide) (by
    unfold ckR
    show (if arR e.rs bPa = 0 then (7 : Int) else if arR e.rs bPa = 2 then 0 else 4) = 0
    rw [hrs, p_arP]; rfl)).mono ?_
  rintro en W' ⟨oa, oc, gs, k1, k2, _, k4, _⟩
  have : gs = [] := by
    obtain ⟨ks, c1, c2, rfl⟩ := k2
    have : ks = [] := List.eq_nil_iff_forall_not_mem.2 (fun ⟨x, y⟩ hx => by
      have := ((c2 x y).1 hx).2.2
      rw [hM] at this; cases this)
    subst this; rfl
  subst this
  exact ⟨oa, oc, k1, k4⟩

end Go.Proofs.YtjajnhemgphefaaGreatDoor

namespace Go.Proofs.YtjajnhemgphefaaGreatDoor
open Go.RowKit Go.Shelf Go.Maps
set_option linter.unusedVariables false
set_option linter.unusedSimpArgs false

/-- A row of edges in memory. -/
def EdAt (w : World) (a : Option Addr) (l : List (Int × Int × Int)) : Prop := ∀ i (h : i < l.length), ∃ b off, a = some ⟨b, off, none⟩ ∧ b < w.heap.size ∧ w.cell? ⟨b, off + i * 3, none⟩ = some (.int .i64 (l[i]).1) ∧ w.cell? ⟨b, off + i * 3 + 1, none⟩ = some (.int .i64 (l[i]).2.1) ∧ w.cell? ⟨b, off + i * 3 + 2, none⟩ = some (.int .i64 (l[i]).2.2)
def IntOk (z : Int) : Prop := -9223372036854775808 ≤ z ∧ z ≤ 9223372036854775807
/-- The engine of Lasts ahead of its Tick. -/
def LsE (e : Eg) : Prop := PaE 15 e ∧ e.mark = 0 ∧ e.fds = [] ∧ (⟨bEd, ptB 0, ptB 1⟩, (4 : Int)) ∈ e.kept

/-- What Lasts knows of its facts, and of what holds at 15. -/
structure Ls0 (K0 : List (Gd × Int)) (M0 : Gd → Option Int) : Prop where
  least : LeastM rsP (endsF (atK K0 15)) M0
  edge : (⟨bEd, ptB 0, ptB 1⟩, (4 : Int)) ∈ K0
  old : ∀ d ∈ K0, 0 ≤ d.2 ∧ d.2 ≤ 15 ∧ d.1.rel = bEd
/-- The engine of Lasts at a watermark. -/
def LsS (w : World) (be : Nat) (K0 : List (Gd × Int)) (M0 : Gd → Option Int) (m : Int) (W : World) : Prop := ∃ e, LsK K0 m e ∧ LeastM rsP (endsF e.kept) e.M ∧ KSt w be [] e W ∧ (m = 15 → e.M = M0)

theorem ls_first {w W : World} {be : Nat} (h : ∃ e, LsE e ∧ KSt w be [] e W) :
    Calls Tryz.prog 22 #[.pointer (some ⟨be, 0, none⟩), .int .i64 18] W fun en W' => en = .returned (.tuple #[.int .i64 15, .int .i64 0]) ∧ ∃ K0 M0, Hid (Ls0 K0 M0 ∧ LsS w be K0 M0 15 W') := by
  obtain ⟨e, ⟨h1, h2, h3, h4⟩, h5⟩ := h
  have hold : ∀ d ∈ e.kept, 0 ≤ d.2 ∧ d.2 ≤ 15 ∧ d.1.rel = bEd := fun d hd => ⟨(h1.kept d hd).2.1, (h1.kept d hd).2.2, (h1.kept d hd).1⟩
  have hat : atK e.kept 0 = e.kept := by
    unfold atK
    rw [List.filter_eq_self]
    intro d hd
    have := hold d hd
    simp; omega
  have hk : LsK e.kept 0 e := ⟨h1, h2, hat.symm, hold⟩
  refine (ktick h5 18).mono ?_
  rintro en W' ⟨e', r, k1, k2, k3, _⟩
  obtain ⟨rfl, g2, g3, _⟩ := ls_move hk (m' := 15) (by decide) (by decide) (by decide) k1
  have g3' := g3
  rw [g2.kept] at g3'
  exact ⟨k2, e.kept, e'.M, ⟨g3', h4, hold⟩, e', g2, g3, k3, fun _ => rfl⟩
theorem ls_until {w W : World} {be : Nat} {K0 : List (Gd × Int)} {M0 : Gd → Option Int} (h : LsS w be K0 M0 15 W) (hT : Lib.Utf8Tabs 0 1 w) {i j : Nat} (hi : i < 6) (hj : j < 6) :
    Calls Tryz.prog 24 #[.pointer (some ⟨be, 0, none⟩), .string (ofB bPa i j)] W fun en W' => en = .returned (.tuple #[.int .i64 ((M0 ⟨bPa, ptB i, ptB j⟩).getD 0), .int .i64 0]) ∧ Hid (LsS w be K0 M0 15 W') := by
  obtain ⟨e, h1, h2, h3, h4⟩ := h
  refine (kuntil_p h3 h1.pa.rs hT hi hj).mono ?_
  rintro en W' ⟨k1, k2⟩
  rw [h4 rfl] at k1
  exact ⟨k1, e, h1, h2, k2, h4⟩
theorem ls_bounds {K0 : List (Gd × Int)} {M0 : Gd → Option Int} (h : Ls0 K0 M0) (g : Gd) : 0 ≤ (M0 g).getD 0 ∧ ((M0 g).getD 0 ≤ 0 ∨ 15 < (M0 g).getD 0) ∧ (M0 g).getD 0 ≤ 35 := by
  cases hc : M0 g with
  | none => exact ⟨by decide, .inl (by decide), by decide⟩
  | some u =>
    have := ls_bound h.old h.least hc
    simp only [Option.getD_some]
    omega
theorem ls_long {K0 : List (Gd × Int)} {M0 : Gd → Option Int} (h : Ls0 K0 M0) : 24 ≤ (M0 ⟨bPa, ptB 0, ptB 1⟩).getD 0 := by
  obtain ⟨u, hu, hle⟩ := ls_edge h.old h.least h.edge (by decide)
  rw [hu]
  show 24 ≤ u
  omega
theorem ls_tick {w W : World} {be : Nat} {K0 : List (Gd × Int)} {M0 : Gd → Option Int} {m m' : Int} (h : LsS w be K0 M0 m W) (h15 : 15 ≤ m) (hm : m ≤ m') (hb : m' ≤ 1000) :
    Calls Tryz.prog 22 #[.pointer (some ⟨be, 0, none⟩), .int .i64 (m' + 3)] W fun en W' => en = .returned (.tuple #[.int .i64 m', .int .i64 0]) ∧ Hid (LsS w be K0 M0 m' W') := by
  obtain ⟨e, h1, h2, h3, h4⟩ := h
  refine (ktick h3 (m' + 3)).mono ?_
  rintro en W' ⟨e', r, k1, k2, k3, _⟩
  by_cases hlt : m < m'
  · obtain ⟨rfl, g2, g3, _⟩ := ls_move h1 hlt (by omega) (by omega) k1
    exact ⟨k2, e', g2, g3, k3, fun e => by omega⟩
  · have hmm : m = m' := by omega
    subst hmm
    obtain ⟨rfl, rfl⟩ := ls_stay h1 (by omega) (by omega) k1
    exact ⟨k2, e', h1, h2, k3, h4⟩
theorem ls_ask {w W : World} {be : Nat} {K0 : List (Gd × Int)} {M0 : Gd → Option Int} {m : Int} (h0 : Ls0 K0 M0) (h : LsS w be K0 M0 m W) (h15 : 15 ≤ m) (hT : Lib.Utf8Tabs 0 1 w) {i j : Nat} (hi : i < 6) (hj : j < 6) :
    Calls Tryz.prog 25 #[.pointer (some ⟨be, 0, none⟩), .string (ofB bPa i j)] W fun en W' => ∃ (oa : Option Addr) (oc n : Nat), en = .returned (.tuple #[.slice oa n oc, .int .i64 0]) ∧ Hid (n ≤ 1 ∧ (n = 1 ↔ m < (M0 ⟨bPa, ptB i, ptB j⟩).getD 0)) ∧ Hid (LsS w be K0 M0 m W') := by
  obtain ⟨e, h1, h2, h3, h4⟩ := h
  refine (kask_p h3 h1.pa.rs hT hi hj).mono ?_
  rintro en W' ⟨oa, oc, n, k1, k2, k3⟩
  refine ⟨oa, oc, n, k1, ?_, e, h1, h2, k3, h4⟩
  have h2' := h2
  rw [h1.kept] at h2'
  have hiff := ls_iff h15 h0.least h2' ⟨bPa, ptB i, ptB j⟩
  by_cases hs : (e.M ⟨bPa, ptB i, ptB j⟩).isSome = true
  · rw [if_pos hs] at k2
    obtain ⟨u, hu, hlt⟩ := hiff.1 hs
    refine ⟨by omega, fun _ => ?_, fun _ => k2⟩
    rw [hu]; exact hlt
  · rw [if_neg hs] at k2
    refine ⟨by omega, fun h => by omega, fun hlt => ?_⟩
    exfalso
    apply hs
    refine hiff.2 ?_
    cases hc : M0 ⟨bPa, ptB i, ptB j⟩ with
    | none => rw [hc] at hlt; simp at hlt; omega
    | some u => rw [hc] at hlt; exact ⟨u, rfl, hlt⟩
theorem ls_end {w W : World} {be : Nat} {K0 : List (Gd × Int)} {M0 : Gd → Option Int} (h0 : Ls0 K0 M0) (h : LsS w be K0 M0 35 W) (hT : Lib.Utf8Tabs 0 1 w) :
    Calls Tryz.prog 25 #[.pointer (some ⟨be, 0, none⟩), .string txtXY] W fun en W' => ∃ (oa : Option Addr) (oc : Nat), en = .returned (.tuple #[.slice oa 0 oc, .int .i64 0]) ∧ Hid (Below w.heap.size w W') := by
  obtain ⟨e, h1, h2, h3, h4⟩ := h
  have h2' := h2
  rw [h1.kept] at h2'
  refine (kask_none h3 h1.pa.rs hT (ls_over h0.old h2')).mono ?_
  rintro en W' ⟨oa, oc, k1, k2⟩
  exact ⟨oa, oc, k1, k2.below⟩

end Go.Proofs.YtjajnhemgphefaaGreatDoor
