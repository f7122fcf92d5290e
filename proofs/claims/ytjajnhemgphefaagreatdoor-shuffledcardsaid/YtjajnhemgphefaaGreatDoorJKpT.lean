/-
  The statement Lasts in plain data: what holds as the watermark goes on and nothing more comes.
  Ask and Until as the statements of ebbkeep use them.
  The rules of Ebbed: the paths', and one path that is said.
-/
import Derived.Test.YtjajnhemgphefaaGreatDoorJKpI
namespace Go.Proofs.YtjajnhemgphefaaGreatDoor
open Go.RowKit Go.Shelf Go.Maps
set_option linter.unusedVariables false
set_option linter.unusedSimpArgs false

/-- Facts with their ends. -/
def endsF (l : List (Gd × Int)) : List (Gd × Int) := l.map (fun d => (d.1, d.2 + 20))
/-- The facts of K0 that are not over at m. -/
def atK (K0 : List (Gd × Int)) (m : Int) : List (Gd × Int) := K0.filter (fun d => decide (m < d.2 + 20))
/-- An engine at a watermark, behind facts of times up to 15. -/
structure LsK (K0 : List (Gd × Int)) (m : Int) (e : Eg) : Prop where
  pa : PaE 15 e
  mark : e.mark = m
  kept : e.kept = atK K0 m
  old : ∀ d ∈ K0, 0 ≤ d.2 ∧ d.2 ≤ 15 ∧ d.1.rel = bEd
theorem atK_mem {K0 : List (Gd × Int)} {m : Int} {d : Gd × Int} : d ∈ atK K0 m ↔ d ∈ K0 ∧ m < d.2 + 20 := by
  unfold atK; rw [List.mem_filter]; simp
theorem endsF_mem {K0 : List (Gd × Int)} {m : Int} {x : Gd × Int} : x ∈ endsF (atK K0 m) ↔ (x.1, x.2 - 20) ∈ K0 ∧ m < x.2 := by
  unfold endsF
  rw [List.mem_map]
  constructor
  · rintro ⟨d, hd, rfl⟩
    obtain ⟨h1, h2⟩ := atK_mem.1 hd
    have e1 : ((d.1, d.2 + 20).2 : Int) - 20 = d.2 := by show d.2 + 20 - 20 = d.2; omega
    exact ⟨by rw [e1]; exact h1, h2⟩
  · rintro ⟨h1, h2⟩
    refine ⟨(x.1, x.2 - 20), atK_mem.2 ⟨h1, by show m < x.2 - 20 + 20; omega⟩, ?_⟩
    show (x.1, x.2 - 20 + 20) = x
    rw [Int.sub_add_cancel]
theorem ls_move {K0 : List (Gd × Int)} {m m' : Int} {e e' : Eg} {r : Int × Int} (h : LsK K0 m e) (h1 : m < m') (h15 : 15 ≤ m') (hb : m' ≤ 900000) (ht : TickE e (m' + 3) e' r) :
    r = (m', 0) ∧ LsK K0 m' e' ∧ LeastM rsP (endsF e'.kept) e'.M ∧ e'.fds.length = e.fds.length := by
  rcases ht with ⟨hn, _⟩ | ⟨_, hr, ⟨hle, _⟩ | ⟨_, hmv⟩⟩
  · exact absurd ⟨by omega, by omega⟩ hn
  · rw [h.pa.lat, h.mark] at hle; omega
  rw [h.pa.lat, show m' + 3 - 3 = m' by omega] at hmv
  obtain ⟨M', fds', hM, hl, _, rfl⟩ := hmv
  have hk : e.kept.filter (fun d => !overB e.win m' d.2) = atK K0 m' := by
    rw [h.kept, h.pa.win]
    unfold atK
    rw [List.filter_filter]
    congr 1
    funext d
    unfold overB
    by_cases h2 : m' < d.2 + 20
    · simp [h2]; omega
    · simp [h2]
  have hf : factsF e m' = endsF (atK K0 m') := by
    unfold factsF endsF
    rw [hk, h.pa.win]
    congr 1
    rw [List.filter_eq_self]
    intro d hd
    have := h.old d (atK_mem.1 hd).1
    simp; omega
  refine ⟨hr, ⟨⟨h.pa.rs, h.pa.win, h.pa.lat, h.pa.names, fun d hd => h.pa.kept d (List.mem_filter.1 hd).1⟩, rfl, hk, h.old⟩, ?_, hl⟩
  rw [hf, h.pa.rs, p_given, List.append_nil] at hM
  show LeastM rsP (endsF (e.kept.filter _)) M'
  rw [hk]
  exact hM
theorem ls_stay {K0 : List (Gd × Int)} {m : Int} {e e' : Eg} {r : Int × Int} (h : LsK K0 m e) (h0 : 0 ≤ m) (hb : m ≤ 900000) (ht : TickE e (m + 3) e' r) : r = (m, 0) ∧ e' = e := by
  rcases ht with ⟨hn, _⟩ | ⟨_, hr, ⟨_, rfl⟩ | ⟨hlt, _⟩⟩
  · exact absurd ⟨by omega, by omega⟩ hn
  · exact ⟨by rw [hr, h.mark], rfl⟩
  · rw [h.pa.lat, h.mark] at hlt; omega
/-- What holds at a watermark is what was told to last beyond it. -/
theorem ls_iff {K0 : List (Gd × Int)} {m0 m : Int} (hm : m0 ≤ m) {M0 M : Gd → Option Int} (h0 : LeastM rsP (endsF (atK K0 m0)) M0) (h : LeastM rsP (endsF (atK K0 m)) M) (g : Gd) : (M g).isSome = true ↔ ∃ u, M0 g = some u ∧ m < u := by
  have hD : ∀ e, m ≤ e → ∀ g, Der rsP (endsF (atK K0 m0)) e g ↔ Der rsP (endsF (atK K0 m)) e g := fun e he g => Der.later (fun x hx => by
    rw [endsF_mem, endsF_mem]
    exact ⟨fun h => ⟨h.1, by omega⟩, fun h => ⟨h.1, by omega⟩⟩) g
  constructor
  · intro hs
    obtain ⟨t, ht⟩ := Option.isSome_iff_exists.1 hs
    obtain ⟨x, hx, hxt⟩ := h.end_mem ht
    have hmt : m < t := by rw [← hxt]; exact (endsF_mem.1 hx).2
    have hd := (hD (t - 1) (by omega) g).2 (h.sound g t ht (t - 1) (by omega))
    obtain ⟨u, hu, hlt⟩ := h0.complete (t - 1) g hd
    exact ⟨u, hu, by omega⟩
  · rintro ⟨u, hu, hlt⟩
    have hd := (hD (u - 1) (by omega) g).1 (h0.sound g u hu (u - 1) (by omega))
    obtain ⟨t, ht, _⟩ := h.complete (u - 1) g hd
    rw [ht]; rfl
theorem ls_bound {K0 : List (Gd × Int)} (hK : ∀ d ∈ K0, 0 ≤ d.2 ∧ d.2 ≤ 15 ∧ d.1.rel = bEd) {m : Int} {M : Gd → Option Int} (h : LeastM rsP (endsF (atK K0 m)) M) {g : Gd} {u : Int} (hu : M g = some u) : m < u ∧ 20 ≤ u ∧ u ≤ 35 := by
  obtain ⟨x, hx, hxt⟩ := h.end_mem hu
  obtain ⟨h1, h2⟩ := endsF_mem.1 hx
  have := hK _ h1
  simp only at this
  omega
/-- An edge is a path. -/
theorem ls_edge {K0 : List (Gd × Int)} (hK : ∀ d ∈ K0, 0 ≤ d.2 ∧ d.2 ≤ 15 ∧ d.1.rel = bEd) {m : Int} {M : Gd → Option Int} (h : LeastM rsP (endsF (atK K0 m)) M) {x y : ByteArray} {t : Int} (hd : (⟨bEd, x, y⟩, t) ∈ K0) (hm : m < t + 20) : ∃ u, M ⟨bPa, x, y⟩ = some u ∧ t + 20 ≤ u := by
  have hF : ∀ z ∈ endsF (atK K0 m), z.1.rel = bEd := fun z hz => (hK _ (endsF_mem.1 hz).1).2.2
  have hr : rsP = pathR bPa bEd ++ [] := by simp [rsP]
  have hder : Der rsP (endsF (atK K0 m)) (t + 19) ⟨bPa, x, y⟩ := by
    rw [hr]
    refine (path_der pe_ne (X := []) (by simp) _ hF _ x y).2 (fun S h1 _ => h1 x y ⟨t + 20, ?_, by omega⟩)
    refine endsF_mem.2 ⟨?_, hm⟩
    show (⟨bEd, x, y⟩, t + 20 - 20) ∈ K0
    rw [Int.add_sub_cancel]; exact hd
  obtain ⟨u, hu, hlt⟩ := h.complete _ _ hder
  exact ⟨u, hu, by omega⟩
/-- Nothing lasts beyond 35. -/
theorem ls_over {K0 : List (Gd × Int)} (hK : ∀ d ∈ K0, 0 ≤ d.2 ∧ d.2 ≤ 15 ∧ d.1.rel = bEd) {M : Gd → Option Int} (h : LeastM rsP (endsF (atK K0 35)) M) (g : Gd) : M g = none := by
  cases hc : M g with
  | none => rfl
  | some u =>
    have := ls_bound hK h hc
    omega

end Go.Proofs.YtjajnhemgphefaaGreatDoor

namespace Go.Proofs.YtjajnhemgphefaaGreatDoor
open Go.RowKit Go.Shelf Go.Maps
set_option linter.unusedVariables false
set_option linter.unusedSimpArgs false

section
variable {w W : World} {be : Nat} {bs : List Nat} {e : Eg}
theorem kuntil (h : KSt w be bs e W) (hT : Lib.Utf8Tabs 0 1 w) (s : ByteArray) (hs : s.size ≤ 4611686018427387904) (hn : ∀ a, atomR s = some a → ∀ t ∈ a.args, t.num < 6) :
    Calls Tryz.prog 24 #[.pointer (some ⟨be, 0, none⟩), .string s] W fun en W' => en = .returned (.tuple #[.int .i64 (untilR e s).1, .int .i64 (untilR e s).2]) ∧ KSt w be bs e W' ∧ Kept bs W W' := by
  obtain ⟨S, h1, h2⟩ := h.eng
  refine (until_any S be e s W h1 h.ok hs (Utf8Tabs_below hT h.below) hn).mono ?_
  rintro en W' ⟨k1, k2⟩
  exact ⟨k1, h.same k2⟩
theorem kask (h : KSt w be bs e W) (hT : Lib.Utf8Tabs 0 1 w) (s : ByteArray) (hs : s.size ≤ 4611686018427387904) (a : Am) (ha : atomR s = some a) (hn : ∀ t ∈ a.args, t.num < 6) (hck : ckR e.rs a = 0) :
    Calls Tryz.prog 25 #[.pointer (some ⟨be, 0, none⟩), .string s] W fun en W' => ∃ (oa : Option Addr) (oc : Nat) (gs : List Gd), en = .returned (.tuple #[.slice oa gs.length oc, .int .i64 0]) ∧ fitP e.M a gs ∧ W'.ownsRow W.heap.size 9 1 (.slice oa gs.length oc) gs.length ((textsOf gs).map strV) ∧ KSt w be bs e W' ∧ Kept bs W W' := by
  obtain ⟨S, h1, h2⟩ := h.eng
  refine (ask_any S be e s W h1 h.ok hs (Utf8Tabs_below hT h.below) (fun b hb => by rw [ha] at hb; cases hb; exact hn)).mono ?_
  rintro en W' ⟨k1, k2⟩
  rw [ha] at k2
  rcases k2 with ⟨k2, _⟩ | ⟨_, v, gs, k3, k4, k5⟩
  · exact absurd hck k2
  · obtain ⟨oa, oc, hof⟩ := owns_form k5
    subst hof
    rw [textsOf_len] at k4 k5
    exact ⟨oa, oc, gs, k4, k3, k5, h.same k1⟩
end
theorem am_nums (r : ByteArray) (a b : Nat) : ∀ t ∈ (amB r a b).args, t.num < 6 := by
  intro t ht
  simp only [amB, List.mem_cons, List.not_mem_nil, or_false] at ht
  rcases ht with rfl | rfl <;> exact Nat.zero_lt_succ 5
/-- Until of a path. -/
theorem until_p {e : Eg} (h : e.rs = rsP) {a b : Nat} (ha : a < 6) (hb : b < 6) : untilR e (ofB bPa a b) = ((e.M ⟨bPa, ptB a, ptB b⟩).getD 0, 0) := by
  unfold untilR
  rw [atom_p ha hb]
  simp only
  rw [if_neg (by rw [am_ground]; decide), if_pos (ck_p h a b), ground_am]
theorem kuntil_p {w W : World} {be : Nat} {bs : List Nat} {e : Eg} (h : KSt w be bs e W) (hrs : e.rs = rsP) (hT : Lib.Utf8Tabs 0 1 w) {a b : Nat} (ha : a < 6) (hb : b < 6) :
    Calls Tryz.prog 24 #[.pointer (some ⟨be, 0, none⟩), .string (ofB bPa a b)] W fun en W' => en = .returned (.tuple #[.int .i64 ((e.M ⟨bPa, ptB a, ptB b⟩).getD 0), .int .i64 0]) ∧ KSt w be bs e W' := by
  refine (kuntil h hT (ofB bPa a b) (by show (4 + 5 : Nat) ≤ _; decide) (fun c hc => by rw [atom_p ha hb] at hc; cases hc; exact am_nums _ _ _)).mono ?_
  rintro en W' ⟨k1, k2, _⟩
  rw [until_p hrs ha hb] at k1
  exact ⟨k1, k2⟩
theorem kask_p {w W : World} {be : Nat} {bs : List Nat} {e : Eg} (h : KSt w be bs e W) (hrs : e.rs = rsP) (hT : Lib.Utf8Tabs 0 1 w) {a b : Nat} (ha : a < 6) (hb : b < 6) :
    Calls Tryz.prog 25 #[.pointer (some ⟨be, 0, none⟩), .string (ofB bPa a b)] W fun en W' => ∃ (oa : Option Addr) (oc n : Nat), en = .returned (.tuple #[.slice oa n oc, .int .i64 0]) ∧ (n = if (e.M ⟨bPa, ptB a, ptB b⟩).isSome = true then 1 else 0) ∧ KSt w be bs e W' := by
  refine (kask h hT (ofB bPa a b) (by show (4 + 5 : Nat) ≤ _; decide) (amB bPa a b) (atom_p ha hb) (am_nums _ _ _) (ck_p hrs a b)).mono ?_
  rintro en W' ⟨oa, oc, gs, k1, k2, _, k4, _⟩
  have hmd := md_ok h.ok
  rw [hrs] at hmd
  exact ⟨oa, oc, gs.length, k1, fit_ground hmd k2, k4⟩
/-- Nothing is told where nothing holds. -/
theorem kask_none {w W : World} {be : Nat} {bs : List Nat} {e : Eg} (h : KSt w be bs e W) (hrs : e.rs = rsP) (hT : Lib.Utf8Tabs 0 1 w) (hM : ∀ g, e.M g = none) :
    Calls Tryz.prog 25 #[.pointer (some ⟨be, 0, none⟩), .string txtXY] W fun en W' => ∃ (oa : Option Addr) (oc : Nat), en = .returned (.tuple #[.slice oa 0 oc, .int .i64 0]) ∧ KSt w be bs e W' := by
  refine (kask h hT txtXY (by decide) ⟨bPa, [v0T, v1T]⟩ atom_xy (by intro t ht; simp only [List.mem_cons, List.not_mem_nil, or_false] at ht; rcases ht with rfl | rfl <;> decide) (by
    unfold ckR
    show (if arR e.rs bPa = 0 then (7 : Int) else if arR e.rs bPa = 2 then 0 else 4) = 0
    rw [hrs, p_arP]; rfl)).mono ?_
  rintro en W' ⟨oa, oc, gs, k1, k2, _, k4, _⟩
  have : gs = [] := by
    obtain ⟨ks, c1, c2, rfl⟩ := k2
    have : ks = [] := List.eq_nil_iff_forall_not_mem.2 (fun ⟨x, y⟩ hx => by
      have := ((c2 x y).1 hx).2.2
      rw [hM] at this; cases this)
    subst this; rfl
  subst this
  exact ⟨oa, oc, k1, k4⟩

end Go.Proofs.YtjajnhemgphefaaGreatDoor

namespace Go.Proofs.YtjajnhemgphefaaGreatDoor
open Go.RowKit Go.Shelf Go.Maps
set_option linter.unusedVariables false
set_option linter.unusedSimpArgs false

def tA : Tm := ⟨ptB 0, 0⟩
/-- path(X,Y):-edge(X,Y). path(X,Z):-path(X,Y),edge(Y,Z). path(a,a). -/
def txtE : ByteArray := ⟨#[112, 97, 116, 104, 40, 88, 44, 89, 41, 58, 45, 101, 100, 103, 101, 40, 88, 44, 89, 41, 46, 32, 112, 97, 116, 104, 40, 88, 44, 90, 41, 58, 45, 112, 97, 116, 104, 40, 88, 44, 89, 41, 44, 101, 100, 103, 101, 40, 89, 44, 90, 41, 46, 32, 112, 97, 116, 104, 40, 97, 44, 97, 41, 46]⟩
def txtEd : ByteArray := ⟨#[101, 100, 103, 101, 40, 88, 44, 89, 41]⟩
def rsE : List Rl := pathR bPa bEd ++ [⟨⟨bPa, [tA, tA]⟩, []⟩]
theorem e_count : Lib.runeCount txtE = 64 := by kernel_rfl
theorem e_parse : parseR txtE = .ok rsE := by kernel_rfl
theorem e_check : checkS rsE = (0, 0) := by kernel_rfl
theorem atom_ed : atomR txtEd = some ⟨bEd, [v0T, v1T]⟩ := by kernel_rfl
theorem e_ams : rsE.flatMap ruleAms = [⟨bPa, [v0T, v1T]⟩, ⟨bEd, [v0T, v1T]⟩, ⟨bPa, [v0T, v1T]⟩, ⟨bPa, [v0T, v2T]⟩, ⟨bEd, [v2T, v1T]⟩, ⟨bPa, [tA, tA]⟩] := rfl
theorem e_arP : arR rsE bPa = 2 := by kernel_rfl
theorem e_arE : arR rsE bEd = 2 := by kernel_rfl
theorem e_der : derB rsE bEd = false := by kernel_rfl
theorem e_given : givenL rsE = [(⟨bPa, ptB 0, ptB 0⟩, 2000000)] := by
  show [(groundA nms0 (⟨bPa, [tA, tA]⟩ : Am), (2000000 : Int))] = _
  have := ground_am bPa 0 0
  unfold amB at this
  rw [show (⟨bPa, [tA, tA]⟩ : Am) = ⟨bPa, [⟨ptB 0, 0⟩, ⟨ptB 0, 0⟩]⟩ from rfl, this]
theorem e_ok : RsOk rsE := by
  have hA : ∀ (x : ByteArray) (t u : Tm), x.size ≤ 1200 → TmOk t → TmOk u → AmOk ⟨x, [t, u]⟩ := fun x t u hx h1 h2 => ⟨hx, Nat.le_refl 2, fun v hv => by
    simp only [List.mem_cons, List.not_mem_nil, or_false] at hv
    rcases hv with rfl | rfl
    · exact h1
    · exact h2⟩
  have h0 : TmOk v0T := ⟨by decide, by decide⟩
  have h1 : TmOk v1T := ⟨by decide, by decide⟩
  have h2 : TmOk v2T := ⟨by decide, by decide⟩
  have h3 : TmOk tA := ⟨by decide, by decide⟩
  refine ⟨by decide, fun r hr => ?_, fun a ha => ?_, fun a ha t ht => ?_, fun r hr t ht hne => ?_⟩
  · simp only [rsE, pathR, List.cons_append, List.nil_append, List.mem_cons, List.not_mem_nil, or_false] at hr
    rcases hr with rfl | rfl | rfl
    · exact ⟨hA _ _ _ (by decide) h0 h1, by decide, fun a ha => by simp only [List.mem_cons, List.not_mem_nil, or_false] at ha; subst ha; exact hA _ _ _ (by decide) h0 h1⟩
    · exact ⟨hA _ _ _ (by decide) h0 h1, by decide, fun a ha => by
        simp only [List.mem_cons, List.not_mem_nil, or_false] at ha
        rcases ha with rfl | rfl
        · exact hA _ _ _ (by decide) h0 h2
        · exact hA _ _ _ (by decide) h2 h1⟩
    · exact ⟨hA _ _ _ (by decide) h3 h3, by decide, fun a ha => by cases ha⟩
  · rw [e_ams] at ha
    simp only [List.mem_cons, List.not_mem_nil, or_false] at ha
    rcases ha with rfl | rfl | rfl | rfl | rfl | rfl
    · exact ⟨e_arP.symm, .inr rfl⟩
    · exact ⟨e_arE.symm, .inr rfl⟩
    · exact ⟨e_arP.symm, .inr rfl⟩
    · exact ⟨e_arP.symm, .inr rfl⟩
    · exact ⟨e_arE.symm, .inr rfl⟩
    · exact ⟨e_arP.symm, .inr rfl⟩
  · rw [e_ams] at ha
    simp only [List.mem_cons, List.not_mem_nil, or_false] at ha
    rcases ha with rfl | rfl | rfl | rfl | rfl | rfl <;> (simp only [List.mem_cons, List.not_mem_nil, or_false] at ht; rcases ht with rfl | rfl <;> decide)
  · simp only [rsE, pathR, List.cons_append, List.nil_append, List.mem_cons, List.not_mem_nil, or_false] at hr
    rcases hr with rfl | rfl | rfl
    · exact ⟨⟨bEd, [v0T, v1T]⟩, List.mem_cons_self, t, ht, hne, rfl⟩
    · simp only [List.mem_cons, List.not_mem_nil, or_false] at ht
      rcases ht with rfl | rfl
      · exact ⟨⟨bPa, [v0T, v2T]⟩, List.mem_cons_self, v0T, List.mem_cons_self, rfl, rfl⟩
      · exact ⟨⟨bEd, [v2T, v1T]⟩, List.mem_cons_of_mem _ List.mem_cons_self, v1T, List.mem_cons_of_mem _ List.mem_cons_self, rfl, rfl⟩
    · simp only [List.mem_cons, List.not_mem_nil, or_false] at ht
      rcases ht with rfl | rfl <;> exact absurd hne (pt_ne 0)
theorem e_names1 : namesR [] (rsE.take 1) = [] := by kernel_rfl
theorem e_names2 : namesR [] (rsE.take 2) = [] := by kernel_rfl
theorem e_names : namesR [] rsE = [ptB 0] := by kernel_rfl
theorem e_new : NewOk txtE rsE := by
  refine ⟨e_parse, ?_, e_ok, fun k => ?_, fun r hr t ht hne => ?_, fun x hx => ?_⟩
  · unfold rulesR
    rw [e_count, if_neg (by decide), e_parse]
    simp only
    rw [e_check, if_pos rfl]
  · match k with
    | 0 => exact Nat.zero_le _
    | 1 => rw [e_names1]; exact Nat.zero_le _
    | 2 => rw [e_names2]; exact Nat.zero_le _
    | k + 3 =>
      have h : rsE.take (k + 3) = rsE := List.take_of_length_le (by show (3 : Nat) ≤ k + 3; omega)
      rw [h, e_names]; exact Nat.le_of_ble_eq_true rfl
  · rw [e_names]
    simp only [rsE, pathR, List.cons_append, List.nil_append, List.mem_cons, List.not_mem_nil, or_false] at hr
    rcases hr with rfl | rfl | rfl <;> (simp only [List.mem_cons, List.not_mem_nil, or_false] at ht; rcases ht with rfl | rfl)
    all_goals first | exact absurd rfl hne | exact List.mem_cons_self
  · rw [e_names] at hx
    simp only [List.mem_cons, List.not_mem_nil, or_false] at hx
    subst hx
    show (1 : Nat) ≤ 1200
    decide

/-- An engine of rules in which edges are given: no more than tb is the time of any fact. -/
structure PeE (rs : List Rl) (tb : Int) (e : Eg) : Prop where
  rs : e.rs = rs
  win : e.win = 20
  lat : e.lat = 3
  names : PtsOk e.names
  kept : ∀ d ∈ e.kept, d.1.rel = bEd ∧ 0 ≤ d.2 ∧ d.2 ≤ tb
/-- An edge is brought: it is kept, or the engine is as it was. -/
theorem pe_ins {rs : List Rl} (hd : derB rs bEd = false) (hA : arR rs bEd = 2) {tb : Int} {e : Eg} (h : PeE rs tb e) {a b : Nat} (ha : a < 6) (hb : b < 6) {t : Int} (ht : 0 ≤ t ∧ t ≤ 1000000) :
    let r := insR e (ofB bEd a b) t
    (r.2 = e ∧ (r.1 = 8 ∨ r.1 = 9 ∨ r.1 = 10) ∧ (r.1 = 8 ↔ t + 20 ≤ e.mark) ∧ (r.1 = 9 → (⟨bEd, ptB a, ptB b⟩, t) ∈ e.kept) ∧ (r.1 = 10 → e.kept.length = 24)) ∨
    (r.1 = 0 ∧ e.mark < t + 20 ∧ (⟨bEd, ptB a, ptB b⟩, t) ∉ e.kept ∧ e.kept.length ≠ 24 ∧ r.2 = { e with names := nmL e.names (amB bEd a b).args, kept := e.kept ++ [(⟨bEd, ptB a, ptB b⟩, t)] }) := by
  intro r
  have hr : r = accR e (amB bEd a b) t := by
    show insR e (ofB bEd a b) t = _
    unfold insR
    rw [atom_e ha hb]
    simp only
    rw [if_neg (by rw [am_ground]; decide), if_neg (by rw [h.rs]; show ¬ derB rs bEd = true; rw [hd]; decide), if_neg (by
      have : ckR e.rs (amB bEd a b) = 0 := by
        unfold ckR
        show (if arR e.rs bEd = 0 then (7 : Int) else if arR e.rs bEd = 2 then 0 else 4) = 0
        rw [h.rs, hA]; rfl
      rw [this]; decide), if_neg (by simp; omega)]
  rw [hr]
  unfold accR
  rw [ground_am, h.win]
  by_cases ho : overB 20 e.mark t = true
  · rw [if_pos ho]
    have ho' : t + 20 ≤ e.mark := by unfold overB at ho; simpa using ho
    exact .inl ⟨rfl, .inl rfl, ⟨fun _ => ho', fun _ => rfl⟩, fun h => by simp at h, fun h => by simp at h⟩
  · rw [if_neg ho]
    have ho' : ¬ t + 20 ≤ e.mark := by unfold overB at ho; simpa using ho
    by_cases hh : hasD e.kept (⟨bEd, ptB a, ptB b⟩, t) = true
    · rw [if_pos hh]
      exact .inl ⟨rfl, .inr (.inl rfl), ⟨fun h => by simp at h, fun h => absurd h ho'⟩, fun _ => (hasD_iff _ _).1 hh, fun h => by simp at h⟩
    · rw [if_neg hh]
      have h6 := pts_six (pts_add h.names bEd ha hb)
      by_cases hf : e.kept.length = 24 ∨ 8 < (nmL e.names (amB bEd a b).args).length
      · rw [if_pos hf]
        exact .inl ⟨rfl, .inr (.inr rfl), ⟨fun h => by simp at h, fun h => absurd h ho'⟩, fun h => by simp at h, fun _ => by omega⟩
      · rw [if_neg hf]
        exact .inr ⟨rfl, by omega, fun hm => hh ((hasD_iff _ _).2 hm), by omega, rfl⟩
theorem pe_kept {rs : List Rl} (hd : derB rs bEd = false) (hA : arR rs bEd = 2) {tb : Int} {e : Eg} (h : PeE rs tb e) {a b : Nat} (ha : a < 6) (hb : b < 6) {t : Int} (ht : 0 ≤ t ∧ t ≤ tb) (hb6 : tb ≤ 1000000) : PeE rs tb (insR e (ofB bEd a b) t).2 := by
  rcases pe_ins hd hA h ha hb (t := t) (by omega) with ⟨h1, _⟩ | ⟨_, _, _, _, h1⟩
  · rw [h1]; exact h
  · rw [h1]
    refine ⟨h.rs, h.win, h.lat, pts_add h.names bEd ha hb, fun d hd => ?_⟩
    rcases List.mem_append.1 hd with hd | hd
    · exact h.kept d hd
    · simp only [List.mem_cons, List.not_mem_nil, or_false] at hd
      subst hd
      exact ⟨rfl, ht⟩

end Go.Proofs.YtjajnhemgphefaaGreatDoor
