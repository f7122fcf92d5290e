/-
  Two engines side by side, as Shuffled uses them.
  The statement Shuffled in plain data: facts in another order come to the same.
  A row of edges in memory.
  The statement Lasts: what its engine answers.
  The statement Shuffled: the facts that it brings, forward and backward.
  The statement Shuffled: its Ticks, what it asks, and its end.
-/
import Derived.Test.YtjajnhemgphefaaGreatDoorJKpT
import Derived.Test.YtjajnhemgphefaaGreatDoorJKpA
import Derived.Test.YtjajnhemgphefaaGreatDoorJChg
namespace Go.Proofs.YtjajnhemgphefaaGreatDoor
open Go.RowKit Go.Shelf Go.Maps
set_option linter.unusedVariables false
set_option linter.unusedSimpArgs false

/-- Two engines, made behind the world w, that share no block that either may write. -/
structure K2 (w : World) (bx by' : Nat) (ex ey : Eg) (W : World) : Prop where
  eng : ∃ Sx Sy : Nat → Prop, EngAt W Sx bx ex ∧ EngAt W Sy by' ey ∧ (∀ k, Sx k → ¬ Sy k) ∧ (∀ k, Sx k → w.heap.size ≤ k) ∧ ∀ k, Sy k → w.heap.size ≤ k
  below : Below w.heap.size w W
  okx : EgOk ex
  oky : EgOk ey
theorem EngAt.ty {W : World} {S : Nat → Prop} {be : Nat} {e : Eg} (h : EngAt W S be e) : ∀ k, S k → WTy W k := by
  obtain ⟨_, _, _, _, _, _, _, _, _, _, hv⟩ := h
  exact hv.typ
theorem K2.swap {w W : World} {bx by' : Nat} {ex ey : Eg} (h : K2 w bx by' ex ey W) : K2 w by' bx ey ex W := by
  obtain ⟨⟨Sx, Sy, h1, h2, h3, h4, h5⟩, h6, h7, h8⟩ := h
  exact ⟨⟨Sy, Sx, h2, h1, fun k hk hx => h3 k hx hk, h5, h4⟩, h6, h8, h7⟩
theorem K2.step {w W W' : World} {bx by' : Nat} {ex ey ex' : Eg} (h : K2 w bx by' ex ey W) {Sx Sy : Nat → Prop} (h1 : EngAt W Sx bx ex) (h2 : EngAt W Sy by' ey) (h3 : ∀ k, Sx k → ¬ Sy k) (h4 : ∀ k, Sx k → w.heap.size ≤ k) (h5 : ∀ k, Sy k → w.heap.size ≤ k) (hp : EngPost Sx bx ex' W W') (hok : EgOk ex') : K2 w bx by' ex' ey W' := by
  obtain ⟨S', j1, j2, j3⟩ := hp
  refine ⟨⟨S', Sy, j1, h2.keep j3 (fun k hy hx => h3 k hx hy) (fun k _ hx => h1.ty k hx), fun k hk hy => ?_, fun k hk => ?_, h5⟩, ?_, hok, h.oky⟩
  · rcases j2 k hk with hs | hs
    · exact h3 k hs hy
    · have := (h2.ty k hy).lt; omega
  · rcases j2 k hk with hs | hs
    · exact h4 k hs
    · exact Nat.le_trans h.below.size hs
  · exact h.below.trans (Chg.below j3 h.below.size h4)
/-- Boxes of edges abide. -/
def EdK (W W' : World) : Prop := ∀ (k : Nat) (c : Array Value), W.heap[k]? = some (Obj.cells c 46 (0, 0)) → W'.heap[k]? = some (Obj.cells c 46 (0, 0))
theorem EdK.post {W W' : World} {S : Nat → Prop} {be : Nat} {e e' : Eg} (h : EngAt W S be e) (hp : EngPost S be e' W W') : EdK W W' := by
  obtain ⟨_, _, _, hc⟩ := hp
  exact fun k c hk => (hc.block k (Array.getElem?_eq_some_iff.1 hk).1 (fun hs => WTy.not hk (by decide) (h.ty k hs))).trans hk
/-- Both begin. -/
theorem K2.two {w W W' : World} {bx by' : Nat} {ex ey : Eg} (hx : KSt w bx [] ex W) (hy : KSt W by' [] ey W') : K2 w bx by' ex ey W' := by
  obtain ⟨Sx, h1, h2⟩ := hx.eng
  obtain ⟨Sy, k1, k2⟩ := hy.eng
  refine ⟨⟨Sx, Sy, h1.below hy.below, k1, fun k hk hs => ?_, fun k hk => (h2 k hk).1, fun k hk => Nat.le_trans hx.below.size (k2 k hk).1⟩, hx.below.trans (hy.below.mono hx.below.size), hx.ok, hy.ok⟩
  have := (h1.ty k hk).lt
  have := (k2 k hs).1
  omega

section
variable {w W : World} {bx by' : Nat} {ex ey : Eg}
theorem k2insert (h : K2 w bx by' ex ey W) (hT : Lib.Utf8Tabs 0 1 w) (s : ByteArray) (t : Int) (hs : s.size ≤ 4611686018427387904) (hn : ∀ a, atomR s = some a → AmOk a ∧ ∀ t ∈ a.args, t.num < 6) :
    Calls Tryz.prog 20 #[.pointer (some ⟨bx, 0, none⟩), .string s, .int .i64 t] W fun en W' => en = .returned (.int .i64 (insR ex s t).1) ∧ K2 w bx by' (insR ex s t).2 ey W' ∧ EdK W W' := by
  obtain ⟨Sx, Sy, h1, h2, h3, h4, h5⟩ := h.eng
  refine (insert_any Sx bx ex s t W h1 h.okx hs (Utf8Tabs_below hT h.below) (fun a ha => (hn a ha).2)).mono ?_
  rintro en W' ⟨k1, k2⟩
  exact ⟨k1, h.step h1 h2 h3 h4 h5 k2 (ins_ok h.okx s (fun a ha => (hn a ha).1) t), EdK.post h1 k2⟩
theorem k2tick (h : K2 w bx by' ex ey W) (c : Int) :
    Calls Tryz.prog 22 #[.pointer (some ⟨bx, 0, none⟩), .int .i64 c] W fun en W' => ∃ e' r, TickE ex c e' r ∧ en = .returned (.tuple #[.int .i64 r.1, .int .i64 r.2]) ∧ K2 w bx by' e' ey W' := by
  obtain ⟨Sx, Sy, h1, h2, h3, h4, h5⟩ := h.eng
  refine (tick_any Sx bx ex c W h1 h.okx).mono ?_
  rintro en W' ⟨e', r, k1, k2, k3⟩
  exact ⟨e', r, k1, k2, h.step h1 h2 h3 h4 h5 k3 (tick_ok h.okx k1)⟩
theorem k2ask (h : K2 w bx by' ex ey W) (hT : Lib.Utf8Tabs 0 1 w) (s : ByteArray) (hs : s.size ≤ 4611686018427387904) (a : Am) (ha : atomR s = some a) (hn : ∀ t ∈ a.args, t.num < 6) (hck : ckR ex.rs a = 0) :
    Calls Tryz.prog 25 #[.pointer (some ⟨bx, 0, none⟩), .string s] W fun en W' => ∃ (oa : Option Addr) (oc : Nat) (gs : List Gd), en = .returned (.tuple #[.slice oa gs.length oc, .int .i64 0]) ∧ fitP ex.M a gs ∧ W'.ownsRow W.heap.size 9 1 (.slice oa gs.length oc) gs.length ((textsOf gs).map strV) ∧ Below W.heap.size W W' ∧ K2 w bx by' ex ey W' := by
  obtain ⟨Sx, Sy, h1, h2, h3, h4, h5⟩ := h.eng
  refine (ask_any Sx bx ex s W h1 h.okx hs (Utf8Tabs_below hT h.below) (fun b hb => by rw [ha] at hb; cases hb; exact hn)).mono ?_
  rintro en W' ⟨k1, k2⟩
  rw [ha] at k2
  rcases k2 with ⟨k2, _⟩ | ⟨_, v, gs, k3, k4, k5⟩
  · exact absurd hck k2
  · obtain ⟨oa, oc, hof⟩ := owns_form k5
    subst hof
    rw [textsOf_len] at k4 k5
    exact ⟨oa, oc, gs, k4, k3, k5, k1, h.step h1 h2 h3 h4 h5 (EngPost.same h1 k1) h.okx⟩
end

end Go.Proofs.YtjajnhemgphefaaGreatDoor

namespace Go.Proofs.YtjajnhemgphefaaGreatDoor
open Go.RowKit Go.Shelf Go.Maps
set_option linter.unusedVariables false
set_option linter.unusedSimpArgs false

/-- A fact that is kept already is told so. -/
theorem pe_twice {rs : List Rl} (hd : derB rs bEd = false) (hA : arR rs bEd = 2) {tb : Int} {e : Eg} (h : PeE rs tb e) {a b : Nat} (ha : a < 6) (hb : b < 6) {t : Int} (ht : 0 ≤ t ∧ t ≤ 1000000) (hm : e.mark < t + 20) (hk : (⟨bEd, ptB a, ptB b⟩, t) ∈ e.kept) : insR e (ofB bEd a b) t = (9, e) := by
  unfold insR
  rw [atom_e ha hb]
  simp only
  rw [if_neg (by rw [am_ground]; decide), if_neg (by rw [h.rs]; show ¬ derB rs bEd = true; rw [hd]; decide), if_neg (by
    have : ckR e.rs (amB bEd a b) = 0 := by
      unfold ckR
      show (if arR e.rs bEd = 0 then (7 : Int) else if arR e.rs bEd = 2 then 0 else 4) = 0
      rw [h.rs, hA]; rfl
    rw [this]; decide), if_neg (by simp; omega)]
  unfold accR
  rw [ground_am, h.win, if_neg (by unfold overB; simp; omega), if_pos ((hasD_iff _ _).2 hk)]

/-- An engine ahead of its Ticks that has been brought just these, and of them no more than 24. -/
structure ShE (F : List (Gd × Int)) (e : Eg) : Prop where
  pe : PeE rsP 29 e
  mark : e.mark = 0
  fds : e.fds = []
  M : ∀ g, e.M g = none
  kept : ∀ d, d ∈ e.kept ↔ d ∈ F
  few : e.kept.length ≤ F.length
theorem sh_ins {F : List (Gd × Int)} {e : Eg} (h : ShE F e) (hF : F.length < 24) {a b : Nat} (ha : a < 6) (hb : b < 6) {t : Int} (ht : 0 ≤ t ∧ t ≤ 29) : ShE (F ++ [(⟨bEd, ptB a, ptB b⟩, t)]) (insR e (ofB bEd a b) t).2 := by
  have hpk := pe_kept p_der p_arE h.pe ha hb ht (by decide)
  rcases pe_ins p_der p_arE h.pe ha hb (t := t) (by omega) with ⟨h1, h2, h3, h4, h5⟩ | ⟨_, _, h2, _, h1⟩
  · rw [h1] at hpk ⊢
    have hmem : (⟨bEd, ptB a, ptB b⟩, t) ∈ e.kept := by
      rcases h2 with g | g | g
      · have := h3.1 g; rw [h.mark] at this; omega
      · exact h4 g
      · have := h5 g; have := h.few; omega
    refine ⟨hpk, h.mark, h.fds, h.M, fun d => ?_, by rw [List.length_append]; have := h.few; omega⟩
    rw [h.kept d, List.mem_append, List.mem_singleton]
    exact ⟨.inl, fun hh => hh.elim id (fun e1 => by rw [e1]; exact (h.kept _).1 hmem)⟩
  · rw [h1] at hpk ⊢
    refine ⟨hpk, h.mark, h.fds, h.M, fun d => ?_, ?_⟩
    · show d ∈ e.kept ++ [_] ↔ _
      rw [List.mem_append, List.mem_append, h.kept d]
    · show (e.kept ++ [_]).length ≤ _
      rw [List.length_append, List.length_append]
      have := h.few
      simp only [List.length_cons, List.length_nil]
      omega
/-- Two engines that have been brought the same. -/
structure Sh2 (m : Int) (ex ey : Eg) : Prop where
  px : PeE rsP 29 ex
  py : PeE rsP 29 ey
  mx : ex.mark = m
  my : ey.mark = m
  fx : ex.fds = []
  fy : ey.fds = []
  kept : ∀ d, d ∈ ex.kept ↔ d ∈ ey.kept
  M : ex.M = ey.M
theorem sh_begin {F F' : List (Gd × Int)} {ex ey : Eg} (hx : ShE F ex) (hy : ShE F' ey) (hF : ∀ d, d ∈ F ↔ d ∈ F') : Sh2 0 ex ey := by
  refine ⟨hx.pe, hy.pe, hx.mark, hy.mark, hx.fds, hy.fds, fun d => by rw [hx.kept, hy.kept, hF], ?_⟩
  funext g; rw [hx.M, hy.M]
theorem facts_mem {e : Eg} (h : e.win = 20) (m : Int) (x : Gd × Int) : x ∈ factsF e m ↔ ((x.1, x.2 - 20) ∈ e.kept ∧ m < x.2 ∧ x.2 - 20 ≤ m) := by
  unfold factsF
  rw [h, List.mem_map]
  constructor
  · rintro ⟨d, hd, rfl⟩
    obtain ⟨h1, h2⟩ := List.mem_filter.1 hd
    obtain ⟨h3, h4⟩ := List.mem_filter.1 h1
    have e1 : ((d.1, d.2 + 20).2 : Int) - 20 = d.2 := by show d.2 + 20 - 20 = d.2; omega
    rw [e1]
    unfold overB at h4
    simp at h2 h4
    exact ⟨h3, h4, h2⟩
  · rintro ⟨h1, h2, h3⟩
    refine ⟨(x.1, x.2 - 20), List.mem_filter.2 ⟨List.mem_filter.2 ⟨h1, ?_⟩, ?_⟩, ?_⟩
    · unfold overB; simp; omega
    · simp; omega
    · show (x.1, x.2 - 20 + 20) = x
      rw [Int.sub_add_cancel]
theorem sh_tick {m c : Int} {ex ey ex' ey' : Eg} {r r' : Int × Int} (h : Sh2 m ex ey) (hm : 0 ≤ m) (hc : 0 ≤ c ∧ c ≤ 1000000) (tx : TickE ex c ex' r) (ty : TickE ey c ey' r') :
    r = (max m (c - 3), 0) ∧ r' = (max m (c - 3), 0) ∧ Sh2 (max m (c - 3)) ex' ey' := by
  have nofds : ∀ (l l' : List Fs), l = [] → l'.length = l.length → l' = [] := fun l l' h1 h2 => List.eq_nil_of_length_eq_zero (by rw [h2, h1]; rfl)
  rcases tx with ⟨hn, _⟩ | ⟨_, hr, ⟨hle, rfl⟩ | ⟨hlt, hmx⟩⟩
  · exact absurd hc hn
  · rw [h.px.lat, h.mx] at hle
    have hmax : max m (c - 3) = m := by omega
    rcases ty with ⟨hn, _⟩ | ⟨_, hr', ⟨_, rfl⟩ | ⟨hlt', _⟩⟩
    · exact absurd hc hn
    · rw [hmax, hr, hr', h.mx, h.my]
      exact ⟨rfl, rfl, h⟩
    · rw [h.py.lat, h.my] at hlt'; omega
  · rw [h.px.lat, h.mx] at hlt
    rw [h.px.lat] at hmx
    have hmax : max m (c - 3) = c - 3 := by omega
    rcases ty with ⟨hn, _⟩ | ⟨_, hr', ⟨hle', _⟩ | ⟨_, hmy⟩⟩
    · exact absurd hc hn
    · rw [h.py.lat, h.my] at hle'; omega
    · rw [h.py.lat] at hmy
      obtain ⟨Mx, fx, hMx, hlx, _, rfl⟩ := hmx
      obtain ⟨My, fy, hMy, hly, _, rfl⟩ := hmy
      rw [h.px.rs, p_given, List.append_nil] at hMx
      rw [h.py.rs, p_given, List.append_nil] at hMy
      have hfac : ∀ x, x ∈ factsF ex (c - 3) ↔ x ∈ factsF ey (c - 3) := fun x => by
        rw [facts_mem h.px.win, facts_mem h.py.win, h.kept]
      have hMM : Mx = My := hMx.eq hMy (fun e g => Der.congr hfac e g)
      rw [hmax]
      refine ⟨hr, hr', ⟨h.px.rs, h.px.win, h.px.lat, h.px.names, fun d hd => h.px.kept d (List.mem_filter.1 hd).1⟩, ⟨h.py.rs, h.py.win, h.py.lat, h.py.names, fun d hd => h.py.kept d (List.mem_filter.1 hd).1⟩, rfl, rfl, nofds _ _ h.fx hlx, nofds _ _ h.fy hly, fun d => ?_, hMM⟩
      show d ∈ ex.kept.filter _ ↔ d ∈ ey.kept.filter _
      rw [List.mem_filter, List.mem_filter, h.kept d, h.px.win, h.py.win]
/-- What is told is the same, letter by letter. -/
theorem sh_texts {M : Gd → Option Int} {a : Am} {gs gs' : List Gd} (h : fitP M a gs) (h' : fitP M a gs') : gs.length = gs'.length ∧ textsOf gs = textsOf gs' := by
  have hp : gs.Perm gs' := FitIs.perm (M := M) (a := a) h h'
  exact ⟨hp.length_eq, sortT_perm (hp.map _)⟩

end Go.Proofs.YtjajnhemgphefaaGreatDoor

namespace Go.Proofs.YtjajnhemgphefaaGreatDoor
open Go.RowKit Go.Shelf
set_option linter.unusedVariables false

/-- A row of edges in memory. -/
def EdAt (w : World) (a : Option Addr) (l : List (Int × Int × Int)) : Prop := ∀ i (h : i < l.length), ∃ b off, a = some ⟨b, off, none⟩ ∧ b < w.heap.size ∧ w.cell? ⟨b, off + i * 3, none⟩ = some (.int .i64 (l[i]).1) ∧ w.cell? ⟨b, off + i * 3 + 1, none⟩ = some (.int .i64 (l[i]).2.1) ∧ w.cell? ⟨b, off + i * 3 + 2, none⟩ = some (.int .i64 (l[i]).2.2)
def IntOk (z : Int) : Prop := -9223372036854775808 ≤ z ∧ z ≤ 9223372036854775807

end Go.Proofs.YtjajnhemgphefaaGreatDoor

namespace Go.Proofs.YtjajnhemgphefaaGreatDoor
open Go.RowKit Go.Shelf Go.Maps
set_option linter.unusedVariables false
set_option linter.unusedSimpArgs false

/-- The engine of Lasts ahead of its Tick. -/
def LsE (e : Eg) : Prop := PaE 15 e ∧ e.mark = 0 ∧ e.fds = [] ∧ (⟨bEd, ptB 0, ptB 1⟩, (4 : Int)) ∈ e.kept

/-- What Lasts knows of its facts, and of what holds at 15. -/
structure Ls0 (K0 : List (Gd × Int)) (M0 : Gd → Option Int) : Prop where
  least : LeastM rsP (endsF (atK K0 15)) M0
  edge : (⟨bEd, ptB 0, ptB 1⟩, (4 : Int)) ∈ K0
  old : ∀ d ∈ K0, 0 ≤ d.2 ∧ d.2 ≤ 15 ∧ d.1.rel = bEd
/-- The engine of Lasts at a watermark. -/
def LsS (w : World) (be : Nat) (K0 : List (Gd × Int)) (M0 : Gd → Option Int) (m : Int) (W : World) : Prop := ∃ e, LsK K0 m e ∧ LeastM rsP (endsF e.kept) e.M ∧ KSt w be [] e W ∧ (m = 15 → e.M = M0)

theorem ls_first {w W : World} {be : Nat} (h : ∃ e, LsE e ∧ KSt w be [] e W) :
    Calls Tryz.prog 22 #[.pointer (some ⟨be, 0, none⟩), .int .i64 18] W fun en W' => en = .returned (.tuple #[.int .i64 15, .int .i64 0]) ∧ ∃ K0 M0, Hid (Ls0 K0 M0 ∧ LsS w be K0 M0 15 W') := by
  obtain ⟨e, ⟨h1, h2, h3, h4⟩, h5⟩ := h
  have hold : ∀ d ∈ e.kept, 0 ≤ d.2 ∧ d.2 ≤ 15 ∧ d.1.rel = bEd := fun d hd => ⟨(h1.kept d hd).2.1, (h1.kept d hd).2.2, (h1.kept d hd).1⟩
  have hat : atK e.kept 0 = e.kept := by
    unfold atK
    rw [List.filter_eq_self]
    intro d hd
    have := hold d hd
    simp; omega
  have hk : LsK e.kept 0 e := ⟨h1, h2, hat.symm, hold⟩
  refine (ktick h5 18).mono ?_
  rintro en W' ⟨e', r, k1, k2, k3, _⟩
  obtain ⟨rfl, g2, g3, _⟩ := ls_move hk (m' := 15) (by decide) (by decide) (by decide) k1
  have g3' := g3
  rw [g2.kept] at g3'
  exact ⟨k2, e.kept, e'.M, ⟨g3', h4, hold⟩, e', g2, g3, k3, fun _ => rfl⟩
theorem ls_until {w W : World} {be : Nat} {K0 : List (Gd × Int)} {M0 : Gd → Option Int} (h : LsS w be K0 M0 15 W) (hT : Lib.Utf8Tabs 0 1 w) {i j : Nat} (hi : i < 6) (hj : j < 6) :
    Calls Tryz.prog 24 #[.pointer (some ⟨be, 0, none⟩), .string (ofB bPa i j)] W fun en W' => en = .returned (.tuple #[.int .i64 ((M0 ⟨bPa, ptB i, ptB j⟩).getD 0), .int .i64 0]) ∧ Hid (LsS w be K0 M0 15 W') := by
  obtain ⟨e, h1, h2, h3, h4⟩ := h
  refine (kuntil_p h3 h1.pa.rs hT hi hj).mono ?_
  rintro en W' ⟨k1, k2⟩
  rw [h4 rfl] at k1
  exact ⟨k1, e, h1, h2, k2, h4⟩
theorem ls_bounds {K0 : List (Gd × Int)} {M0 : Gd → Option Int} (h : Ls0 K0 M0) (g : Gd) : 0 ≤ (M0 g).getD 0 ∧ ((M0 g).getD 0 ≤ 0 ∨ 15 < (M0 g).getD 0) ∧ (M0 g).getD 0 ≤ 35 := by
  cases hc : M0 g with
  | none => exact ⟨by decide, .inl (by decide), by decide⟩
  | some u =>
    have := ls_bound h.old h.least hc
    simp only [Option.getD_some]
    omega
theorem ls_long {K0 : List (Gd × Int)} {M0 : Gd → Option Int} (h : Ls0 K0 M0) : 24 ≤ (M0 ⟨bPa, ptB 0, ptB 1⟩).getD 0 := by
  obtain ⟨u, hu, hle⟩ := ls_edge h.old h.least h.edge (by decide)
  rw [hu]
  show 24 ≤ u
  omega
theorem ls_tick {w W : World} {be : Nat} {K0 : List (Gd × Int)} {M0 : Gd → Option Int} {m m' : Int} (h : LsS w be K0 M0 m W) (h15 : 15 ≤ m) (hm : m ≤ m') (hb : m' ≤ 1000) :
    Calls Tryz.prog 22 #[.pointer (some ⟨be, 0, none⟩), .int .i64 (m' + 3)] W fun en W' => en = .returned (.tuple #[.int .i64 m', .int .i64 0]) ∧ Hid (LsS w be K0 M0 m' W') := by
  obtain ⟨e, h1, h2, h3, h4⟩ := h
  refine (ktick h3 (m' + 3)).mono ?_
  rintro en W' ⟨e', r, k1, k2, k3, _⟩
  by_cases hlt : m < m'
  · obtain ⟨rfl, g2, g3, _⟩ := ls_move h1 hlt (by omega) (by omega) k1
    exact ⟨k2, e', g2, g3, k3, fun e => by omega⟩
  · have hmm : m = m' := by omega
    subst hmm
    obtain ⟨rfl, rfl⟩ := ls_stay h1 (by omega) (by omega) k1
    exact ⟨k2, e', h1, h2, k3, h4⟩
theorem ls_ask {w W : World} {be : Nat} {K0 : List (Gd × Int)} {M0 : Gd → Option Int} {m : Int} (h0 : Ls0 K0 M0) (h : LsS w be K0 M0 m W) (h15 : 15 ≤ m) (hT : Lib.Utf8Tabs 0 1 w) {i j : Nat} (hi : i < 6) (hj : j < 6) :
    Calls Tryz.prog 25 #[.pointer (some ⟨be, 0, none⟩), .string (ofB bPa i j)] W fun en W' => ∃ (oa : Option Addr) (oc n : Nat), en = .returned (.tuple #[.slice oa n oc, .int .i64 0]) ∧ Hid (n ≤ 1 ∧ (n = 1 ↔ m < (M0 ⟨bPa, ptB i, ptB j⟩).getD 0)) ∧ Hid (LsS w be K0 M0 m W') := by
  obtain ⟨e, h1, h2, h3, h4⟩ := h
  refine (kask_p h3 h1.pa.rs hT hi hj).mono ?_
  rintro en W' ⟨oa, oc, n, k1, k2, k3⟩
  refine ⟨oa, oc, n, k1, ?_, e, h1, h2, k3, h4⟩
  have h2' := h2
  rw [h1.kept] at h2'
  have hiff := ls_iff h15 h0.least h2' ⟨bPa, ptB i, ptB j⟩
  by_cases hs : (e.M ⟨bPa, ptB i, ptB j⟩).isSome = true
  · rw [if_pos hs] at k2
    obtain ⟨u, hu, hlt⟩ := hiff.1 hs
    refine ⟨by omega, fun _ => ?_, fun _ => k2⟩
    rw [hu]; exact hlt
  · rw [if_neg hs] at k2
    refine ⟨by omega, fun h => by omega, fun hlt => ?_⟩
    exfalso
    apply hs
    refine hiff.2 ?_
    cases hc : M0 ⟨bPa, ptB i, ptB j⟩ with
    | none => rw [hc] at hlt; simp at hlt; omega
    | some u => rw [hc] at hlt; exact ⟨u, rfl, hlt⟩
theorem ls_end {w W : World} {be : Nat} {K0 : List (Gd × Int)} {M0 : Gd → Option Int} (h0 : Ls0 K0 M0) (h : LsS w be K0 M0 35 W) (hT : Lib.Utf8Tabs 0 1 w) :
    Calls Tryz.prog 25 #[.pointer (some ⟨be, 0, none⟩), .string txtXY] W fun en W' => ∃ (oa : Option Addr) (oc : Nat), en = .returned (.tuple #[.slice oa 0 oc, .int .i64 0]) ∧ Hid (Below w.heap.size w W') := by
  obtain ⟨e, h1, h2, h3, h4⟩ := h
  have h2' := h2
  rw [h1.kept] at h2'
  refine (kask_none h3 h1.pa.rs hT (ls_over h0.old h2')).mono ?_
  rintro en W' ⟨oa, oc, k1, k2⟩
  exact ⟨oa, oc, k1, k2.below⟩

end Go.Proofs.YtjajnhemgphefaaGreatDoor

namespace Go.Proofs.YtjajnhemgphefaaGreatDoor
open Go.RowKit Go.Shelf Go.Maps
set_option linter.unusedVariables false
set_option linter.unusedSimpArgs false

def p6 (z : Int) : Nat := (pickZ z 6).toNat
def p30 (z : Int) : Nat := (pickZ z 30).toNat
theorem p6_lt (z : Int) : p6 z < 6 := by
  have := pickZ_bounds z 6 (by decide)
  unfold p6; omega
theorem p30_lt (z : Int) : p30 z < 30 := by
  have := pickZ_bounds z 30 (by decide)
  unfold p30; omega
/-- pick of six, and of thirty, as the statement calls it. -/
theorem kpick6 (z : Int) (w : World) (hz : IntOk z) : Calls Tryz.prog 19 #[.int .i64 z, .int .i64 6] w fun e w' => e = .returned (.int .i64 (p6 z : Int)) ∧ w = w' := by
  refine (kpick_any z 6 w hz.1 hz.2 (by decide) (by decide)).mono ?_
  rintro e w' ⟨h1, h2⟩
  have := pickZ_bounds z 6 (by decide)
  exact ⟨by rw [h1]; unfold p6; rw [Int.toNat_of_nonneg this.1], h2.symm⟩
theorem kpick30 (z : Int) (w : World) (hz : IntOk z) : Calls Tryz.prog 19 #[.int .i64 z, .int .i64 30] w fun e w' => e = .returned (.int .i64 (p30 z : Int)) ∧ w = w' := by
  refine (kpick_any z 30 w hz.1 hz.2 (by decide) (by decide)).mono ?_
  rintro e w' ⟨h1, h2⟩
  have := pickZ_bounds z 30 (by decide)
  exact ⟨by rw [h1]; unfold p30; rw [Int.toNat_of_nonneg this.1], h2.symm⟩
/-- The fact of an edge. -/
def edF (z : Int × Int × Int) : Gd × Int := (⟨bEd, ptB (p6 z.1), ptB (p6 z.2.1)⟩, (p30 z.2.2 : Int))
/-- The facts in order, and the last first. -/
def fwdF (l : List (Int × Int × Int)) (i : Nat) : List (Gd × Int) := (List.range i).map (fun j => edF (l.getD j (0, 0, 0)))
def bwdF (l : List (Int × Int × Int)) (n i : Nat) : List (Gd × Int) := (List.range i).map (fun j => edF (l.getD (n - 1 - j) (0, 0, 0)))
theorem fwd_bwd (l : List (Int × Int × Int)) (n : Nat) (d : Gd × Int) : d ∈ fwdF l n ↔ d ∈ bwdF l n n := by
  unfold fwdF bwdF
  rw [List.mem_map, List.mem_map]
  constructor
  · rintro ⟨j, hj, rfl⟩
    have := List.mem_range.1 hj
    exact ⟨n - 1 - j, List.mem_range.2 (by omega), by rw [show n - 1 - (n - 1 - j) = j by omega]⟩
  · rintro ⟨j, hj, rfl⟩
    have := List.mem_range.1 hj
    exact ⟨n - 1 - j, List.mem_range.2 (by omega), rfl⟩
theorem fwd_succ (l : List (Int × Int × Int)) (i : Nat) : fwdF l (i + 1) = fwdF l i ++ [edF (l.getD i (0, 0, 0))] := by
  unfold fwdF; rw [List.range_succ, List.map_append]; rfl
theorem bwd_succ (l : List (Int × Int × Int)) (n i : Nat) : bwdF l n (i + 1) = bwdF l n i ++ [edF (l.getD (n - 1 - i) (0, 0, 0))] := by
  unfold bwdF; rw [List.range_succ, List.map_append]; rfl
/-- Behind i rounds of Shuffled's first loop. -/
def ShI (w : World) (bx by' : Nat) (l : List (Int × Int × Int)) (n i : Nat) (W : World) : Prop := ∃ ex ey, K2 w bx by' ex ey W ∧ ShE (fwdF l i) ex ∧ ShE (bwdF l n i) ey

end Go.Proofs.YtjajnhemgphefaaGreatDoor

namespace Go.Proofs.YtjajnhemgphefaaGreatDoor
open Go.RowKit Go.Shelf Go.Maps
set_option linter.unusedVariables false
set_option linter.unusedSimpArgs false

/-- Two engines side by side that have been brought the same. -/
def Sh2P (w : World) (bx by' : Nat) (m : Int) (W : World) : Prop := ∃ ex ey, K2 w bx by' ex ey W ∧ Sh2 m ex ey
/-- One of them has been ticked. -/
def ShT (w : World) (bx by' : Nat) (m c : Int) (W : World) : Prop := ∃ ex ex' ey r, Sh2 m ex ey ∧ TickE ex c ex' r ∧ K2 w bx by' ex' ey W
theorem sh_tick1 {m c : Int} {ex ex' ey : Eg} {r : Int × Int} (h : Sh2 m ex ey) (hc : 0 ≤ c ∧ c ≤ 1000000) (tx : TickE ex c ex' r) : r = (max m (c - 3), 0) := by
  rcases tx with ⟨hn, _⟩ | ⟨_, hr, ⟨hle, rfl⟩ | ⟨hlt, hmx⟩⟩
  · exact absurd hc hn
  · rw [h.px.lat, h.mx] at hle
    rw [hr, h.mx]
    have hmax : max m (c - 3) = m := by omega
    rw [hmax]
  · rw [h.px.lat, h.mx] at hlt
    rw [h.px.lat] at hmx
    have hmax : max m (c - 3) = c - 3 := by omega
    obtain ⟨Mx, fx, hMx, hlx, _, rfl⟩ := hmx
    rw [hr, hmax]
section
variable {w W : World} {bx by' : Nat} {m : Int}
theorem s_tick1 (h : Sh2P w bx by' m W) {c mm : Int} (hc : 0 ≤ c ∧ c ≤ 1000000) (hmm : max m (c - 3) = mm) :
    Calls Tryz.prog 22 #[.pointer (some ⟨bx, 0, none⟩), .int .i64 c] W fun en W' => en = .returned (.tuple #[.int .i64 mm, .int .i64 0]) ∧ Hid (ShT w bx by' m c W') := by
  obtain ⟨ex, ey, h1, h2⟩ := h
  refine (k2tick h1 c).mono ?_
  rintro en W' ⟨e', r, k1, k2, k3⟩
  have := sh_tick1 h2 hc k1
  subst this
  rw [hmm] at k2
  exact ⟨k2, ex, e', ey, _, h2, k1, k3⟩
theorem s_tick2 {c mm : Int} (h : ShT w bx by' m c W) (hm : 0 ≤ m) (hc : 0 ≤ c ∧ c ≤ 1000000) (hmm : max m (c - 3) = mm) :
    Calls Tryz.prog 22 #[.pointer (some ⟨by', 0, none⟩), .int .i64 c] W fun en W' => en = .returned (.tuple #[.int .i64 mm, .int .i64 0]) ∧ Hid (Sh2P w bx by' mm W') := by
  obtain ⟨ex, ex', ey, r, h1, h2, h3⟩ := h
  refine (k2tick h3.swap c).mono ?_
  rintro en W' ⟨e', r', k1, k2, k3⟩
  obtain ⟨g1, rfl, g3⟩ := sh_tick h1 hm hc h2 k1
  rw [hmm] at k2 g3
  exact ⟨k2, ex', e', k3.swap, g3⟩
def aXY : Am := ⟨bPa, [v0T, v1T]⟩
theorem xy_nums : ∀ t ∈ aXY.args, t.num < 6 := by
  intro t ht; simp only [aXY, List.mem_cons, List.not_mem_nil, or_false] at ht; rcases ht with rfl | rfl <;> decide
theorem xy_ck {e : Eg} (h : e.rs = rsP) : ckR e.rs aXY = 0 := by
  unfold ckR
  show (if arR e.rs bPa = 0 then (7 : Int) else if arR e.rs bPa = 2 then 0 else 4) = 0
  rw [h, p_arP]; rfl
/-- The first has been asked. -/
def ShA (w : World) (bx by' : Nat) (m : Int) (ts : List (List UInt8)) (W : World) : Prop := ∃ ex ey, K2 w bx by' ex ey W ∧ Sh2 m ex ey ∧ ∃ gs, fitP ex.M aXY gs ∧ ts = textsOf gs
theorem s_ask1 (h : Sh2P w bx by' m W) (hT : Lib.Utf8Tabs 0 1 w) :
    Calls Tryz.prog 25 #[.pointer (some ⟨bx, 0, none⟩), .string txtXY] W fun en W' => ∃ (oa : Option Addr) (oc : Nat) (ts : List (List UInt8)), en = .returned (.tuple #[.slice oa ts.length oc, .int .i64 0]) ∧ ts.length ≤ 72 ∧ Hid (ShA w bx by' m ts W' ∧ W'.ownsRow 0 9 1 (.slice oa ts.length oc) ts.length (ts.map strV)) := by
  obtain ⟨ex, ey, h1, h2⟩ := h
  refine (k2ask h1 hT txtXY (by decide) aXY atom_xy xy_nums (xy_ck h2.px.rs)).mono ?_
  rintro en W' ⟨oa, oc, gs, k1, k2, k3, k4, k5⟩
  refine ⟨oa, oc, textsOf gs, by rw [textsOf_len]; exact k1, ?_, ⟨ex, ey, k5, h2, gs, k2, rfl⟩, ?_⟩
  · rw [textsOf_len]
    exact fit_few k2 (fun g hg => (h1.okx.md g hg).2) h1.okx.n8
  · rw [textsOf_len]; exact own_down k3 (Nat.zero_le _)
theorem s_ask2 {ts : List (List UInt8)} {oa : Option Addr} {oc : Nat} (h : ShA w bx by' m ts W ∧ W.ownsRow 0 9 1 (.slice oa ts.length oc) ts.length (ts.map strV)) (hT : Lib.Utf8Tabs 0 1 w) :
    Calls Tryz.prog 25 #[.pointer (some ⟨by', 0, none⟩), .string txtXY] W fun en W' => ∃ (oa' : Option Addr) (oc' : Nat), en = .returned (.tuple #[.slice oa' ts.length oc', .int .i64 0]) ∧ Hid (Sh2P w bx by' m W' ∧ W'.ownsRow 0 9 1 (.slice oa ts.length oc) ts.length (ts.map strV) ∧ W'.ownsRow 0 9 1 (.slice oa' ts.length oc') ts.length (ts.map strV)) := by
  obtain ⟨⟨ex, ey, h1, h2, gs, h3, rfl⟩, h4⟩ := h
  refine (k2ask h1.swap hT txtXY (by decide) aXY atom_xy xy_nums (xy_ck h2.py.rs)).mono ?_
  rintro en W' ⟨oa', oc', gs', k1, k2, k3, k4, k5⟩
  rw [← h2.M] at k2
  obtain ⟨g1, g2⟩ := sh_texts h3 k2
  rw [← g1] at k1 k3
  rw [← g2] at k3
  refine ⟨oa', oc', by rw [textsOf_len]; exact k1, ⟨ex, ey, k5.swap, h2⟩, own_below h4 k4, ?_⟩
  rw [textsOf_len]
  exact own_down k3 (Nat.zero_le _)
theorem Sh2P.later {W' : World} (h : Sh2P w bx by' m W) (hb : Below W.heap.size W W') : Sh2P w bx by' m W' := by
  obtain ⟨ex, ey, ⟨⟨Sx, Sy, h1, h2, h3, h4, h5⟩, h6, h7, h8⟩, h9⟩ := h
  exact ⟨ex, ey, ⟨⟨Sx, Sy, h1.below hb, h2.below hb, h3, h4, h5⟩, h6.trans (hb.mono h6.size), h7, h8⟩, h9⟩

/-- The end: the old facts are over; one edge more. -/
def ShF (w : World) (bx by' : Nat) (m : Int) (k : List (Gd × Int)) (W : World) : Prop := ∃ ex ey, K2 w bx by' ex ey W ∧ PeE rsP 60 ex ∧ ex.mark = m ∧ ex.kept = k ∧ ex.fds = []
theorem s_last (h : Sh2P w bx by' m W) (hm : m < 57) :
    Calls Tryz.prog 22 #[.pointer (some ⟨bx, 0, none⟩), .int .i64 60] W fun en W' => en = .returned (.tuple #[.int .i64 57, .int .i64 0]) ∧ Hid (ShF w bx by' 57 [] W') := by
  obtain ⟨ex, ey, h1, h2⟩ := h
  refine (k2tick h1 60).mono ?_
  rintro en W' ⟨e', r, k1, k2, k3⟩
  rcases k1 with ⟨hn, _⟩ | ⟨_, hr, ⟨hle, _⟩ | ⟨hlt, hmx⟩⟩
  · exact absurd ⟨by decide, by decide⟩ hn
  · rw [h2.px.lat, h2.mx] at hle; omega
  · rw [h2.px.lat] at hmx
    obtain ⟨Mx, fx, hMx, hlx, _, rfl⟩ := hmx
    have hk0 : ex.kept.filter (fun d => !overB ex.win (60 - 3) d.2) = [] := by
      rw [List.filter_eq_nil_iff]
      intro d hd
      have := (h2.px.kept d hd).2.2
      rw [h2.px.win]
      unfold overB
      simp; omega
    rw [hk0] at k3
    subst hr
    refine ⟨k2, _, ey, k3, ⟨h2.px.rs, h2.px.win, h2.px.lat, h2.px.names, fun d hd => (by cases hd)⟩, rfl, rfl, ?_⟩
    exact List.eq_nil_of_length_eq_zero (by show fx.length = 0; rw [hlx, h2.fx]; rfl)
def txtAB : ByteArray := ⟨#[101, 100, 103, 101, 40, 97, 44, 98, 41]⟩
theorem ab_of : txtAB = ofB bEd 0 1 := by kernel_rfl
def dAB : Gd × Int := (⟨bEd, ptB 0, ptB 1⟩, 60)
theorem s_one (h : ShF w bx by' 57 [] W) (hT : Lib.Utf8Tabs 0 1 w) :
    Calls Tryz.prog 20 #[.pointer (some ⟨bx, 0, none⟩), .string txtAB, .int .i64 60] W fun en W' => en = .returned (.int .i64 0) ∧ Hid (ShF w bx by' 57 [dAB] W') := by
  obtain ⟨ex, ey, h1, h2, h3, h4, h5⟩ := h
  refine (k2insert h1 hT txtAB 60 (by decide) (fun c hc => by rw [ab_of, atom_e (by decide) (by decide)] at hc; cases hc; exact ⟨am_ok _ (by decide) _ _, am_nums _ _ _⟩)).mono ?_
  rintro en W' ⟨k1, k2, _⟩
  rw [ab_of] at k1 k2
  rcases pe_ins p_der p_arE h2 (a := 0) (b := 1) (by decide) (by decide) (t := 60) (by decide) with ⟨_, g2, g3, g4, g5⟩ | ⟨g1, _, _, _, g2⟩
  · exfalso
    rcases g2 with g | g | g
    · have := g3.1 g; rw [h3] at this; omega
    · have := g4 g; rw [h4] at this; cases this
    · have := g5 g; rw [h4] at this; cases this
  · have hpk := pe_kept p_der p_arE h2 (a := 0) (b := 1) (by decide) (by decide) (t := 60) (by decide) (by decide)
    rw [g1] at k1
    rw [g2] at k2 hpk
    refine ⟨k1, _, ey, k2, hpk, h3, ?_, h5⟩
    show ex.kept ++ _ = _
    rw [h4]; rfl
/-- One edge makes one path. -/
theorem ab_model {M : Gd → Option Int} (h : LeastM rsP [(⟨bEd, ptB 0, ptB 1⟩, 80)] M) (x y : ByteArray) : (M ⟨bPa, x, y⟩).isSome = true ↔ x = ptB 0 ∧ y = ptB 1 := by
  have hr : rsP = pathR bPa bEd ++ [] := by simp [rsP]
  have hF : ∀ z ∈ [((⟨bEd, ptB 0, ptB 1⟩ : Gd), (80 : Int))], z.1.rel = bEd := fun z hz => by
    simp only [List.mem_cons, List.not_mem_nil, or_false] at hz; subst hz; rfl
  have h01 : ptB 1 ≠ ptB 0 := by decide
  rw [hr] at h
  constructor
  · intro hs
    obtain ⟨t, ht⟩ := Option.isSome_iff_exists.1 hs
    have hd := (path_der pe_ne (X := []) (by simp) _ hF _ x y).1 (h.sound _ t ht (t - 1) (by omega))
    refine hd (fun x y => x = ptB 0 ∧ y = ptB 1) ?_ ?_
    · rintro a b ⟨u, hu, _⟩
      simp only [List.mem_cons, List.not_mem_nil, or_false, Prod.mk.injEq, Gd.mk.injEq, true_and] at hu
      exact hu.1
    · rintro a b c ⟨_, e1⟩ ⟨u, hu, _⟩
      simp only [List.mem_cons, List.not_mem_nil, or_false, Prod.mk.injEq, Gd.mk.injEq, true_and] at hu
      exact absurd (e1.symm.trans hu.1.1) h01
  · rintro ⟨rfl, rfl⟩
    have hd := (path_der pe_ne (X := []) (by simp) _ hF 79 (ptB 0) (ptB 1)).2 (fun S h1 _ => h1 _ _ ⟨80, List.mem_cons_self, by decide⟩)
    obtain ⟨t, ht, _⟩ := h.complete _ _ hd
    rw [ht]; rfl
def aAX : Am := ⟨bPa, [⟨ptB 0, 0⟩, v0T]⟩
def txtAX : ByteArray := ⟨#[112, 97, 116, 104, 40, 97, 44, 88, 41]⟩
theorem atom_ax : atomR txtAX = some aAX := by kernel_rfl
/-- path(a,b) -/
def txtPAB : ByteArray := ⟨#[112, 97, 116, 104, 40, 97, 44, 98, 41]⟩
theorem fit_ax {M : Gd → Option Int} (h : ∀ x y, (M ⟨bPa, x, y⟩).isSome = true ↔ x = ptB 0 ∧ y = ptB 1) {gs : List Gd} (hf : fitP M aAX gs) : textsOf gs = [txtPAB.data.toList] := by
  obtain ⟨ks, k1, k2, rfl⟩ := hf
  have hk : ks = [(ptB 0, ptB 1)] := by
    have hmem : ∀ k, k ∈ ks ↔ k = (ptB 0, ptB 1) := by
      rintro ⟨x, y⟩
      rw [k2 x y, show aAX.rel = bPa from rfl, h x y]
      constructor
      · rintro ⟨_, _, rfl, rfl⟩; rfl
      · intro e
        simp only [Prod.mk.injEq] at e
        obtain ⟨rfl, rfl⟩ := e
        exact ⟨by decide, by decide, rfl, rfl⟩
    match ks, k1, hmem with
    | [], _, hm => exact absurd ((hm (ptB 0, ptB 1)).2 rfl) (by simp)
    | [k], _, hm => rw [(hm k).1 List.mem_cons_self]
    | k :: k' :: t, hn, hm =>
      have e1 := (hm k).1 List.mem_cons_self
      have e2 := (hm k').1 (List.mem_cons_of_mem _ List.mem_cons_self)
      rw [e1, e2] at hn
      exact absurd List.mem_cons_self (List.nodup_cons.1 hn).1
  subst hk
  have e1 : (([(ptB 0, ptB 1)] : List (ByteArray × ByteArray)).filterMap (fun k => matchA nms0 aAX k.1 k.2)).map (fun p => groundA p aAX) = [(⟨bPa, ptB 0, ptB 1⟩ : Gd)] := by kernel_rfl
  rw [e1]
  unfold textsOf sortT
  rw [List.map_cons, List.map_nil, List.mergeSort_singleton]
  have e2 : textG (⟨bPa, ptB 0, ptB 1⟩ : Gd) = txtPAB := by kernel_rfl
  show [(textG (⟨bPa, ptB 0, ptB 1⟩ : Gd)).data.toList] = _
  rw [e2]
theorem s_seventy (h : ShF w bx by' 57 [dAB] W) :
    Calls Tryz.prog 22 #[.pointer (some ⟨bx, 0, none⟩), .int .i64 70] W fun en W' => en = .returned (.tuple #[.int .i64 67, .int .i64 0]) ∧ Hid (∃ ex ey, K2 w bx by' ex ey W' ∧ ex.rs = rsP ∧ ∀ x y, (ex.M ⟨bPa, x, y⟩).isSome = true ↔ x = ptB 0 ∧ y = ptB 1) := by
  obtain ⟨ex, ey, h1, h2, h3, h4, h5⟩ := h
  refine (k2tick h1 70).mono ?_
  rintro en W' ⟨e', r, k1, k2, k3⟩
  rcases k1 with ⟨hn, _⟩ | ⟨_, hr, ⟨hle, _⟩ | ⟨hlt, hmx⟩⟩
  · exact absurd ⟨by decide, by decide⟩ hn
  · rw [h2.lat, h3] at hle; omega
  · rw [h2.lat] at hmx
    obtain ⟨Mx, fx, hMx, hlx, _, rfl⟩ := hmx
    subst hr
    have hf : factsF ex (70 - 3) = [(⟨bEd, ptB 0, ptB 1⟩, 80)] := by
      unfold factsF
      rw [h2.win, h4]
      rfl
    rw [hf, h2.rs, p_given, List.append_nil] at hMx
    exact ⟨k2, _, ey, k3, h2.rs, ab_model hMx⟩
theorem s_told (h : ∃ ex ey, K2 w bx by' ex ey W ∧ ex.rs = rsP ∧ ∀ x y, (ex.M ⟨bPa, x, y⟩).isSome = true ↔ x = ptB 0 ∧ y = ptB 1) (hT : Lib.Utf8Tabs 0 1 w) :
    Calls Tryz.prog 25 #[.pointer (some ⟨bx, 0, none⟩), .string txtAX] W fun en W' => ∃ (b oc : Nat), en = .returned (.tuple #[.slice (some ⟨b, 0, none⟩) 1 oc, .int .i64 0]) ∧ W'.cell? ⟨b, 0, none⟩ = some (.string txtPAB) ∧ Hid (Below w.heap.size w W') := by
  obtain ⟨ex, ey, h1, h2, h3⟩ := h
  refine (k2ask h1 hT txtAX (by decide) aAX atom_ax (by intro t ht; simp only [aAX, List.mem_cons, List.not_mem_nil, or_false] at ht; rcases ht with rfl | rfl <;> decide) (by
    unfold ckR
    show (if arR ex.rs bPa = 0 then (7 : Int) else if arR ex.rs bPa = 2 then 0 else 4) = 0
    rw [h2, p_arP]; rfl)).mono ?_
  rintro en W' ⟨oa, oc, gs, k1, k2, k3, k4, k5⟩
  have ht := fit_ax h3 k2
  have hl : gs.length = 1 := by rw [← textsOf_len, ht]; rfl
  rw [hl] at k1 k3
  rw [ht] at k3
  obtain ⟨g, c, e0, x0⟩ := row_str (l := [txtPAB.data.toList]) k3 (k := 0) (by decide)
  cases e0
  exact ⟨g, oc, k1, x0, k5.below⟩
end

end Go.Proofs.YtjajnhemgphefaaGreatDoor
