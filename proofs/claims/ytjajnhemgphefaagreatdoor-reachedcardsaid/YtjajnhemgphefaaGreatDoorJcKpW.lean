/-
  The engine as the statements of ebbkeep use it: one engine, and boxes beside it that are not its own.
  The statement Reset: its engine; records compared.
  The rules of the paths, for the statements of ebbkeep: read; the engine's facts; what holds at a watermark.
  One who follows a feed of paths, in plain data: what is told comes to what holds.
  The statement Lasts in plain data: what holds as the watermark goes on and nothing more comes.
  Ask and Until as the statements of ebbkeep use them.
  The rules of Ebbed: the paths', and one path that is said.
  Two engines side by side, as Shuffled uses them.
  The statement Shuffled in plain data: facts in another order come to the same.
-/
import Derived.Test.YtjajnhemgphefaaGreatDoorJcEgX
import Derived.Test.YtjajnhemgphefaaGreatDoorJcEgZ
import Derived.Test.YtjajnhemgphefaaGreatDoorJcEgT
import Derived.Test.YtjajnhemgphefaaGreatDoorJcEgM
namespace Go.Proofs.YtjajnhemgphefaaGreatDoor
open Go.RowKit Go.Shelf Go.Maps
set_option linter.unusedVariables false
set_option linter.unusedSimpArgs false

/-- An engine at be, made behind the world w; the blocks bs are none of its own. -/
structure KSt (w : World) (be : Nat) (bs : List Nat) (e : Eg) (W : World) : Prop where
  eng : ∃ S : Nat → Prop, EngAt W S be e ∧ ∀ k, S k → w.heap.size ≤ k ∧ k ∉ bs
  lt : ∀ b ∈ bs, b < W.heap.size
  below : Below w.heap.size w W
  ok : EgOk e
theorem new_ok {s : ByteArray} {rs : List Rl} (h : NewOk s rs) {win lat que : Int} (h1 : 1 ≤ win ∧ win ≤ 1000) (h2 : 0 ≤ lat ∧ lat ≤ 1000) (h3 : 1 ≤ que ∧ que ≤ 50) {M : Gd → Option Int} (hM : LeastM rs (givenL rs) M) : EgOk (newE rs win lat que M) := by
  have hn8 : (namesR [] rs).length ≤ 8 := by have := h.n8 rs.length; rw [List.take_length] at this; exact this
  refine ⟨h.ok, h1, h2, h3, ⟨by show (0 : Int) ≤ 0; decide, by show (0 : Int) ≤ 1000000; decide⟩, hn8, h.nsz, h.nrs, by show (0 : Nat) ≤ 24; decide, fun d hd => (by cases hd), ?_, by show (0 : Nat) ≤ 3; decide, fun f hf => (by cases hf)⟩
  exact least_in (F := []) h.ok h.nrs ⟨by simp, by simp⟩ hM
/-- What lies in the boxes abides. -/
def Kept (bs : List Nat) (W W' : World) : Prop := ∀ b ∈ bs, W'.heap[b]? = W.heap[b]?

theorem KSt.step {w W W' : World} {be : Nat} {bs : List Nat} {e e' : Eg} (h : KSt w be bs e W) {S : Nat → Prop} (h2 : ∀ k, S k → w.heap.size ≤ k ∧ k ∉ bs) (hp : EngPost S be e' W W') (hok : EgOk e') : KSt w be bs e' W' ∧ Kept bs W W' := by
  obtain ⟨S', j1, j2, j3⟩ := hp
  refine ⟨⟨⟨S', j1, fun k hk => ?_⟩, fun b hb => Nat.lt_of_lt_of_le (h.lt b hb) j3.size, ?_, hok⟩, fun b hb => j3.block b (h.lt b hb) (fun hs => (h2 b hs).2 hb)⟩
  · rcases j2 k hk with hs | hs
    · exact h2 k hs
    · exact ⟨Nat.le_trans h.below.size hs, fun hb => by have := h.lt k hb; omega⟩
  · exact h.below.trans (Chg.below j3 h.below.size (fun k hk => (h2 k hk).1))
theorem KSt.same {w W W' : World} {be : Nat} {bs : List Nat} {e : Eg} (h : KSt w be bs e W) (hb : Below W.heap.size W W') : KSt w be bs e W' ∧ Kept bs W W' := by
  obtain ⟨S, h1, h2⟩ := h.eng
  exact h.step h2 (EngPost.same h1 hb) h.ok
theorem KSt.alloc {w W : World} {be : Nat} {bs : List Nat} {e : Eg} (h : KSt w be bs e W) (O : Obj) : KSt w be (W.heap.size :: bs) e (W.alloc O) ∧ Kept bs W (W.alloc O) := by
  obtain ⟨⟨S, h1, h2⟩, h3, h4, h5⟩ := h
  have hb : Below W.heap.size W (W.alloc O) := (Below.refl _ W).alloc (Nat.le_refl _) O
  refine ⟨⟨⟨S, h1.below hb, fun k hk => ⟨(h2 k hk).1, fun hm => ?_⟩⟩, fun b hb' => ?_, h4.alloc h4.size O, h5⟩, fun b hb' => hb.block b (h3 b hb')⟩
  · rcases List.mem_cons.1 hm with rfl | hm
    · obtain ⟨_, _, _, _, _, _, _, _, _, _, hv⟩ := h1
      have := (hv.typ _ hk).lt
      omega
    · exact (h2 k hk).2 hm
  · rcases List.mem_cons.1 hb' with rfl | hb'
    · simp
    · have := h3 b hb'; simp; omega
theorem KSt.fewer {w W : World} {be : Nat} {bs bs' : List Nat} {e : Eg} (h : KSt w be bs e W) (hs : ∀ b ∈ bs', b ∈ bs) : KSt w be bs' e W := by
  obtain ⟨⟨S, h1, h2⟩, h3, h4, h5⟩ := h
  exact ⟨⟨S, h1, fun k hk => ⟨(h2 k hk).1, fun hm => (h2 k hk).2 (hs k hm)⟩⟩, fun b hb => h3 b (hs b hb), h4, h5⟩
theorem KSt.drew {w W : World} {be : Nat} {bs : List Nat} {e : Eg} (h : KSt w be bs e W) : KSt w be bs e W.drew := (h.same (Below.refl _ W).drew).1

section
variable {w W : World} {be : Nat} {bs : List Nat} {e : Eg}
theorem kinsert (h : KSt w be bs e W) (hT : Lib.Utf8Tabs 0 1 w) (s : ByteArray) (t : Int) (hs : s.size ≤ 4611686018427387904) (hn : ∀ a, atomR s = some a → AmOk a ∧ ∀ t ∈ a.args, t.num < 6) :
    Calls Tryz.prog 20 #[.pointer (some ⟨be, 0, none⟩), .string s, .int .i64 t] W fun en W' => en = .returned (.int .i64 (insR e s t).1) ∧ KSt w be bs (insR e s t).2 W' ∧ Kept bs W W' := by
  obtain ⟨S, h1, h2⟩ := h.eng
  refine (insert_any S be e s t W h1 h.ok hs (Utf8Tabs_below hT h.below) (fun a ha => (hn a ha).2)).mono ?_
  rintro en W' ⟨k1, k2⟩
  exact ⟨k1, h.step h2 k2 (ins_ok h.ok s (fun a ha => (hn a ha).1) t)⟩
theorem ktick (h : KSt w be bs e W) (c : Int) :
    Calls Tryz.prog 22 #[.pointer (some ⟨be, 0, none⟩), .int .i64 c] W fun en W' => ∃ e' r, TickE e c e' r ∧ en = .returned (.tuple #[.int .i64 r.1, .int .i64 r.2]) ∧ KSt w be bs e' W' ∧ Kept bs W W' := by
  obtain ⟨S, h1, h2⟩ := h.eng
  refine (tick_any S be e c W h1 h.ok).mono ?_
  rintro en W' ⟨e', r, k1, k2, k3⟩
  exact ⟨e', r, k1, k2, h.step h2 k3 (tick_ok h.ok k1)⟩
end

end Go.Proofs.YtjajnhemgphefaaGreatDoor

namespace Go.Proofs.YtjajnhemgphefaaGreatDoor
open Go.RowKit Go.Shelf Go.Maps
set_option linter.unusedVariables false
set_option linter.unusedSimpArgs false

set_option maxRecDepth 100000 in
theorem begun_any (s : ByteArray) (rs : List Rl) (que : Int) (w : World) (hok : NewOk s rs) (hs : s.size ≤ 4611686018427387904) (hT : Lib.Utf8Tabs 0 1 w) (hq : 1 ≤ que ∧ que ≤ 50) :
    Calls Tryz.prog 17 #[.string s, .int .i64 que] w fun e w' => ∃ be M, e = .returned (.pointer (some ⟨be, 0, none⟩)) ∧ LeastM rs (givenL rs) M ∧ KSt w be [] (newE rs 20 3 que M) w' := by
  have hn : Hid (Calls Tryz.prog 39 #[.string s, .int .i64 20, .int .i64 3, .int .i64 que] w fun e w' => ∃ be M, e = .returned (.tuple #[.pointer (some ⟨be, 0, none⟩), .int .i64 0]) ∧ Hid (LeastM rs (givenL rs) M ∧ KSt w be [] (newE rs 20 3 que M) w')) := by
    refine (new_any s rs 20 3 que w hok hs hT ⟨by decide, by decide⟩ ⟨by decide, by decide⟩ hq).mono ?_
    rintro e w' ⟨be, S, M, h1, h2, h3, h4, h5⟩
    exact ⟨be, M, h1, h2, ⟨S, h3, fun k hk => ⟨h4 k hk, by simp⟩⟩, by simp, h5, new_ok hok ⟨by decide, by decide⟩ ⟨by decide, by decide⟩ hq h2⟩
  clear hok hT hq
  go_enter Tryz.func17, Tryz.ntmps17
  go_wp2_with (go_at_call 39; refine Calls.mono hn.out ?_; rintro e' W1 ⟨be, M, rfl, hh⟩)
  go_ret
  exact ⟨be, M, rfl, hh.out⟩

end Go.Proofs.YtjajnhemgphefaaGreatDoor

namespace Go.Proofs.YtjajnhemgphefaaGreatDoor
open Go.RowKit Go.Shelf Go.Maps
set_option linter.unusedVariables false
set_option linter.unusedSimpArgs false

def bPa : ByteArray := ⟨#[112, 97, 116, 104]⟩
def bEd : ByteArray := ⟨#[101, 100, 103, 101]⟩
/-- path(X,Y):-edge(X,Y). path(X,Z):-path(X,Y),edge(Y,Z). -/
def txtP : ByteArray := ⟨#[112, 97, 116, 104, 40, 88, 44, 89, 41, 58, 45, 101, 100, 103, 101, 40, 88, 44, 89, 41, 46, 32, 112, 97, 116, 104, 40, 88, 44, 90, 41, 58, 45, 112, 97, 116, 104, 40, 88, 44, 89, 41, 44, 101, 100, 103, 101, 40, 89, 44, 90, 41, 46]⟩
/-- path(X,Y) -/
def txtXY : ByteArray := ⟨#[112, 97, 116, 104, 40, 88, 44, 89, 41]⟩
def rsP : List Rl := pathR bPa bEd
theorem pe_ne : bPa ≠ bEd := by decide
theorem p_count : Lib.runeCount txtP = 53 := by kernel_rfl
theorem p_parse : parseR txtP = .ok rsP := by kernel_rfl
theorem p_check : checkS rsP = (0, 0) := by kernel_rfl
theorem atom_e {a b : Nat} (ha : a < 6) (hb : b < 6) : atomR (ofB bEd a b) = some (amB bEd a b) := by
  rcases lt6 ha with rfl | rfl | rfl | rfl | rfl | rfl <;> rcases lt6 hb with rfl | rfl | rfl | rfl | rfl | rfl <;> kernel_rfl
theorem atom_p {a b : Nat} (ha : a < 6) (hb : b < 6) : atomR (ofB bPa a b) = some (amB bPa a b) := by
  rcases lt6 ha with rfl | rfl | rfl | rfl | rfl | rfl <;> rcases lt6 hb with rfl | rfl | rfl | rfl | rfl | rfl <;> kernel_rfl
theorem atom_xy : atomR txtXY = some ⟨bPa, [v0T, v1T]⟩ := by kernel_rfl
theorem p_ams : rsP.flatMap ruleAms = [⟨bPa, [v0T, v1T]⟩, ⟨bEd, [v0T, v1T]⟩, ⟨bPa, [v0T, v1T]⟩, ⟨bPa, [v0T, v2T]⟩, ⟨bEd, [v2T, v1T]⟩] := rfl
theorem p_arP : arR rsP bPa = 2 := by kernel_rfl
theorem p_arE : arR rsP bEd = 2 := by kernel_rfl
theorem p_der : derB rsP bEd = false := by kernel_rfl
theorem p_given : givenL rsP = [] := rfl
theorem p_ok : RsOk rsP := by
  have hA : ∀ (x : ByteArray) (t u : Tm), x.size ≤ 1200 → TmOk t → TmOk u → AmOk ⟨x, [t, u]⟩ := fun x t u hx h1 h2 => ⟨hx, Nat.le_refl 2, fun v hv => by
    simp only [List.mem_cons, List.not_mem_nil, or_false] at hv
    rcases hv with rfl | rfl
    · exact h1
    · exact h2⟩
  have h0 : TmOk v0T := ⟨by decide, by decide⟩
  have h1 : TmOk v1T := ⟨by decide, by decide⟩
  have h2 : TmOk v2T := ⟨by decide, by decide⟩
  refine ⟨by decide, fun r hr => ?_, fun a ha => ?_, fun a ha t ht => ?_, fun r hr t ht hne => ?_⟩
  · simp only [rsP, pathR, List.mem_cons, List.not_mem_nil, or_false] at hr
    rcases hr with rfl | rfl
    · exact ⟨hA _ _ _ (by decide) h0 h1, by decide, fun a ha => by simp only [List.mem_cons, List.not_mem_nil, or_false] at ha; subst ha; exact hA _ _ _ (by decide) h0 h1⟩
    · exact ⟨hA _ _ _ (by decide) h0 h1, by decide, fun a ha => by
        simp only [List.mem_cons, List.not_mem_nil, or_false] at ha
        rcases ha with rfl | rfl
        · exact hA _ _ _ (by decide) h0 h2
        · exact hA _ _ _ (by decide) h2 h1⟩
  · rw [p_ams] at ha
    simp only [List.mem_cons, List.not_mem_nil, or_false] at ha
    rcases ha with rfl | rfl | rfl | rfl | rfl
    · exact ⟨p_arP.symm, .inr rfl⟩
    · exact ⟨p_arE.symm, .inr rfl⟩
    · exact ⟨p_arP.symm, .inr rfl⟩
    · exact ⟨p_arP.symm, .inr rfl⟩
    · exact ⟨p_arE.symm, .inr rfl⟩
  · rw [p_ams] at ha
    simp only [List.mem_cons, List.not_mem_nil, or_false] at ha
    rcases ha with rfl | rfl | rfl | rfl | rfl <;> (simp only [List.mem_cons, List.not_mem_nil, or_false] at ht; rcases ht with rfl | rfl <;> decide)
  · simp only [rsP, pathR, List.mem_cons, List.not_mem_nil, or_false] at hr
    rcases hr with rfl | rfl
    · exact ⟨⟨bEd, [v0T, v1T]⟩, List.mem_cons_self, t, ht, hne, rfl⟩
    · simp only [List.mem_cons, List.not_mem_nil, or_false] at ht
      rcases ht with rfl | rfl
      · exact ⟨⟨bPa, [v0T, v2T]⟩, List.mem_cons_self, v0T, List.mem_cons_self, rfl, rfl⟩
      · exact ⟨⟨bEd, [v2T, v1T]⟩, List.mem_cons_of_mem _ List.mem_cons_self, v1T, List.mem_cons_of_mem _ List.mem_cons_self, rfl, rfl⟩
theorem p_names1 : namesR [] (rsP.take 1) = [] := by kernel_rfl
theorem p_names : namesR [] rsP = [] := by kernel_rfl
theorem p_new : NewOk txtP rsP := by
  refine ⟨p_parse, ?_, p_ok, fun k => ?_, fun r hr t ht hne => ?_, fun x hx => ?_⟩
  · unfold rulesR
    rw [p_count, if_neg (by decide), p_parse]
    simp only
    rw [p_check, if_pos rfl]
  · match k with
    | 0 => exact Nat.zero_le _
    | 1 => rw [p_names1]; exact Nat.zero_le _
    | k + 2 =>
      have h : rsP.take (k + 2) = rsP := List.take_of_length_le (by show (2 : Nat) ≤ k + 2; omega)
      rw [h, p_names]; exact Nat.zero_le _
  · simp only [rsP, pathR, List.mem_cons, List.not_mem_nil, or_false] at hr
    rcases hr with rfl | rfl <;> (simp only [List.mem_cons, List.not_mem_nil, or_false] at ht; rcases ht with rfl | rfl <;> exact absurd rfl hne)
  · rw [p_names] at hx; cases hx

theorem ck_p {e : Eg} (h : e.rs = rsP) (a b : Nat) : ckR e.rs (amB bPa a b) = 0 := by
  unfold ckR
  show (if arR e.rs bPa = 0 then (7 : Int) else if arR e.rs bPa = 2 then 0 else 4) = 0
  rw [h, p_arP]; rfl
end Go.Proofs.YtjajnhemgphefaaGreatDoor

namespace Go.Proofs.YtjajnhemgphefaaGreatDoor
open Go.RowKit Go.Shelf Go.Maps
set_option linter.unusedVariables false
set_option linter.unusedSimpArgs false

def aPX : Am := ⟨bPa, [v0T, v1T]⟩
/-- The text of a path that holds. -/
def HoldM (M : Gd → Option Int) (x : ByteArray) : Prop := ∃ i j, i < 6 ∧ j < 6 ∧ (M ⟨bPa, ptB i, ptB j⟩).isSome = true ∧ x = ofB bPa i j
/-- Paths hold between the six points alone. -/
def OnPts (M : Gd → Option Int) : Prop := ∀ x y, (M ⟨bPa, x, y⟩).isSome = true → ∃ i j, i < 6 ∧ j < 6 ∧ x = ptB i ∧ y = ptB j
def PtX (x : ByteArray) : Prop := ∃ i j, i < 6 ∧ j < 6 ∧ x = ofB bPa i j
theorem HoldM.pt {M : Gd → Option Int} {x : ByteArray} (h : HoldM M x) : PtX x := by
  obtain ⟨i, j, hi, hj, _, e⟩ := h
  exact ⟨i, j, hi, hj, e⟩
theorem text_pt {i j : Nat} (hi : i < 6) (hj : j < 6) : textG ⟨bPa, ptB i, ptB j⟩ = ofB bPa i j := by
  have h : ∀ i j : Fin 6, sameB (textG ⟨bPa, ptB i, ptB j⟩) (ofB bPa i j) = true := by decide +kernel
  exact (sameB_iff _ _).1 (h ⟨i, hi⟩ ⟨j, hj⟩)
theorem match_pt {i j : Nat} (hi : i < 6) (hj : j < 6) : (matchA nms0 aPX (ptB i) (ptB j)).map (fun p => groundA p aPX) = some ⟨bPa, ptB i, ptB j⟩ := by
  have h : ∀ i j : Fin 6, (match matchA nms0 aPX (ptB i) (ptB j) with | some p => sameB (groundA p aPX).rel bPa && sameB (groundA p aPX).x (ptB i) && sameB (groundA p aPX).y (ptB j) | none => false) = true := by decide +kernel
  have := h ⟨i, hi⟩ ⟨j, hj⟩
  cases hm : matchA nms0 aPX (ptB i) (ptB j) with
  | none => rw [hm] at this; cases this
  | some p =>
    rw [hm] at this
    simp only [Bool.and_eq_true, sameB_iff] at this
    obtain ⟨⟨h1, h2⟩, h3⟩ := this
    show some (groundA p aPX) = _
    rw [← h2, ← h3, ← h1]
/-- What fits path(X,Y): the paths that hold, each once. -/
theorem fit_hold {M : Gd → Option Int} {gs : List Gd} (h : fitP M aPX gs) (ho : OnPts M) : gs.Nodup ∧ ∀ g, g ∈ gs ↔ ∃ i j, i < 6 ∧ j < 6 ∧ (M ⟨bPa, ptB i, ptB j⟩).isSome = true ∧ g = ⟨bPa, ptB i, ptB j⟩ := by
  obtain ⟨ks, k1, k2, rfl⟩ := h
  have hk : ∀ k ∈ ks, ∃ i j, i < 6 ∧ j < 6 ∧ k = (ptB i, ptB j) := by
    rintro ⟨x, y⟩ hm
    obtain ⟨i, j, hi, hj, rfl, rfl⟩ := ho x y ((k2 x y).1 hm).2.2
    exact ⟨i, j, hi, hj, rfl⟩
  have heq : ∀ l : List (ByteArray × ByteArray), (∀ k ∈ l, ∃ i j, i < 6 ∧ j < 6 ∧ k = (ptB i, ptB j)) → (l.filterMap (fun k => matchA nms0 aPX k.1 k.2)).map (fun p => groundA p aPX) = l.map (fun k => (⟨bPa, k.1, k.2⟩ : Gd)) := by
    intro l
    induction l with
    | nil => intro _; rfl
    | cons k l ih =>
      intro hl
      obtain ⟨i, j, hi, hj, rfl⟩ := hl k List.mem_cons_self
      have hm := match_pt hi hj
      cases hmm : matchA nms0 aPX (ptB i) (ptB j) with
      | none => rw [hmm] at hm; cases hm
      | some p =>
        rw [hmm] at hm
        rw [List.filterMap_cons_some (by exact hmm), List.map_cons, List.map_cons, ih (fun k hk => hl k (List.mem_cons_of_mem _ hk))]
        simp only [Option.map_some, Option.some.injEq] at hm
        rw [hm]
  rw [heq ks hk]
  refine ⟨?_, fun g => ?_⟩
  · exact List.Pairwise.map _ (fun a b hab e => hab (by cases a; cases b; simp only [Gd.mk.injEq, true_and] at e; exact Prod.ext e.1 e.2)) k1
  · rw [List.mem_map]
    constructor
    · rintro ⟨k, hm, rfl⟩
      obtain ⟨i, j, hi, hj, rfl⟩ := hk k hm
      exact ⟨i, j, hi, hj, ((k2 _ _).1 hm).2.2, rfl⟩
    · rintro ⟨i, j, hi, hj, hs, rfl⟩
      exact ⟨(ptB i, ptB j), (k2 _ _).2 ⟨by show (1 : Nat) ≤ maxLen; decide, by show (1 : Nat) ≤ maxLen; decide, hs⟩, rfl⟩
/-- Just these. -/
def Like (L : List ByteArray) (T : ByteArray → Prop) : Prop := L.Nodup ∧ ∀ x, x ∈ L ↔ T x
theorem Like.congr {L : List ByteArray} {T T' : ByteArray → Prop} (h : Like L T) (hT : ∀ x, T x ↔ T' x) : Like L T' := ⟨h.1, fun x => (h.2 x).trans (hT x)⟩
end Go.Proofs.YtjajnhemgphefaaGreatDoor

namespace Go.Proofs.YtjajnhemgphefaaGreatDoor
open Go.RowKit Go.Shelf Go.Maps
set_option linter.unusedVariables false
set_option linter.unusedSimpArgs false

end Go.Proofs.YtjajnhemgphefaaGreatDoor

namespace Go.Proofs.YtjajnhemgphefaaGreatDoor
open Go.RowKit Go.Shelf Go.Maps
set_option linter.unusedVariables false
set_option linter.unusedSimpArgs false

section
variable {w W : World} {be : Nat} {bs : List Nat} {e : Eg}
theorem kuntil (h : KSt w be bs e W) (hT : Lib.Utf8Tabs 0 1 w) (s : ByteArray) (hs : s.size ≤ 4611686018427387904) (hn : ∀ a, atomR s = some a → ∀ t ∈ a.args, t.num < 6) :
    Calls Tryz.prog 24 #[.pointer (some ⟨be, 0, none⟩), .string s] W fun en W' => en = .returned (.tuple #[.int .i64 (untilR e s).1, .int .i64 (untilR e s).2]) ∧ KSt w be bs e W' ∧ Kept bs W W' := by
  obtain ⟨S, h1, h2⟩ := h.eng
  refine (until_any S be e s W h1 h.ok hs (Utf8Tabs_below hT h.below) hn).mono ?_
  rintro en W' ⟨k1, k2⟩
  exact ⟨k1, h.same k2⟩
end
theorem am_nums (r : ByteArray) (a b : Nat) : ∀ t ∈ (amB r a b).args, t.num < 6 := by
  intro t ht
  simp only [amB, List.mem_cons, List.not_mem_nil, or_false] at ht
  rcases ht with rfl | rfl <;> exact Nat.zero_lt_succ 5
/-- Until of a path. -/
theorem until_p {e : Eg} (h : e.rs = rsP) {a b : Nat} (ha : a < 6) (hb : b < 6) : untilR e (ofB bPa a b) = ((e.M ⟨bPa, ptB a, ptB b⟩).getD 0, 0) := by
  unfold untilR
  rw [atom_p ha hb]
  simp only
  rw [if_neg (by rw [am_ground]; decide), if_pos (ck_p h a b), ground_am]
end Go.Proofs.YtjajnhemgphefaaGreatDoor

namespace Go.Proofs.YtjajnhemgphefaaGreatDoor
open Go.RowKit Go.Shelf Go.Maps
set_option linter.unusedVariables false
set_option linter.unusedSimpArgs false

/-- An engine of rules in which edges are given: no more than tb is the time of any fact. -/
structure PeE (rs : List Rl) (tb : Int) (e : Eg) : Prop where
  rs : e.rs = rs
  win : e.win = 20
  lat : e.lat = 3
  names : PtsOk e.names
  kept : ∀ d ∈ e.kept, d.1.rel = bEd ∧ 0 ≤ d.2 ∧ d.2 ≤ tb
/-- An edge is brought: it is kept, or the engine is as it was. -/
theorem pe_ins {rs : List Rl} (hd : derB rs bEd = false) (hA : arR rs bEd = 2) {tb : Int} {e : Eg} (h : PeE rs tb e) {a b : Nat} (ha : a < 6) (hb : b < 6) {t : Int} (ht : 0 ≤ t ∧ t ≤ 1000000) :
    let r := insR e (ofB bEd a b) t
    (r.2 = e ∧ (r.1 = 8 ∨ r.1 = 9 ∨ r.1 = 10) ∧ (r.1 = 8 ↔ t + 20 ≤ e.mark) ∧ (r.1 = 9 → (⟨bEd, ptB a, ptB b⟩, t) ∈ e.kept) ∧ (r.1 = 10 → e.kept.length = 24)) ∨
    (r.1 = 0 ∧ e.mark < t + 20 ∧ (⟨bEd, ptB a, ptB b⟩, t) ∉ e.kept ∧ e.kept.length ≠ 24 ∧ r.2 = { e with names := nmL e.names (amB bEd a b).args, kept := e.kept ++ [(⟨bEd, ptB a, ptB b⟩, t)] }) := by
  intro r
  have hr : r = accR e (amB bEd a b) t := by
    show insR e (ofB bEd a b) t = _
    unfold insR
    rw [atom_e ha hb]
    simp only
    rw [if_neg (by rw [am_ground]; decide), if_neg (by rw [h.rs]; show ¬ derB rs bEd = true; rw [hd]; decide), if_neg (by
      have : ckR e.rs (amB bEd a b) = 0 := by
        unfold ckR
        show (if arR e.rs bEd = 0 then (7 : Int) else if arR e.rs bEd = 2 then 0 else 4) = 0
        rw [h.rs, hA]; rfl
      rw [this]; decide), if_neg (by simp; omega)]
  rw [hr]
  unfold accR
  rw [ground_am, h.win]
  by_cases ho : overB 20 e.mark t = true
  · rw [if_pos ho]
    have ho' : t + 20 ≤ e.mark := by unfold overB at ho; simpa using ho
    exact .inl ⟨rfl, .inl rfl, ⟨fun _ => ho', fun _ => rfl⟩, fun h => by simp at h, fun h => by simp at h⟩
  · rw [if_neg ho]
    have ho' : ¬ t + 20 ≤ e.mark := by unfold overB at ho; simpa using ho
    by_cases hh : hasD e.kept (⟨bEd, ptB a, ptB b⟩, t) = true
    · rw [if_pos hh]
      exact .inl ⟨rfl, .inr (.inl rfl), ⟨fun h => by simp at h, fun h => absurd h ho'⟩, fun _ => (hasD_iff _ _).1 hh, fun h => by simp at h⟩
    · rw [if_neg hh]
      have h6 := pts_six (pts_add h.names bEd ha hb)
      by_cases hf : e.kept.length = 24 ∨ 8 < (nmL e.names (amB bEd a b).args).length
      · rw [if_pos hf]
        exact .inl ⟨rfl, .inr (.inr rfl), ⟨fun h => by simp at h, fun h => absurd h ho'⟩, fun h => by simp at h, fun _ => by omega⟩
      · rw [if_neg hf]
        exact .inr ⟨rfl, by omega, fun hm => hh ((hasD_iff _ _).2 hm), by omega, rfl⟩
theorem pe_kept {rs : List Rl} (hd : derB rs bEd = false) (hA : arR rs bEd = 2) {tb : Int} {e : Eg} (h : PeE rs tb e) {a b : Nat} (ha : a < 6) (hb : b < 6) {t : Int} (ht : 0 ≤ t ∧ t ≤ tb) (hb6 : tb ≤ 1000000) : PeE rs tb (insR e (ofB bEd a b) t).2 := by
  rcases pe_ins hd hA h ha hb (t := t) (by omega) with ⟨h1, _⟩ | ⟨_, _, _, _, h1⟩
  · rw [h1]; exact h
  · rw [h1]
    refine ⟨h.rs, h.win, h.lat, pts_add h.names bEd ha hb, fun d hd => ?_⟩
    rcases List.mem_append.1 hd with hd | hd
    · exact h.kept d hd
    · simp only [List.mem_cons, List.not_mem_nil, or_false] at hd
      subst hd
      exact ⟨rfl, ht⟩

end Go.Proofs.YtjajnhemgphefaaGreatDoor

namespace Go.Proofs.YtjajnhemgphefaaGreatDoor
open Go.RowKit Go.Shelf Go.Maps
set_option linter.unusedVariables false
set_option linter.unusedSimpArgs false

/-- Two engines, made behind the world w, that share no block that either may write. -/
structure K2 (w : World) (bx by' : Nat) (ex ey : Eg) (W : World) : Prop where
  eng : ∃ Sx Sy : Nat → Prop, EngAt W Sx bx ex ∧ EngAt W Sy by' ey ∧ (∀ k, Sx k → ¬ Sy k) ∧ (∀ k, Sx k → w.heap.size ≤ k) ∧ ∀ k, Sy k → w.heap.size ≤ k
  below : Below w.heap.size w W
  okx : EgOk ex
  oky : EgOk ey
theorem EngAt.ty {W : World} {S : Nat → Prop} {be : Nat} {e : Eg} (h : EngAt W S be e) : ∀ k, S k → WTy W k := by
  obtain ⟨_, _, _, _, _, _, _, _, _, _, hv⟩ := h
  exact hv.typ
theorem K2.step {w W W' : World} {bx by' : Nat} {ex ey ex' : Eg} (h : K2 w bx by' ex ey W) {Sx Sy : Nat → Prop} (h1 : EngAt W Sx bx ex) (h2 : EngAt W Sy by' ey) (h3 : ∀ k, Sx k → ¬ Sy k) (h4 : ∀ k, Sx k → w.heap.size ≤ k) (h5 : ∀ k, Sy k → w.heap.size ≤ k) (hp : EngPost Sx bx ex' W W') (hok : EgOk ex') : K2 w bx by' ex' ey W' := by
  obtain ⟨S', j1, j2, j3⟩ := hp
  refine ⟨⟨S', Sy, j1, h2.keep j3 (fun k hy hx => h3 k hx hy) (fun k _ hx => h1.ty k hx), fun k hk hy => ?_, fun k hk => ?_, h5⟩, ?_, hok, h.oky⟩
  · rcases j2 k hk with hs | hs
    · exact h3 k hs hy
    · have := (h2.ty k hy).lt; omega
  · rcases j2 k hk with hs | hs
    · exact h4 k hs
    · exact Nat.le_trans h.below.size hs
  · exact h.below.trans (Chg.below j3 h.below.size h4)
/-- Boxes of edges abide. -/
def EdK (W W' : World) : Prop := ∀ (k : Nat) (c : Array Value), W.heap[k]? = some (Obj.cells c 46 (0, 0)) → W'.heap[k]? = some (Obj.cells c 46 (0, 0))
theorem EdK.post {W W' : World} {S : Nat → Prop} {be : Nat} {e e' : Eg} (h : EngAt W S be e) (hp : EngPost S be e' W W') : EdK W W' := by
  obtain ⟨_, _, _, hc⟩ := hp
  exact fun k c hk => (hc.block k (Array.getElem?_eq_some_iff.1 hk).1 (fun hs => WTy.not hk (by decide) (h.ty k hs))).trans hk
/-- Both begin. -/
theorem K2.two {w W W' : World} {bx by' : Nat} {ex ey : Eg} (hx : KSt w bx [] ex W) (hy : KSt W by' [] ey W') : K2 w bx by' ex ey W' := by
  obtain ⟨Sx, h1, h2⟩ := hx.eng
  obtain ⟨Sy, k1, k2⟩ := hy.eng
  refine ⟨⟨Sx, Sy, h1.below hy.below, k1, fun k hk hs => ?_, fun k hk => (h2 k hk).1, fun k hk => Nat.le_trans hx.below.size (k2 k hk).1⟩, hx.below.trans (hy.below.mono hx.below.size), hx.ok, hy.ok⟩
  have := (h1.ty k hk).lt
  have := (k2 k hs).1
  omega

section
variable {w W : World} {bx by' : Nat} {ex ey : Eg}
end

end Go.Proofs.YtjajnhemgphefaaGreatDoor

namespace Go.Proofs.YtjajnhemgphefaaGreatDoor
open Go.RowKit Go.Shelf Go.Maps
set_option linter.unusedVariables false
set_option linter.unusedSimpArgs false

theorem facts_mem {e : Eg} (h : e.win = 20) (m : Int) (x : Gd × Int) : x ∈ factsF e m ↔ ((x.1, x.2 - 20) ∈ e.kept ∧ m < x.2 ∧ x.2 - 20 ≤ m) := by
  unfold factsF
  rw [h, List.mem_map]
  constructor
  · rintro ⟨d, hd, rfl⟩
    obtain ⟨h1, h2⟩ := List.mem_filter.1 hd
    obtain ⟨h3, h4⟩ := List.mem_filter.1 h1
    have e1 : ((d.1, d.2 + 20).2 : Int) - 20 = d.2 := by show d.2 + 20 - 20 = d.2; omega
    rw [e1]
    unfold overB at h4
    simp at h2 h4
    exact ⟨h3, h4, h2⟩
  · rintro ⟨h1, h2, h3⟩
    refine ⟨(x.1, x.2 - 20), List.mem_filter.2 ⟨List.mem_filter.2 ⟨h1, ?_⟩, ?_⟩, ?_⟩
    · unfold overB; simp; omega
    · simp; omega
    · show (x.1, x.2 - 20 + 20) = x
      rw [Int.sub_add_cancel]
end Go.Proofs.YtjajnhemgphefaaGreatDoor
