/-
  The engine as the statements of ebbkeep use it: one engine, and boxes beside it that are not its own.
  The statement Reset: its engine; records compared.
  The rules of the paths, for the statements of ebbkeep: read; the engine's facts; what holds at a watermark.
  One who follows a feed of paths, in plain data: what is told comes to what holds.
-/
import Derived.Test.YtjajnhemgphefaaGreatDoorJbEgX
import Derived.Test.YtjajnhemgphefaaGreatDoorJbEgZ
import Derived.Test.YtjajnhemgphefaaGreatDoorJbKpQ
import Derived.Test.YtjajnhemgphefaaGreatDoorJbEgM
import Derived.Test.YtjajnhemgphefaaGreatDoorJbEgO
namespace Go.Proofs.YtjajnhemgphefaaGreatDoor
open Go.RowKit Go.Shelf Go.Maps
set_option linter.unusedVariables false
set_option linter.unusedSimpArgs false

/-- An engine at be, made behind the world w; the blocks bs are none of its own. -/
structure KSt (w : World) (be : Nat) (bs : List Nat) (e : Eg) (W : World) : Prop where
  eng : ∃ S : Nat → Prop, EngAt W S be e ∧ ∀ k, S k → w.heap.size ≤ k ∧ k ∉ bs
  lt : ∀ b ∈ bs, b < W.heap.size
  below : Below w.heap.size w W
  ok : EgOk e
theorem new_ok {s : ByteArray} {rs : List Rl} (h : NewOk s rs) {win lat que : Int} (h1 : 1 ≤ win ∧ win ≤ 1000) (h2 : 0 ≤ lat ∧ lat ≤ 1000) (h3 : 1 ≤ que ∧ que ≤ 50) {M : Gd → Option Int} (hM : LeastM rs (givenL rs) M) : EgOk (newE rs win lat que M) := by
  have hn8 : (namesR [] rs).length ≤ 8 := by have := h.n8 rs.length; rw [List.take_length] at this; exact this
  refine ⟨h.ok, h1, h2, h3, ⟨by show (0 : Int) ≤ 0; decide, by show (0 : Int) ≤ 1000000; decide⟩, hn8, h.nsz, h.nrs, by show (0 : Nat) ≤ 24; decide, fun d hd => (by cases hd), ?_, by show (0 : Nat) ≤ 3; decide, fun f hf => (by cases hf)⟩
  exact least_in (F := []) h.ok h.nrs ⟨by simp, by simp⟩ hM
/-- What lies in the boxes abides. -/
def Kept (bs : List Nat) (W W' : World) : Prop := ∀ b ∈ bs, W'.heap[b]? = W.heap[b]?

theorem KSt.step {w W W' : World} {be : Nat} {bs : List Nat} {e e' : Eg} (h : KSt w be bs e W) {S : Nat → Prop} (h2 : ∀ k, S k → w.heap.size ≤ k ∧ k ∉ bs) (hp : EngPost S be e' W W') (hok : EgOk e') : KSt w be bs e' W' ∧ Kept bs W W' := by
  obtain ⟨S', j1, j2, j3⟩ := hp
  refine ⟨⟨⟨S', j1, fun k hk => ?_⟩, fun b hb => Nat.lt_of_lt_of_le (h.lt b hb) j3.size, ?_, hok⟩, fun b hb => j3.block b (h.lt b hb) (fun hs => (h2 b hs).2 hb)⟩
  · rcases j2 k hk with hs | hs
    · exact h2 k hs
    · exact ⟨Nat.le_trans h.below.size hs, fun hb => by have := h.lt k hb; omega⟩
  · exact h.below.trans (Chg.below j3 h.below.size (fun k hk => (h2 k hk).1))
theorem KSt.same {w W W' : World} {be : Nat} {bs : List Nat} {e : Eg} (h : KSt w be bs e W) (hb : Below W.heap.size W W') : KSt w be bs e W' ∧ Kept bs W W' := by
  obtain ⟨S, h1, h2⟩ := h.eng
  exact h.step h2 (EngPost.same h1 hb) h.ok
theorem KSt.alloc {w W : World} {be : Nat} {bs : List Nat} {e : Eg} (h : KSt w be bs e W) (O : Obj) : KSt w be (W.heap.size :: bs) e (W.alloc O) ∧ Kept bs W (W.alloc O) := by
  obtain ⟨⟨S, h1, h2⟩, h3, h4, h5⟩ := h
  have hb : Below W.heap.size W (W.alloc O) := (Below.refl _ W).alloc (Nat.le_refl _) O
  refine ⟨⟨⟨S, h1.below hb, fun k hk => ⟨(h2 k hk).1, fun hm => ?_⟩⟩, fun b hb' => ?_, h4.alloc h4.size O, h5⟩, fun b hb' => hb.block b (h3 b hb')⟩
  · rcases List.mem_cons.1 hm with rfl | hm
    · obtain ⟨_, _, _, _, _, _, _, _, _, _, hv⟩ := h1
      have := (hv.typ _ hk).lt
      omega
    · exact (h2 k hk).2 hm
  · rcases List.mem_cons.1 hb' with rfl | hb'
    · simp
    · have := h3 b hb'; simp; omega
theorem KSt.fewer {w W : World} {be : Nat} {bs bs' : List Nat} {e : Eg} (h : KSt w be bs e W) (hs : ∀ b ∈ bs', b ∈ bs) : KSt w be bs' e W := by
  obtain ⟨⟨S, h1, h2⟩, h3, h4, h5⟩ := h
  exact ⟨⟨S, h1, fun k hk => ⟨(h2 k hk).1, fun hm => (h2 k hk).2 (hs k hm)⟩⟩, fun b hb => h3 b (hs b hb), h4, h5⟩
theorem KSt.drew {w W : World} {be : Nat} {bs : List Nat} {e : Eg} (h : KSt w be bs e W) : KSt w be bs e W.drew := (h.same (Below.refl _ W).drew).1

section
variable {w W : World} {be : Nat} {bs : List Nat} {e : Eg}
theorem kinsert (h : KSt w be bs e W) (hT : Lib.Utf8Tabs 0 1 w) (s : ByteArray) (t : Int) (hs : s.size ≤ 4611686018427387904) (hn : ∀ a, atomR s = some a → AmOk a ∧ ∀ t ∈ a.args, t.num < 6) :
    Calls Tryz.prog 20 #[.pointer (some ⟨be, 0, none⟩), .string s, .int .i64 t] W fun en W' => en = .returned (.int .i64 (insR e s t).1) ∧ KSt w be bs (insR e s t).2 W' ∧ Kept bs W W' := by
  obtain ⟨S, h1, h2⟩ := h.eng
  refine (insert_any S be e s t W h1 h.ok hs (Utf8Tabs_below hT h.below) (fun a ha => (hn a ha).2)).mono ?_
  rintro en W' ⟨k1, k2⟩
  exact ⟨k1, h.step h2 k2 (ins_ok h.ok s (fun a ha => (hn a ha).1) t)⟩
theorem ktick (h : KSt w be bs e W) (c : Int) :
    Calls Tryz.prog 22 #[.pointer (some ⟨be, 0, none⟩), .int .i64 c] W fun en W' => ∃ e' r, TickE e c e' r ∧ en = .returned (.tuple #[.int .i64 r.1, .int .i64 r.2]) ∧ KSt w be bs e' W' ∧ Kept bs W W' := by
  obtain ⟨S, h1, h2⟩ := h.eng
  refine (tick_any S be e c W h1 h.ok).mono ?_
  rintro en W' ⟨e', r, k1, k2, k3⟩
  exact ⟨e', r, k1, k2, h.step h2 k3 (tick_ok h.ok k1)⟩
theorem ksub (h : KSt w be bs e W) (hT : Lib.Utf8Tabs 0 1 w) (s : ByteArray) (hs : s.size ≤ 4611686018427387904) :
    Calls Tryz.prog 26 #[.pointer (some ⟨be, 0, none⟩), .string s] W fun en W' => en = .returned (.tuple #[.int .i64 (subR e s).1, .int .i64 (subR e s).2.1]) ∧ KSt w be bs (subR e s).2.2 W' ∧ Kept bs W W' := by
  obtain ⟨S, h1, h2⟩ := h.eng
  refine (subscribe_any S be e s W h1 h.ok hs (Utf8Tabs_below hT h.below)).mono ?_
  rintro en W' ⟨k1, k2⟩
  exact ⟨k1, h.step h2 k2 (sub_ok h.ok s)⟩
theorem kpoll (h : KSt w be bs e W) (k : Nat) (hk : k < e.fds.length) (ht : ∀ f ∈ e.fds, f.told ≤ 1000000000000) :
    Calls Tryz.prog 29 #[.pointer (some ⟨be, 0, none⟩), .int .i64 k] W fun en W' => ∃ r f', PollR e.M e.mark e.fds[k] r f' ∧ en = .returned (.tuple #[.agg #[.int .i64 r.kind, .int .i64 r.seq, .string r.text, .int .i64 r.time], .int .i64 0]) ∧ KSt w be bs { e with fds := e.fds.set k f' } W' ∧ Kept bs W W' := by
  obtain ⟨S, h1, h2⟩ := h.eng
  refine (epoll_any S be e k W h1 h.ok ht).mono ?_
  rintro en W' (⟨hn, _⟩ | ⟨k', hk', he, r, f', k1, k2, k3⟩)
  · exact absurd ⟨by omega, by omega⟩ hn
  · have : k = k' := by omega
    subst this
    exact ⟨r, f', k1, k2, h.step h2 k3 (poll_ok h.ok hk k1)⟩
end

end Go.Proofs.YtjajnhemgphefaaGreatDoor

namespace Go.Proofs.YtjajnhemgphefaaGreatDoor
open Go.RowKit Go.Shelf Go.Maps
set_option linter.unusedVariables false
set_option linter.unusedSimpArgs false

set_option maxRecDepth 100000 in
theorem begun_any (s : ByteArray) (rs : List Rl) (que : Int) (w : World) (hok : NewOk s rs) (hs : s.size ≤ 4611686018427387904) (hT : Lib.Utf8Tabs 0 1 w) (hq : 1 ≤ que ∧ que ≤ 50) :
    Calls Tryz.prog 17 #[.string s, .int .i64 que] w fun e w' => ∃ be M, e = .returned (.pointer (some ⟨be, 0, none⟩)) ∧ LeastM rs (givenL rs) M ∧ KSt w be [] (newE rs 20 3 que M) w' := by
  have hn : Hid (Calls Tryz.prog 39 #[.string s, .int .i64 20, .int .i64 3, .int .i64 que] w fun e w' => ∃ be M, e = .returned (.tuple #[.pointer (some ⟨be, 0, none⟩), .int .i64 0]) ∧ Hid (LeastM rs (givenL rs) M ∧ KSt w be [] (newE rs 20 3 que M) w')) := by
    refine (new_any s rs 20 3 que w hok hs hT ⟨by decide, by decide⟩ ⟨by decide, by decide⟩ hq).mono ?_
    rintro e w' ⟨be, S, M, h1, h2, h3, h4, h5⟩
    exact ⟨be, M, h1, h2, ⟨S, h3, fun k hk => ⟨h4 k hk, by simp⟩⟩, by simp, h5, new_ok hok ⟨by decide, by decide⟩ ⟨by decide, by decide⟩ hq h2⟩
  clear hok hT hq
  go_enter Tryz.func17, Tryz.ntmps17
  go_wp2_with (go_at_call 39; refine Calls.mono hn.out ?_; rintro e' W1 ⟨be, M, rfl, hh⟩)
  go_ret
  exact ⟨be, M, rfl, hh.out⟩

theorem eqRec (a b c d : Int) (x y : ByteArray) (e f : Int) (w : World) : (binOp .eql 71 (.agg #[.int .i64 a, .int .i64 b, .string x, .int .i64 e]) (.agg #[.int .i64 c, .int .i64 d, .string y, .int .i64 f])).run Tryz.prog w = .ok (.bool ((a == c) && ((b == d) && ((x.toList == y.toList) && (e == f))))) w := by
  have u3 := Tryz.underlying9
  have a3 := Tryz.isAgg9
  have z3 := Tryz.sizeOf9
  have u4 := Tryz.underlying3
  have a4 := Tryz.isAgg3
  have z4 := Tryz.sizeOf3
  have hS : Tryz.prog.underlying 71 = some (.struct (Tryz.prog.fieldsOf 71)) := by kernel_rfl
  have hp : Tryz.prog.stoodInHeld 71 = false := by kernel_rfl
  obtain ⟨n, hn⟩ : ∃ n, 10000 = n + 4 := ⟨9996, rfl⟩
  rw [run_eql_struct, hn, run_equalIn_agg w (n + 3) 71 _ _ hS hp]
  simp only [Program.fieldsOf, Tryz.underlying71]
  clear hn
  go_simp
  by_cases h1 : a = c <;> by_cases h2 : b = d <;> by_cases h3 : x.toList = y.toList <;> by_cases h4 : e = f <;> simp [h1, h2, h3, h4]

end Go.Proofs.YtjajnhemgphefaaGreatDoor

namespace Go.Proofs.YtjajnhemgphefaaGreatDoor
open Go.RowKit Go.Shelf Go.Maps
set_option linter.unusedVariables false
set_option linter.unusedSimpArgs false

def bPa : ByteArray := ⟨#[112, 97, 116, 104]⟩
def bEd : ByteArray := ⟨#[101, 100, 103, 101]⟩
/-- path(X,Y) -/
def txtXY : ByteArray := ⟨#[112, 97, 116, 104, 40, 88, 44, 89, 41]⟩
theorem pe_ne : bPa ≠ bEd := by decide
theorem atom_e {a b : Nat} (ha : a < 6) (hb : b < 6) : atomR (ofB bEd a b) = some (amB bEd a b) := by
  rcases lt6 ha with rfl | rfl | rfl | rfl | rfl | rfl <;> rcases lt6 hb with rfl | rfl | rfl | rfl | rfl | rfl <;> kernel_rfl
theorem atom_p {a b : Nat} (ha : a < 6) (hb : b < 6) : atomR (ofB bPa a b) = some (amB bPa a b) := by
  rcases lt6 ha with rfl | rfl | rfl | rfl | rfl | rfl <;> rcases lt6 hb with rfl | rfl | rfl | rfl | rfl | rfl <;> kernel_rfl
theorem atom_xy : atomR txtXY = some ⟨bPa, [v0T, v1T]⟩ := by kernel_rfl
end Go.Proofs.YtjajnhemgphefaaGreatDoor

namespace Go.Proofs.YtjajnhemgphefaaGreatDoor
open Go.RowKit Go.Shelf Go.Maps
set_option linter.unusedVariables false
set_option linter.unusedSimpArgs false

def aPX : Am := ⟨bPa, [v0T, v1T]⟩
/-- The text of a path that holds. -/
def HoldM (M : Gd → Option Int) (x : ByteArray) : Prop := ∃ i j, i < 6 ∧ j < 6 ∧ (M ⟨bPa, ptB i, ptB j⟩).isSome = true ∧ x = ofB bPa i j
/-- Paths hold between the six points alone. -/
def OnPts (M : Gd → Option Int) : Prop := ∀ x y, (M ⟨bPa, x, y⟩).isSome = true → ∃ i j, i < 6 ∧ j < 6 ∧ x = ptB i ∧ y = ptB j
def PtX (x : ByteArray) : Prop := ∃ i j, i < 6 ∧ j < 6 ∧ x = ofB bPa i j
theorem HoldM.pt {M : Gd → Option Int} {x : ByteArray} (h : HoldM M x) : PtX x := by
  obtain ⟨i, j, hi, hj, _, e⟩ := h
  exact ⟨i, j, hi, hj, e⟩
theorem text_pt {i j : Nat} (hi : i < 6) (hj : j < 6) : textG ⟨bPa, ptB i, ptB j⟩ = ofB bPa i j := by
  have h : ∀ i j : Fin 6, sameB (textG ⟨bPa, ptB i, ptB j⟩) (ofB bPa i j) = true := by decide +kernel
  exact (sameB_iff _ _).1 (h ⟨i, hi⟩ ⟨j, hj⟩)
theorem of_inj {i j i' j' : Nat} (hi : i < 6) (hj : j < 6) (hi' : i' < 6) (hj' : j' < 6) (h : ofB bPa i j = ofB bPa i' j') : i = i' ∧ j = j' := by
  have hh : ∀ i j i' j' : Fin 6, sameB (ofB bPa i j) (ofB bPa i' j') = true → i = i' ∧ j = j' := by decide +kernel
  have := hh ⟨i, hi⟩ ⟨j, hj⟩ ⟨i', hi'⟩ ⟨j', hj'⟩ ((sameB_iff _ _).2 h)
  exact ⟨by simpa using this.1, by simpa using this.2⟩
theorem match_pt {i j : Nat} (hi : i < 6) (hj : j < 6) : (matchA nms0 aPX (ptB i) (ptB j)).map (fun p => groundA p aPX) = some ⟨bPa, ptB i, ptB j⟩ := by
  have h : ∀ i j : Fin 6, (match matchA nms0 aPX (ptB i) (ptB j) with | some p => sameB (groundA p aPX).rel bPa && sameB (groundA p aPX).x (ptB i) && sameB (groundA p aPX).y (ptB j) | none => false) = true := by decide +kernel
  have := h ⟨i, hi⟩ ⟨j, hj⟩
  cases hm : matchA nms0 aPX (ptB i) (ptB j) with
  | none => rw [hm] at this; cases this
  | some p =>
    rw [hm] at this
    simp only [Bool.and_eq_true, sameB_iff] at this
    obtain ⟨⟨h1, h2⟩, h3⟩ := this
    show some (groundA p aPX) = _
    rw [← h2, ← h3, ← h1]
/-- What fits path(X,Y): the paths that hold, each once. -/
theorem fit_hold {M : Gd → Option Int} {gs : List Gd} (h : fitP M aPX gs) (ho : OnPts M) : gs.Nodup ∧ ∀ g, g ∈ gs ↔ ∃ i j, i < 6 ∧ j < 6 ∧ (M ⟨bPa, ptB i, ptB j⟩).isSome = true ∧ g = ⟨bPa, ptB i, ptB j⟩ := by
  obtain ⟨ks, k1, k2, rfl⟩ := h
  have hk : ∀ k ∈ ks, ∃ i j, i < 6 ∧ j < 6 ∧ k = (ptB i, ptB j) := by
    rintro ⟨x, y⟩ hm
    obtain ⟨i, j, hi, hj, rfl, rfl⟩ := ho x y ((k2 x y).1 hm).2.2
    exact ⟨i, j, hi, hj, rfl⟩
  have heq : ∀ l : List (ByteArray × ByteArray), (∀ k ∈ l, ∃ i j, i < 6 ∧ j < 6 ∧ k = (ptB i, ptB j)) → (l.filterMap (fun k => matchA nms0 aPX k.1 k.2)).map (fun p => groundA p aPX) = l.map (fun k => (⟨bPa, k.1, k.2⟩ : Gd)) := by
    intro l
    induction l with
    | nil => intro _; rfl
    | cons k l ih =>
      intro hl
      obtain ⟨i, j, hi, hj, rfl⟩ := hl k List.mem_cons_self
      have hm := match_pt hi hj
      cases hmm : matchA nms0 aPX (ptB i) (ptB j) with
      | none => rw [hmm] at hm; cases hm
      | some p =>
        rw [hmm] at hm
        rw [List.filterMap_cons_some (by exact hmm), List.map_cons, List.map_cons, ih (fun k hk => hl k (List.mem_cons_of_mem _ hk))]
        simp only [Option.map_some, Option.some.injEq] at hm
        rw [hm]
  rw [heq ks hk]
  refine ⟨?_, fun g => ?_⟩
  · exact List.Pairwise.map _ (fun a b hab e => hab (by cases a; cases b; simp only [Gd.mk.injEq, true_and] at e; exact Prod.ext e.1 e.2)) k1
  · rw [List.mem_map]
    constructor
    · rintro ⟨k, hm, rfl⟩
      obtain ⟨i, j, hi, hj, rfl⟩ := hk k hm
      exact ⟨i, j, hi, hj, ((k2 _ _).1 hm).2.2, rfl⟩
    · rintro ⟨i, j, hi, hj, hs, rfl⟩
      exact ⟨(ptB i, ptB j), (k2 _ _).2 ⟨by show (1 : Nat) ≤ maxLen; decide, by show (1 : Nat) ≤ maxLen; decide, hs⟩, rfl⟩
/-- The texts, as they are told. -/
def txL (gs : List Gd) : List ByteArray := (sortT (gs.map (fun g => (textG g).data.toList))).map (fun t => (⟨t.toArray⟩ : ByteArray))
theorem tx_perm (gs : List Gd) : (txL gs).Perm (gs.map textG) := by
  have h := (List.mergeSort_perm (gs.map (fun g => (textG g).data.toList)) (fun x y => decide (x ≤ y))).map (fun t => (⟨t.toArray⟩ : ByteArray))
  rw [List.map_map] at h
  exact h
theorem textsR_tx (kind : Int) (gs : List Gd) : textsR kind gs = (txL gs).map (fun x => ⟨kind, 0, x, 0⟩) := by
  unfold textsR recsT txL
  rw [List.map_map]; rfl
/-- Just these. -/
def Like (L : List ByteArray) (T : ByteArray → Prop) : Prop := L.Nodup ∧ ∀ x, x ∈ L ↔ T x
theorem Like.congr {L : List ByteArray} {T T' : ByteArray → Prop} (h : Like L T) (hT : ∀ x, T x ↔ T' x) : Like L T' := ⟨h.1, fun x => (h.2 x).trans (hT x)⟩
theorem tx_like {gs : List Gd} (hn : gs.Nodup) (hp : ∀ g ∈ gs, ∃ i j, i < 6 ∧ j < 6 ∧ g = ⟨bPa, ptB i, ptB j⟩) : Like (txL gs) (fun x => ∃ i j, i < 6 ∧ j < 6 ∧ (⟨bPa, ptB i, ptB j⟩ : Gd) ∈ gs ∧ x = ofB bPa i j) := by
  refine ⟨(tx_perm gs).nodup_iff.2 ?_, fun x => ?_⟩
  · rw [List.nodup_iff_pairwise_ne, List.pairwise_map]
    refine List.Pairwise.imp_of_mem ?_ hn
    intro a b ha hb hab e
    obtain ⟨i, j, hi, hj, rfl⟩ := hp a ha
    obtain ⟨i', j', hi', hj', rfl⟩ := hp b hb
    rw [text_pt hi hj, text_pt hi' hj'] at e
    obtain ⟨rfl, rfl⟩ := of_inj hi hj hi' hj' e
    exact hab rfl
  · rw [(tx_perm gs).mem_iff, List.mem_map]
    constructor
    · rintro ⟨g, hg, rfl⟩
      obtain ⟨i, j, hi, hj, rfl⟩ := hp g hg
      exact ⟨i, j, hi, hj, hg, text_pt hi hj⟩
    · rintro ⟨i, j, hi, hj, hg, rfl⟩
      exact ⟨_, hg, text_pt hi hj⟩
theorem tx_hold {M : Gd → Option Int} {gs : List Gd} (h : fitP M aPX gs) (ho : OnPts M) : Like (txL gs) (HoldM M) := by
  obtain ⟨h1, h2⟩ := fit_hold h ho
  refine (tx_like h1 (fun g hg => ?_)).congr (fun x => ?_)
  · obtain ⟨i, j, hi, hj, _, e⟩ := (h2 g).1 hg
    exact ⟨i, j, hi, hj, e⟩
  · constructor
    · rintro ⟨i, j, hi, hj, hg, e⟩
      obtain ⟨i', j', hi', hj', hs, e'⟩ := (h2 _).1 hg
      exact ⟨i, j, hi, hj, by rw [e']; exact hs, e⟩
    · rintro ⟨i, j, hi, hj, hs, e⟩
      exact ⟨i, j, hi, hj, (h2 _).2 ⟨i, j, hi, hj, hs, rfl⟩, e⟩
theorem pts_few {L : List ByteArray} (hn : L.Nodup) (hp : ∀ x ∈ L, PtX x) : L.length ≤ 36 := by
  have hs : ∀ x ∈ L, x ∈ (List.range 6).flatMap (fun i => (List.range 6).map (fun j => ofB bPa i j)) := fun x hx => by
    obtain ⟨i, j, hi, hj, rfl⟩ := hp x hx
    exact List.mem_flatMap.2 ⟨i, List.mem_range.2 hi, List.mem_map.2 ⟨j, List.mem_range.2 hj, rfl⟩⟩
  have hl : ((List.range 6).flatMap (fun i => (List.range 6).map (fun j => ofB bPa i j))).length = 36 := by decide +kernel
  have := nodup_le L _ hn hs
  rw [hl] at this
  exact this
theorem like_like {L l : List ByteArray} {T : ByteArray → Prop} (h : Like L T) (h' : Like l T) : likeR L l = true := by
  have hp : l.Perm L := (List.perm_ext_iff_of_nodup h'.1 h.1).2 (fun x => (h'.2 x).trans (h.2 x).symm)
  unfold likeR
  rw [Bool.and_eq_true, List.all_eq_true]
  refine ⟨by simpa using hp.length_eq, fun x hx => ?_⟩
  rw [decide_eq_true_eq]
  rcases Int.lt_or_le (placeR L x) 0 with hlt | hle
  · exact absurd ((h.2 x).2 ((h'.2 x).1 hx)) ((placeR_neg _ _).1 hlt)
  · exact hle

theorem del_mem {L : List ByteArray} {x : ByteArray} (hn : L.Nodup) (y : ByteArray) : y ∈ delR L x ↔ y ∈ L ∧ y ≠ x := by
  induction L with
  | nil => simp [delR]
  | cons a l ih =>
    have hn' := List.nodup_cons.1 hn
    unfold delR at ih ⊢
    by_cases hs : sameB x a = true
    · rw [List.eraseP_cons_of_pos hs]
      have hxa := (sameB_iff _ _).1 hs
      subst hxa
      constructor
      · intro hy
        exact ⟨List.mem_cons_of_mem _ hy, fun e => hn'.1 (e ▸ hy)⟩
      · rintro ⟨hy, hne⟩
        rcases List.mem_cons.1 hy with e | hy
        · exact absurd e hne
        · exact hy
    · rw [List.eraseP_cons_of_neg hs, List.mem_cons, List.mem_cons, ih hn'.2]
      have hxa : a ≠ x := fun e => hs ((sameB_iff _ _).2 e.symm)
      constructor
      · rintro (e | ⟨h1, h2⟩)
        · exact ⟨.inl e, by rw [e]; exact hxa⟩
        · exact ⟨.inr h1, h2⟩
      · rintro ⟨e | h1, h2⟩
        · exact .inl e
        · exact .inr ⟨h1, h2⟩
theorem del_nodup {L : List ByteArray} {x : ByteArray} (hn : L.Nodup) : (delR L x).Nodup := hn.sublist List.eraseP_sublist

/-- Records told one after another to one who has L: each can come; at a Marker he has what was seen; at the end E. -/
def Run (sn : Int → List ByteArray → Prop) (E : List ByteArray → Prop) : List ByteArray → List Rc → Prop
  | L, [] => E L
  | L, r :: rs => (r.kind = 2 ∧ r.time = 0 ∧ r.text ∉ L ∧ PtX r.text ∧ Run sn E (L ++ [r.text]) rs) ∨ (r.kind = 3 ∧ r.time = 0 ∧ r.text ∈ L ∧ Run sn E (delR L r.text) rs) ∨ (r.kind = 4 ∧ r.text = ⟨#[]⟩ ∧ sn r.time L ∧ Run sn E L rs)
theorem run_adds {sn : Int → List ByteArray → Prop} {E : List ByteArray → Prop} {rs : List Rc} : ∀ (ts L : List ByteArray) (T : ByteArray → Prop), Like L T → ts.Nodup → (∀ x ∈ ts, ¬ T x ∧ PtX x) → (∀ L', Like L' (fun x => T x ∨ x ∈ ts) → Run sn E L' rs) → Run sn E L (ts.map (fun x => (⟨2, 0, x, 0⟩ : Rc)) ++ rs)
  | [], L, T, hL, _, _, hk => hk L (hL.congr (fun x => by simp))
  | t :: ts, L, T, hL, hn, hx, hk => by
    have hn' := List.nodup_cons.1 hn
    have ht := hx t List.mem_cons_self
    have htL : t ∉ L := fun hm => ht.1 ((hL.2 t).1 hm)
    refine .inl ⟨rfl, rfl, htL, ht.2, run_adds ts (L ++ [t]) (fun x => T x ∨ x = t) ⟨?_, fun x => ?_⟩ hn'.2 (fun x hxm => ⟨?_, (hx x (List.mem_cons_of_mem _ hxm)).2⟩) (fun L' hL' => hk L' (hL'.congr (fun x => ?_)))⟩
    · rw [List.nodup_append]
      refine ⟨hL.1, by simp, fun a ha b hb e => ?_⟩
      rw [List.mem_singleton] at hb
      exact htL (by rw [← hb, ← e]; exact ha)
    · rw [List.mem_append, List.mem_singleton, hL.2 x]
    · rintro (h1 | h1)
      · exact (hx x (List.mem_cons_of_mem _ hxm)).1 h1
      · exact hn'.1 (h1 ▸ hxm)
    · rw [List.mem_cons, or_assoc]
/-- What was seen at a watermark. -/
def findS (S : List (Int × List ByteArray)) (t : Int) : Option (List ByteArray) := (S.find? (fun d => d.1 == t)).map (·.2)
def snS (S : List (Int × List ByteArray)) (t : Int) (L : List ByteArray) : Prop := ∃ l, findS S t = some l ∧ likeR L l = true
/-- How many records wait. -/
def leftF (F : Fs) : Nat := if F.behind = true then 75 else F.snap.length + F.que.length
/-- One who has been told f by the feed F follows it. -/
structure Flw (f : Fo) (F : Fs) (M : Gd → Option Int) (m : Int) (S : List (Int × List ByteArray)) : Prop where
  next : f.next = F.told
  form : F.form = aPX
  nodup : f.L.Nodup
  pts : ∀ x ∈ f.L, PtX x
  snap : F.snap.length ≤ 73
  que : F.que.length ≤ 50
  few : (F.told : Int) + leftF F ≤ 200 * (m + 1)
  st : (F.behind = true ∧ F.snap = [] ∧ F.que = []) ∨ (F.behind = false ∧ f.any = true ∧ Run (snS S) (fun L => Like L (HoldM M)) f.L (F.snap ++ F.que))
/-- A record that waits is told. -/
theorem next_cons {M : Gd → Option Int} {m : Int} {F F' : Fs} {r : Rc} (hb : F.behind = false) (hp : PollR M m F r F') :
    (F.snap ++ F.que = [] ∧ r = ⟨0, 0, ⟨#[]⟩, 0⟩ ∧ F' = F) ∨
    (∃ x l, F.snap ++ F.que = x :: l ∧ (x.kind ≠ 0 → r = { x with seq := F.told } ∧ F'.snap ++ F'.que = l ∧ F'.behind = false ∧ F'.told = F.told + 1 ∧ F'.form = F.form ∧ F'.snap.length ≤ F.snap.length ∧ F'.que.length ≤ F.que.length)) := by
  obtain ⟨r0, f0, hn, hc⟩ := hp
  rcases hn with ⟨l', e1, rfl⟩ | ⟨_, hb', _⟩ | ⟨e0, _, l', e1, rfl⟩ | ⟨e0, _, e1, rfl, rfl⟩
  · refine .inr ⟨r0, l' ++ F.que, by rw [e1]; rfl, fun hk => ?_⟩
    rcases hc with ⟨hk', _, _⟩ | ⟨_, rfl, rfl⟩
    · exact absurd hk' hk
    · exact ⟨rfl, rfl, hb, rfl, rfl, by rw [e1]; simp, Nat.le_refl _⟩
  · rw [hb] at hb'; cases hb'
  · refine .inr ⟨r0, l', by rw [e0, e1]; rfl, fun hk => ?_⟩
    rcases hc with ⟨hk', _, _⟩ | ⟨_, rfl, rfl⟩
    · exact absurd hk' hk
    · exact ⟨rfl, by show F.snap ++ l' = l'; rw [e0]; rfl, hb, rfl, rfl, Nat.le_refl _, by rw [e1]; simp⟩
  · refine .inl ⟨by rw [e0, e1]; rfl, ?_⟩
    rcases hc with ⟨_, rfl, rfl⟩ | ⟨hk, _, _⟩
    · exact ⟨rfl, rfl⟩
    · exact absurd rfl hk
theorem flw_poll {f : Fo} {F F' : Fs} {M : Gd → Option Int} {m : Int} {S : List (Int × List ByteArray)} {r : Rc} (h : Flw f F M m S) (ho : OnPts M) {lm : List ByteArray} (hlm : findS S m = some lm) (hLm : Like lm (HoldM M)) (hp : PollR M m F r F') :
    (r = ⟨0, 0, ⟨#[]⟩, 0⟩ ∧ F' = F ∧ f.any = true ∧ Like f.L (HoldM M)) ∨
    (leftF F' + 1 ≤ leftF F ∧ ((r = ⟨1, f.next, ⟨#[]⟩, 0⟩ ∧ Flw ⟨[], f.next + 1, true⟩ F' M m S) ∨
      (f.any = true ∧ ((∃ x, r = ⟨2, f.next, x, 0⟩ ∧ x ∉ f.L ∧ Flw ⟨f.L ++ [x], f.next + 1, true⟩ F' M m S) ∨ (∃ x, r = ⟨3, f.next, x, 0⟩ ∧ x ∈ f.L ∧ Flw ⟨delR f.L x, f.next + 1, true⟩ F' M m S) ∨
        ∃ t l, r = ⟨4, f.next, ⟨#[]⟩, t⟩ ∧ findS S t = some l ∧ likeR f.L l = true ∧ Flw { f with next := f.next + 1 } F' M m S)))) := by
  rcases h.st with ⟨hb, hs, hq⟩ | ⟨hb, hany, hrun⟩
  · right
    obtain ⟨hr, gs, hg, ⟨hb', hpen⟩, htold, hform⟩ := pen_behind hb hs hq hp
    rw [h.form] at hg hform
    have hl := tx_hold hg ho
    have hlen : (textsR 2 gs ++ [(⟨4, 0, ⟨#[]⟩, m⟩ : Rc)]).length ≤ 37 := by
      rw [textsR_tx, List.length_append, List.length_map]
      have := pts_few hl.1 (fun x hx => ((hl.2 x).1 hx).pt)
      simp only [List.length_cons, List.length_nil]; omega
    rw [← hpen, List.length_append] at hlen
    have hleft : leftF F' ≤ 37 := by unfold leftF; rw [hb', if_neg (by decide)]; exact hlen
    have hleft0 : leftF F = 75 := by unfold leftF; rw [hb, if_pos rfl]
    refine ⟨by omega, .inl ⟨by rw [hr, h.next], ⟨by show f.next + 1 = F'.told; rw [htold, h.next], hform, List.nodup_nil, fun x hx => (by cases hx), by omega, by omega, ?_, .inr ⟨hb', rfl, ?_⟩⟩⟩⟩
    · have := h.few
      rw [htold]; omega
    · rw [hpen, textsR_tx]
      refine run_adds _ [] (fun _ => False) ⟨List.nodup_nil, fun x => by simp⟩ hl.1 (fun x hx => ⟨id, ((hl.2 x).1 hx).pt⟩) (fun L' hL' => ?_)
      have hL2 : Like L' (HoldM M) := hL'.congr (fun x => by rw [false_or]; exact hl.2 x)
      exact .inr (.inr ⟨rfl, rfl, ⟨lm, hlm, like_like hL2 hLm⟩, hL2⟩)
  · rcases next_cons hb hp with ⟨e0, hr, hF⟩ | ⟨x, l, e0, hk⟩
    · rw [e0] at hrun
      exact .inl ⟨hr, hF, hany, hrun⟩
    · right
      rw [e0] at hrun
      have hk0 : x.kind ≠ 0 := by rcases hrun with ⟨h1, _⟩ | ⟨h1, _⟩ | ⟨h1, _⟩ <;> rw [h1] <;> decide
      obtain ⟨hr, hl', hb', htold, hform, hs1, hq1⟩ := hk hk0
      have hlen : F.snap.length + F.que.length = l.length + 1 := by rw [← List.length_append, e0]; rfl
      have hlen' : F'.snap.length + F'.que.length = l.length := by rw [← List.length_append, hl']
      have hleft : leftF F = l.length + 1 := by unfold leftF; rw [hb, if_neg (by decide)]; exact hlen
      have hleft' : leftF F' = l.length := by unfold leftF; rw [hb', if_neg (by decide)]; exact hlen'
      have hfew : (F'.told : Int) + leftF F' ≤ 200 * (m + 1) := by
        have := h.few
        rw [htold, hleft']; rw [hleft] at this; omega
      have hsn := Nat.le_trans hs1 h.snap
      have hqu := Nat.le_trans hq1 h.que
      have hne : f.next + 1 = F'.told := by rw [htold, h.next]
      have hfo := hform.trans h.form
      refine ⟨by omega, .inr ⟨hany, ?_⟩⟩
      obtain ⟨xk, xs, xt, xm⟩ := x
      rcases hrun with ⟨h1, h2, h3, h4, h5⟩ | ⟨h1, h2, h3, h4⟩ | ⟨h1, h2, ⟨lx, h3, h3'⟩, h4⟩
      · simp only at h1 h2 h3 h4 h5
        subst h1 h2
        refine .inl ⟨xt, by rw [hr, h.next], h3, ⟨hne, hfo, ?_, fun y hy => ?_, hsn, hqu, hfew, .inr ⟨hb', rfl, by rw [hl']; exact h5⟩⟩⟩
        · rw [List.nodup_append]
          refine ⟨h.nodup, by simp, fun a ha b hb e => ?_⟩
          rw [List.mem_singleton] at hb
          exact h3 (by rw [← hb, ← e]; exact ha)
        · rcases List.mem_append.1 hy with hy | hy
          · exact h.pts y hy
          · rw [List.mem_singleton] at hy; rw [hy]; exact h4
      · simp only at h1 h2 h3 h4
        subst h1 h2
        exact .inr (.inl ⟨xt, by rw [hr, h.next], h3, ⟨hne, hfo, del_nodup h.nodup, fun y hy => h.pts y ((del_mem h.nodup y).1 hy).1, hsn, hqu, hfew, .inr ⟨hb', rfl, by rw [hl']; exact h4⟩⟩⟩)
      · simp only at h1 h2 h3 h4
        subst h1 h2
        exact .inr (.inr ⟨xm, lx, by rw [hr, h.next], h3, h3', ⟨hne, hfo, h.nodup, h.pts, hsn, hqu, hfew, .inr ⟨hb', hany, by rw [hl']; exact h4⟩⟩⟩)
end Go.Proofs.YtjajnhemgphefaaGreatDoor
