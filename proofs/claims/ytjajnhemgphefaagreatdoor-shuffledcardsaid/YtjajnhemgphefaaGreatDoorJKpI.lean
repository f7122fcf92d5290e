/-
  A feed in plain data: what waits, and what a Poll tells of it.
  The engine as the statements of ebbkeep use it: one engine, and boxes beside it that are not its own.
  The statement Reset: its engine; records compared.
  The rules of the paths, for the statements of ebbkeep: read; the engine's facts; what holds at a watermark.
-/
import Derived.Test.YtjajnhemgphefaaGreatDoorJEgT
import Derived.Test.YtjajnhemgphefaaGreatDoorJEgX
import Derived.Test.YtjajnhemgphefaaGreatDoorJEgZ
import Derived.Test.YtjajnhemgphefaaGreatDoorJKpA
namespace Go.Proofs.YtjajnhemgphefaaGreatDoor
open Go.RowKit Go.Shelf Go.Maps
set_option linter.unusedVariables false
set_option linter.unusedSimpArgs false

/-- A feed that is not behind, and what waits in it. -/
def Pen (f : Fs) (l : List Rc) : Prop := f.behind = false ∧ f.snap ++ f.que = l
theorem pen_cons {f : Fs} {x : Rc} {l : List Rc} (h : Pen f (x :: l)) (hx : x.kind ≠ 0) {M : Gd → Option Int} {m : Int} {r : Rc} {f' : Fs} (hp : PollR M m f r f') : r = { x with seq := f.told } ∧ Pen f' l ∧ f'.told = f.told + 1 ∧ f'.form = f.form := by
  obtain ⟨hb, hl⟩ := h
  obtain ⟨r0, f0, hn, hc⟩ := hp
  have h0 : r0 = x ∧ Pen f0 l ∧ f0.told = f.told ∧ f0.form = f.form := by
    rcases hn with ⟨l', e1, rfl⟩ | ⟨_, hb', _⟩ | ⟨e0, _, l', e1, rfl⟩ | ⟨e0, _, e1, _, _⟩
    · rw [e1] at hl
      simp only [List.cons_append, List.cons.injEq] at hl
      exact ⟨hl.1, ⟨hb, hl.2⟩, rfl, rfl⟩
    · rw [hb] at hb'; cases hb'
    · rw [e0, e1] at hl
      simp only [List.nil_append, List.cons.injEq] at hl
      exact ⟨hl.1, ⟨hb, by show f.snap ++ l' = l; rw [e0]; exact hl.2⟩, rfl, rfl⟩
    · rw [e0, e1] at hl; cases hl
  obtain ⟨rfl, h1, h2, h3⟩ := h0
  rcases hc with ⟨hk, _, _⟩ | ⟨_, rfl, rfl⟩
  · exact absurd hk hx
  · exact ⟨rfl, ⟨h1.1, h1.2⟩, rfl, h3⟩
theorem pen_nil {f : Fs} (h : Pen f []) {M : Gd → Option Int} {m : Int} {r : Rc} {f' : Fs} (hp : PollR M m f r f') : r = ⟨0, 0, ⟨#[]⟩, 0⟩ ∧ f' = f := by
  obtain ⟨hb, hl⟩ := h
  have hs : f.snap = [] := (List.append_eq_nil_iff.1 hl).1
  have hq : f.que = [] := (List.append_eq_nil_iff.1 hl).2
  obtain ⟨r0, f0, hn, hc⟩ := hp
  rcases hn with ⟨l', e1, _⟩ | ⟨_, hb', _⟩ | ⟨_, _, l', e1, _⟩ | ⟨_, _, _, rfl, rfl⟩
  · rw [hs] at e1; cases e1
  · rw [hb] at hb'; cases hb'
  · rw [hq] at e1; cases e1
  · rcases hc with ⟨_, rfl, rfl⟩ | ⟨hk, _, _⟩
    · exact ⟨rfl, rfl⟩
    · exact absurd rfl hk
theorem pen_behind {f : Fs} (hb : f.behind = true) (hs : f.snap = []) (hq : f.que = []) {M : Gd → Option Int} {m : Int} {r : Rc} {f' : Fs} (hp : PollR M m f r f') : r = ⟨1, f.told, ⟨#[]⟩, 0⟩ ∧ ∃ gs, fitP M f.form gs ∧ Pen f' (textsR 2 gs ++ [⟨4, 0, ⟨#[]⟩, m⟩]) ∧ f'.told = f.told + 1 ∧ f'.form = f.form := by
  obtain ⟨r0, f0, hn, hc⟩ := hp
  rcases hn with ⟨l', e1, _⟩ | ⟨_, _, rfl, gs, hg, rfl⟩ | ⟨_, hb', _⟩ | ⟨_, hb', _⟩
  · rw [hs] at e1; cases e1
  · rcases hc with ⟨hk, _, _⟩ | ⟨_, rfl, rfl⟩
    · cases hk
    · refine ⟨rfl, gs, hg, ⟨rfl, ?_⟩, rfl, rfl⟩
      show (recsT 2 _ ++ [_]) ++ f.que = _
      rw [hq, List.append_nil]; rfl
  · rw [hb] at hb'; cases hb'
  · rw [hb] at hb'; cases hb'
/-- What is told of ground atoms. -/
theorem texts_rec {kind : Int} {gs : List Gd} {r : Rc} (h : r ∈ textsR kind gs) : r.kind = kind ∧ r.seq = 0 ∧ r.time = 0 := by
  unfold textsR recsT at h
  obtain ⟨t, _, rfl⟩ := List.mem_map.1 h
  exact ⟨rfl, rfl, rfl⟩

end Go.Proofs.YtjajnhemgphefaaGreatDoor

namespace Go.Proofs.YtjajnhemgphefaaGreatDoor
open Go.RowKit Go.Shelf Go.Maps
set_option linter.unusedVariables false
set_option linter.unusedSimpArgs false

/-- An engine at be, made behind the world w; the blocks bs are none of its own. -/
structure KSt (w : World) (be : Nat) (bs : List Nat) (e : Eg) (W : World) : Prop where
  eng : ∃ S : Nat → Prop, EngAt W S be e ∧ ∀ k, S k → w.heap.size ≤ k ∧ k ∉ bs
  lt : ∀ b ∈ bs, b < W.heap.size
  below : Below w.heap.size w W
  ok : EgOk e
theorem new_ok {s : ByteArray} {rs : List Rl} (h : NewOk s rs) {win lat que : Int} (h1 : 1 ≤ win ∧ win ≤ 1000) (h2 : 0 ≤ lat ∧ lat ≤ 1000) (h3 : 1 ≤ que ∧ que ≤ 50) {M : Gd → Option Int} (hM : LeastM rs (givenL rs) M) : EgOk (newE rs win lat que M) := by
  have hn8 : (namesR [] rs).length ≤ 8 := by have := h.n8 rs.length; rw [List.take_length] at this; exact this
  refine ⟨h.ok, h1, h2, h3, ⟨by show (0 : Int) ≤ 0; decide, by show (0 : Int) ≤ 1000000; decide⟩, hn8, h.nsz, h.nrs, by show (0 : Nat) ≤ 24; decide, fun d hd => (by cases hd), ?_, by show (0 : Nat) ≤ 3; decide, fun f hf => (by cases hf)⟩
  exact least_in (F := []) h.ok h.nrs ⟨by simp, by simp⟩ hM
/-- What lies in the boxes abides. -/
def Kept (bs : List Nat) (W W' : World) : Prop := ∀ b ∈ bs, W'.heap[b]? = W.heap[b]?

theorem KSt.step {w W W' : World} {be : Nat} {bs : List Nat} {e e' : Eg} (h : KSt w be bs e W) {S : Nat → Prop} (h2 : ∀ k, S k → w.heap.size ≤ k ∧ k ∉ bs) (hp : EngPost S be e' W W') (hok : EgOk e') : KSt w be bs e' W' ∧ Kept bs W W' := by
  obtain ⟨S', j1, j2, j3⟩ := hp
  refine ⟨⟨⟨S', j1, fun k hk => ?_⟩, fun b hb => Nat.lt_of_lt_of_le (h.lt b hb) j3.size, ?_, hok⟩, fun b hb => j3.block b (h.lt b hb) (fun hs => (h2 b hs).2 hb)⟩
  · rcases j2 k hk with hs | hs
    · exact h2 k hs
    · exact ⟨Nat.le_trans h.below.size hs, fun hb => by have := h.lt k hb; omega⟩
  · exact h.below.trans (Chg.below j3 h.below.size (fun k hk => (h2 k hk).1))
theorem KSt.same {w W W' : World} {be : Nat} {bs : List Nat} {e : Eg} (h : KSt w be bs e W) (hb : Below W.heap.size W W') : KSt w be bs e W' ∧ Kept bs W W' := by
  obtain ⟨S, h1, h2⟩ := h.eng
  exact h.step h2 (EngPost.same h1 hb) h.ok
theorem KSt.alloc {w W : World} {be : Nat} {bs : List Nat} {e : Eg} (h : KSt w be bs e W) (O : Obj) : KSt w be (W.heap.size :: bs) e (W.alloc O) ∧ Kept bs W (W.alloc O) := by
  obtain ⟨⟨S, h1, h2⟩, h3, h4, h5⟩ := h
  have hb : Below W.heap.size W (W.alloc O) := (Below.refl _ W).alloc (Nat.le_refl _) O
  refine ⟨⟨⟨S, h1.below hb, fun k hk => ⟨(h2 k hk).1, fun hm => ?_⟩⟩, fun b hb' => ?_, h4.alloc h4.size O, h5⟩, fun b hb' => hb.block b (h3 b hb')⟩
  · rcases List.mem_cons.1 hm with rfl | hm
    · obtain ⟨_, _, _, _, _, _, _, _, _, _, hv⟩ := h1
      have := (hv.typ _ hk).lt
      omega
    · exact (h2 k hk).2 hm
  · rcases List.mem_cons.1 hb' with rfl | hb'
    · simp
    · have := h3 b hb'; simp; omega
theorem KSt.fewer {w W : World} {be : Nat} {bs bs' : List Nat} {e : Eg} (h : KSt w be bs e W) (hs : ∀ b ∈ bs', b ∈ bs) : KSt w be bs' e W := by
  obtain ⟨⟨S, h1, h2⟩, h3, h4, h5⟩ := h
  exact ⟨⟨S, h1, fun k hk => ⟨(h2 k hk).1, fun hm => (h2 k hk).2 (hs k hm)⟩⟩, fun b hb => h3 b (hs b hb), h4, h5⟩
theorem KSt.drew {w W : World} {be : Nat} {bs : List Nat} {e : Eg} (h : KSt w be bs e W) : KSt w be bs e W.drew := (h.same (Below.refl _ W).drew).1

section
variable {w W : World} {be : Nat} {bs : List Nat} {e : Eg}
theorem kinsert (h : KSt w be bs e W) (hT : Lib.Utf8Tabs 0 1 w) (s : ByteArray) (t : Int) (hs : s.size ≤ 4611686018427387904) (hn : ∀ a, atomR s = some a → AmOk a ∧ ∀ t ∈ a.args, t.num < 6) :
    Calls Tryz.prog 20 #[.pointer (some ⟨be, 0, none⟩), .string s, .int .i64 t] W fun en W' => en = .returned (.int .i64 (insR e s t).1) ∧ KSt w be bs (insR e s t).2 W' ∧ Kept bs W W' := by
  obtain ⟨S, h1, h2⟩ := h.eng
  refine (insert_any S be e s t W h1 h.ok hs (Utf8Tabs_below hT h.below) (fun a ha => (hn a ha).2)).mono ?_
  rintro en W' ⟨k1, k2⟩
  exact ⟨k1, h.step h2 k2 (ins_ok h.ok s (fun a ha => (hn a ha).1) t)⟩
theorem ktick (h : KSt w be bs e W) (c : Int) :
    Calls Tryz.prog 22 #[.pointer (some ⟨be, 0, none⟩), .int .i64 c] W fun en W' => ∃ e' r, TickE e c e' r ∧ en = .returned (.tuple #[.int .i64 r.1, .int .i64 r.2]) ∧ KSt w be bs e' W' ∧ Kept bs W W' := by
  obtain ⟨S, h1, h2⟩ := h.eng
  refine (tick_any S be e c W h1 h.ok).mono ?_
  rintro en W' ⟨e', r, k1, k2, k3⟩
  exact ⟨e', r, k1, k2, h.step h2 k3 (tick_ok h.ok k1)⟩
theorem ksub (h : KSt w be bs e W) (hT : Lib.Utf8Tabs 0 1 w) (s : ByteArray) (hs : s.size ≤ 4611686018427387904) :
    Calls Tryz.prog 26 #[.pointer (some ⟨be, 0, none⟩), .string s] W fun en W' => en = .returned (.tuple #[.int .i64 (subR e s).1, .int .i64 (subR e s).2.1]) ∧ KSt w be bs (subR e s).2.2 W' ∧ Kept bs W W' := by
  obtain ⟨S, h1, h2⟩ := h.eng
  refine (subscribe_any S be e s W h1 h.ok hs (Utf8Tabs_below hT h.below)).mono ?_
  rintro en W' ⟨k1, k2⟩
  exact ⟨k1, h.step h2 k2 (sub_ok h.ok s)⟩
theorem kpoll (h : KSt w be bs e W) (k : Nat) (hk : k < e.fds.length) (ht : ∀ f ∈ e.fds, f.told ≤ 1000000000000) :
    Calls Tryz.prog 29 #[.pointer (some ⟨be, 0, none⟩), .int .i64 k] W fun en W' => ∃ r f', PollR e.M e.mark e.fds[k] r f' ∧ en = .returned (.tuple #[.agg #[.int .i64 r.kind, .int .i64 r.seq, .string r.text, .int .i64 r.time], .int .i64 0]) ∧ KSt w be bs { e with fds := e.fds.set k f' } W' ∧ Kept bs W W' := by
  obtain ⟨S, h1, h2⟩ := h.eng
  refine (epoll_any S be e k W h1 h.ok ht).mono ?_
  rintro en W' (⟨hn, _⟩ | ⟨k', hk', he, r, f', k1, k2, k3⟩)
  · exact absurd ⟨by omega, by omega⟩ hn
  · have : k = k' := by omega
    subst this
    exact ⟨r, f', k1, k2, h.step h2 k3 (poll_ok h.ok hk k1)⟩
end

end Go.Proofs.YtjajnhemgphefaaGreatDoor

namespace Go.Proofs.YtjajnhemgphefaaGreatDoor
open Go.RowKit Go.Shelf Go.Maps
set_option linter.unusedVariables false
set_option linter.unusedSimpArgs false

theorem q_names : namesR [] (copyR bP bQ) = [] := by kernel_rfl
theorem q_new : NewOk txtQ (copyR bP bQ) := by
  refine ⟨q_parse, ?_, q_ok, fun k => ?_, fun r hr t ht hne => ?_, fun x hx => ?_⟩
  · unfold rulesR
    rw [q_count, if_neg (by decide), q_parse]
    simp only
    rw [q_check, if_pos rfl]
  · cases k with
    | zero => exact Nat.zero_le _
    | succ k =>
      have h : (copyR bP bQ).take (k + 1) = copyR bP bQ := List.take_of_length_le (by show (1 : Nat) ≤ k + 1; omega)
      rw [h, q_names]; exact Nat.zero_le _
  · simp only [copyR, List.mem_cons, List.not_mem_nil, or_false] at hr
    subst hr
    simp only [List.mem_cons, List.not_mem_nil, or_false] at ht
    rcases ht with rfl | rfl <;> exact absurd rfl hne
  · rw [q_names] at hx; cases hx

set_option maxRecDepth 100000 in
theorem begun_any (s : ByteArray) (rs : List Rl) (que : Int) (w : World) (hok : NewOk s rs) (hs : s.size ≤ 4611686018427387904) (hT : Lib.Utf8Tabs 0 1 w) (hq : 1 ≤ que ∧ que ≤ 50) :
    Calls Tryz.prog 17 #[.string s, .int .i64 que] w fun e w' => ∃ be M, e = .returned (.pointer (some ⟨be, 0, none⟩)) ∧ LeastM rs (givenL rs) M ∧ KSt w be [] (newE rs 20 3 que M) w' := by
  have hn : Hid (Calls Tryz.prog 39 #[.string s, .int .i64 20, .int .i64 3, .int .i64 que] w fun e w' => ∃ be M, e = .returned (.tuple #[.pointer (some ⟨be, 0, none⟩), .int .i64 0]) ∧ Hid (LeastM rs (givenL rs) M ∧ KSt w be [] (newE rs 20 3 que M) w')) := by
    refine (new_any s rs 20 3 que w hok hs hT ⟨by decide, by decide⟩ ⟨by decide, by decide⟩ hq).mono ?_
    rintro e w' ⟨be, S, M, h1, h2, h3, h4, h5⟩
    exact ⟨be, M, h1, h2, ⟨S, h3, fun k hk => ⟨h4 k hk, by simp⟩⟩, by simp, h5, new_ok hok ⟨by decide, by decide⟩ ⟨by decide, by decide⟩ hq h2⟩
  clear hok hT hq
  go_enter Tryz.func17, Tryz.ntmps17
  go_wp2_with (go_at_call 39; refine Calls.mono hn.out ?_; rintro e' W1 ⟨be, M, rfl, hh⟩)
  go_ret
  exact ⟨be, M, rfl, hh.out⟩

theorem eqRec (a b c d : Int) (x y : ByteArray) (e f : Int) (w : World) : (binOp .eql 71 (.agg #[.int .i64 a, .int .i64 b, .string x, .int .i64 e]) (.agg #[.int .i64 c, .int .i64 d, .string y, .int .i64 f])).run Tryz.prog w = .ok (.bool ((a == c) && ((b == d) && ((x.toList == y.toList) && (e == f))))) w := by
  have u3 := Tryz.underlying9
  have a3 := Tryz.isAgg9
  have z3 := Tryz.sizeOf9
  have u4 := Tryz.underlying3
  have a4 := Tryz.isAgg3
  have z4 := Tryz.sizeOf3
  have hS : Tryz.prog.underlying 71 = some (.struct (Tryz.prog.fieldsOf 71)) := by kernel_rfl
  have hp : Tryz.prog.stoodInHeld 71 = false := by kernel_rfl
  obtain ⟨n, hn⟩ : ∃ n, 10000 = n + 4 := ⟨9996, rfl⟩
  rw [run_eql_struct, hn, run_equalIn_agg w (n + 3) 71 _ _ hS hp]
  simp only [Program.fieldsOf, Tryz.underlying71]
  clear hn
  go_simp
  by_cases h1 : a = c <;> by_cases h2 : b = d <;> by_cases h3 : x.toList = y.toList <;> by_cases h4 : e = f <;> simp [h1, h2, h3, h4]

end Go.Proofs.YtjajnhemgphefaaGreatDoor

namespace Go.Proofs.YtjajnhemgphefaaGreatDoor
open Go.RowKit Go.Shelf Go.Maps
set_option linter.unusedVariables false
set_option linter.unusedSimpArgs false

def bPa : ByteArray := ⟨#[112, 97, 116, 104]⟩
def bEd : ByteArray := ⟨#[101, 100, 103, 101]⟩
/-- path(X,Y):-edge(X,Y). path(X,Z):-path(X,Y),edge(Y,Z). -/
def txtP : ByteArray := ⟨#[112, 97, 116, 104, 40, 88, 44, 89, 41, 58, 45, 101, 100, 103, 101, 40, 88, 44, 89, 41, 46, 32, 112, 97, 116, 104, 40, 88, 44, 90, 41, 58, 45, 112, 97, 116, 104, 40, 88, 44, 89, 41, 44, 101, 100, 103, 101, 40, 89, 44, 90, 41, 46]⟩
/-- path(X,Y) -/
def txtXY : ByteArray := ⟨#[112, 97, 116, 104, 40, 88, 44, 89, 41]⟩
def rsP : List Rl := pathR bPa bEd
theorem pe_ne : bPa ≠ bEd := by decide
theorem p_count : Lib.runeCount txtP = 53 := by kernel_rfl
theorem p_parse : parseR txtP = .ok rsP := by kernel_rfl
theorem p_check : checkS rsP = (0, 0) := by kernel_rfl
theorem atom_e {a b : Nat} (ha : a < 6) (hb : b < 6) : atomR (ofB bEd a b) = some (amB bEd a b) := by
  rcases lt6 ha with rfl | rfl | rfl | rfl | rfl | rfl <;> rcases lt6 hb with rfl | rfl | rfl | rfl | rfl | rfl <;> kernel_rfl
theorem atom_p {a b : Nat} (ha : a < 6) (hb : b < 6) : atomR (ofB bPa a b) = some (amB bPa a b) := by
  rcases lt6 ha with rfl | rfl | rfl | rfl | rfl | rfl <;> rcases lt6 hb with rfl | rfl | rfl | rfl | rfl | rfl <;> kernel_rfl
theorem atom_xy : atomR txtXY = some ⟨bPa, [v0T, v1T]⟩ := by kernel_rfl
theorem p_ams : rsP.flatMap ruleAms = [⟨bPa, [v0T, v1T]⟩, ⟨bEd, [v0T, v1T]⟩, ⟨bPa, [v0T, v1T]⟩, ⟨bPa, [v0T, v2T]⟩, ⟨bEd, [v2T, v1T]⟩] := rfl
theorem p_arP : arR rsP bPa = 2 := by kernel_rfl
theorem p_arE : arR rsP bEd = 2 := by kernel_rfl
theorem p_der : derB rsP bEd = false := by kernel_rfl
theorem p_given : givenL rsP = [] := rfl
theorem p_ok : RsOk rsP := by
  have hA : ∀ (x : ByteArray) (t u : Tm), x.size ≤ 1200 → TmOk t → TmOk u → AmOk ⟨x, [t, u]⟩ := fun x t u hx h1 h2 => ⟨hx, Nat.le_refl 2, fun v hv => by
    simp only [List.mem_cons, List.not_mem_nil, or_false] at hv
    rcases hv with rfl | rfl
    · exact h1
    · exact h2⟩
  have h0 : TmOk v0T := ⟨by decide, by decide⟩
  have h1 : TmOk v1T := ⟨by decide, by decide⟩
  have h2 : TmOk v2T := ⟨by decide, by decide⟩
  refine ⟨by decide, fun r hr => ?_, fun a ha => ?_, fun a ha t ht => ?_, fun r hr t ht hne => ?_⟩
  · simp only [rsP, pathR, List.mem_cons, List.not_mem_nil, or_false] at hr
    rcases hr with rfl | rfl
    · exact ⟨hA _ _ _ (by decide) h0 h1, by decide, fun a ha => by simp only [List.mem_cons, List.not_mem_nil, or_false] at ha; subst ha; exact hA _ _ _ (by decide) h0 h1⟩
    · exact ⟨hA _ _ _ (by decide) h0 h1, by decide, fun a ha => by
        simp only [List.mem_cons, List.not_mem_nil, or_false] at ha
        rcases ha with rfl | rfl
        · exact hA _ _ _ (by decide) h0 h2
        · exact hA _ _ _ (by decide) h2 h1⟩
  · rw [p_ams] at ha
    simp only [List.mem_cons, List.not_mem_nil, or_false] at ha
    rcases ha with rfl | rfl | rfl | rfl | rfl
    · exact ⟨p_arP.symm, .inr rfl⟩
    · exact ⟨p_arE.symm, .inr rfl⟩
    · exact ⟨p_arP.symm, .inr rfl⟩
    · exact ⟨p_arP.symm, .inr rfl⟩
    · exact ⟨p_arE.symm, .inr rfl⟩
  · rw [p_ams] at ha
    simp only [List.mem_cons, List.not_mem_nil, or_false] at ha
    rcases ha with rfl | rfl | rfl | rfl | rfl <;> (simp only [List.mem_cons, List.not_mem_nil, or_false] at ht; rcases ht with rfl | rfl <;> decide)
  · simp only [rsP, pathR, List.mem_cons, List.not_mem_nil, or_false] at hr
    rcases hr with rfl | rfl
    · exact ⟨⟨bEd, [v0T, v1T]⟩, List.mem_cons_self, t, ht, hne, rfl⟩
    · simp only [List.mem_cons, List.not_mem_nil, or_false] at ht
      rcases ht with rfl | rfl
      · exact ⟨⟨bPa, [v0T, v2T]⟩, List.mem_cons_self, v0T, List.mem_cons_self, rfl, rfl⟩
      · exact ⟨⟨bEd, [v2T, v1T]⟩, List.mem_cons_of_mem _ List.mem_cons_self, v1T, List.mem_cons_of_mem _ List.mem_cons_self, rfl, rfl⟩
theorem p_names1 : namesR [] (rsP.take 1) = [] := by kernel_rfl
theorem p_names : namesR [] rsP = [] := by kernel_rfl
theorem p_new : NewOk txtP rsP := by
  refine ⟨p_parse, ?_, p_ok, fun k => ?_, fun r hr t ht hne => ?_, fun x hx => ?_⟩
  · unfold rulesR
    rw [p_count, if_neg (by decide), p_parse]
    simp only
    rw [p_check, if_pos rfl]
  · match k with
    | 0 => exact Nat.zero_le _
    | 1 => rw [p_names1]; exact Nat.zero_le _
    | k + 2 =>
      have h : rsP.take (k + 2) = rsP := List.take_of_length_le (by show (2 : Nat) ≤ k + 2; omega)
      rw [h, p_names]; exact Nat.zero_le _
  · simp only [rsP, pathR, List.mem_cons, List.not_mem_nil, or_false] at hr
    rcases hr with rfl | rfl <;> (simp only [List.mem_cons, List.not_mem_nil, or_false] at ht; rcases ht with rfl | rfl <;> exact absurd rfl hne)
  · rw [p_names] at hx; cases hx

/-- An engine of the paths; no more than tb is the time of any fact. -/
structure PaE (tb : Int) (e : Eg) : Prop where
  rs : e.rs = rsP
  win : e.win = 20
  lat : e.lat = 3
  names : PtsOk e.names
  kept : ∀ d ∈ e.kept, d.1.rel = bEd ∧ 0 ≤ d.2 ∧ d.2 ≤ tb
theorem ck_e {e : Eg} (h : e.rs = rsP) (a b : Nat) : ckR e.rs (amB bEd a b) = 0 := by
  unfold ckR
  show (if arR e.rs bEd = 0 then (7 : Int) else if arR e.rs bEd = 2 then 0 else 4) = 0
  rw [h, p_arE]; rfl
theorem ck_p {e : Eg} (h : e.rs = rsP) (a b : Nat) : ckR e.rs (amB bPa a b) = 0 := by
  unfold ckR
  show (if arR e.rs bPa = 0 then (7 : Int) else if arR e.rs bPa = 2 then 0 else 4) = 0
  rw [h, p_arP]; rfl
/-- An edge is brought: it is kept, or the engine is as it was. -/
theorem pa_ins {tb : Int} {e : Eg} (h : PaE tb e) {a b : Nat} (ha : a < 6) (hb : b < 6) {t : Int} (ht : 0 ≤ t ∧ t ≤ tb) (hb6 : tb ≤ 1000000) :
    let r := insR e (ofB bEd a b) t
    (r.2 = e ∧ (r.1 = 8 ∨ r.1 = 9 ∨ r.1 = 10) ∧ (r.1 = 8 ↔ t + 20 ≤ e.mark) ∧ (r.1 = 9 → (⟨bEd, ptB a, ptB b⟩, t) ∈ e.kept) ∧ (r.1 = 10 → e.kept.length = 24)) ∨
    (r.1 = 0 ∧ e.mark < t + 20 ∧ (⟨bEd, ptB a, ptB b⟩, t) ∉ e.kept ∧ e.kept.length ≠ 24 ∧ r.2 = { e with names := nmL e.names (amB bEd a b).args, kept := e.kept ++ [(⟨bEd, ptB a, ptB b⟩, t)] }) := by
  intro r
  have hr : r = accR e (amB bEd a b) t := by
    show insR e (ofB bEd a b) t = _
    unfold insR
    rw [atom_e ha hb]
    simp only
    rw [if_neg (by rw [am_ground]; decide), if_neg (by rw [h.rs]; show ¬ derB rsP bEd = true; rw [p_der]; decide), if_neg (by rw [ck_e h.rs]; decide), if_neg (by simp; omega)]
  rw [hr]
  unfold accR
  rw [ground_am, h.win]
  by_cases ho : overB 20 e.mark t = true
  · rw [if_pos ho]
    have ho' : t + 20 ≤ e.mark := by unfold overB at ho; simpa using ho
    exact .inl ⟨rfl, .inl rfl, ⟨fun _ => ho', fun _ => rfl⟩, fun h => by simp at h, fun h => by simp at h⟩
  · rw [if_neg ho]
    have ho' : ¬ t + 20 ≤ e.mark := by unfold overB at ho; simpa using ho
    by_cases hh : hasD e.kept (⟨bEd, ptB a, ptB b⟩, t) = true
    · rw [if_pos hh]
      exact .inl ⟨rfl, .inr (.inl rfl), ⟨fun h => by simp at h, fun h => absurd h ho'⟩, fun _ => (hasD_iff _ _).1 hh, fun h => by simp at h⟩
    · rw [if_neg hh]
      have h6 := pts_six (pts_add h.names bEd ha hb)
      by_cases hf : e.kept.length = 24 ∨ 8 < (nmL e.names (amB bEd a b).args).length
      · rw [if_pos hf]
        exact .inl ⟨rfl, .inr (.inr rfl), ⟨fun h => by simp at h, fun h => absurd h ho'⟩, fun h => by simp at h, fun _ => by omega⟩
      · rw [if_neg hf]
        exact .inr ⟨rfl, by omega, fun hm => hh ((hasD_iff _ _).2 hm), by omega, rfl⟩
theorem pa_kept {tb : Int} {e : Eg} (h : PaE tb e) {a b : Nat} (ha : a < 6) (hb : b < 6) {t : Int} (ht : 0 ≤ t ∧ t ≤ tb) (hb6 : tb ≤ 1000000) : PaE tb (insR e (ofB bEd a b) t).2 := by
  rcases pa_ins h ha hb ht hb6 with ⟨h1, _⟩ | ⟨_, _, _, _, h1⟩
  · rw [h1]; exact h
  · rw [h1]
    refine ⟨h.rs, h.win, h.lat, pts_add h.names bEd ha hb, fun d hd => ?_⟩
    rcases List.mem_append.1 hd with hd | hd
    · exact h.kept d hd
    · simp only [List.mem_cons, List.not_mem_nil, or_false] at hd
      subst hd
      exact ⟨rfl, ht⟩

/-- A ground atom is fitted by itself alone. -/
theorem fit_ground {M : Gd → Option Int} (hM : mdOk (arR rsP) M) {a b : Nat} {gs : List Gd} (h : fitP M (amB bPa a b) gs) : gs.length = if (M ⟨bPa, ptB a, ptB b⟩).isSome = true then 1 else 0 := by
  obtain ⟨ks, k1, k2, rfl⟩ := h
  have hok : amOk (arR rsP) (amB bPa a b) := ⟨p_arP.symm, by intro t ht; simp [amB] at ht; rcases ht with rfl | rfl <;> exact Nat.zero_lt_succ 5⟩
  have hm : ∀ k ∈ ks, (matchA nms0 (amB bPa a b) k.1 k.2).isSome = true ↔ k = (ptB a, ptB b) := by
    intro k hk
    have h3 := ((k2 k.1 k.2).1 hk).2.2
    constructor
    · intro hs
      obtain ⟨m, hm⟩ := Option.isSome_iff_exists.1 hs
      have := (matchA_sound hok (hM _ h3).1 hm).2
      have e1 : groundA m (amB bPa a b) = ⟨bPa, ptB a, ptB b⟩ := by
        show (⟨bPa, ofT m ⟨ptB a, 0⟩, ofT m ⟨ptB b, 0⟩⟩ : Gd) = _
        rw [ofT_name (by exact pt_ne a), ofT_name (by exact pt_ne b)]
      rw [e1] at this
      simp only [Gd.mk.injEq] at this
      obtain ⟨x, y⟩ := k
      simp only at this ⊢
      rw [← this.2.1, ← this.2.2]
    · rintro rfl
      obtain ⟨m, hm, _⟩ := matchA_complete (n := nms0) (p := nms0) hok (by rw [ground_am]; exact (hM _ h3).1) (ext_zero _)
      rw [ground_am] at hm
      have hm' : matchA nms0 (amB bPa a b) (ptB a) (ptB b) = some m := hm
      rw [hm']; rfl
  rw [List.length_map]
  by_cases hs : (M ⟨bPa, ptB a, ptB b⟩).isSome = true
  · rw [if_pos hs]
    have hmem : (ptB a, ptB b) ∈ ks := (k2 _ _).2 ⟨(hM _ hs).2.x, (hM _ hs).2.y, hs⟩
    have hcount : ∀ l : List (ByteArray × ByteArray), l.Nodup → (∀ k ∈ l, k ∈ ks) → ((ptB a, ptB b) ∈ l → (l.filterMap (fun k => matchA nms0 (amB bPa a b) k.1 k.2)).length = 1) ∧ ((ptB a, ptB b) ∉ l → (l.filterMap (fun k => matchA nms0 (amB bPa a b) k.1 k.2)).length = 0) := by
      intro l
      induction l with
      | nil => intro _ _; exact ⟨fun h => (by cases h), fun _ => rfl⟩
      | cons k l ih =>
        intro hn hsub
        have hn' := List.nodup_cons.1 hn
        have ih' := ih hn'.2 (fun k hk => hsub k (List.mem_cons_of_mem _ hk))
        by_cases hk : k = (ptB a, ptB b)
        · have h1 := (hm k (hsub k List.mem_cons_self)).2 hk
          obtain ⟨m, hmm⟩ := Option.isSome_iff_exists.1 h1
          rw [List.filterMap_cons_some (by exact hmm), List.length_cons]
          refine ⟨fun _ => ?_, fun h => absurd (by rw [hk]; exact List.mem_cons_self) h⟩
          rw [ih'.2 (by rw [← hk]; exact hn'.1)]
        · have h1 : matchA nms0 (amB bPa a b) k.1 k.2 = none := by
            cases hc : matchA nms0 (amB bPa a b) k.1 k.2 with
            | none => rfl
            | some m => exact absurd ((hm k (hsub k List.mem_cons_self)).1 (by rw [hc]; rfl)) hk
          rw [List.filterMap_cons_none (by exact h1)]
          refine ⟨fun h => ih'.1 ?_, fun h => ih'.2 (fun h' => h (List.mem_cons_of_mem _ h'))⟩
          rcases List.mem_cons.1 h with h | h
          · exact absurd h.symm hk
          · exact h
    exact (hcount ks k1 (fun _ h => h)).1 hmem
  · rw [if_neg hs]
    have : ks.filterMap (fun k => matchA nms0 (amB bPa a b) k.1 k.2) = [] := by
      rw [List.filterMap_eq_nil_iff]
      intro k hk
      cases hc : matchA nms0 (amB bPa a b) k.1 k.2 with
      | none => rfl
      | some m =>
        have := (hm k hk).1 (by rw [hc]; rfl)
        subst this
        exact absurd ((k2 _ _).1 hk).2.2 hs
    rw [this]; rfl

end Go.Proofs.YtjajnhemgphefaaGreatDoor
