/-
  The document's own answer: the least model in plain data.
  How rules, atoms and terms lie in memory while they are read, and what leaves them as they are; one law more for an append inside a statement whose order is open.
  The parser's state as plain data, and what each token does to it.
  The parser's methods: what each does to the parser's memory, said of the state that it stands for.
  slices.Index and slices.Contains over a row of strings, in the words of the document's own answer.
-/
import Derived.Test.YtjajnhemgphefaaGreatDoorJWyA
import Derived.Test.YtjajnhemgphefaaGreatDoorJAll
import Derived.Test.YtjajnhemgphefaaGreatDoorJRefJ
import Derived.Deep.RegionLawGrows
import Derived.Maps.AppendAt
import Derived.BigQuiet
import Derived.BigRegion
namespace Go.Proofs.YtjajnhemgphefaaGreatDoor
open Go.RowKit Go.Shelf
set_option linter.unusedVariables false
set_option linter.unusedSimpArgs false

/-- What follows from facts: in every set that holds these and is closed under the rules. -/
def Dv (R : List Rl) (F : List Gr) (g : Gr) : Prop := ∀ S : Gr → Prop, (∀ x ∈ F, S x) → (∀ r ∈ R, ∀ s : Nat → ByteArray, (∀ v, emptyB (s v) = false) → (∀ a ∈ r.body, S (instA s a)) → S (instA s r.head)) → S g
def amsG (r : Rl) : List Am := r.head :: r.body
structure RsFine (R : List Rl) (Nm : List ByteArray) : Prop where
  each : ∀ r ∈ R, RuleFine r
  n8 : Nm.length ≤ 8
  ne : eBy ∉ Nm
  cs : ∀ r ∈ R, ∀ t ∈ r.head.args, emptyB t.name = false → t.name ∈ Nm
  few : (R.flatMap amsG).length ≤ 32
/-- Of a relation of the rules, of names that are known. -/
structure GrOk (R : List Rl) (Nm : List ByteArray) (g : Gr) : Prop where
  rel : ∃ a ∈ R.flatMap amsG, g.rel = a.rel ∧ g.args.length = a.args.length
  mem : ∀ x ∈ g.args, x ∈ Nm
def tupsG (rel : ByteArray) (Nm : List ByteArray) : Nat → List Gr
  | 0 => [⟨rel, []⟩]
  | 1 => Nm.map (fun x => ⟨rel, [x]⟩)
  | 2 => Nm.flatMap (fun x => Nm.map (fun y => ⟨rel, [x, y]⟩))
  | _ => []
def uniG (R : List Rl) (Nm : List ByteArray) : List Gr := (R.flatMap amsG).flatMap (fun a => tupsG a.rel Nm a.args.length)
theorem flat_few {α β : Type} (f : α → List β) (k : Nat) : ∀ (l : List α), (∀ a ∈ l, (f a).length ≤ k) → (l.flatMap f).length ≤ l.length * k
  | [], _ => by simp
  | a :: l, h => by
    have h1 := flat_few f k l (fun x hx => h x (List.mem_cons_of_mem _ hx))
    have h2 := h a List.mem_cons_self
    rw [List.flatMap_cons, List.length_append, List.length_cons, Nat.succ_mul]
    omega
theorem tups_few (rel : ByteArray) (Nm : List ByteArray) (h : Nm.length ≤ 8) (n : Nat) : (tupsG rel Nm n).length ≤ 64 := by
  match n with
  | 0 => exact Nat.le_of_ble_eq_true rfl
  | 1 => show (Nm.map _).length ≤ 64; rw [List.length_map]; omega
  | 2 =>
    have := flat_few (fun x => Nm.map (fun y => (⟨rel, [x, y]⟩ : Gr))) 8 Nm (fun x _ => by rw [List.length_map]; exact h)
    have h2 : Nm.length * 8 ≤ 64 := by omega
    exact Nat.le_trans this h2
  | n + 3 => exact Nat.zero_le _
theorem uni_few {R : List Rl} {Nm : List ByteArray} (h : RsFine R Nm) : (uniG R Nm).length ≤ 2048 := by
  have h1 := flat_few (fun a => tupsG a.rel Nm a.args.length) 64 (R.flatMap amsG) (fun a _ => tups_few _ _ h.n8 _)
  have h2 := h.few
  unfold uniG
  omega
theorem in_uni {R : List Rl} {Nm : List ByteArray} (h : RsFine R Nm) {g : Gr} (hg : GrOk R Nm g) : g ∈ uniG R Nm := by
  obtain ⟨⟨a, ha, h1, h2⟩, h3⟩ := hg
  refine List.mem_flatMap.2 ⟨a, ha, ?_⟩
  have h4 : a.args.length ≤ 2 := by
    obtain ⟨r, hr, har⟩ := List.mem_flatMap.1 ha
    exact ((h.each r hr).args a har).1
  obtain ⟨gr, ga⟩ := g
  simp only at h1 h2 h3
  rw [← h1, ← h2]
  match ga, h2, h3 with
  | [], _, _ => exact List.mem_cons_self
  | [x], _, h3 => exact List.mem_map.2 ⟨x, h3 x List.mem_cons_self, rfl⟩
  | [x, y], _, h3 => exact List.mem_flatMap.2 ⟨x, h3 x List.mem_cons_self, List.mem_map.2 ⟨y, h3 y (List.mem_cons_of_mem _ List.mem_cons_self), rfl⟩⟩
  | _ :: _ :: _ :: _, h2, _ => simp only [List.length_cons] at h2; omega
theorem few_any {α : Type} : ∀ (l L : List α), l.Nodup → (∀ x ∈ l, x ∈ L) → l.length ≤ L.length
  | [], L, _, _ => Nat.zero_le _
  | a :: l, L, hn, hs => by
    have hn' := List.nodup_cons.1 hn
    obtain ⟨L1, L2, e⟩ := List.append_of_mem (hs a List.mem_cons_self)
    have h1 := few_any l (L1 ++ L2) hn'.2 (fun x hx => by
      have := hs x (List.mem_cons_of_mem _ hx)
      rw [e] at this
      rcases List.mem_append.1 this with h | h
      · exact List.mem_append_left _ h
      · rcases List.mem_cons.1 h with h | h
        · exact absurd (h ▸ hx) hn'.1
        · exact List.mem_append_right _ h)
    rw [e]
    simp only [List.length_append, List.length_cons] at h1 ⊢
    omega
/-- The names that stand in what holds. -/
theorem seenG_mem (vs : List ByteArray) (x y : ByteArray) : y ∈ seenL vs x ↔ y ∈ vs ∨ y = x := by
  unfold seenL
  split
  · rename_i h
    have := seenN_lt.1 h
    exact ⟨.inl, fun h => h.elim id (fun e => by rw [e]; exact this)⟩
  · rw [List.mem_append, List.mem_singleton]
theorem addL_mem : ∀ (l vs : List ByteArray) (y : ByteArray), y ∈ addL vs l ↔ y ∈ vs ∨ y ∈ l
  | [], vs, y => by simp [addL]
  | x :: l, vs, y => by
    have := addL_mem l (seenL vs x) y
    unfold addL at this ⊢
    rw [List.foldl_cons, this, seenG_mem, List.mem_cons, or_assoc]
theorem addL_nodup : ∀ (l vs : List ByteArray), vs.Nodup → (addL vs l).Nodup
  | [], vs, h => h
  | x :: l, vs, h => by
    unfold addL
    rw [List.foldl_cons]
    refine addL_nodup l (seenL vs x) ?_
    unfold seenL
    split
    · exact h
    · rename_i hx
      rw [List.nodup_append]
      refine ⟨h, by simp, fun a ha b hb e => ?_⟩
      rw [List.mem_singleton] at hb
      exact hx (seenN_lt.2 (by rw [← hb, ← e]; exact ha))
theorem distinct_of {l : List ByteArray} (h : l.Nodup) : Distinct l := fun i j hi hj e => by
  have hp := List.pairwise_iff_getElem.1 (List.nodup_iff_pairwise_ne.1 h)
  rcases Nat.lt_trichotomy i j with hl | hl | hl
  · exact absurd e (hp i j hi hj hl)
  · exact hl
  · exact absurd e.symm (hp j i hj hi hl)
section
variable {R : List Rl} {Nm : List ByteArray} {F hs : List Gr}
theorem names_ok (hR : RsFine R Nm) (h : ∀ g ∈ hs, GrOk R Nm g) : (addL [] (wordsOf hs)).length ≤ 8 ∧ Distinct (addL [] (wordsOf hs)) ∧ eBy ∉ addL [] (wordsOf hs) ∧ ∀ g ∈ hs, ∀ x ∈ g.args, emptyB x = false ∧ x ∈ addL [] (wordsOf hs) := by
  have h1 : ∀ y ∈ addL [] (wordsOf hs), y ∈ Nm := fun y hy => by
    rcases (addL_mem _ _ _).1 hy with hy | hy
    · cases hy
    · obtain ⟨g, hg, hy⟩ := List.mem_flatMap.1 hy
      exact (h g hg).mem y hy
  have hn : (addL [] (wordsOf hs)).Nodup := addL_nodup _ _ List.nodup_nil
  refine ⟨Nat.le_trans (few_any _ _ hn h1) hR.n8, distinct_of hn, fun he => hR.ne (h1 _ he), fun g hg x hx => ⟨?_, (addL_mem _ _ _).2 (.inr (List.mem_flatMap.2 ⟨g, hg, hx⟩))⟩⟩
  cases he : emptyB x with
  | false => rfl
  | true => exact absurd (by rw [← (emptyB_iff x).1 he]; exact (h g hg).mem x hx) hR.ne
/-- What is reckoned so far. -/
structure LsI (R : List Rl) (F : List Gr) (Nm : List ByteArray) (hs : List Gr) : Prop where
  nodup : hs.Nodup
  ok : ∀ g ∈ hs, GrOk R Nm g
  der : ∀ g ∈ hs, Dv R F g
theorem LsI.few (hR : RsFine R Nm) (h : LsI R F Nm hs) : hs.length ≤ 2048 := Nat.le_trans (few_any _ _ h.nodup (fun g hg => in_uni hR (h.ok g hg))) (uni_few hR)
theorem LsI.add (h : LsI R F Nm hs) {g : Gr} (hg : g ∉ hs) (h1 : GrOk R Nm g) (h2 : Dv R F g) : LsI R F Nm (hs ++ [g]) := by
  refine ⟨?_, fun x hx => ?_, fun x hx => ?_⟩
  · rw [List.nodup_append]
    refine ⟨h.nodup, by simp, fun a ha b hb e => ?_⟩
    rw [List.mem_singleton] at hb
    exact hg (by rw [← hb, ← e]; exact ha)
  · rcases List.mem_append.1 hx with hx | hx
    · exact h.ok x hx
    · rw [List.mem_singleton] at hx; rw [hx]; exact h1
  · rcases List.mem_append.1 hx with hx | hx
    · exact h.der x hx
    · rw [List.mem_singleton] at hx; rw [hx]; exact h2
theorem inst_ok (hR : RsFine R Nm) (h : ∀ g ∈ hs, GrOk R Nm g) {r : Rl} (hr : r ∈ R) {s : Nat → ByteArray} (hb : ∀ a ∈ r.body, instA s a ∈ hs) : GrOk R Nm (instA s r.head) := by
  refine ⟨⟨r.head, List.mem_flatMap.2 ⟨r, hr, List.mem_cons_self⟩, rfl, by simp [instA]⟩, fun x hx => ?_⟩
  obtain ⟨t, ht, rfl⟩ := List.mem_map.1 hx
  unfold inT
  by_cases he : emptyB t.name = true
  · rw [if_pos he]
    obtain ⟨a, ha, u, hu, hu1, hu2⟩ := (hR.each r hr).safe t.num ⟨t, ht, he, rfl⟩
    refine (h _ (hb a ha)).mem _ (List.mem_map.2 ⟨u, hu, ?_⟩)
    unfold inT
    rw [if_pos hu1, hu2]
  · rw [if_neg he]
    exact hR.cs r hr t ht (by simpa using he)
/-- What comes of a way. -/
theorem LsI.way (hR : RsFine R Nm) (h : LsI R F Nm hs) {r : Rl} (hr : r ∈ R) {names : List ByteArray} {b : List ByteArray} (hp : PWay r names hs r.body.length b) : GrOk R Nm (putG r.head b) ∧ Dv R F (putG r.head b) := by
  obtain ⟨s, s1, s2, s3⟩ := way_sound (hR.each r hr) hp
  rw [s3]
  exact ⟨inst_ok hR h.ok hr s2, fun S x1 x2 => x2 r hr s s1 (fun a ha => h.der _ (s2 a ha) S x1 x2)⟩
theorem LsI.inv (hR : RsFine R Nm) (h : LsI R F Nm hs) {r : Rl} (hr : r ∈ R) : WayInv r (addL [] (wordsOf hs)) hs (PWay r (addL [] (wordsOf hs)) hs) := by
  obtain ⟨n1, n2, n3, n4⟩ := names_ok hR h.ok
  exact way_inv (hR.each r hr) n4 n1 n3
theorem LsI.done (hR : RsFine R Nm) (h : LsI R F Nm hs) (hF : ∀ f ∈ F, f ∈ hs) (hc : ∀ r ∈ R, ∀ b ∈ waysR r hs, putG r.head b ∈ hs) (g : Gr) : g ∈ hs ↔ Dv R F g := by
  refine ⟨h.der g, fun hd => hd (fun g => g ∈ hs) hF (fun r hr s hs' hb => ?_)⟩
  obtain ⟨n1, n2, n3, n4⟩ := names_ok hR h.ok
  obtain ⟨b, hb1, hb2⟩ := way_complete (hR.each r hr) hs' _ rfl n4 n1 n3 hb
  rw [← hb2]; exact hc r hr b hb1
theorem LsI.start : LsI R F Nm [] := ⟨List.nodup_nil, fun g hg => (by cases hg), fun g hg => (by cases hg)⟩
theorem LsI.fact (h : LsI R F Nm hs) {f : Gr} (hf : f ∈ F) (hn : f ∉ hs) (ho : GrOk R Nm f) : LsI R F Nm (hs ++ [f]) := h.add hn ho (fun S x1 _ => x1 f hf)
end

end Go.Proofs.YtjajnhemgphefaaGreatDoor

namespace Go.Proofs.YtjajnhemgphefaaGreatDoor
open Go.RowKit Go.Shelf
set_option linter.unusedVariables false
set_option linter.unusedSimpArgs false

def termsC (l : List Tm) : List Value := l.flatMap tmC
def atomC (p : Am × Value) : List Value := [.string p.1.rel, p.2]
def ruleC (q : Rl × Value × Value) : List Value := [.string q.1.head.rel, q.2.1, q.2.2]

theorem atomsC_length (l : List (Am × Value)) : (l.flatMap atomC).length = l.length * 2 := by
  induction l with
  | nil => rfl
  | cons t l ih => simp [atomC] at ih ⊢; omega
/-- A slice of terms that is read and no longer written: its row lies below b. -/
def SealT (W : World) (b : Nat) (v : Value) (l : List Tm) : Prop :=
  (l = [] ∧ v = .slice none 0 0) ∨
  ∃ (g cap : Nat) (cur : Array Value), v = .slice (some ⟨g, 0, none⟩) l.length cap ∧ g < b ∧ W.heap[g]? = some (Obj.cells cur 166 (0, 0)) ∧ cur.toList.take (l.length * 2) = termsC l

/-- A slice of atoms that is read and no longer written. -/
def SealA (W : World) (b45 b87 : Nat) (v : Value) (l : List Am) : Prop :=
  ∃ (ps : List (Am × Value)) (a : Option Addr) (cap : Nat), ps.map (·.1) = l ∧ v = .slice a l.length cap ∧ ((∀ p ∈ ps, SealT W b87 p.2 p.1.args) ∧ l.length ≤ cap) ∧
    (l ≠ [] → ∃ (g off : Nat) (cur : Array Value), a = some ⟨g, off, none⟩ ∧ g < b45 ∧ W.heap[g]? = some (Obj.cells cur 92 (0, 0)) ∧ (cur.toList.drop off).take (l.length * 2) = ps.flatMap atomC)

/-- The atoms of the rule that is being read: the last one's terms may still grow. -/
def CurA (W : World) (b45 b87 : Nat) (v : Value) (l : List Am) : Prop :=
  ∃ ps : List (Am × Value), ps.map (·.1) = l ∧ W.ownsRow b45 92 2 v ps.length (ps.flatMap atomC) ∧ (∀ p ∈ ps.dropLast, SealT W b87 p.2 p.1.args) ∧
    (∀ p, ps.getLast? = some p → W.ownsRow b87 166 2 p.2 p.1.args.length (termsC p.1.args))

def RulesAt (W : World) (base b45 b87 : Nat) (v : Value) (l : List Rl) : Prop :=
  ∃ qs : List (Rl × Value × Value), qs.map (·.1) = l ∧ W.ownsRow base 136 3 v qs.length (qs.flatMap ruleC) ∧ ∀ q ∈ qs, SealT W b87 q.2.1 q.1.head.args ∧ SealA W b45 b87 q.2.2 q.1.body

/-- Blocks of cells of type t below b are as they were. -/
def KeptT (t : TypeId) (b : Nat) (W W' : World) : Prop := ∀ (k : Nat) (c : Array Value), k < b → W.heap[k]? = some (Obj.cells c t (0, 0)) → W'.heap[k]? = some (Obj.cells c t (0, 0))

theorem KeptT.above {t : TypeId} {b g : Nat} {W W' : World} (h : W.grownBy W' (some g)) (hb : b ≤ g) : KeptT t b W W' := fun k d hk hh =>
  (h.block k (Array.getElem?_eq_some_iff.1 hh).1 (by intro e; cases e; omega)).trans hh

theorem SealT.kept {W W' : World} {b : Nat} {v : Value} {l : List Tm} (h : SealT W b v l) (hk : KeptT 166 b W W') : SealT W' b v l := by
  rcases h with h | ⟨g, cap, cur, h1, h2, h3, h4⟩
  · exact .inl h
  · exact .inr ⟨g, cap, cur, h1, h2, hk g cur h2 h3, h4⟩
theorem SealT.mono {W : World} {b b' : Nat} {v : Value} {l : List Tm} (h : SealT W b v l) (hb : b ≤ b') : SealT W b' v l := by
  rcases h with h | ⟨g, cap, cur, h1, h2, h3, h4⟩
  · exact .inl h
  · exact .inr ⟨g, cap, cur, h1, by omega, h3, h4⟩
theorem SealA.kept {W W' : World} {b45 b87 : Nat} {v : Value} {l : List Am} (h : SealA W b45 b87 v l) (hk : KeptT 92 b45 W W') (hk' : KeptT 166 b87 W W') : SealA W' b45 b87 v l := by
  obtain ⟨ps, a, cap, h1, h2, h3, h4⟩ := h
  refine ⟨ps, a, cap, h1, h2, ⟨fun p hp => (h3.1 p hp).kept hk', h3.2⟩, fun hne => ?_⟩
  obtain ⟨g, off, cur, e1, e2, e3, e4⟩ := h4 hne
  exact ⟨g, off, cur, e1, e2, hk g cur e2 e3, e4⟩
theorem SealA.mono {W : World} {b45 b87 c45 c87 : Nat} {v : Value} {l : List Am} (h : SealA W b45 b87 v l) (h45 : b45 ≤ c45) (h87 : b87 ≤ c87) : SealA W c45 c87 v l := by
  obtain ⟨ps, a, cap, h1, h2, h3, h4⟩ := h
  refine ⟨ps, a, cap, h1, h2, ⟨fun p hp => (h3.1 p hp).mono h87, h3.2⟩, fun hne => ?_⟩
  obtain ⟨g, off, cur, e1, e2, e3, e4⟩ := h4 hne
  exact ⟨g, off, cur, e1, by omega, e3, e4⟩

theorem SealT.ofOwns {W : World} {b : Nat} {v : Value} {l : List Tm} (h : W.ownsRow b 166 2 v l.length (termsC l)) : SealT W W.heap.size v l := by
  obtain ⟨_, ⟨hv, hn⟩ | ⟨g, cap, cur, hv, hb, hh, h1, h2, h3, h4⟩⟩ := h
  · exact .inl ⟨List.eq_nil_of_length_eq_zero hn, hv⟩
  · exact .inr ⟨g, cap, cur, hv, (Array.getElem?_eq_some_iff.1 hh).1, hh, h4⟩

/-- An owned row abides whatever keeps its own block. -/
theorem owns_kept {W W' : World} {b e size n : Nat} {v : Value} {xs : List Value} (h : W.ownsRow b e size v n xs) (hk : ∀ g c, v.ownBlock = some g → W.heap[g]? = some (Obj.cells c e (0, 0)) → W'.heap[g]? = some (Obj.cells c e (0, 0))) : W'.ownsRow b e size v n xs := by
  obtain ⟨h0, ⟨hv, hn⟩ | ⟨g, cap, cur, hv, hb, hh, h1, h2, h3, h4⟩⟩ := h
  · exact ⟨h0, .inl ⟨hv, hn⟩⟩
  · exact ⟨h0, .inr ⟨g, cap, cur, hv, hb, hk g cur (by rw [hv]; rfl) hh, h1, h2, h3, h4⟩⟩

theorem step_append_own {P : Program} {ops : Array Oper} {o : Oper} {a : Act} {w : World} {K : Act → World → Prop} {Q : Exit → Act → World → Prop} {E : Prop}
    (hg : o.guard = none) (s x : Operand) (t : TypeId) (hop : o.op = Op.call { callee := Callee.builtin Builtin.append, args := #[s, x], argTypes := #[t, t] })
    (base : Nat) (e : TypeId) (i : TypeInfo) (z : Value) (size bytes : Nat) (h1 : P.underlying t = some (.slice e)) (h2 : P.info? e = some i) (h3 : i.zero = some z) (h4 : i.size = size) (h5 : i.bytes = bytes) (h6 : z.cells.size = size) (h7 : 0 < size)
    (v : Value) (n : Nat) (xs : List Value) (hs : a.eval s = v) (hown : w.ownsRow base e size v n xs)
    (ad : Addr) (m c : Nat) (news : List Value) (hx : a.eval x = .slice (some ad) m c) (hn : news.length = m * size) (hc : ∀ j u, news[j]? = some u → w.cell? (ad.add j) = some u) (h1c : ∀ u ∈ news, u.oneCell' = true)
    (b1 : n + m ≤ maxLen) (b2 : (n + m) * bytes ≤ 140737488355328) (hbase : base ≤ w.heap.size)
    (hK : ∀ v' w', w'.ownsRow base e size v' (n + m) (xs ++ news) → w.grownBy w' v.ownBlock → K (a.put o.dst v') w') :
    if Region.wanted o (yielded ops a.tmps) = true then Oper.wp P o a w K Q else E := by
  have hw : Region.wanted o (yielded ops a.tmps) = true := by simp [Region.wanted, hg]
  rw [if_pos hw]
  obtain ⟨v', w', hrun, r1, r2, _⟩ := run_append_own (P := P) w base t o.type e i z size bytes h1 h2 h3 h4 h5 h6 h7 v n xs hown ad m c news hn hc h1c b1 b2 hbase
  unfold Oper.wp
  simp [execOp, hop, resolve, invoke, builtin, hs, hx, hrun, Result.andThen]
  exact hK v' w' r1 r2

end Go.Proofs.YtjajnhemgphefaaGreatDoor

namespace Go.Proofs.YtjajnhemgphefaaGreatDoor
set_option linter.unusedVariables false
set_option linter.unusedSimpArgs false

theorem ba_list (x : ByteArray) : x.toList = x.data.toList := by
  cases x with
  | mk d => simp [ByteArray.toList_eq]
theorem sameB_iff (x y : ByteArray) : sameB x y = true ↔ x = y := by
  unfold sameB
  constructor
  · intro h
    have h' : y.toList = x.toList := by simpa using h
    rw [ba_list, ba_list] at h'
    have h2 := Array.toList_inj.1 h'
    cases x; cases y; simp at h2; rw [h2]
  · rintro rfl; simp

theorem sameB_data (x y : ByteArray) : sameB x y = (y.data.toList == x.data.toList) := by unfold sameB; rw [ba_list, ba_list]

structure PSt where
  st : Int
  rules : List Rl
  atoms : List Am
  vars : List ByteArray

def fitsB (st k : Int) : Bool :=
  if st = 0 ∨ st = 1 then k == 1 else if st = 2 then k == 3 else if st = 3 then (k == 1 || k == 2) else if st = 4 then (k == 5 || k == 4)
  else if st = 5 then (k == 7 || k == 6) else if st = 6 then (k == 5 || k == 6) else false
def exceedsB (st runes : Int) (nr na m : Nat) : Bool :=
  if 8 < runes then true else if st = 0 then nr == 8 else if st = 1 then na == 4 else if st = 3 then m == 2 else false

def growLast (l : List Am) (x : Tm) : List Am :=
  match l.getLast? with
  | some a => l.dropLast ++ [{ a with args := a.args ++ [x] }]
  | none => l
def lastLen (l : List Am) : Nat := match l.getLast? with | some a => a.args.length | none => 0

/-- What term makes of a word: a name, or a variable by its number; and the variables behind it. -/
def termT (vs : List ByteArray) (k : Int) (t : ByteArray) : Tm := if k = 1 then ⟨t, 0⟩ else ⟨⟨#[]⟩, seenN vs t⟩
def termVs (vs : List ByteArray) (k : Int) (t : ByteArray) : List ByteArray := if k = 1 then vs else seenL vs t

def addWordS (s : PSt) (k : Int) (t : ByteArray) : PSt :=
  if s.st = 3 then { s with st := 4, atoms := growLast s.atoms (termT s.vars k t), vars := termVs s.vars k t }
  else { s with st := 2, atoms := s.atoms ++ [⟨t, []⟩] }
def endRuleS (s : PSt) : PSt :=
  match s.atoms with
  | a :: l => { st := 0, rules := s.rules ++ [⟨a, l⟩], atoms := [], vars := [] }
  | [] => s
def endAtomS (s : PSt) : PSt := { s with st := if s.atoms.length = 1 then 5 else 6 }
def addS (s : PSt) (k : Int) (t : ByteArray) : PSt :=
  if k = 1 ∨ k = 2 then addWordS s k t
  else if k = 3 then { s with st := 3 }
  else if k = 4 then endAtomS s
  else if k = 5 then { s with st := if s.st = 4 then 3 else 1 }
  else if k = 7 then { s with st := 1 }
  else if k = 6 then endRuleS s
  else s
def takeS (s : PSt) (k : Int) (t : ByteArray) (r : Int) : Int × PSt :=
  if fitsB s.st k = false then (2, s)
  else if exceedsB s.st r s.rules.length s.atoms.length (lastLen s.atoms) = true then (3, s)
  else (0, addS s k t)

def foldP : PSt → List Tok → PSt × Option (Int × Nat)
  | s, [] => (s, none)
  | s, x :: l => if (takeS s x.kind x.text x.runes).1 = 0 then foldP (takeS s x.kind x.text x.runes).2 l else (s, some ((takeS s x.kind x.text x.runes).1, x.place))
def pst0 : PSt := ⟨0, [], [], []⟩
/-- What the parser answers of a text that is not too long. -/
def parseR (s : ByteArray) : Except (Int × Nat) (List Rl) :=
  match foldP pst0 (toks s.size s 0) with
  | (_, some ep) => .error ep
  | (st, none) => if st.st = 0 then .ok st.rules else .error (2, Lib.runeCount s)

theorem foldP_err : ∀ (l : List Tok) (s s' : PSt) (c : Int) (p : Nat), foldP s l = (s', some (c, p)) → c ≠ 0
  | [], s, s', c, p, h => by simp [foldP] at h
  | x :: l, s, s', c, p, h => by
    unfold foldP at h
    split at h
    · exact foldP_err l _ _ _ _ h
    · rename_i hn
      simp at h
      rw [← h.2.1]; exact hn

structure TmOk (t : Tm) : Prop where
  name : t.name.size ≤ 1200
  num : t.num ≤ 50
/-- An atom, and a rule, of no more than there may be. -/
structure AmOk (a : Am) : Prop where
  rel : a.rel.size ≤ 1200
  args : a.args.length ≤ 2
  tms : ∀ t ∈ a.args, TmOk t
structure RuleOk (r : Rl) : Prop where
  head : AmOk r.head
  body : r.body.length ≤ 3
  ams : ∀ a ∈ r.body, AmOk a
/-- What holds of the parser's state between two tokens. -/
structure PInv (s : PSt) : Prop where
  rules : s.rules.length ≤ 8
  atoms : s.atoms.length ≤ 4
  ams : ∀ a ∈ s.atoms, AmOk a
  zero : s.st = 0 → s.atoms = []
  some : s.st ≠ 0 → s.atoms ≠ []
  room : s.st ≠ 0 → s.rules.length < 8
  good : ∀ r ∈ s.rules, RuleOk r
  vars : s.vars.length ≤ (s.atoms.map (·.args.length)).sum

theorem sum_args (l : List Am) (h : ∀ a ∈ l, a.args.length ≤ 2) : (l.map (·.args.length)).sum ≤ 2 * l.length := by
  induction l with
  | nil => simp
  | cons a l ih =>
    have h1 := h a List.mem_cons_self
    have h2 := ih (fun b hb => h b (List.mem_cons_of_mem _ hb))
    simp only [List.map_cons, List.sum_cons, List.length_cons]
    omega
theorem PInv.few {s : PSt} (h : PInv s) : s.vars.length ≤ 8 := by
  have h1 := sum_args s.atoms (fun a ha => (h.ams a ha).args)
  have h2 := h.vars
  have h3 := h.atoms
  omega

theorem growLast_split (l : List Am) (a : Am) (x : Tm) : growLast (l ++ [a]) x = l ++ [{ a with args := a.args ++ [x] }] := by
  unfold growLast; simp
theorem growLast_length (l : List Am) (x : Tm) : (growLast l x).length = l.length := by
  unfold growLast
  split
  · rename_i a h
    have : l ≠ [] := by intro e; rw [e] at h; simp at h
    have := List.length_pos_iff.2 this
    simp; omega
  · rfl
theorem split_last (l : List Am) (h : l ≠ []) : ∃ p a, l = p ++ [a] := ⟨l.dropLast, l.getLast h, (List.dropLast_concat_getLast h).symm⟩
theorem seenN_le (vs : List ByteArray) (x : ByteArray) : seenN vs x ≤ vs.length := List.findIdx_le_length
theorem seenL_le (vs : List ByteArray) (x : ByteArray) : (seenL vs x).length ≤ vs.length + 1 := by
  unfold seenL; split <;> simp

theorem takeS_inv (s : PSt) (k : Int) (t : ByteArray) (r : Int) (ht : t.size ≤ 1200) (h : PInv s) (h0 : (takeS s k t r).1 = 0) : PInv (takeS s k t r).2 := by
  have hfew := h.few
  obtain ⟨i1, i2, i3, i4, i5, i6, i7, i8⟩ := h
  unfold takeS at h0 ⊢
  by_cases hf : fitsB s.st k = false
  · rw [if_pos hf] at h0; simp at h0
  rw [if_neg hf] at h0 ⊢
  by_cases he : exceedsB s.st r s.rules.length s.atoms.length (lastLen s.atoms) = true
  · rw [if_pos he] at h0; simp at h0
  rw [if_neg he]
  clear h0
  have hf' : fitsB s.st k = true := by simpa using hf
  have he' : exceedsB s.st r s.rules.length s.atoms.length (lastLen s.atoms) = false := by simpa using he
  clear hf he
  unfold exceedsB at he'
  split at he'
  · cases he'
  show PInv (addS s k t)
  unfold fitsB at hf'
  have hend : s.st ≠ 0 → PInv (endRuleS s) := by
    intro h0
    have hne := i5 h0
    have hr := i6 h0
    unfold endRuleS
    split
    · rename_i a0 al hal
      rw [hal] at i2 i3
      refine ⟨by simp; omega, by simp, by simp, fun _ => rfl, fun e => absurd rfl e, fun e => absurd rfl e, fun q hq => ?_, by simp⟩
      simp at hq
      rcases hq with hq | rfl
      · exact i7 q hq
      · exact ⟨i3 _ (by simp), by simp at i2; exact i2, fun b hb => i3 b (by simp [hb])⟩
    · rename_i e; exact absurd e hne
  have hst2 : s.st ≠ 0 → ∀ x : Int, x ≠ 0 → PInv { s with st := x } := fun h0 x hx => ⟨i1, i2, i3, fun e => absurd e hx, fun _ => i5 h0, fun _ => i6 h0, i7, i8⟩
  split at hf'
  · rename_i hst
    obtain rfl : k = 1 := by simpa using hf'
    have : addS s 1 t = { s with st := 2, atoms := s.atoms ++ [⟨t, []⟩] } := by
      unfold addS addWordS; rw [if_pos (.inl rfl), if_neg (by omega)]
    rw [this]
    refine ⟨i1, ?_, ?_, fun e => by simp at e, fun _ => by simp, fun _ => ?_, i7, by simpa using i8⟩
    · simp
      rcases hst with e | e
      · rw [i4 e]; simp
      · simp [e] at he'; omega
    · intro a ha
      simp at ha
      rcases ha with ha | rfl
      · exact i3 a ha
      · exact ⟨ht, by simp, by simp⟩
    · simp
      rcases hst with e | e
      · simp [e] at he'; omega
      · exact i6 (by omega)
  split at hf'
  · rename_i _ hst
    obtain rfl : k = 3 := by simpa using hf'
    have : addS s 3 t = { s with st := 3 } := by unfold addS; simp
    rw [this]
    exact hst2 (by omega) 3 (by decide)
  split at hf'
  · rename_i _ _ hst
    have hk : k = 1 ∨ k = 2 := by simpa using hf'
    have : addS s k t = { s with st := 4, atoms := growLast s.atoms (termT s.vars k t), vars := termVs s.vars k t } := by
      unfold addS addWordS; rw [if_pos hk, if_pos hst]
    rw [this]
    simp [hst] at he'
    obtain ⟨p, a, hpa⟩ := split_last s.atoms (i5 (by omega))
    have hl2 : lastLen s.atoms = a.args.length := by unfold lastLen; rw [hpa]; simp
    have ha := i3 a (by rw [hpa]; simp)
    have ha2 := ha.args
    have htm : TmOk (termT s.vars k t) := by
      unfold termT; split
      · exact ⟨ht, by simp⟩
      · exact ⟨by simp [ByteArray.size], by have := seenN_le s.vars t; simp only; omega⟩
    have hvs : (termVs s.vars k t).length ≤ s.vars.length + 1 := by
      unfold termVs; split
      · omega
      · exact seenL_le _ _
    rw [hpa, growLast_split]
    rw [hpa] at i2 i8
    have hi8 : s.vars.length ≤ (p.map (·.args.length)).sum + a.args.length := by simpa using i8
    refine ⟨i1, by simpa using i2, ?_, fun e => by simp at e, fun _ => by simp, fun _ => i6 (by omega), i7, ?_⟩
    · intro b hb
      simp at hb
      rcases hb with hb | rfl
      · exact i3 b (by rw [hpa]; simp [hb])
      · refine ⟨ha.rel, by simp; omega, fun x hx => ?_⟩
        simp at hx
        rcases hx with hx | rfl
        · exact ha.tms x hx
        · exact htm
    · simp; omega
  split at hf'
  · rename_i _ _ _ hst
    have hk : k = 5 ∨ k = 4 := by simpa using hf'
    rcases hk with rfl | rfl
    · have : addS s 5 t = { s with st := 3 } := by unfold addS; simp [hst]
      rw [this]; exact hst2 (by omega) 3 (by decide)
    · have : addS s 4 t = endAtomS s := by unfold addS; simp
      rw [this]; exact hst2 (by omega) _ (by split <;> decide)
  split at hf'
  · rename_i _ _ _ _ hst
    have hk : k = 7 ∨ k = 6 := by simpa using hf'
    rcases hk with rfl | rfl
    · have : addS s 7 t = { s with st := 1 } := by unfold addS; simp
      rw [this]; exact hst2 (by omega) 1 (by decide)
    · have : addS s 6 t = endRuleS s := by unfold addS; simp
      rw [this]; exact hend (by omega)
  split at hf'
  · rename_i _ _ _ _ _ hst
    have hk : k = 5 ∨ k = 6 := by simpa using hf'
    rcases hk with rfl | rfl
    · have : addS s 5 t = { s with st := 1 } := by unfold addS; simp [hst]
      rw [this]; exact hst2 (by omega) 1 (by decide)
    · have : addS s 6 t = endRuleS s := by unfold addS; simp
      rw [this]; exact hend (by omega)
  · cases hf'

theorem foldP_append (s : PSt) (pre l : List Tok) (s' : PSt) (h : foldP s pre = (s', none)) : foldP s (pre ++ l) = foldP s' l := by
  induction pre generalizing s with
  | nil => simp [foldP] at h; rw [h]; rfl
  | cons x pre ih =>
    simp only [List.cons_append, foldP] at h ⊢
    split at h
    · rename_i h0; rw [if_pos h0]; exact ih _ h
    · simp at h

end Go.Proofs.YtjajnhemgphefaaGreatDoor

namespace Go.Proofs.YtjajnhemgphefaaGreatDoor
open Go.RowKit Go.Shelf
set_option linter.unusedVariables false
set_option linter.unusedSimpArgs false

set_option maxHeartbeats 1000000 in
theorem fits_any (bp : Nat) (st k : Int) (w : World) (hc : w.cell? ⟨bp, 0, none⟩ = some (.int .i64 st)) :
    Calls Tryz.prog 195 #[.pointer (some ⟨bp, 0, none⟩), .int .i64 k] w fun e w' => e = .returned (.bool (fitsB st k)) ∧ w' = w := by
  go_enter Tryz.func195, Tryz.ntmps195
  go_wp2
  all_goals
    go_ret
    exact ⟨ret_bool (by simp_all [fitsB]), rfl⟩

set_option maxHeartbeats 400000 in
theorem endAtom_any (bp : Nat) (st : Int) (vr vv : Value) (a : Option Addr) (n c : Nat) (w : World) (hh : w.heap[bp]? = some (Obj.cells #[.int .i64 st, vr, .slice a n c, vv] 179 (0, 0))) :
    Calls Tryz.prog 234 #[.pointer (some ⟨bp, 0, none⟩)] w fun e w' => e = .returned (.tuple #[]) ∧ w' = w.setCell ⟨bp, 0, none⟩ (.int .i64 (if n = 1 then 5 else 6)) := by
  have h0 : w.cell? ⟨bp, 0, none⟩ = some (.int .i64 st) := by simp [World.cell?, hh]
  have h2 : w.cell? ⟨bp, 2, none⟩ = some (.slice a n c) := by simp [World.cell?, hh]
  have hf : w.frozen? ⟨bp, 0, none⟩ = false := by simp [World.frozen?, hh]
  clear hh
  by_cases hn : n = 1
  · subst hn
    go_enter Tryz.func234, Tryz.ntmps234
    go_wp2
    go_end0
    exact ⟨rfl, rfl⟩
  · have e1 : ((n : Int) == 1) = false := by simp; omega
    go_enter Tryz.func234, Tryz.ntmps234
    go_wp2
    go_end0
    exact ⟨rfl, rfl⟩

set_option maxHeartbeats 400000 in
theorem addComma_any (bp : Nat) (st : Int) (vr va vv : Value) (w : World) (hh : w.heap[bp]? = some (Obj.cells #[.int .i64 st, vr, va, vv] 179 (0, 0))) :
    Calls Tryz.prog 235 #[.pointer (some ⟨bp, 0, none⟩)] w fun e w' => e = .returned (.tuple #[]) ∧ w' = w.setCell ⟨bp, 0, none⟩ (.int .i64 (if st = 4 then 3 else 1)) := by
  have h0 : w.cell? ⟨bp, 0, none⟩ = some (.int .i64 st) := by simp [World.cell?, hh]
  have hf : w.frozen? ⟨bp, 0, none⟩ = false := by simp [World.frozen?, hh]
  clear hh
  by_cases hn : st = 4
  · subst hn
    go_enter Tryz.func235, Tryz.ntmps235
    go_wp2
    go_end0
    exact ⟨rfl, rfl⟩
  · have e1 : (st == 4) = false := by simp [hn]
    go_enter Tryz.func235, Tryz.ntmps235
    go_wp2
    go_end0
    exact ⟨rfl, rfl⟩

set_option maxHeartbeats 400000 in
theorem lastAtom_any (bp : Nat) (st : Int) (vr vv : Value) (g n c : Nat) (hn : 1 ≤ n) (hb : n ≤ 1000) (w : World) (hh : w.heap[bp]? = some (Obj.cells #[.int .i64 st, vr, .slice (some ⟨g, 0, none⟩) n c, vv] 179 (0, 0))) :
    Calls Tryz.prog 232 #[.pointer (some ⟨bp, 0, none⟩)] w fun e w' => e = .returned (.pointer (some ⟨g, (n - 1) * 2, none⟩)) ∧ ∃ q, w' = w.drewN q := by
  have h2 : w.cell? ⟨bp, 2, none⟩ = some (.slice (some ⟨g, 0, none⟩) n c) := by simp [World.cell?, hh]
  clear hh
  have i1 : (0 : Int) ≤ (n : Int) - 1 := by omega
  have i2 : (n : Int) - 1 < (n : Int) := by omega
  go_enter Tryz.func232, Tryz.ntmps232
  go_wp2
  go_quiet (fail)
  go_wp2
  go_ret
  exact ⟨rfl, _, rfl⟩

set_option maxHeartbeats 1000000 in
theorem exceeds_any (bp : Nat) (st : Int) (ar : Option Addr) (nr cr : Nat) (aa : Option Addr) (na ca : Nat) (vv : Value) (at' : Option Addr) (m cm : Nat) (k : Int) (t : ByteArray) (p r : Int) (hb : na ≤ 1000) (w : World)
    (hh : w.heap[bp]? = some (Obj.cells #[.int .i64 st, .slice ar nr cr, .slice aa na ca, vv] 179 (0, 0)))
    (hlast : st = 3 → 1 ≤ na ∧ ∃ g, aa = some ⟨g, 0, none⟩ ∧ w.cell? ⟨g, (na - 1) * 2 + 1, none⟩ = some (.slice at' m cm) ∧ g < w.heap.size) :
    Calls Tryz.prog 196 #[.pointer (some ⟨bp, 0, none⟩), tokV k t p r] w fun e w' => e = .returned (.bool (exceedsB st r nr na m)) ∧ ∃ q, w' = (w.alloc (.cells (tokC k t p r) 191)).drewN q := by
  have hbp : bp < w.heap.size := (Array.getElem?_eq_some_iff.1 hh).1
  have h0 : w.cell? ⟨bp, 0, none⟩ = some (.int .i64 st) := by simp [World.cell?, hh]
  have h1 : w.cell? ⟨bp, 1, none⟩ = some (.slice ar nr cr) := by simp [World.cell?, hh]
  have h2 : w.cell? ⟨bp, 2, none⟩ = some (.slice aa na ca) := by simp [World.cell?, hh]
  unfold tokV tokC
  by_cases hr : 8 < r
  · clear hlast hh
    go_enter Tryz.func196, Tryz.ntmps196
    go_wp2
    go_ret
    exact ⟨ret_bool (by simp [exceedsB, hr]), 0, rfl⟩
  · by_cases h3 : st = 3
    · obtain ⟨h1n, g, rfl, hcg, hgw⟩ := hlast h3
      subst h3
      have hh' : (w.alloc (.cells #[.int .i64 k, .string t, .int .i64 p, .int .i64 r] 191)).heap[bp]? = some (Obj.cells #[.int .i64 3, .slice ar nr cr, .slice (some ⟨g, 0, none⟩) na ca, vv] 179 (0, 0)) := by rw [Below.heap_alloc _ _ _ hbp]; exact hh
      have hne : g ≠ w.heap.size := by omega
      have hcg' : (w.alloc (.cells #[.int .i64 k, .string t, .int .i64 p, .int .i64 r] 191)).cell? ⟨g, (na - 1) * 2 + 1, none⟩ = some (.slice at' m cm) := cell_later ((Below.refl w.heap.size w).alloc (Nat.le_refl _) _) hcg
      clear hh hcg
      go_enter Tryz.func196, Tryz.ntmps196
      go_wp2_with (go_at_call 232; refine (lastAtom_any _ _ _ _ _ _ _ h1n hb _ hh').mono ?_; rintro e w' ⟨rfl, q, rfl⟩)
      go_ret
      exact ⟨ret_bool (by rw [Bool.eq_iff_iff]; simp [exceedsB]; omega), _, rfl⟩
    · have h3' : (st == 3) = false := by simp [h3]
      clear hlast hh
      go_enter Tryz.func196, Tryz.ntmps196
      go_wp2
      all_goals
        go_ret
        exact ⟨ret_bool (by rw [Bool.eq_iff_iff]; simp_all [exceedsB] <;> omega), 0, rfl⟩

end Go.Proofs.YtjajnhemgphefaaGreatDoor

namespace Go.Proofs.YtjajnhemgphefaaGreatDoor
open Go.RowKit Go.Shelf
set_option linter.unusedVariables false
set_option linter.unusedSimpArgs false

theorem contains_own {W : World} {b : Nat} {v : Value} {vs : List ByteArray} (h : W.ownsRow b 9 1 v vs.length (vs.map Value.string)) (hl : vs.length ≤ 1000) (x : ByteArray) :
    Calls Tryz.prog 140 #[v, .string x] W fun e w' => e = .returned (.bool (Lib.containsS vs x)) ∧ w' = W := by
  obtain ⟨_, ⟨hv, hn⟩ | ⟨g, cap, cur, hv, hb, hw, h1, h2, h3, h4⟩⟩ := h
  · have : vs = [] := List.eq_nil_of_length_eq_zero hn
    subst this
    rw [hv]
    exact Tryz.slices_Contains_string_empty none 0 x W
  · rw [hv]
    have := Tryz.slices_Contains_string g 0 vs.length cap vs x W (Nat.le_refl _) (by omega) (fun j hj => by
      simp only [World.cell?, hw, Nat.zero_add]
      have h5 : (cur.toList.take (vs.length * 1))[j]? = some (.string (vs.getD j ByteArray.empty)) := by
        rw [h4]; simp [List.getElem?_eq_getElem hj]
      rw [List.getElem?_take, if_pos (by omega)] at h5
      simpa using h5)
    simpa using this

theorem index_own {W : World} {b : Nat} {v : Value} {vs : List ByteArray} (h : W.ownsRow b 9 1 v vs.length (vs.map Value.string)) (hl : vs.length ≤ 1000) (x : ByteArray) :
    Calls Tryz.prog 191 #[v, .string x] W fun e w' => e = .returned (.int .i64 (Lib.idxOfS vs x)) ∧ w' = W := by
  obtain ⟨_, ⟨hv, hn⟩ | ⟨g, cap, cur, hv, hb, hw, h1, h2, h3, h4⟩⟩ := h
  · have : vs = [] := List.eq_nil_of_length_eq_zero hn
    subst this
    rw [hv]
    exact Tryz.slices_Index_string_empty none 0 x W
  · rw [hv]
    have := Tryz.slices_Index_string g 0 vs.length cap vs x W (Nat.le_refl _) (by omega) (fun j hj => by
      simp only [World.cell?, hw, Nat.zero_add]
      have h5 : (cur.toList.take (vs.length * 1))[j]? = some (.string (vs.getD j ByteArray.empty)) := by
        rw [h4]; simp [List.getElem?_eq_getElem hj]
      rw [List.getElem?_take, if_pos (by omega)] at h5
      simpa using h5)
    simpa using this

theorem Tryz.info9 : (Tryz.prog.info? 9).map (fun i => (i.zero, i.size, i.bytes)) = some (some (.string ⟨#[]⟩), 1, 16) := by kernel_rfl

end Go.Proofs.YtjajnhemgphefaaGreatDoor
