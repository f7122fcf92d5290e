/-
  The parser's state as plain data, and what each token does to it.
  The parser's methods: what each does to the parser's memory, said of the state that it stands for.
  slices.Index and slices.Contains over a row of strings, in the words of the document's own answer.
-/
import Derived.Test.YtjajnhemgphefaaGreatDoorJcRep
import Derived.Test.YtjajnhemgphefaaGreatDoorJcAll
import Derived.BigQuiet
import Derived.BigRegion
namespace Go.Proofs.YtjajnhemgphefaaGreatDoor
set_option linter.unusedVariables false
set_option linter.unusedSimpArgs false

theorem ba_list (x : ByteArray) : x.toList = x.data.toList := by
  cases x with
  | mk d => simp [ByteArray.toList_eq]
theorem sameB_iff (x y : ByteArray) : sameB x y = true ↔ x = y := by
  unfold sameB
  constructor
  · intro h
    have h' : y.toList = x.toList := by simpa using h
    rw [ba_list, ba_list] at h'
    have h2 := Array.toList_inj.1 h'
    cases x; cases y; simp at h2; rw [h2]
  · rintro rfl; simp

structure PSt where
  st : Int
  rules : List Rl
  atoms : List Am
  vars : List ByteArray

def fitsB (st k : Int) : Bool :=
  if st = 0 ∨ st = 1 then k == 1 else if st = 2 then k == 3 else if st = 3 then (k == 1 || k == 2) else if st = 4 then (k == 5 || k == 4)
  else if st = 5 then (k == 7 || k == 6) else if st = 6 then (k == 5 || k == 6) else false
def exceedsB (st runes : Int) (nr na m : Nat) : Bool :=
  if 8 < runes then true else if st = 0 then nr == 8 else if st = 1 then na == 4 else if st = 3 then m == 2 else false

def growLast (l : List Am) (x : Tm) : List Am :=
  match l.getLast? with
  | some a => l.dropLast ++ [{ a with args := a.args ++ [x] }]
  | none => l
def lastLen (l : List Am) : Nat := match l.getLast? with | some a => a.args.length | none => 0

/-- What term makes of a word: a name, or a variable by its number; and the variables behind it. -/
def termT (vs : List ByteArray) (k : Int) (t : ByteArray) : Tm := if k = 1 then ⟨t, 0⟩ else ⟨⟨#[]⟩, seenN vs t⟩
def termVs (vs : List ByteArray) (k : Int) (t : ByteArray) : List ByteArray := if k = 1 then vs else seenL vs t

def addWordS (s : PSt) (k : Int) (t : ByteArray) : PSt :=
  if s.st = 3 then { s with st := 4, atoms := growLast s.atoms (termT s.vars k t), vars := termVs s.vars k t }
  else { s with st := 2, atoms := s.atoms ++ [⟨t, []⟩] }
def endRuleS (s : PSt) : PSt :=
  match s.atoms with
  | a :: l => { st := 0, rules := s.rules ++ [⟨a, l⟩], atoms := [], vars := [] }
  | [] => s
def endAtomS (s : PSt) : PSt := { s with st := if s.atoms.length = 1 then 5 else 6 }
def addS (s : PSt) (k : Int) (t : ByteArray) : PSt :=
  if k = 1 ∨ k = 2 then addWordS s k t
  else if k = 3 then { s with st := 3 }
  else if k = 4 then endAtomS s
  else if k = 5 then { s with st := if s.st = 4 then 3 else 1 }
  else if k = 7 then { s with st := 1 }
  else if k = 6 then endRuleS s
  else s
def takeS (s : PSt) (k : Int) (t : ByteArray) (r : Int) : Int × PSt :=
  if fitsB s.st k = false then (2, s)
  else if exceedsB s.st r s.rules.length s.atoms.length (lastLen s.atoms) = true then (3, s)
  else (0, addS s k t)

def foldP : PSt → List Tok → PSt × Option (Int × Nat)
  | s, [] => (s, none)
  | s, x :: l => if (takeS s x.kind x.text x.runes).1 = 0 then foldP (takeS s x.kind x.text x.runes).2 l else (s, some ((takeS s x.kind x.text x.runes).1, x.place))
def pst0 : PSt := ⟨0, [], [], []⟩
/-- What the parser answers of a text that is not too long. -/
def parseR (s : ByteArray) : Except (Int × Nat) (List Rl) :=
  match foldP pst0 (toks s.size s 0) with
  | (_, some ep) => .error ep
  | (st, none) => if st.st = 0 then .ok st.rules else .error (2, Lib.runeCount s)

theorem foldP_err : ∀ (l : List Tok) (s s' : PSt) (c : Int) (p : Nat), foldP s l = (s', some (c, p)) → c ≠ 0
  | [], s, s', c, p, h => by simp [foldP] at h
  | x :: l, s, s', c, p, h => by
    unfold foldP at h
    split at h
    · exact foldP_err l _ _ _ _ h
    · rename_i hn
      simp at h
      rw [← h.2.1]; exact hn

structure TmOk (t : Tm) : Prop where
  name : t.name.size ≤ 1200
  num : t.num ≤ 50
/-- An atom, and a rule, of no more than there may be. -/
structure AmOk (a : Am) : Prop where
  rel : a.rel.size ≤ 1200
  args : a.args.length ≤ 2
  tms : ∀ t ∈ a.args, TmOk t
structure RuleOk (r : Rl) : Prop where
  head : AmOk r.head
  body : r.body.length ≤ 3
  ams : ∀ a ∈ r.body, AmOk a
/-- What holds of the parser's state between two tokens. -/
structure PInv (s : PSt) : Prop where
  rules : s.rules.length ≤ 8
  atoms : s.atoms.length ≤ 4
  ams : ∀ a ∈ s.atoms, AmOk a
  zero : s.st = 0 → s.atoms = []
  some : s.st ≠ 0 → s.atoms ≠ []
  room : s.st ≠ 0 → s.rules.length < 8
  good : ∀ r ∈ s.rules, RuleOk r
  vars : s.vars.length ≤ (s.atoms.map (·.args.length)).sum

theorem sum_args (l : List Am) (h : ∀ a ∈ l, a.args.length ≤ 2) : (l.map (·.args.length)).sum ≤ 2 * l.length := by
  induction l with
  | nil => simp
  | cons a l ih =>
    have h1 := h a List.mem_cons_self
    have h2 := ih (fun b hb => h b (List.mem_cons_of_mem _ hb))
    simp only [List.map_cons, List.sum_cons, List.length_cons]
    omega
theorem PInv.few {s : PSt} (h : PInv s) : s.vars.length ≤ 8 := by
  have h1 := sum_args s.atoms (fun a ha => (h.ams a ha).args)
  have h2 := h.vars
  have h3 := h.atoms
  omega

theorem growLast_split (l : List Am) (a : Am) (x : Tm) : growLast (l ++ [a]) x = l ++ [{ a with args := a.args ++ [x] }] := by
  unfold growLast; simp
theorem split_last (l : List Am) (h : l ≠ []) : ∃ p a, l = p ++ [a] := ⟨l.dropLast, l.getLast h, (List.dropLast_concat_getLast h).symm⟩
theorem seenN_le (vs : List ByteArray) (x : ByteArray) : seenN vs x ≤ vs.length := List.findIdx_le_length
theorem seenL_le (vs : List ByteArray) (x : ByteArray) : (seenL vs x).length ≤ vs.length + 1 := by
  unfold seenL; split <;> simp

theorem takeS_inv (s : PSt) (k : Int) (t : ByteArray) (r : Int) (ht : t.size ≤ 1200) (h : PInv s) (h0 : (takeS s k t r).1 = 0) : PInv (takeS s k t r).2 := by
  have hfew := h.few
  obtain ⟨i1, i2, i3, i4, i5, i6, i7, i8⟩ := h
  unfold takeS at h0 ⊢
  by_cases hf : fitsB s.st k = false
  · rw [if_pos hf] at h0; simp at h0
  rw [if_neg hf] at h0 ⊢
  by_cases he : exceedsB s.st r s.rules.length s.atoms.length (lastLen s.atoms) = true
  · rw [if_pos he] at h0; simp at h0
  rw [if_neg he]
  clear h0
  have hf' : fitsB s.st k = true := by simpa using hf
  have he' : exceedsB s.st r s.rules.length s.atoms.length (lastLen s.atoms) = false := by simpa using he
  clear hf he
  unfold exceedsB at he'
  split at he'
  · cases he'
  show PInv (addS s k t)
  unfold fitsB at hf'
  have hend : s.st ≠ 0 → PInv (endRuleS s) := by
    intro h0
    have hne := i5 h0
    have hr := i6 h0
    unfold endRuleS
    split
    · rename_i a0 al hal
      rw [hal] at i2 i3
      refine ⟨by simp; omega, by simp, by simp, fun _ => rfl, fun e => absurd rfl e, fun e => absurd rfl e, fun q hq => ?_, by simp⟩
      simp at hq
      rcases hq with hq | rfl
      · exact i7 q hq
      · exact ⟨i3 _ (by simp), by simp at i2; exact i2, fun b hb => i3 b (by simp [hb])⟩
    · rename_i e; exact absurd e hne
  have hst2 : s.st ≠ 0 → ∀ x : Int, x ≠ 0 → PInv { s with st := x } := fun h0 x hx => ⟨i1, i2, i3, fun e => absurd e hx, fun _ => i5 h0, fun _ => i6 h0, i7, i8⟩
  split at hf'
  · rename_i hst
    obtain rfl : k = 1 := by simpa using hf'
    have : addS s 1 t = { s with st := 2, atoms := s.atoms ++ [⟨t, []⟩] } := by
      unfold addS addWordS; rw [if_pos (.inl rfl), if_neg (by omega)]
    rw [this]
    refine ⟨i1, ?_, ?_, fun e => by simp at e, fun _ => by simp, fun _ => ?_, i7, by simpa using i8⟩
    · simp
      rcases hst with e | e
      · rw [i4 e]; simp
      · simp [e] at he'; omega
    · intro a ha
      simp at ha
      rcases ha with ha | rfl
      · exact i3 a ha
      · exact ⟨ht, by simp, by simp⟩
    · simp
      rcases hst with e | e
      · simp [e] at he'; omega
      · exact i6 (by omega)
  split at hf'
  · rename_i _ hst
    obtain rfl : k = 3 := by simpa using hf'
    have : addS s 3 t = { s with st := 3 } := by unfold addS; simp
    rw [this]
    exact hst2 (by omega) 3 (by decide)
  split at hf'
  · rename_i _ _ hst
    have hk : k = 1 ∨ k = 2 := by simpa using hf'
    have : addS s k t = { s with st := 4, atoms := growLast s.atoms (termT s.vars k t), vars := termVs s.vars k t } := by
      unfold addS addWordS; rw [if_pos hk, if_pos hst]
    rw [this]
    simp [hst] at he'
    obtain ⟨p, a, hpa⟩ := split_last s.atoms (i5 (by omega))
    have hl2 : lastLen s.atoms = a.args.length := by unfold lastLen; rw [hpa]; simp
    have ha := i3 a (by rw [hpa]; simp)
    have ha2 := ha.args
    have htm : TmOk (termT s.vars k t) := by
      unfold termT; split
      · exact ⟨ht, by simp⟩
      · exact ⟨by simp [ByteArray.size], by have := seenN_le s.vars t; simp only; omega⟩
    have hvs : (termVs s.vars k t).length ≤ s.vars.length + 1 := by
      unfold termVs; split
      · omega
      · exact seenL_le _ _
    rw [hpa, growLast_split]
    rw [hpa] at i2 i8
    have hi8 : s.vars.length ≤ (p.map (·.args.length)).sum + a.args.length := by simpa using i8
    refine ⟨i1, by simpa using i2, ?_, fun e => by simp at e, fun _ => by simp, fun _ => i6 (by omega), i7, ?_⟩
    · intro b hb
      simp at hb
      rcases hb with hb | rfl
      · exact i3 b (by rw [hpa]; simp [hb])
      · refine ⟨ha.rel, by simp; omega, fun x hx => ?_⟩
        simp at hx
        rcases hx with hx | rfl
        · exact ha.tms x hx
        · exact htm
    · simp; omega
  split at hf'
  · rename_i _ _ _ hst
    have hk : k = 5 ∨ k = 4 := by simpa using hf'
    rcases hk with rfl | rfl
    · have : addS s 5 t = { s with st := 3 } := by unfold addS; simp [hst]
      rw [this]; exact hst2 (by omega) 3 (by decide)
    · have : addS s 4 t = endAtomS s := by unfold addS; simp
      rw [this]; exact hst2 (by omega) _ (by split <;> decide)
  split at hf'
  · rename_i _ _ _ _ hst
    have hk : k = 7 ∨ k = 6 := by simpa using hf'
    rcases hk with rfl | rfl
    · have : addS s 7 t = { s with st := 1 } := by unfold addS; simp
      rw [this]; exact hst2 (by omega) 1 (by decide)
    · have : addS s 6 t = endRuleS s := by unfold addS; simp
      rw [this]; exact hend (by omega)
  split at hf'
  · rename_i _ _ _ _ _ hst
    have hk : k = 5 ∨ k = 6 := by simpa using hf'
    rcases hk with rfl | rfl
    · have : addS s 5 t = { s with st := 1 } := by unfold addS; simp [hst]
      rw [this]; exact hst2 (by omega) 1 (by decide)
    · have : addS s 6 t = endRuleS s := by unfold addS; simp
      rw [this]; exact hend (by omega)
  · cases hf'

theorem foldP_append (s : PSt) (pre l : List Tok) (s' : PSt) (h : foldP s pre = (s', none)) : foldP s (pre ++ l) = foldP s' l := by
  induction pre generalizing s with
  | nil => simp [foldP] at h; rw [h]; rfl
  | cons x pre ih =>
    simp only [List.cons_append, foldP] at h ⊢
    split at h
    · rename_i h0; rw [if_pos h0]; exact ih _ h
    · simp at h

end Go.Proofs.YtjajnhemgphefaaGreatDoor

namespace Go.Proofs.YtjajnhemgphefaaGreatDoor
open Go.RowKit Go.Shelf
set_option linter.unusedVariables false
set_option linter.unusedSimpArgs false

set_option maxHeartbeats 1000000 in
theorem fits_any (bp : Nat) (st k : Int) (w : World) (hc : w.cell? ⟨bp, 0, none⟩ = some (.int .i64 st)) :
    Calls Tryz.prog 195 #[.pointer (some ⟨bp, 0, none⟩), .int .i64 k] w fun e w' => e = .returned (.bool (fitsB st k)) ∧ w' = w := by
  go_enter Tryz.func195, Tryz.ntmps195
  go_wp2
  all_goals
    go_ret
    exact ⟨ret_bool (by simp_all [fitsB]), rfl⟩

set_option maxHeartbeats 400000 in
theorem endAtom_any (bp : Nat) (st : Int) (vr vv : Value) (a : Option Addr) (n c : Nat) (w : World) (hh : w.heap[bp]? = some (Obj.cells #[.int .i64 st, vr, .slice a n c, vv] 179 (0, 0))) :
    Calls Tryz.prog 234 #[.pointer (some ⟨bp, 0, none⟩)] w fun e w' => e = .returned (.tuple #[]) ∧ w' = w.setCell ⟨bp, 0, none⟩ (.int .i64 (if n = 1 then 5 else 6)) := by
  have h0 : w.cell? ⟨bp, 0, none⟩ = some (.int .i64 st) := by simp [World.cell?, hh]
  have h2 : w.cell? ⟨bp, 2, none⟩ = some (.slice a n c) := by simp [World.cell?, hh]
  have hf : w.frozen? ⟨bp, 0, none⟩ = false := by simp [World.frozen?, hh]
  clear hh
  by_cases hn : n = 1
  · subst hn
    go_enter Tryz.func234, Tryz.ntmps234
    go_wp2
    go_end0
    exact ⟨rfl, rfl⟩
  · have e1 : ((n : Int) == 1) = false := by simp; omega
    go_enter Tryz.func234, Tryz.ntmps234
    go_wp2
    go_end0
    exact ⟨rfl, rfl⟩

set_option maxHeartbeats 400000 in
theorem addComma_any (bp : Nat) (st : Int) (vr va vv : Value) (w : World) (hh : w.heap[bp]? = some (Obj.cells #[.int .i64 st, vr, va, vv] 179 (0, 0))) :
    Calls Tryz.prog 235 #[.pointer (some ⟨bp, 0, none⟩)] w fun e w' => e = .returned (.tuple #[]) ∧ w' = w.setCell ⟨bp, 0, none⟩ (.int .i64 (if st = 4 then 3 else 1)) := by
  have h0 : w.cell? ⟨bp, 0, none⟩ = some (.int .i64 st) := by simp [World.cell?, hh]
  have hf : w.frozen? ⟨bp, 0, none⟩ = false := by simp [World.frozen?, hh]
  clear hh
  by_cases hn : st = 4
  · subst hn
    go_enter Tryz.func235, Tryz.ntmps235
    go_wp2
    go_end0
    exact ⟨rfl, rfl⟩
  · have e1 : (st == 4) = false := by simp [hn]
    go_enter Tryz.func235, Tryz.ntmps235
    go_wp2
    go_end0
    exact ⟨rfl, rfl⟩

set_option maxHeartbeats 400000 in
theorem lastAtom_any (bp : Nat) (st : Int) (vr vv : Value) (g n c : Nat) (hn : 1 ≤ n) (hb : n ≤ 1000) (w : World) (hh : w.heap[bp]? = some (Obj.cells #[.int .i64 st, vr, .slice (some ⟨g, 0, none⟩) n c, vv] 179 (0, 0))) :
    Calls Tryz.prog 232 #[.pointer (some ⟨bp, 0, none⟩)] w fun e w' => e = .returned (.pointer (some ⟨g, (n - 1) * 2, none⟩)) ∧ ∃ q, w' = w.drewN q := by
  have h2 : w.cell? ⟨bp, 2, none⟩ = some (.slice (some ⟨g, 0, none⟩) n c) := by simp [World.cell?, hh]
  clear hh
  have i1 : (0 : Int) ≤ (n : Int) - 1 := by omega
  have i2 : (n : Int) - 1 < (n : Int) := by omega
  go_enter Tryz.func232, Tryz.ntmps232
  go_wp2
  go_quiet (fail)
  go_wp2
  go_ret
  exact ⟨rfl, _, rfl⟩

set_option maxHeartbeats 1000000 in
theorem exceeds_any (bp : Nat) (st : Int) (ar : Option Addr) (nr cr : Nat) (aa : Option Addr) (na ca : Nat) (vv : Value) (at' : Option Addr) (m cm : Nat) (k : Int) (t : ByteArray) (p r : Int) (hb : na ≤ 1000) (w : World)
    (hh : w.heap[bp]? = some (Obj.cells #[.int .i64 st, .slice ar nr cr, .slice aa na ca, vv] 179 (0, 0)))
    (hlast : st = 3 → 1 ≤ na ∧ ∃ g, aa = some ⟨g, 0, none⟩ ∧ w.cell? ⟨g, (na - 1) * 2 + 1, none⟩ = some (.slice at' m cm) ∧ g < w.heap.size) :
    Calls Tryz.prog 196 #[.pointer (some ⟨bp, 0, none⟩), tokV k t p r] w fun e w' => e = .returned (.bool (exceedsB st r nr na m)) ∧ ∃ q, w' = (w.alloc (.cells (tokC k t p r) 191)).drewN q := by
  have hbp : bp < w.heap.size := (Array.getElem?_eq_some_iff.1 hh).1
  have h0 : w.cell? ⟨bp, 0, none⟩ = some (.int .i64 st) := by simp [World.cell?, hh]
  have h1 : w.cell? ⟨bp, 1, none⟩ = some (.slice ar nr cr) := by simp [World.cell?, hh]
  have h2 : w.cell? ⟨bp, 2, none⟩ = some (.slice aa na ca) := by simp [World.cell?, hh]
  unfold tokV tokC
  by_cases hr : 8 < r
  · clear hlast hh
    go_enter Tryz.func196, Tryz.ntmps196
    go_wp2
    go_ret
    exact ⟨ret_bool (by simp [exceedsB, hr]), 0, rfl⟩
  · by_cases h3 : st = 3
    · obtain ⟨h1n, g, rfl, hcg, hgw⟩ := hlast h3
      subst h3
      have hh' : (w.alloc (.cells #[.int .i64 k, .string t, .int .i64 p, .int .i64 r] 191)).heap[bp]? = some (Obj.cells #[.int .i64 3, .slice ar nr cr, .slice (some ⟨g, 0, none⟩) na ca, vv] 179 (0, 0)) := by rw [Below.heap_alloc _ _ _ hbp]; exact hh
      have hne : g ≠ w.heap.size := by omega
      have hcg' : (w.alloc (.cells #[.int .i64 k, .string t, .int .i64 p, .int .i64 r] 191)).cell? ⟨g, (na - 1) * 2 + 1, none⟩ = some (.slice at' m cm) := cell_later ((Below.refl w.heap.size w).alloc (Nat.le_refl _) _) hcg
      clear hh hcg
      go_enter Tryz.func196, Tryz.ntmps196
      go_wp2_with (go_at_call 232; refine (lastAtom_any _ _ _ _ _ _ _ h1n hb _ hh').mono ?_; rintro e w' ⟨rfl, q, rfl⟩)
      go_ret
      exact ⟨ret_bool (by rw [Bool.eq_iff_iff]; simp [exceedsB]; omega), _, rfl⟩
    · have h3' : (st == 3) = false := by simp [h3]
      clear hlast hh
      go_enter Tryz.func196, Tryz.ntmps196
      go_wp2
      all_goals
        go_ret
        exact ⟨ret_bool (by rw [Bool.eq_iff_iff]; simp_all [exceedsB] <;> omega), 0, rfl⟩

end Go.Proofs.YtjajnhemgphefaaGreatDoor

namespace Go.Proofs.YtjajnhemgphefaaGreatDoor
open Go.RowKit Go.Shelf
set_option linter.unusedVariables false
set_option linter.unusedSimpArgs false

theorem contains_own {W : World} {b : Nat} {v : Value} {vs : List ByteArray} (h : W.ownsRow b 9 1 v vs.length (vs.map Value.string)) (hl : vs.length ≤ 1000) (x : ByteArray) :
    Calls Tryz.prog 140 #[v, .string x] W fun e w' => e = .returned (.bool (Lib.containsS vs x)) ∧ w' = W := by
  obtain ⟨_, ⟨hv, hn⟩ | ⟨g, cap, cur, hv, hb, hw, h1, h2, h3, h4⟩⟩ := h
  · have : vs = [] := List.eq_nil_of_length_eq_zero hn
    subst this
    rw [hv]
    exact Tryz.slices_Contains_string_empty none 0 x W
  · rw [hv]
    have := Tryz.slices_Contains_string g 0 vs.length cap vs x W (Nat.le_refl _) (by omega) (fun j hj => by
      simp only [World.cell?, hw, Nat.zero_add]
      have h5 : (cur.toList.take (vs.length * 1))[j]? = some (.string (vs.getD j ByteArray.empty)) := by
        rw [h4]; simp [List.getElem?_eq_getElem hj]
      rw [List.getElem?_take, if_pos (by omega)] at h5
      simpa using h5)
    simpa using this

theorem index_own {W : World} {b : Nat} {v : Value} {vs : List ByteArray} (h : W.ownsRow b 9 1 v vs.length (vs.map Value.string)) (hl : vs.length ≤ 1000) (x : ByteArray) :
    Calls Tryz.prog 191 #[v, .string x] W fun e w' => e = .returned (.int .i64 (Lib.idxOfS vs x)) ∧ w' = W := by
  obtain ⟨_, ⟨hv, hn⟩ | ⟨g, cap, cur, hv, hb, hw, h1, h2, h3, h4⟩⟩ := h
  · have : vs = [] := List.eq_nil_of_length_eq_zero hn
    subst this
    rw [hv]
    exact Tryz.slices_Index_string_empty none 0 x W
  · rw [hv]
    have := Tryz.slices_Index_string g 0 vs.length cap vs x W (Nat.le_refl _) (by omega) (fun j hj => by
      simp only [World.cell?, hw, Nat.zero_add]
      have h5 : (cur.toList.take (vs.length * 1))[j]? = some (.string (vs.getD j ByteArray.empty)) := by
        rw [h4]; simp [List.getElem?_eq_getElem hj]
      rw [List.getElem?_take, if_pos (by omega)] at h5
      simpa using h5)
    simpa using this

theorem Tryz.info9 : (Tryz.prog.info? 9).map (fun i => (i.zero, i.size, i.bytes)) = some (some (.string ⟨#[]⟩), 1, 16) := by kernel_rfl

end Go.Proofs.YtjajnhemgphefaaGreatDoor
