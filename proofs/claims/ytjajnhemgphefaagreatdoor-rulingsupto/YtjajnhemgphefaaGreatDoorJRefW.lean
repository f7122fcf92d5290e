/-
  The checks against the document's own answer: the same rule is refused, for the same reason.
  The document's own answer: a number in decimal digits; an atom as it is written.
-/
import Derived.Test.YtjajnhemgphefaaGreatDoorJChk
import Derived.Test.YtjajnhemgphefaaGreatDoorJRefT
import Derived.Test.YtjajnhemgphefaaGreatDoorJRefV
import Derived.Lib.ItoaNum
namespace Go.Proofs.YtjajnhemgphefaaGreatDoor
set_option linter.unusedVariables false
set_option linter.unusedSimpArgs false

theorem arityL_seen (a : Am) (rest : List Am) : ∀ (seen : List Am), arityL (seen ++ a :: rest) a.rel = match arOf seen a.rel.data.toList with | some n => n | none => a.args.length
  | [] => by simp [arityL, arOf, sameB_data]
  | b :: seen => by
    have ih := arityL_seen a rest seen
    simp only [List.cons_append, arityL, sameB_data]
    by_cases h : (b.rel.data.toList == a.rel.data.toList) = true
    · rw [if_pos h]; simp only [arOf, List.find?_cons, h]; rfl
    · rw [if_neg h, ih]
      have h' : (b.rel.data.toList == a.rel.data.toList) = false := by simpa using h
      simp only [arOf, List.find?_cons, h']

theorem amBad_seen (seen : List Am) (a : Am) (rest : List Am) : amBad (seen ++ a :: rest) a = !fitsA seen a := by
  unfold amBad fitsA
  rw [arityL_seen]
  cases arOf seen a.rel.data.toList with
  | none => simp
  | some n => by_cases h : n = a.args.length <;> simp [h]

theorem scanA_all : ∀ (l seen rest : List Am), scanA seen l = if l.any (amBad (seen ++ l ++ rest)) = true then none else some (seen ++ l)
  | [], seen, rest => by simp [scanA]
  | a :: l, seen, rest => by
    have hb := amBad_seen seen a (l ++ rest)
    have e : seen ++ (a :: l) ++ rest = seen ++ a :: (l ++ rest) := by simp
    unfold scanA
    rw [e]
    simp only [List.any_cons, hb]
    by_cases hf : fitsA seen a = true
    · rw [if_pos hf, hf]
      have ih := scanA_all l (seen ++ [a]) rest
      have e2 : seen ++ [a] ++ l ++ rest = seen ++ a :: (l ++ rest) := by simp
      rw [ih, e2]
      simp
    · rw [if_neg hf]
      have hf' : fitsA seen a = false := by simpa using hf
      rw [hf']; simp

def natOr (o : Option Nat) : Int := match o with | some n => n | none => -1

theorem arityFrom_all : ∀ (rs : List Rl) (seen : List Am) (i : Nat), arityFrom seen i rs = natOr (firstR (arityBad (seen ++ amsR rs)) rs i)
  | [], seen, i => by simp [arityFrom, firstR, natOr]
  | r :: rs, seen, i => by
    have hs := scanA_all (ruleAms r) seen (amsR rs)
    have e : seen ++ ruleAms r ++ amsR rs = seen ++ amsR (r :: rs) := by simp [amsR]
    rw [e] at hs
    have hb : arityBad (seen ++ amsR (r :: rs)) r = (ruleAms r).any (amBad (seen ++ amsR (r :: rs))) := rfl
    unfold arityFrom firstR
    rw [hb]
    show (match scanA seen (ruleAms r) with | none => (i : Int) | some s => arityFrom s (i + 1) rs) = _
    rw [hs]
    by_cases hx : (ruleAms r).any (amBad (seen ++ amsR (r :: rs))) = true
    · rw [if_pos hx, if_pos hx]; rfl
    · rw [if_neg hx, if_neg hx]
      have ih := arityFrom_all rs (seen ++ ruleAms r) (i + 1)
      have e3 : seen ++ ruleAms r ++ amsR rs = seen ++ amsR (r :: rs) := e
      rw [e3] at ih
      exact ih

theorem looseC_eq (r : Rl) : looseC r = looseB r := by
  unfold looseC looseB
  congr 1
  funext t
  unfold unboundB tmLoose
  cases h : t.name.toList.isEmpty with
  | false => rfl
  | true =>
    have h0 : t.name.toList = [] := by simpa using h
    have : bodyHas r t.name t.num = boundR r.body t.num := by
      unfold bodyHas boundR hasT
      congr 1
      funext a
      congr 1
      funext t'
      unfold sameT tmIs
      rw [h0]
      cases ht : t'.name.toList with
      | nil =>
        by_cases hn : t.num = t'.num
        · simp [hn]
        · have hn2 : ¬ t'.num = t.num := fun e => hn e.symm
          simp [hn, hn2]
      | cons c cs => simp
    rw [this]

theorem firstFrom_R (p : Rl → Bool) : ∀ (rs : List Rl) (i : Nat), firstFrom p i rs = natOr (firstR p rs i)
  | [], i => rfl
  | r :: rs, i => by
    unfold firstFrom firstR
    by_cases h : p r = true
    · rw [if_pos h, if_pos h]; rfl
    · rw [if_neg h, if_neg h]; exact firstFrom_R p rs (i + 1)
theorem firstLoose_eq (rs : List Rl) : firstLoose rs = natOr (firstR looseB rs 0) := by
  unfold firstLoose
  rw [firstFrom_R]
  have : looseC = looseB := funext looseC_eq
  rw [this]

theorem manyFrom_R : ∀ (rs : List Rl) (ns : List ByteArray) (i : Nat), manyFrom ns i rs = natOr (manyFromR ns rs i)
  | [], ns, i => rfl
  | r :: rs, ns, i => by
    unfold manyFrom manyFromR
    by_cases h : 8 < (nmL ns (tmsOf (ruleAms r))).length
    · rw [if_pos h, if_pos h]; rfl
    · rw [if_neg h, if_neg h]; exact manyFrom_R rs _ (i + 1)

theorem checkS_eq (rs : List Rl) : checkS rs = ((soundR rs).1, ((soundR rs).2 : Int)) := by
  unfold checkS soundR
  rw [arityFrom_all, firstLoose_eq, manyFrom_R]
  simp only [List.nil_append]
  cases firstR (arityBad (amsR rs)) rs 0 with
  | some i => simp [natOr]
  | none =>
    cases firstR looseB rs 0 with
    | some i => simp [natOr]
    | none =>
      cases manyFromR [] rs 0 with
      | some i => simp [natOr]
      | none => simp [natOr]

end Go.Proofs.YtjajnhemgphefaaGreatDoor

namespace Go.Proofs.YtjajnhemgphefaaGreatDoor
open Go.RowKit Go.Shelf
set_option linter.unusedVariables false
set_option linter.unusedSimpArgs false

set_option maxRecDepth 100000 in
set_option maxHeartbeats 4000000 in
theorem decimal_any : ∀ (n : Nat) (w : World), n ≤ 1000000 → Calls Tryz.prog 111 #[.int .i64 n] w fun e w' => e = .returned (.string (decS n)) ∧ w' = w := by
  intro n
  induction n using Nat.strongRecOn with
  | ind n ih =>
    intro w hn
    have hm0 : (n : Int).tmod 10 = ((n % 10 : Nat) : Int) := by rw [Int.tmod_eq_emod_of_nonneg (by omega)]; omega
    have hd0 : (n : Int).tdiv 10 = ((n / 10 : Nat) : Int) := by rw [Int.tdiv_eq_ediv_of_nonneg (by omega)]; omega
    have hm1 : n % 10 < 10 := by omega
    by_cases h : n < 10
    · have hS := decS_small n h
      have HS : Hid (decS n = _) := hS
      clear hS
      go_enter Tryz.func111, Tryz.ntmps111
      go_wp2
      go_ret
      rw [HS.out]
      exact ⟨rfl, rfl⟩
    · have hS := decS_great n h
      have HS : Hid (decS n = _) := hS
      have hih := ih (n / 10) (by omega) w (by omega)
      have hsz := decS_size (n / 10)
      generalize decS (n / 10) = dq at *
      clear hS ih
      go_enter Tryz.func111, Tryz.ntmps111
      go_wp2_with fail
      refine hih.mono ?_
      rintro e w' ⟨rfl, rfl⟩
      have hx1 : ((⟨#[48, 49, 50, 51, 52, 53, 54, 55, 56, 57]⟩ : ByteArray).extract (n % 10) (n % 10 + 1)).size ≤ 1 := by rw [digit_ext _ hm1]; exact Nat.le_refl 1
      generalize (⟨#[48, 49, 50, 51, 52, 53, 54, 55, 56, 57]⟩ : ByteArray).extract (n % 10) (n % 10 + 1) = dg at *
      have hsum : dq.size + dg.size ≤ 2000000 := by omega
      go_wp2
      go_ret
      rw [HS.out]
      exact ⟨rfl, rfl⟩

def tmW (t : Tm) : ByteArray := if t.name.toList.isEmpty = true then ⟨#[88]⟩ ++ decS t.num else t.name
def argsW : Nat → List Tm → ByteArray
  | _, [] => ⟨#[]⟩
  | i, t :: l => (if 0 < i then ⟨#[44]⟩ else ⟨#[]⟩) ++ tmW t ++ argsW (i + 1) l
def atomW (a : Am) : ByteArray := (a.rel ++ ⟨#[40]⟩) ++ argsW 0 a.args ++ ⟨#[41]⟩

theorem app_empty (x : ByteArray) : x ++ ⟨#[]⟩ = x := by show x ++ ByteArray.empty = x; simp
theorem empty_app (x : ByteArray) : (⟨#[]⟩ : ByteArray) ++ x = x := by show ByteArray.empty ++ x = x; simp

set_option maxRecDepth 100000 in
set_option maxHeartbeats 4000000 in
theorem written_any (p : Am × Value) (w : World) (hA : AtomV w p) (hr : p.1.rel.size ≤ 2000) (hl : p.1.args.length ≤ 1000) (hn : ∀ t ∈ p.1.args, t.name.size ≤ 2000 ∧ t.num ≤ 1000) :
    Calls Tryz.prog 65 #[.agg #[.string p.1.rel, p.2]] w fun e w' => e = .returned (.string (atomW p.1)) ∧ Below w.heap.size w w' := by
  obtain ⟨⟨rel, args⟩, va⟩ := p
  simp only at hr hl hn ⊢
  obtain ⟨a1, a2, hq⟩ := own_form hA
  simp only at hq
  subst hq
  have HC : Hid (∀ (O : Obj) (j : Nat) (hj : j < args.length), ∃ g, a1 = some ⟨g, 0, none⟩ ∧ (w.alloc O).cell? ⟨g, j * 2, none⟩ = some (.string args[j].name) ∧ (w.alloc O).cell? ⟨g, j * 2 + 1, none⟩ = some (.int .i64 args[j].num)) := by
    intro O j hj
    obtain ⟨g, cap, e1, hg, c0, c1⟩ := hA.cell j hj
    cases e1
    have hb : Below w.heap.size w (w.alloc O) := (Below.refl _ w).alloc (Nat.le_refl _) O
    exact ⟨g, rfl, (Below.cell hb hg).trans c0, (Below.cell hb hg).trans c1⟩
  have hbw : Hid (∀ O, Below w.heap.size w (w.alloc O)) := fun O => (Below.refl _ w).alloc (Nat.le_refl _) O
  clear hA
  have hz1 : (⟨#[40]⟩ : ByteArray).size = 1 := rfl
  have hz2 : (⟨#[44]⟩ : ByteArray).size = 1 := rfl
  have hz3 : (⟨#[88]⟩ : ByteArray).size = 1 := rfl
  have hz4 : (⟨#[41]⟩ : ByteArray).size = 1 := rfl
  have hr1 : rel.size + 1 ≤ 3000 := by omega
  have hW : Hid (atomW ⟨rel, args⟩ = (rel ++ ⟨#[40]⟩) ++ argsW 0 args ++ ⟨#[41]⟩) := rfl
  generalize atomW ⟨rel, args⟩ = T at *
  go_enter Tryz.func65, Tryz.ntmps65
  go_wp2
  go_loopw [3, 4] (fun x p wr => ∃ (k : Nat) (sx : ByteArray), x = .string sx ∧ p = .int .i64 k ∧ k ≤ args.length ∧ wr = w.alloc (.cells #[.string rel, .slice a1 args.length a2] 145) ∧ sx.size ≤ 2001 + k * 4000 ∧ Hid (T = sx ++ argsW k (args.drop k) ++ ⟨#[41]⟩)) (fun _ p _ => args.length - (intOf p).toNat)
  case atStart => exact ⟨0, _, rfl, rfl, Nat.zero_le _, rfl, by rw [ByteArray.size_append]; omega, hW⟩
  case round =>
    obtain ⟨k, sx, rfl, rfl, hle, rfl, hsz, hsp⟩ := hrel
    by_cases hlt : k < args.length
    · obtain ⟨g, rfl, c0, c1⟩ := HC.out (.cells #[.string rel, .slice a1 args.length a2] 145) k hlt
      have hm := hn args[k] (List.getElem_mem hlt)
      rw [List.drop_eq_getElem_cons hlt] at hsp
      generalize args[k] = tm at *
      obtain ⟨nm, nu⟩ := tm
      simp only at c0 c1 hm
      simp only [argsW, tmW] at hsp
      have hds := decS_size nu
      have hdec := decimal_any nu (w.alloc (.cells #[.string rel, .slice (some ⟨g, 0, none⟩) args.length a2] 145)) (by omega)
      generalize decS nu = ds at *
      have hb1 : sx.size + 1 ≤ 100000000 := by omega
      by_cases h1 : nm.toList.isEmpty = true
      · rw [if_pos h1] at hsp
        by_cases h0 : k = 0
        · subst h0
          rw [if_neg (by decide)] at hsp
          have hT : Hid (T = sx ++ ⟨#[88]⟩ ++ ds ++ argsW 1 (args.drop 1) ++ ⟨#[41]⟩) := by
            show _ = _; rw [hsp.out, empty_app]; simp only [ByteArray.append_assoc]
          have hb2 : (sx ++ ⟨#[88]⟩).size + ds.size ≤ 100000000 := by rw [ByteArray.size_append]; omega
          have hb3 : Hid ((sx ++ ⟨#[88]⟩ ++ ds).size ≤ 2001 + 1 * 4000) := by show _ ≤ _; rw [ByteArray.size_append, ByteArray.size_append]; omega
          clear hsp
          go_wp2_with (go_at_call 111; refine hdec.mono ?_; rintro e w' ⟨rfl, rfl⟩)
          go_roundw
          case rel => exact ⟨1, _, rfl, by go_num, by omega, by trivial, hb3.out, hT⟩
          case measure => simp [intOf]; omega
        · rw [if_pos (by omega)] at hsp
          have hT : Hid (T = sx ++ ⟨#[44]⟩ ++ ⟨#[88]⟩ ++ ds ++ argsW (k + 1) (args.drop (k + 1)) ++ ⟨#[41]⟩) := by
            show _ = _; rw [hsp.out]; simp only [ByteArray.append_assoc]
          have hk0 : 0 < k := by omega
          have hb2 : (sx ++ ⟨#[44]⟩).size + 1 ≤ 100000000 := by rw [ByteArray.size_append]; omega
          have hb3 : (sx ++ ⟨#[44]⟩ ++ ⟨#[88]⟩).size + ds.size ≤ 100000000 := by rw [ByteArray.size_append, ByteArray.size_append]; omega
          have hb4 : Hid ((sx ++ ⟨#[44]⟩ ++ ⟨#[88]⟩ ++ ds).size ≤ 2001 + (k + 1) * 4000) := by show _ ≤ _; rw [ByteArray.size_append, ByteArray.size_append, ByteArray.size_append]; omega
          clear hsp
          go_wp2_with (go_at_call 111; refine hdec.mono ?_; rintro e w' ⟨rfl, rfl⟩)
          go_roundw
          case rel => exact ⟨k + 1, _, rfl, by go_num, by omega, by trivial, hb4.out, hT⟩
          case measure => simp [intOf]; omega
      · have h1' : nm.toList.isEmpty = false := by simpa using h1
        rw [if_neg h1] at hsp
        clear h1 hdec
        by_cases h0 : k = 0
        · subst h0
          rw [if_neg (by decide)] at hsp
          have hT : Hid (T = sx ++ nm ++ argsW 1 (args.drop 1) ++ ⟨#[41]⟩) := by
            show _ = _; rw [hsp.out, empty_app]; simp only [ByteArray.append_assoc]
          have hb2 : sx.size + nm.size ≤ 100000000 := by omega
          have hb3 : Hid ((sx ++ nm).size ≤ 2001 + 1 * 4000) := by show _ ≤ _; rw [ByteArray.size_append]; omega
          clear hsp
          go_wp2
          go_roundw
          case rel => exact ⟨1, _, rfl, by go_num, by omega, by trivial, hb3.out, hT⟩
          case measure => simp [intOf]; omega
        · rw [if_pos (by omega)] at hsp
          have hT : Hid (T = sx ++ ⟨#[44]⟩ ++ nm ++ argsW (k + 1) (args.drop (k + 1)) ++ ⟨#[41]⟩) := by
            show _ = _; rw [hsp.out]; simp only [ByteArray.append_assoc]
          have hk0 : 0 < k := by omega
          have hb2 : (sx ++ ⟨#[44]⟩).size + nm.size ≤ 100000000 := by rw [ByteArray.size_append]; omega
          have hb3 : Hid ((sx ++ ⟨#[44]⟩ ++ nm).size ≤ 2001 + (k + 1) * 4000) := by show _ ≤ _; rw [ByteArray.size_append, ByteArray.size_append]; omega
          clear hsp
          go_wp2
          go_roundw
          case rel => exact ⟨k + 1, _, rfl, by go_num, by omega, by trivial, hb3.out, hT⟩
          case measure => simp [intOf]; omega
    · rw [List.drop_eq_nil_of_le (by omega)] at hsp
      simp only [argsW, app_empty] at hsp
      have hb1 : sx.size + 1 ≤ 100000000 := by omega
      go_wp2
      go_ret
      rw [hsp.out]
      exact ⟨rfl, hbw.out _⟩

end Go.Proofs.YtjajnhemgphefaaGreatDoor
