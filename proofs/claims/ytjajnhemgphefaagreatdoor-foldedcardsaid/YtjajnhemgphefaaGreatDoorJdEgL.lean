/-
  The engine's data: what its least model asks for.
  The text of rules as it is written, in plain data.
  rules.check: the first error of rules that are well written, and the number of its rule.
  rules.Read: a text is read and checked.
  The engine: checkRelation, Until.
-/
import Derived.Test.YtjajnhemgphefaaGreatDoorJdEgK
import Derived.Test.YtjajnhemgphefaaGreatDoorJdIdx
import Derived.Lib.ItoaNum
import Derived.Test.YtjajnhemgphefaaGreatDoorJdArity
import Derived.Test.YtjajnhemgphefaaGreatDoorJdEgA
namespace Go.Proofs.YtjajnhemgphefaaGreatDoor
open Go.RowKit Go.Shelf Go.Maps
set_option linter.unusedVariables false
set_option linter.unusedSimpArgs false

theorem arOf_mem {l : List Am} {x : List UInt8} {n : Nat} (h : arOf l x = some n) : ∃ a ∈ l, a.rel.data.toList = x ∧ a.args.length = n := by
  unfold arOf at h
  cases hf : l.find? (fun a => a.rel.data.toList == x) with
  | none => rw [hf] at h; cases h
  | some a =>
    rw [hf] at h
    simp only [Option.map_some, Option.some.injEq] at h
    exact ⟨a, List.mem_of_find?_eq_some hf, by simpa using List.find?_some hf, h⟩
theorem arR_cases {rs : List Rl} (h : RsOk rs) (x : ByteArray) : arR rs x = 1 ∨ arR rs x = 2 ∨ arR rs x = 0 := by
  unfold arR
  cases ha : arOf (rs.flatMap ruleAms) x.data.toList with
  | none => exact .inr (.inr rfl)
  | some n =>
    obtain ⟨a, h1, _, h3⟩ := arOf_mem ha
    rcases (h.arity a h1).2 with e | e
    · left; show n = 1; omega
    · right; left; show n = 2; omega
theorem head_mem {rs : List Rl} {r : Rl} (hr : r ∈ rs) : r.head ∈ rs.flatMap ruleAms := List.mem_flatMap.2 ⟨r, hr, by simp [ruleAms]⟩
theorem body_mem {rs : List Rl} {r : Rl} (hr : r ∈ rs) {a : Am} (ha : a ∈ r.body) : a ∈ rs.flatMap ruleAms := List.mem_flatMap.2 ⟨r, hr, by simp [ruleAms, ha]⟩
theorem rls_ok {rs : List Rl} (h : RsOk rs) : ∀ r ∈ rs, RlOk (arR rs) r ∧ r.head.args ≠ [] := fun r hr =>
  ⟨⟨⟨(h.arity _ (head_mem hr)).1, h.nums _ (head_mem hr)⟩, fun a ha => ⟨(h.arity _ (body_mem hr ha)).1, h.nums _ (body_mem hr ha)⟩, h.safe r hr⟩, fun e => by
    have := (h.arity _ (head_mem hr)).2
    rw [e] at this; simp at this⟩
theorem big {n : Nat} (h : n ≤ 1200) : n ≤ maxLen := Nat.le_trans h (by unfold maxLen; decide)
theorem use_ok {rs : List Rl} (h : RsOk rs) : ∀ r ∈ rs, UseOk r := fun r hr =>
  have hk := h.rok r hr
  ⟨⟨fun a ha => (hk.ams a ha).args, fun a ha => h.nums _ (body_mem hr ha), fun a ha => big (hk.ams a ha).rel⟩, hk.body, hk.head.args, h.nums _ (head_mem hr), big hk.head.rel, fun t ht => big (hk.head.tms t ht).name⟩
theorem rels_size {rs : List Rl} (h : RsOk rs) : ∀ x ∈ relsR rs, x.size ≤ 1200 := by
  intro x hx
  obtain ⟨a, ha, rfl⟩ := List.mem_map.1 hx
  obtain ⟨r, hr, har⟩ := List.mem_flatMap.1 ha
  have hk := h.rok r hr
  simp only [ruleAms, List.mem_cons] at har
  rcases har with rfl | har
  · exact hk.head.rel
  · exact (hk.ams a har).rel
theorem ams_len {rs : List Rl} (h : RsOk rs) : (rs.flatMap ruleAms).length ≤ 32 := by
  have h1 : ∀ l : List Rl, (∀ r ∈ l, RuleOk r) → (l.flatMap ruleAms).length ≤ l.length * 4 := by
    intro l
    induction l with
    | nil => intro _; simp
    | cons r l ih =>
      intro hk
      have := (hk r (by simp)).body
      have := ih (fun q hq => hk q (by simp [hq]))
      rw [List.flatMap_cons, List.length_append, List.length_cons]
      simp only [ruleAms, List.length_cons]
      omega
  have := h1 rs h.rok
  have := h.r8
  omega
theorem uni_small {rs : List Rl} (h : RsOk rs) {ns : List ByteArray} (h8 : ns.length ≤ 8) : (uni (relsR rs) ns).length ≤ 2400 := by
  rw [uni_len]
  have h1 : (relsR rs).length ≤ 32 := by unfold relsR; rw [List.length_map]; exact ams_len h
  have h2 : ns.length * (ns.length + 1) ≤ 8 * 9 := Nat.mul_le_mul h8 (by omega)
  have := Nat.mul_le_mul h1 h2
  omega
theorem uni_size {rs : List Rl} (h : RsOk rs) {ns : List ByteArray} (hn : ∀ x ∈ ns, x.size ≤ 1200) {g : Gd} (hg : g ∈ uni (relsR rs) ns) : g.rel.size ≤ 1200 ∧ g.x.size ≤ 1200 ∧ g.y.size ≤ 1200 := by
  obtain ⟨h1, h2, h3⟩ := mem_uni.1 hg
  refine ⟨rels_size h _ h1, hn _ h2, ?_⟩
  rcases h3 with h3 | h3
  · rw [h3]; decide
  · exact hn _ h3

/-- What is asked of facts. -/
def FcOk (rs : List Rl) (ns : List ByteArray) (F : List (Gd × Int)) : Prop := F.length ≤ 1000 ∧ ∀ x ∈ F, x.1 ∈ uni (relsR rs) ns ∧ arOk (arR rs) x.1 ∧ 0 ≤ x.2 ∧ x.2 ≤ 2000000
theorem given_ok {rs : List Rl} (h : RsOk rs) {ns : List ByteArray} (hnr : ∀ r ∈ rs, ∀ t ∈ r.head.args, t.name ≠ eB → t.name ∈ ns) : ∀ x ∈ givenL rs, x.1 ∈ uni (relsR rs) ns ∧ arOk (arR rs) x.1 := by
  intro x hx
  unfold givenL at hx
  obtain ⟨r, hr, hx⟩ := List.mem_filterMap.1 hx
  split at hx
  · rename_i hb
    cases hx
    have hro := rls_ok h r hr
    have hao := head_ok (arR_cases h) hro.1 hro.2 (p := nms0) (by rw [hb]; simp)
    have hnm : ∀ t ∈ r.head.args, ofT nms0 t ∈ ns := by
      intro t ht
      by_cases he : t.name = eB
      · obtain ⟨a, ha, _⟩ := h.safe r hr t ht he
        rw [hb] at ha; simp at ha
      · rw [ofT_name he]; exact hnr r hr t ht he
    refine ⟨mem_uni.2 ⟨List.mem_map.2 ⟨r.head, head_mem hr, rfl⟩, ?_, ?_⟩, hao⟩
    · show xOf nms0 r.head.args ∈ ns
      match ha : r.head.args, hro.2 with
      | t :: l, _ => exact hnm t (by rw [ha]; simp)
    · show yOf nms0 r.head.args = eB ∨ yOf nms0 r.head.args ∈ ns
      match ha : r.head.args, hro.2 with
      | [t], _ => exact .inl rfl
      | t :: u :: l, _ => exact .inr (hnm u (by rw [ha]; simp))
  · cases hx
theorem ls_ok {rs : List Rl} (h : RsOk rs) {ns : List ByteArray} (h8 : ns.length ≤ 8) (hn : ∀ x ∈ ns, x.size ≤ 1200) (hnr : ∀ r ∈ rs, ∀ t ∈ r.head.args, t.name ≠ eB → t.name ∈ ns) {F : List (Gd × Int)} (hF : FcOk rs ns F) : LsOk (arR rs) rs F (uni (relsR rs) ns) := by
  have hall : ∀ x ∈ F ++ givenL rs, x.1 ∈ uni (relsR rs) ns ∧ arOk (arR rs) x.1 := by
    intro x hx
    rcases List.mem_append.1 hx with hx | hx
    · exact ⟨(hF.2 x hx).1, (hF.2 x hx).2.1⟩
    · exact given_ok h hnr x hx
  have hok := uni_ok (rels := relsR rs) (NS := ns) (fun x hx => big (rels_size h x hx)) (fun x hx => big (hn x hx))
  exact ⟨arR_cases h, rls_ok h, use_ok h, h.r8, fun x hx => ⟨(hall x hx).2, hok _ (hall x hx).1⟩, fun x hx => (hall x hx).1, fun x hx => (hF.2 x hx).2.2, uni_closed (rls_ok h) (fun r hr => List.mem_map.2 ⟨r.head, head_mem hr, rfl⟩) hnr, hok, uni_small h h8, hF.1⟩
theorem least_in {rs : List Rl} (h : RsOk rs) {ns : List ByteArray} (hnr : ∀ r ∈ rs, ∀ t ∈ r.head.args, t.name ≠ eB → t.name ∈ ns) {F : List (Gd × Int)} (hF : FcOk rs ns F) {M : Gd → Option Int} (hM : LeastM rs (F ++ givenL rs) M) : ∀ g, (M g).isSome = true → arOk (arR rs) g ∧ g ∈ uni (relsR rs) ns := by
  intro g hg
  obtain ⟨t, ht⟩ := Option.isSome_iff_exists.1 hg
  refine hM.sound g t ht (t - 1) (by omega) (fun g => arOk (arR rs) g ∧ g ∈ uni (relsR rs) ns) (fun x hx _ => ?_) (fun r hr h0 p hb => ?_)
  · rcases List.mem_append.1 hx with hx | hx
    · exact ⟨(hF.2 x hx).2.1, (hF.2 x hx).1⟩
    · exact ⟨(given_ok h hnr x hx).2, (given_ok h hnr x hx).1⟩
  · exact ⟨head_ok (arR_cases h) (rls_ok h r hr).1 (rls_ok h r hr).2 (fun a ha => (hb a ha).1), uni_closed (rls_ok h) (fun r hr => List.mem_map.2 ⟨r.head, head_mem hr, rfl⟩) hnr r hr h0 p (fun a ha => ⟨(hb a ha).2, (hb a ha).1⟩)⟩
theorem uni_mono {rels ns ns' : List ByteArray} (h : ∀ x ∈ ns, x ∈ ns') {g : Gd} (hg : g ∈ uni rels ns) : g ∈ uni rels ns' := by
  obtain ⟨h1, h2, h3⟩ := mem_uni.1 hg
  exact mem_uni.2 ⟨h1, h _ h2, h3.imp id (h _)⟩
theorem fit_few {M : Gd → Option Int} {a : Am} {gs : List Gd} {rels ns : List ByteArray} (h : fitP M a gs) (hM : ∀ g, (M g).isSome = true → g ∈ uni rels ns) (h8 : ns.length ≤ 8) : gs.length ≤ 72 := by
  obtain ⟨ks, k1, k2, rfl⟩ := h
  have h1 : ks.length ≤ (ns.flatMap fun x => (eB :: ns).map fun y => (x, y)).length := by
    refine List.Nodup.length_le_of_subset k1 (fun k hk => ?_)
    obtain ⟨_, _, h3⟩ := (k2 k.1 k.2).1 hk
    obtain ⟨_, m2, m3⟩ := mem_uni.1 (hM _ h3)
    refine List.mem_flatMap.2 ⟨k.1, m2, List.mem_map.2 ⟨k.2, ?_, rfl⟩⟩
    rcases m3 with e | e
    · simp only [List.mem_cons]; left; exact e
    · exact List.mem_cons_of_mem _ e
  have h2 : (ns.flatMap fun x => (eB :: ns).map fun y => (x, y)).length = ns.length * (ns.length + 1) := by
    have : ∀ (l m : List ByteArray), (l.flatMap fun x => m.map fun y => (x, y)).length = l.length * m.length := by
      intro l m
      induction l with
      | nil => simp
      | cons x l ih => rw [List.flatMap_cons, List.length_append, ih, List.length_map, List.length_cons, Nat.succ_mul]; omega
    rw [this]; rfl
  have h3 : ns.length * (ns.length + 1) ≤ 8 * 9 := Nat.mul_le_mul h8 (by omega)
  have h4 : ((ks.filterMap (fun k => matchA nms0 a k.1 k.2)).map (fun p => groundA p a)).length ≤ ks.length := by rw [List.length_map]; exact List.length_filterMap_le _ _
  omega

end Go.Proofs.YtjajnhemgphefaaGreatDoor

namespace Go.Proofs.YtjajnhemgphefaaGreatDoor
open Go.RowKit Go.Shelf
set_option linter.unusedVariables false
set_option linter.unusedSimpArgs false

def termTxt (t : Tm) : List UInt8 := if t.name.toList.isEmpty = true then 88 :: Lib.decDigits t.num else t.name.data.toList
def argsTxt : Nat → List Tm → List UInt8
  | _, [] => []
  | i, t :: l => (if i = 0 then [] else [44]) ++ termTxt t ++ argsTxt (i + 1) l
def atomTxt (a : Am) : List UInt8 := a.rel.data.toList ++ 40 :: argsTxt 0 a.args ++ [41]
def bodyTxt : Nat → List Am → List UInt8
  | _, [] => []
  | i, a :: l => (if i = 0 then [32, 58, 45, 32] else [44, 32]) ++ atomTxt a ++ bodyTxt (i + 1) l
def ruleTxt (r : Rl) : List UInt8 := atomTxt r.head ++ bodyTxt 0 r.body ++ [46, 10]
def rulesTxt (rs : List Rl) : List UInt8 := rs.flatMap ruleTxt

end Go.Proofs.YtjajnhemgphefaaGreatDoor

namespace Go.Proofs.YtjajnhemgphefaaGreatDoor
open Go.RowKit Go.Shelf
set_option linter.unusedVariables false
set_option linter.unusedSimpArgs false

set_option maxHeartbeats 400000 in
theorem check_any (v : Value) (rs : List Rl) (base b45 b87 : Nat) (w : World) (hR : RulesAt w base b45 b87 v rs) (hrow : ∀ g, v.ownBlock = some g → g < w.heap.size) (h8 : rs.length ≤ 8) (hok : ∀ r ∈ rs, RuleOk r) :
    Calls Tryz.prog 61 #[v] w fun e w' => e = .returned (.tuple #[.int .i64 (checkS rs).1, .int .i64 (checkS rs).2]) ∧ Below w.heap.size w w' := by
  have h1 := findArity_any v rs base b45 b87 w hR hrow h8 hok
  have h2 : ∀ W, Below w.heap.size w W → Calls Tryz.prog 101 #[v, .func (.func 102) #[] #[]] W fun e w' => e = .returned (.int .i64 (firstLoose rs)) ∧ Below w.heap.size w w' := fun W hb =>
    (idxRules_any v rs base b45 b87 W (hR.rk (RuleKept.ofBelow hb)) (fun g hg => Nat.lt_of_lt_of_le (hrow g hg) hb.size) h8 hok).mono (fun e w' h => ⟨h.1, hb.trans (h.2.mono hb.size)⟩)
  have h3 : ∀ W, Below w.heap.size w W → Calls Tryz.prog 103 #[v] W fun e w' => e = .returned (.int .i64 (manyFrom [] 0 rs)) ∧ Below w.heap.size w w' := fun W hb =>
    (findManyNames_any v rs base b45 b87 W (hR.rk (RuleKept.ofBelow hb)) (fun g hg => Nat.lt_of_lt_of_le (hrow g hg) hb.size) h8 hok).mono (fun e w' h => ⟨h.1, hb.trans (h.2.mono hb.size)⟩)
  obtain ⟨a, c, rfl⟩ := hR.form
  have hcs : Hid (checkS rs = if 0 ≤ arityFrom [] 0 rs then (4, arityFrom [] 0 rs) else if 0 ≤ firstLoose rs then (5, firstLoose rs) else if 0 ≤ manyFrom [] 0 rs then (3, manyFrom [] 0 rs) else (0, 0)) := rfl
  have H1 : Hid _ := h1
  have H2 : Hid _ := h2
  have H3 : Hid _ := h3
  clear h1 h2 h3 hR hrow hok
  generalize arityFrom [] 0 rs = ar at *
  generalize firstLoose rs = fu at *
  generalize manyFrom [] 0 rs = mn at *
  generalize checkS rs = cs at *
  by_cases ha : 0 ≤ ar
  · have hfin : Hid (cs = (4, ar)) := by show _ = _; rw [hcs.out, if_pos ha]
    go_enter Tryz.func61, Tryz.ntmps61
    go_wp2_with fail
    refine Calls.mono H1.out ?_
    rintro e w1 ⟨rfl, hb1⟩
    go_wp2
    go_ret2
    rw [hfin.out]
    exact ⟨rfl, hb1⟩
  have ha' : ¬ (0 ≤ ar) := ha
  by_cases hu : 0 ≤ fu
  · have hfin : Hid (cs = (5, fu)) := by show _ = _; rw [hcs.out, if_neg ha, if_pos hu]
    go_enter Tryz.func61, Tryz.ntmps61
    go_wp2_with fail
    refine Calls.mono H1.out ?_
    rintro e w1 ⟨rfl, hb1⟩
    go_wp2_with fail
    refine Calls.mono (H2.out w1 hb1) ?_
    rintro e w2 ⟨rfl, hb2⟩
    go_wp2
    go_ret2
    rw [hfin.out]
    exact ⟨rfl, hb2⟩
  by_cases hm : 0 ≤ mn
  · have hfin : Hid (cs = (3, mn)) := by show _ = _; rw [hcs.out, if_neg ha, if_neg hu, if_pos hm]
    go_enter Tryz.func61, Tryz.ntmps61
    go_wp2_with fail
    refine Calls.mono H1.out ?_
    rintro e w1 ⟨rfl, hb1⟩
    go_wp2_with fail
    refine Calls.mono (H2.out w1 hb1) ?_
    rintro e w2 ⟨rfl, hb2⟩
    go_wp2_with fail
    refine Calls.mono (H3.out w2 hb2) ?_
    rintro e w3 ⟨rfl, hb3⟩
    go_wp2
    go_ret2
    rw [hfin.out]
    exact ⟨rfl, hb3⟩
  · have hfin : Hid (cs = (0, 0)) := by show _ = _; rw [hcs.out, if_neg ha, if_neg hu, if_neg hm]
    go_enter Tryz.func61, Tryz.ntmps61
    go_wp2_with fail
    refine Calls.mono H1.out ?_
    rintro e w1 ⟨rfl, hb1⟩
    go_wp2_with fail
    refine Calls.mono (H2.out w1 hb1) ?_
    rintro e w2 ⟨rfl, hb2⟩
    go_wp2_with fail
    refine Calls.mono (H3.out w2 hb2) ?_
    rintro e w3 ⟨rfl, hb3⟩
    go_wp2
    go_ret2
    rw [hfin.out]
    exact ⟨rfl, hb3⟩

end Go.Proofs.YtjajnhemgphefaaGreatDoor

namespace Go.Proofs.YtjajnhemgphefaaGreatDoor
open Go.RowKit Go.Shelf
set_option linter.unusedVariables false
set_option linter.unusedSimpArgs false

def rulesR (s : ByteArray) : List UInt8 × Int × Int :=
  if 300 < Lib.runeCount s then ([], 1, 0)
  else match parseR s with
    | .error (c, p) => ([], c, p)
    | .ok rs => if (checkS rs).1 = 0 then (rulesTxt rs, 0, 0) else ([], (checkS rs).1, (checkS rs).2)

theorem parseR_err (s : ByteArray) (c : Int) (p : Nat) (h : parseR s = .error (c, p)) : c ≠ 0 := by
  unfold parseR at h
  split at h
  · rename_i st ep hf
    cases h
    exact foldP_err _ _ _ _ _ hf
  · split at h
    · cases h
    · cases h; decide

/-- What parse answers, as Read takes it. -/
def ReadAt (s : ByteArray) (w : World) (e : Ending) (w' : World) : Prop :=
  Below w.heap.size w w' ∧ ((∃ c p : Int, e = .returned (.tuple #[.slice none 0 0, .int .i64 c, .int .i64 p]) ∧ c ≠ 0 ∧ rulesR s = ([], c, p)) ∨
    (∃ rs v b45 b87, e = .returned (.tuple #[v, .int .i64 0, .int .i64 0]) ∧ RulesAt w' w.heap.size b45 b87 v rs ∧ rs.length ≤ 8 ∧ (∀ r ∈ rs, RuleOk r) ∧ rulesR s = (if (checkS rs).1 = 0 then (rulesTxt rs, 0, 0) else ([], (checkS rs).1, (checkS rs).2)) ∧ parseR s = .ok rs))

theorem parse_any (s : ByteArray) (w : World) (hs : s.size ≤ 4611686018427387904) (hT : Lib.Utf8Tabs 0 1 w) :
    Calls Tryz.prog 60 #[.string s] w (ReadAt s w) := by
  by_cases hl : 300 < Lib.runeCount s
  · refine (parse_long s w hs hl).mono ?_
    rintro e w' ⟨rfl, hb⟩
    exact ⟨hb, .inl ⟨1, 0, rfl, by decide, by unfold rulesR; rw [if_pos hl]⟩⟩
  · refine (parse_short s w (by omega) hT).mono ?_
    rintro e w' ⟨hb, h⟩
    refine ⟨hb, ?_⟩
    cases hp : parseR s with
    | error cp =>
      obtain ⟨c, p⟩ := cp
      rw [hp] at h
      exact .inl ⟨c, p, h, parseR_err s c p hp, by unfold rulesR; rw [if_neg hl, hp]⟩
    | ok rs =>
      rw [hp] at h
      obtain ⟨v, b45, b87, h1, _, _, h2, h3, h4⟩ := h
      exact .inr ⟨rs, v, b45, b87, h1, h2, h3, h4, by unfold rulesR; rw [if_neg hl, hp], rfl⟩

theorem rules_row {W : World} {base b45 b87 : Nat} {v : Value} {rs : List Rl} (h : RulesAt W base b45 b87 v rs) : ∀ g, v.ownBlock = some g → g < W.heap.size := by
  intro g hg
  obtain ⟨qs, r1, r2, r3⟩ := h
  obtain ⟨_, c, hc⟩ := owns_block r2 hg
  exact (Array.getElem?_eq_some_iff.1 hc).1

/-- What Read answers, as Rules takes it. -/
def RulesPost (s : ByteArray) (w : World) (e : Ending) (w' : World) : Prop :=
  Below w.heap.size w w' ∧ ((∃ c p : Int, e = .returned (.tuple #[.slice none 0 0, .int .i64 c, .int .i64 p]) ∧ c ≠ 0 ∧ rulesR s = ([], c, p)) ∨
    (∃ rs v b45 b87, e = .returned (.tuple #[v, .int .i64 0, .int .i64 0]) ∧ RulesAt w' w.heap.size b45 b87 v rs ∧ rs.length ≤ 8 ∧ (∀ r ∈ rs, RuleOk r) ∧ rulesR s = (rulesTxt rs, 0, 0) ∧ parseR s = .ok rs ∧ (checkS rs).1 = 0))

set_option maxHeartbeats 1000000 in
theorem readAll_any (s : ByteArray) (w : World) (hs : s.size ≤ 4611686018427387904) (hT : Lib.Utf8Tabs 0 1 w) :
    Calls Tryz.prog 30 #[.string s] w (RulesPost s w) := by
  have h1 := parse_any s w hs hT
  have H1 : Hid _ := h1
  clear h1
  go_enter Tryz.func30, Tryz.ntmps30
  go_wp2_with fail
  refine Calls.mono H1.out ?_
  rintro e w1 ⟨hb1, ⟨c, p, rfl, hc, hr⟩ | ⟨rs, v, b45, b87, rfl, hR, h8, hok, hr, hpr⟩⟩
  · have hc' : (c == 0) = false := by simp [hc]
    have HR : Hid _ := hr
    have HCC : Hid _ := hc
    clear hr hc
    go_wp2
    go_ret3
    exact ⟨hb1, .inl ⟨c, p, rfl, HCC.out, HR.out⟩⟩
  · obtain ⟨va, vc, rfl⟩ := hR.form
    have hck := check_any _ rs _ b45 b87 w1 hR (rules_row hR) h8 hok
    have HCK : Hid _ := hck
    have HR : Hid _ := hr
    have HRA : Hid _ := hR
    have HOK : Hid _ := hok
    have HPR : Hid _ := hpr
    clear hck hr hR hok hpr
    generalize hcs : checkS rs = cs at *
    obtain ⟨ce, cn⟩ := cs
    have HCS : Hid (checkS rs = (ce, cn)) := hcs
    clear hcs
    go_wp2_with fail
    refine Calls.mono HCK.out ?_
    rintro e w2 ⟨rfl, hb2⟩
    simp only
    by_cases hce : ce = 0
    · subst hce
      go_wp2
      go_ret3
      refine ⟨hb1.trans (hb2.mono hb1.size), .inr ⟨rs, _, b45, b87, rfl, RulesAt.rk HRA.out (RuleKept.ofBelow hb2), h8, HOK.out, ?_, HPR.out, by rw [HCS.out]⟩⟩
      exact HR.out
    · have hce' : (ce == 0) = false := by simp [hce]
      have HN : Hid _ := hce
      clear hce
      go_wp2
      go_ret3
      refine ⟨hb1.trans (hb2.mono hb1.size), .inl ⟨ce, cn, rfl, HN.out, ?_⟩⟩
      have := HR.out
      rw [if_neg HN.out] at this
      exact this

end Go.Proofs.YtjajnhemgphefaaGreatDoor

namespace Go.Proofs.YtjajnhemgphefaaGreatDoor
open Go.RowKit Go.Shelf Go.Maps
set_option linter.unusedVariables false
set_option linter.unusedSimpArgs false

/-- Whether rules have an atom's relation, with as many arguments. -/
def ckR (rs : List Rl) (a : Am) : Int := if arR rs a.rel = 0 then 7 else if arR rs a.rel = a.args.length then 0 else 4

theorem EngV.lt {W : World} {S : Nat → Prop} {be : Nat} {e : Eg} {vr vn vk vf : Value} {bm rb b45 b87 : Nat} {bfs : List Nat} {Sf : Nat → Nat → Prop} (h : EngV W S be e vr vn vk vf bm rb b45 b87 bfs Sf) : be < W.heap.size := (Array.getElem?_eq_some_iff.1 h.blk).1

set_option maxRecDepth 100000 in
set_option maxHeartbeats 1000000 in
theorem checkRel_any (S : Nat → Prop) (be : Nat) (e : Eg) (w : World) (h : EngAt w S be e) (hr : RsOk e.rs) (a : Am) (va : Value) (ta : Option Addr) (tc : Nat) (hva : va = .slice ta a.args.length tc) (hl : a.args.length ≤ 2) :
    Calls Tryz.prog 42 #[.pointer (some ⟨be, 0, none⟩), .agg #[.string a.rel, va]] w fun en w' => en = .returned (.int .i64 (ckR e.rs a)) ∧ Below w.heap.size w w' := by
  obtain ⟨vr, vn, vk, vf, bm, rb, b45, b87, bfs, Sf, hv⟩ := h
  subst hva
  have hbe := hv.lt
  have hb0 : ∀ O, Below w.heap.size w (w.alloc O) := fun O => (Below.refl _ w).alloc (Nat.le_refl _) O
  have har : Hid (∀ W, Below w.heap.size w W → Calls Tryz.prog 53 #[vr, .string a.rel] W fun e' w' => e' = .returned (.int .i64 (arR e.rs a.rel)) ∧ Below W.heap.size W w') := fun W hb => by
    have hv' := hv.below hb
    exact arity_any vr e.rs a.rel rb b45 b87 _ hv'.rules (rules_row hv'.rules) hr.r8 hr.rok
  obtain ⟨ra, rc, hrf⟩ := hv.rules.form
  subst hrf
  have hblk := hv.blk
  have c0 : ∀ O, (w.alloc O).cell? ⟨be, 0, none⟩ = some (.slice ra e.rs.length rc) := fun O => cell_later (hb0 O) (by simp [World.cell?, hblk])
  have hck : Hid (ckR e.rs a = if arR e.rs a.rel = 0 then 7 else if arR e.rs a.rel = a.args.length then 0 else 4) := rfl
  have hbx : Hid (∀ W1, Below (w.alloc (.cells #[.string a.rel, .slice ta a.args.length tc] 92)).drew.heap.size (w.alloc (.cells #[.string a.rel, .slice ta a.args.length tc] 92)).drew W1 → W1.cell? ⟨w.heap.size, 1, none⟩ = some (.slice ta a.args.length tc) ∧ Below w.heap.size w W1) := fun W1 hb => by
    have := (hb.block w.heap.size (by show _ < (w.alloc _).heap.size; simp)).trans (World.alloc_heap_new w _)
    exact ⟨by simp [World.cell?, this], ((hb0 _).drew).trans (hb.mono (by show _ ≤ (w.alloc _).heap.size; simp))⟩
  clear hv hblk
  generalize hn : arR e.rs a.rel = n at *
  clear hn
  by_cases h0 : n = 0
  · subst h0
    rw [if_pos rfl] at hck
    rw [hck.out]
    go_enter Tryz.func42, Tryz.ntmps42
    go_wp2_with fail
    go_region_with (go_at_call 53; refine (har.out _ ((hb0 _).drew)).mono ?_; rintro e' W1 ⟨rfl, hb1⟩; obtain ⟨d1, hbf⟩ := hbx.out W1 hb1)
    all_goals go_wp2
    all_goals go_ret
    all_goals exact ⟨rfl, hbf⟩
  · rw [if_neg h0] at hck
    have h0' : ((n : Int) == 0) = false := by simp [h0]
    have h0'' : ¬ (n : Int) = 0 := by omega
    by_cases h1 : n = a.args.length
    · rw [if_pos h1] at hck
      rw [hck.out]
      subst h1
      clear hck
      go_enter Tryz.func42, Tryz.ntmps42
      go_wp2_with fail
      go_region_with (go_at_call 53; refine (har.out _ ((hb0 _).drew)).mono ?_; rintro e' W1 ⟨rfl, hb1⟩; obtain ⟨d1, hbf⟩ := hbx.out W1 hb1)
      all_goals go_wp2
      all_goals go_ret
      all_goals exact ⟨rfl, hbf⟩
    · rw [if_neg h1] at hck
      rw [hck.out]
      have h1' : ((n : Int) == (a.args.length : Int)) = false := by simp; omega
      have h1'' : ¬ (n : Int) = (a.args.length : Int) := by omega
      clear hck
      go_enter Tryz.func42, Tryz.ntmps42
      go_wp2_with fail
      go_region_with (go_at_call 53; refine (har.out _ ((hb0 _).drew)).mono ?_; rintro e' W1 ⟨rfl, hb1⟩; obtain ⟨d1, hbf⟩ := hbx.out W1 hb1)
      all_goals go_wp2
      all_goals go_ret
      all_goals exact ⟨rfl, hbf⟩

end Go.Proofs.YtjajnhemgphefaaGreatDoor
