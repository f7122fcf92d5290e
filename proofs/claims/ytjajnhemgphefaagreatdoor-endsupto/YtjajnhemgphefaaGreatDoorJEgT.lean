/-
  The engine's data: what its least model asks for.
  The text of rules as it is written, in plain data.
  rules.check: the first error of rules that are well written, and the number of its rule.
  rules.Read: a text is read and checked.
  The engine: checkRelation, Until.
  The engine: Until.
  The engine: Ask.
  The engine in memory: its block and the row of its facts are changed; a feed is added.
  The engine in memory: a feed is added, a fact is kept.
  The engine: one of its feeds is changed; Poll.
  The engine's data: what its methods answer, and that it stays as it should be.
  The engine: what accept and move call: the names copied, no facts to delete.
-/
import Derived.Test.YtjajnhemgphefaaGreatDoorJWyG
import Derived.Test.YtjajnhemgphefaaGreatDoorJIdx
import Derived.Lib.ItoaNum
import Derived.Test.YtjajnhemgphefaaGreatDoorJArity
import Derived.Test.YtjajnhemgphefaaGreatDoorJRangeN
import Derived.Test.YtjajnhemgphefaaGreatDoorJRangeM
import Derived.Test.YtjajnhemgphefaaGreatDoorJEgI
import Derived.Test.YtjajnhemgphefaaGreatDoorJEgE
import Derived.Test.YtjajnhemgphefaaGreatDoorJGr
namespace Go.Proofs.YtjajnhemgphefaaGreatDoor
open Go.RowKit Go.Shelf Go.Maps
set_option linter.unusedVariables false
set_option linter.unusedSimpArgs false

theorem arOf_mem {l : List Am} {x : List UInt8} {n : Nat} (h : arOf l x = some n) : ∃ a ∈ l, a.rel.data.toList = x ∧ a.args.length = n := by
  unfold arOf at h
  cases hf : l.find? (fun a => a.rel.data.toList == x) with
  | none => rw [hf] at h; cases h
  | some a =>
    rw [hf] at h
    simp only [Option.map_some, Option.some.injEq] at h
    exact ⟨a, List.mem_of_find?_eq_some hf, by simpa using List.find?_some hf, h⟩
theorem arR_cases {rs : List Rl} (h : RsOk rs) (x : ByteArray) : arR rs x = 1 ∨ arR rs x = 2 ∨ arR rs x = 0 := by
  unfold arR
  cases ha : arOf (rs.flatMap ruleAms) x.data.toList with
  | none => exact .inr (.inr rfl)
  | some n =>
    obtain ⟨a, h1, _, h3⟩ := arOf_mem ha
    rcases (h.arity a h1).2 with e | e
    · left; show n = 1; omega
    · right; left; show n = 2; omega
theorem head_mem {rs : List Rl} {r : Rl} (hr : r ∈ rs) : r.head ∈ rs.flatMap ruleAms := List.mem_flatMap.2 ⟨r, hr, by simp [ruleAms]⟩
theorem body_mem {rs : List Rl} {r : Rl} (hr : r ∈ rs) {a : Am} (ha : a ∈ r.body) : a ∈ rs.flatMap ruleAms := List.mem_flatMap.2 ⟨r, hr, by simp [ruleAms, ha]⟩
theorem rls_ok {rs : List Rl} (h : RsOk rs) : ∀ r ∈ rs, RlOk (arR rs) r ∧ r.head.args ≠ [] := fun r hr =>
  ⟨⟨⟨(h.arity _ (head_mem hr)).1, h.nums _ (head_mem hr)⟩, fun a ha => ⟨(h.arity _ (body_mem hr ha)).1, h.nums _ (body_mem hr ha)⟩, h.safe r hr⟩, fun e => by
    have := (h.arity _ (head_mem hr)).2
    rw [e] at this; simp at this⟩
theorem big {n : Nat} (h : n ≤ 1200) : n ≤ maxLen := Nat.le_trans h (by unfold maxLen; decide)
theorem use_ok {rs : List Rl} (h : RsOk rs) : ∀ r ∈ rs, UseOk r := fun r hr =>
  have hk := h.rok r hr
  ⟨⟨fun a ha => (hk.ams a ha).args, fun a ha => h.nums _ (body_mem hr ha), fun a ha => big (hk.ams a ha).rel⟩, hk.body, hk.head.args, h.nums _ (head_mem hr), big hk.head.rel, fun t ht => big (hk.head.tms t ht).name⟩
theorem rels_size {rs : List Rl} (h : RsOk rs) : ∀ x ∈ relsR rs, x.size ≤ 1200 := by
  intro x hx
  obtain ⟨a, ha, rfl⟩ := List.mem_map.1 hx
  obtain ⟨r, hr, har⟩ := List.mem_flatMap.1 ha
  have hk := h.rok r hr
  simp only [ruleAms, List.mem_cons] at har
  rcases har with rfl | har
  · exact hk.head.rel
  · exact (hk.ams a har).rel
theorem ams_len {rs : List Rl} (h : RsOk rs) : (rs.flatMap ruleAms).length ≤ 32 := by
  have h1 : ∀ l : List Rl, (∀ r ∈ l, RuleOk r) → (l.flatMap ruleAms).length ≤ l.length * 4 := by
    intro l
    induction l with
    | nil => intro _; simp
    | cons r l ih =>
      intro hk
      have := (hk r (by simp)).body
      have := ih (fun q hq => hk q (by simp [hq]))
      rw [List.flatMap_cons, List.length_append, List.length_cons]
      simp only [ruleAms, List.length_cons]
      omega
  have := h1 rs h.rok
  have := h.r8
  omega
theorem uni_small {rs : List Rl} (h : RsOk rs) {ns : List ByteArray} (h8 : ns.length ≤ 8) : (uni (relsR rs) ns).length ≤ 2400 := by
  rw [uni_len]
  have h1 : (relsR rs).length ≤ 32 := by unfold relsR; rw [List.length_map]; exact ams_len h
  have h2 : ns.length * (ns.length + 1) ≤ 8 * 9 := Nat.mul_le_mul h8 (by omega)
  have := Nat.mul_le_mul h1 h2
  omega
theorem uni_size {rs : List Rl} (h : RsOk rs) {ns : List ByteArray} (hn : ∀ x ∈ ns, x.size ≤ 1200) {g : Gd} (hg : g ∈ uni (relsR rs) ns) : g.rel.size ≤ 1200 ∧ g.x.size ≤ 1200 ∧ g.y.size ≤ 1200 := by
  obtain ⟨h1, h2, h3⟩ := mem_uni.1 hg
  refine ⟨rels_size h _ h1, hn _ h2, ?_⟩
  rcases h3 with h3 | h3
  · rw [h3]; decide
  · exact hn _ h3

/-- What is asked of facts. -/
def FcOk (rs : List Rl) (ns : List ByteArray) (F : List (Gd × Int)) : Prop := F.length ≤ 1000 ∧ ∀ x ∈ F, x.1 ∈ uni (relsR rs) ns ∧ arOk (arR rs) x.1 ∧ 0 ≤ x.2 ∧ x.2 ≤ 2000000
theorem given_ok {rs : List Rl} (h : RsOk rs) {ns : List ByteArray} (hnr : ∀ r ∈ rs, ∀ t ∈ r.head.args, t.name ≠ eB → t.name ∈ ns) : ∀ x ∈ givenL rs, x.1 ∈ uni (relsR rs) ns ∧ arOk (arR rs) x.1 := by
  intro x hx
  unfold givenL at hx
  obtain ⟨r, hr, hx⟩ := List.mem_filterMap.1 hx
  split at hx
  · rename_i hb
    cases hx
    have hro := rls_ok h r hr
    have hao := head_ok (arR_cases h) hro.1 hro.2 (p := nms0) (by rw [hb]; simp)
    have hnm : ∀ t ∈ r.head.args, ofT nms0 t ∈ ns := by
      intro t ht
      by_cases he : t.name = eB
      · obtain ⟨a, ha, _⟩ := h.safe r hr t ht he
        rw [hb] at ha; simp at ha
      · rw [ofT_name he]; exact hnr r hr t ht he
    refine ⟨mem_uni.2 ⟨List.mem_map.2 ⟨r.head, head_mem hr, rfl⟩, ?_, ?_⟩, hao⟩
    · show xOf nms0 r.head.args ∈ ns
      match ha : r.head.args, hro.2 with
      | t :: l, _ => exact hnm t (by rw [ha]; simp)
    · show yOf nms0 r.head.args = eB ∨ yOf nms0 r.head.args ∈ ns
      match ha : r.head.args, hro.2 with
      | [t], _ => exact .inl rfl
      | t :: u :: l, _ => exact .inr (hnm u (by rw [ha]; simp))
  · cases hx
theorem ls_ok {rs : List Rl} (h : RsOk rs) {ns : List ByteArray} (h8 : ns.length ≤ 8) (hn : ∀ x ∈ ns, x.size ≤ 1200) (hnr : ∀ r ∈ rs, ∀ t ∈ r.head.args, t.name ≠ eB → t.name ∈ ns) {F : List (Gd × Int)} (hF : FcOk rs ns F) : LsOk (arR rs) rs F (uni (relsR rs) ns) := by
  have hall : ∀ x ∈ F ++ givenL rs, x.1 ∈ uni (relsR rs) ns ∧ arOk (arR rs) x.1 := by
    intro x hx
    rcases List.mem_append.1 hx with hx | hx
    · exact ⟨(hF.2 x hx).1, (hF.2 x hx).2.1⟩
    · exact given_ok h hnr x hx
  have hok := uni_ok (rels := relsR rs) (NS := ns) (fun x hx => big (rels_size h x hx)) (fun x hx => big (hn x hx))
  exact ⟨arR_cases h, rls_ok h, use_ok h, h.r8, fun x hx => ⟨(hall x hx).2, hok _ (hall x hx).1⟩, fun x hx => (hall x hx).1, fun x hx => (hF.2 x hx).2.2, uni_closed (rls_ok h) (fun r hr => List.mem_map.2 ⟨r.head, head_mem hr, rfl⟩) hnr, hok, uni_small h h8, hF.1⟩
theorem least_in {rs : List Rl} (h : RsOk rs) {ns : List ByteArray} (hnr : ∀ r ∈ rs, ∀ t ∈ r.head.args, t.name ≠ eB → t.name ∈ ns) {F : List (Gd × Int)} (hF : FcOk rs ns F) {M : Gd → Option Int} (hM : LeastM rs (F ++ givenL rs) M) : ∀ g, (M g).isSome = true → arOk (arR rs) g ∧ g ∈ uni (relsR rs) ns := by
  intro g hg
  obtain ⟨t, ht⟩ := Option.isSome_iff_exists.1 hg
  refine hM.sound g t ht (t - 1) (by omega) (fun g => arOk (arR rs) g ∧ g ∈ uni (relsR rs) ns) (fun x hx _ => ?_) (fun r hr h0 p hb => ?_)
  · rcases List.mem_append.1 hx with hx | hx
    · exact ⟨(hF.2 x hx).2.1, (hF.2 x hx).1⟩
    · exact ⟨(given_ok h hnr x hx).2, (given_ok h hnr x hx).1⟩
  · exact ⟨head_ok (arR_cases h) (rls_ok h r hr).1 (rls_ok h r hr).2 (fun a ha => (hb a ha).1), uni_closed (rls_ok h) (fun r hr => List.mem_map.2 ⟨r.head, head_mem hr, rfl⟩) hnr r hr h0 p (fun a ha => ⟨(hb a ha).2, (hb a ha).1⟩)⟩
theorem uni_mono {rels ns ns' : List ByteArray} (h : ∀ x ∈ ns, x ∈ ns') {g : Gd} (hg : g ∈ uni rels ns) : g ∈ uni rels ns' := by
  obtain ⟨h1, h2, h3⟩ := mem_uni.1 hg
  exact mem_uni.2 ⟨h1, h _ h2, h3.imp id (h _)⟩
theorem fit_few {M : Gd → Option Int} {a : Am} {gs : List Gd} {rels ns : List ByteArray} (h : fitP M a gs) (hM : ∀ g, (M g).isSome = true → g ∈ uni rels ns) (h8 : ns.length ≤ 8) : gs.length ≤ 72 := by
  obtain ⟨ks, k1, k2, rfl⟩ := h
  have h1 : ks.length ≤ (ns.flatMap fun x => (eB :: ns).map fun y => (x, y)).length := by
    refine List.Nodup.length_le_of_subset k1 (fun k hk => ?_)
    obtain ⟨_, _, h3⟩ := (k2 k.1 k.2).1 hk
    obtain ⟨_, m2, m3⟩ := mem_uni.1 (hM _ h3)
    refine List.mem_flatMap.2 ⟨k.1, m2, List.mem_map.2 ⟨k.2, ?_, rfl⟩⟩
    rcases m3 with e | e
    · simp only [List.mem_cons]; left; exact e
    · exact List.mem_cons_of_mem _ e
  have h2 : (ns.flatMap fun x => (eB :: ns).map fun y => (x, y)).length = ns.length * (ns.length + 1) := by
    have : ∀ (l m : List ByteArray), (l.flatMap fun x => m.map fun y => (x, y)).length = l.length * m.length := by
      intro l m
      induction l with
      | nil => simp
      | cons x l ih => rw [List.flatMap_cons, List.length_append, ih, List.length_map, List.length_cons, Nat.succ_mul]; omega
    rw [this]; rfl
  have h3 : ns.length * (ns.length + 1) ≤ 8 * 9 := Nat.mul_le_mul h8 (by omega)
  have h4 : ((ks.filterMap (fun k => matchA nms0 a k.1 k.2)).map (fun p => groundA p a)).length ≤ ks.length := by rw [List.length_map]; exact List.length_filterMap_le _ _
  omega

end Go.Proofs.YtjajnhemgphefaaGreatDoor

namespace Go.Proofs.YtjajnhemgphefaaGreatDoor
open Go.RowKit Go.Shelf
set_option linter.unusedVariables false
set_option linter.unusedSimpArgs false

def termTxt (t : Tm) : List UInt8 := if t.name.toList.isEmpty = true then 88 :: Lib.decDigits t.num else t.name.data.toList
def argsTxt : Nat → List Tm → List UInt8
  | _, [] => []
  | i, t :: l => (if i = 0 then [] else [44]) ++ termTxt t ++ argsTxt (i + 1) l
def atomTxt (a : Am) : List UInt8 := a.rel.data.toList ++ 40 :: argsTxt 0 a.args ++ [41]
def bodyTxt : Nat → List Am → List UInt8
  | _, [] => []
  | i, a :: l => (if i = 0 then [32, 58, 45, 32] else [44, 32]) ++ atomTxt a ++ bodyTxt (i + 1) l
def ruleTxt (r : Rl) : List UInt8 := atomTxt r.head ++ bodyTxt 0 r.body ++ [46, 10]
def rulesTxt (rs : List Rl) : List UInt8 := rs.flatMap ruleTxt

end Go.Proofs.YtjajnhemgphefaaGreatDoor

namespace Go.Proofs.YtjajnhemgphefaaGreatDoor
open Go.RowKit Go.Shelf
set_option linter.unusedVariables false
set_option linter.unusedSimpArgs false

set_option maxHeartbeats 400000 in
theorem check_any (v : Value) (rs : List Rl) (base b45 b87 : Nat) (w : World) (hR : RulesAt w base b45 b87 v rs) (hrow : ∀ g, v.ownBlock = some g → g < w.heap.size) (h8 : rs.length ≤ 8) (hok : ∀ r ∈ rs, RuleOk r) :
    Calls Tryz.prog 61 #[v] w fun e w' => e = .returned (.tuple #[.int .i64 (checkS rs).1, .int .i64 (checkS rs).2]) ∧ Below w.heap.size w w' := by
  have h1 := findArity_any v rs base b45 b87 w hR hrow h8 hok
  have h2 : ∀ W, Below w.heap.size w W → Calls Tryz.prog 101 #[v, .func (.func 102) #[] #[]] W fun e w' => e = .returned (.int .i64 (firstLoose rs)) ∧ Below w.heap.size w w' := fun W hb =>
    (idxRules_any v rs base b45 b87 W (hR.rk (RuleKept.ofBelow hb)) (fun g hg => Nat.lt_of_lt_of_le (hrow g hg) hb.size) h8 hok).mono (fun e w' h => ⟨h.1, hb.trans (h.2.mono hb.size)⟩)
  have h3 : ∀ W, Below w.heap.size w W → Calls Tryz.prog 103 #[v] W fun e w' => e = .returned (.int .i64 (manyFrom [] 0 rs)) ∧ Below w.heap.size w w' := fun W hb =>
    (findManyNames_any v rs base b45 b87 W (hR.rk (RuleKept.ofBelow hb)) (fun g hg => Nat.lt_of_lt_of_le (hrow g hg) hb.size) h8 hok).mono (fun e w' h => ⟨h.1, hb.trans (h.2.mono hb.size)⟩)
  obtain ⟨a, c, rfl⟩ := hR.form
  have hcs : Hid (checkS rs = if 0 ≤ arityFrom [] 0 rs then (4, arityFrom [] 0 rs) else if 0 ≤ firstLoose rs then (5, firstLoose rs) else if 0 ≤ manyFrom [] 0 rs then (3, manyFrom [] 0 rs) else (0, 0)) := rfl
  have H1 : Hid _ := h1
  have H2 : Hid _ := h2
  have H3 : Hid _ := h3
  clear h1 h2 h3 hR hrow hok
  generalize arityFrom [] 0 rs = ar at *
  generalize firstLoose rs = fu at *
  generalize manyFrom [] 0 rs = mn at *
  generalize checkS rs = cs at *
  by_cases ha : 0 ≤ ar
  · have hfin : Hid (cs = (4, ar)) := by show _ = _; rw [hcs.out, if_pos ha]
    go_enter Tryz.func61, Tryz.ntmps61
    go_wp2_with fail
    refine Calls.mono H1.out ?_
    rintro e w1 ⟨rfl, hb1⟩
    go_wp2
    go_ret2
    rw [hfin.out]
    exact ⟨rfl, hb1⟩
  have ha' : ¬ (0 ≤ ar) := ha
  by_cases hu : 0 ≤ fu
  · have hfin : Hid (cs = (5, fu)) := by show _ = _; rw [hcs.out, if_neg ha, if_pos hu]
    go_enter Tryz.func61, Tryz.ntmps61
    go_wp2_with fail
    refine Calls.mono H1.out ?_
    rintro e w1 ⟨rfl, hb1⟩
    go_wp2_with fail
    refine Calls.mono (H2.out w1 hb1) ?_
    rintro e w2 ⟨rfl, hb2⟩
    go_wp2
    go_ret2
    rw [hfin.out]
    exact ⟨rfl, hb2⟩
  by_cases hm : 0 ≤ mn
  · have hfin : Hid (cs = (3, mn)) := by show _ = _; rw [hcs.out, if_neg ha, if_neg hu, if_pos hm]
    go_enter Tryz.func61, Tryz.ntmps61
    go_wp2_with fail
    refine Calls.mono H1.out ?_
    rintro e w1 ⟨rfl, hb1⟩
    go_wp2_with fail
    refine Calls.mono (H2.out w1 hb1) ?_
    rintro e w2 ⟨rfl, hb2⟩
    go_wp2_with fail
    refine Calls.mono (H3.out w2 hb2) ?_
    rintro e w3 ⟨rfl, hb3⟩
    go_wp2
    go_ret2
    rw [hfin.out]
    exact ⟨rfl, hb3⟩
  · have hfin : Hid (cs = (0, 0)) := by show _ = _; rw [hcs.out, if_neg ha, if_neg hu, if_neg hm]
    go_enter Tryz.func61, Tryz.ntmps61
    go_wp2_with fail
    refine Calls.mono H1.out ?_
    rintro e w1 ⟨rfl, hb1⟩
    go_wp2_with fail
    refine Calls.mono (H2.out w1 hb1) ?_
    rintro e w2 ⟨rfl, hb2⟩
    go_wp2_with fail
    refine Calls.mono (H3.out w2 hb2) ?_
    rintro e w3 ⟨rfl, hb3⟩
    go_wp2
    go_ret2
    rw [hfin.out]
    exact ⟨rfl, hb3⟩

end Go.Proofs.YtjajnhemgphefaaGreatDoor

namespace Go.Proofs.YtjajnhemgphefaaGreatDoor
open Go.RowKit Go.Shelf
set_option linter.unusedVariables false
set_option linter.unusedSimpArgs false

def rulesR (s : ByteArray) : List UInt8 × Int × Int :=
  if 300 < Lib.runeCount s then ([], 1, 0)
  else match parseR s with
    | .error (c, p) => ([], c, p)
    | .ok rs => if (checkS rs).1 = 0 then (rulesTxt rs, 0, 0) else ([], (checkS rs).1, (checkS rs).2)

theorem parseR_err (s : ByteArray) (c : Int) (p : Nat) (h : parseR s = .error (c, p)) : c ≠ 0 := by
  unfold parseR at h
  split at h
  · rename_i st ep hf
    cases h
    exact foldP_err _ _ _ _ _ hf
  · split at h
    · cases h
    · cases h; decide

/-- What parse answers, as Read takes it. -/
def ReadAt (s : ByteArray) (w : World) (e : Ending) (w' : World) : Prop :=
  Below w.heap.size w w' ∧ ((∃ c p : Int, e = .returned (.tuple #[.slice none 0 0, .int .i64 c, .int .i64 p]) ∧ c ≠ 0 ∧ rulesR s = ([], c, p)) ∨
    (∃ rs v b45 b87, e = .returned (.tuple #[v, .int .i64 0, .int .i64 0]) ∧ RulesAt w' w.heap.size b45 b87 v rs ∧ rs.length ≤ 8 ∧ (∀ r ∈ rs, RuleOk r) ∧ rulesR s = (if (checkS rs).1 = 0 then (rulesTxt rs, 0, 0) else ([], (checkS rs).1, (checkS rs).2)) ∧ parseR s = .ok rs))

theorem parse_any (s : ByteArray) (w : World) (hs : s.size ≤ 4611686018427387904) (hT : Lib.Utf8Tabs 0 1 w) :
    Calls Tryz.prog 60 #[.string s] w (ReadAt s w) := by
  by_cases hl : 300 < Lib.runeCount s
  · refine (parse_long s w hs hl).mono ?_
    rintro e w' ⟨rfl, hb⟩
    exact ⟨hb, .inl ⟨1, 0, rfl, by decide, by unfold rulesR; rw [if_pos hl]⟩⟩
  · refine (parse_short s w (by omega) hT).mono ?_
    rintro e w' ⟨hb, h⟩
    refine ⟨hb, ?_⟩
    cases hp : parseR s with
    | error cp =>
      obtain ⟨c, p⟩ := cp
      rw [hp] at h
      exact .inl ⟨c, p, h, parseR_err s c p hp, by unfold rulesR; rw [if_neg hl, hp]⟩
    | ok rs =>
      rw [hp] at h
      obtain ⟨v, b45, b87, h1, _, _, h2, h3, h4⟩ := h
      exact .inr ⟨rs, v, b45, b87, h1, h2, h3, h4, by unfold rulesR; rw [if_neg hl, hp], rfl⟩

theorem rules_row {W : World} {base b45 b87 : Nat} {v : Value} {rs : List Rl} (h : RulesAt W base b45 b87 v rs) : ∀ g, v.ownBlock = some g → g < W.heap.size := by
  intro g hg
  obtain ⟨qs, r1, r2, r3⟩ := h
  obtain ⟨_, c, hc⟩ := owns_block r2 hg
  exact (Array.getElem?_eq_some_iff.1 hc).1

/-- What Read answers, as Rules takes it. -/
def RulesPost (s : ByteArray) (w : World) (e : Ending) (w' : World) : Prop :=
  Below w.heap.size w w' ∧ ((∃ c p : Int, e = .returned (.tuple #[.slice none 0 0, .int .i64 c, .int .i64 p]) ∧ c ≠ 0 ∧ rulesR s = ([], c, p)) ∨
    (∃ rs v b45 b87, e = .returned (.tuple #[v, .int .i64 0, .int .i64 0]) ∧ RulesAt w' w.heap.size b45 b87 v rs ∧ rs.length ≤ 8 ∧ (∀ r ∈ rs, RuleOk r) ∧ rulesR s = (rulesTxt rs, 0, 0) ∧ parseR s = .ok rs ∧ (checkS rs).1 = 0))

set_option maxHeartbeats 1000000 in
theorem readAll_any (s : ByteArray) (w : World) (hs : s.size ≤ 4611686018427387904) (hT : Lib.Utf8Tabs 0 1 w) :
    Calls Tryz.prog 30 #[.string s] w (RulesPost s w) := by
  have h1 := parse_any s w hs hT
  have H1 : Hid _ := h1
  clear h1
  go_enter Tryz.func30, Tryz.ntmps30
  go_wp2_with fail
  refine Calls.mono H1.out ?_
  rintro e w1 ⟨hb1, ⟨c, p, rfl, hc, hr⟩ | ⟨rs, v, b45, b87, rfl, hR, h8, hok, hr, hpr⟩⟩
  · have hc' : (c == 0) = false := by simp [hc]
    have HR : Hid _ := hr
    have HCC : Hid _ := hc
    clear hr hc
    go_wp2
    go_ret3
    exact ⟨hb1, .inl ⟨c, p, rfl, HCC.out, HR.out⟩⟩
  · obtain ⟨va, vc, rfl⟩ := hR.form
    have hck := check_any _ rs _ b45 b87 w1 hR (rules_row hR) h8 hok
    have HCK : Hid _ := hck
    have HR : Hid _ := hr
    have HRA : Hid _ := hR
    have HOK : Hid _ := hok
    have HPR : Hid _ := hpr
    clear hck hr hR hok hpr
    generalize hcs : checkS rs = cs at *
    obtain ⟨ce, cn⟩ := cs
    have HCS : Hid (checkS rs = (ce, cn)) := hcs
    clear hcs
    go_wp2_with fail
    refine Calls.mono HCK.out ?_
    rintro e w2 ⟨rfl, hb2⟩
    simp only
    by_cases hce : ce = 0
    · subst hce
      go_wp2
      go_ret3
      refine ⟨hb1.trans (hb2.mono hb1.size), .inr ⟨rs, _, b45, b87, rfl, RulesAt.rk HRA.out (RuleKept.ofBelow hb2), h8, HOK.out, ?_, HPR.out, by rw [HCS.out]⟩⟩
      exact HR.out
    · have hce' : (ce == 0) = false := by simp [hce]
      have HN : Hid _ := hce
      clear hce
      go_wp2
      go_ret3
      refine ⟨hb1.trans (hb2.mono hb1.size), .inl ⟨ce, cn, rfl, HN.out, ?_⟩⟩
      have := HR.out
      rw [if_neg HN.out] at this
      exact this

end Go.Proofs.YtjajnhemgphefaaGreatDoor

namespace Go.Proofs.YtjajnhemgphefaaGreatDoor
open Go.RowKit Go.Shelf Go.Maps
set_option linter.unusedVariables false
set_option linter.unusedSimpArgs false

/-- Whether rules have an atom's relation, with as many arguments. -/
def ckR (rs : List Rl) (a : Am) : Int := if arR rs a.rel = 0 then 7 else if arR rs a.rel = a.args.length then 0 else 4

theorem EngV.lt {W : World} {S : Nat → Prop} {be : Nat} {e : Eg} {vr vn vk vf : Value} {bm rb b45 b87 : Nat} {bfs : List Nat} {Sf : Nat → Nat → Prop} (h : EngV W S be e vr vn vk vf bm rb b45 b87 bfs Sf) : be < W.heap.size := (Array.getElem?_eq_some_iff.1 h.blk).1

set_option maxRecDepth 100000 in
set_option maxHeartbeats 1000000 in
theorem checkRel_any (S : Nat → Prop) (be : Nat) (e : Eg) (w : World) (h : EngAt w S be e) (hr : RsOk e.rs) (a : Am) (va : Value) (ta : Option Addr) (tc : Nat) (hva : va = .slice ta a.args.length tc) (hl : a.args.length ≤ 2) :
    Calls Tryz.prog 42 #[.pointer (some ⟨be, 0, none⟩), .agg #[.string a.rel, va]] w fun en w' => en = .returned (.int .i64 (ckR e.rs a)) ∧ Below w.heap.size w w' := by
  obtain ⟨vr, vn, vk, vf, bm, rb, b45, b87, bfs, Sf, hv⟩ := h
  subst hva
  have hbe := hv.lt
  have hb0 : ∀ O, Below w.heap.size w (w.alloc O) := fun O => (Below.refl _ w).alloc (Nat.le_refl _) O
  have har : Hid (∀ W, Below w.heap.size w W → Calls Tryz.prog 53 #[vr, .string a.rel] W fun e' w' => e' = .returned (.int .i64 (arR e.rs a.rel)) ∧ Below W.heap.size W w') := fun W hb => by
    have hv' := hv.below hb
    exact arity_any vr e.rs a.rel rb b45 b87 _ hv'.rules (rules_row hv'.rules) hr.r8 hr.rok
  obtain ⟨ra, rc, hrf⟩ := hv.rules.form
  subst hrf
  have hblk := hv.blk
  have c0 : ∀ O, (w.alloc O).cell? ⟨be, 0, none⟩ = some (.slice ra e.rs.length rc) := fun O => cell_later (hb0 O) (by simp [World.cell?, hblk])
  have hck : Hid (ckR e.rs a = if arR e.rs a.rel = 0 then 7 else if arR e.rs a.rel = a.args.length then 0 else 4) := rfl
  have hbx : Hid (∀ W1, Below (w.alloc (.cells #[.string a.rel, .slice ta a.args.length tc] 92)).drew.heap.size (w.alloc (.cells #[.string a.rel, .slice ta a.args.length tc] 92)).drew W1 → W1.cell? ⟨w.heap.size, 1, none⟩ = some (.slice ta a.args.length tc) ∧ Below w.heap.size w W1) := fun W1 hb => by
    have := (hb.block w.heap.size (by show _ < (w.alloc _).heap.size; simp)).trans (World.alloc_heap_new w _)
    exact ⟨by simp [World.cell?, this], ((hb0 _).drew).trans (hb.mono (by show _ ≤ (w.alloc _).heap.size; simp))⟩
  clear hv hblk
  generalize hn : arR e.rs a.rel = n at *
  clear hn
  by_cases h0 : n = 0
  · subst h0
    rw [if_pos rfl] at hck
    rw [hck.out]
    go_enter Tryz.func42, Tryz.ntmps42
    go_wp2_with fail
    go_region_with (go_at_call 53; refine (har.out _ ((hb0 _).drew)).mono ?_; rintro e' W1 ⟨rfl, hb1⟩; obtain ⟨d1, hbf⟩ := hbx.out W1 hb1)
    all_goals go_wp2
    all_goals go_ret
    all_goals exact ⟨rfl, hbf⟩
  · rw [if_neg h0] at hck
    have h0' : ((n : Int) == 0) = false := by simp [h0]
    have h0'' : ¬ (n : Int) = 0 := by omega
    by_cases h1 : n = a.args.length
    · rw [if_pos h1] at hck
      rw [hck.out]
      subst h1
      clear hck
      go_enter Tryz.func42, Tryz.ntmps42
      go_wp2_with fail
      go_region_with (go_at_call 53; refine (har.out _ ((hb0 _).drew)).mono ?_; rintro e' W1 ⟨rfl, hb1⟩; obtain ⟨d1, hbf⟩ := hbx.out W1 hb1)
      all_goals go_wp2
      all_goals go_ret
      all_goals exact ⟨rfl, hbf⟩
    · rw [if_neg h1] at hck
      rw [hck.out]
      have h1' : ((n : Int) == (a.args.length : Int)) = false := by simp; omega
      have h1'' : ¬ (n : Int) = (a.args.length : Int) := by omega
      clear hck
      go_enter Tryz.func42, Tryz.ntmps42
      go_wp2_with fail
      go_region_with (go_at_call 53; refine (har.out _ ((hb0 _).drew)).mono ?_; rintro e' W1 ⟨rfl, hb1⟩; obtain ⟨d1, hbf⟩ := hbx.out W1 hb1)
      all_goals go_wp2
      all_goals go_ret
      all_goals exact ⟨rfl, hbf⟩

end Go.Proofs.YtjajnhemgphefaaGreatDoor

namespace Go.Proofs.YtjajnhemgphefaaGreatDoor
open Go.RowKit Go.Shelf Go.Maps
set_option linter.unusedVariables false
set_option linter.unusedSimpArgs false

/-- What Until answers. -/
def untilR (e : Eg) (s : ByteArray) : Int × Int := match atomR s with
  | none => (0, 2)
  | some a => if groundB a = false then (0, 2) else if ckR e.rs a = 0 then ((e.M (groundA nms0 a)).getD 0, 0) else (0, ckR e.rs a)

theorem atom_gd {a : Am} (h : AmOk a) : GdOk (groundA nms0 a) := ground_ok (fun k => ba_nil k) (big h.rel) (fun t ht => big (h.tms t ht).name)

set_option maxRecDepth 100000 in
set_option maxHeartbeats 4000000 in
theorem until_any (S : Nat → Prop) (be : Nat) (e : Eg) (s : ByteArray) (w : World) (h : EngAt w S be e) (hok : EgOk e) (hs : s.size ≤ 4611686018427387904) (hT : Lib.Utf8Tabs 0 1 w) (hn : ∀ a, atomR s = some a → ∀ t ∈ a.args, t.num < 6) :
    Calls Tryz.prog 24 #[.pointer (some ⟨be, 0, none⟩), .string s] w fun en w' => en = .returned (.tuple #[.int .i64 (untilR e s).1, .int .i64 (untilR e s).2]) ∧ Below w.heap.size w w' := by
  have hrg := readGround_any s w hs hT
  unfold GroundPost at hrg
  cases ha : atomR s with
  | none =>
    rw [ha] at hrg
    have hu : Hid (untilR e s = (0, 2)) := by show _ = _; unfold untilR; rw [ha]
    have HR : Hid _ := hrg
    clear hrg ha h hok
    rw [hu.out]
    go_enter Tryz.func24, Tryz.ntmps24
    go_wp2_with (go_at_call 40; refine Calls.mono HR.out ?_; rintro e' W1 ⟨hb1, rfl⟩)
    go_ret2
    exact ⟨rfl, hb1.alloc hb1.size _⟩
  | some a =>
    rw [ha] at hrg
    have hn' := hn a ha
    have hu : Hid (untilR e s = if groundB a = false then (0, 2) else if ckR e.rs a = 0 then ((e.M (groundA nms0 a)).getD 0, 0) else (0, ckR e.rs a)) := by show _ = _; unfold untilR; rw [ha]
    obtain ⟨gb, hgb⟩ : ∃ gb, groundB a = gb := ⟨_, rfl⟩
    have HR : Hid (Calls Tryz.prog 40 #[.string s] w fun e' w' => Below w.heap.size w w' ∧ ∃ va, e' = .returned (.tuple #[.agg #[.string a.rel, va], .bool gb]) ∧ AmOk a ∧ SealT w' w'.heap.size va a.args) := by
      show Calls _ _ _ _ _
      rw [← hgb]; exact hrg
    rw [hgb] at hu
    have hEW : Hid (∀ W, Below w.heap.size w W → EngAt W S be e) := fun W hb => h.below hb
    obtain ⟨vr, vn, vk, vf, bm, rb, b45, b87, bfs, Sf, hv⟩ := h
    have hblk : Hid (∀ W, Below w.heap.size w W → W.heap[be]? = some (Obj.cells #[vr, .int .i64 e.win, .int .i64 e.lat, .int .i64 e.que, .int .i64 e.mark, vn, vk, .map (some bm), vf] 101 (0, 0)) ∧ MdAt W bm 5000 e.M) := fun W hb => ⟨(hv.below hb).blk, (hv.below hb).md⟩
    have HRS : Hid (RsOk e.rs) := hok.rs
    clear hrg ha hv hok hT hn
    clear hgb
    cases gb with
    | false =>
      rw [if_pos rfl] at hu
      rw [hu.out]
      clear hu
      go_enter Tryz.func24, Tryz.ntmps24
      go_wp2_with (go_at_call 40; refine Calls.mono HR.out ?_; rintro e' W1 ⟨hb1, va, rfl, hak, hsl⟩; obtain ⟨xa, xc, hxf⟩ := hsl.form; subst hxf; have HAK : Hid _ := hak; have HSL : Hid _ := hsl; clear hak hsl)
      go_ret2
      exact ⟨rfl, hb1.alloc hb1.size _⟩
    | true =>
      rw [if_neg (by decide)] at hu
      go_enter Tryz.func24, Tryz.ntmps24
      go_wp2_with fail
      refine Calls.mono HR.out ?_
      rintro e' W1 ⟨hb1, va, rfl, hak, hsl⟩
      obtain ⟨xa, xc, hxf⟩ := hsl.form
      subst hxf
      have hckc : Hid (∀ W, Below w.heap.size w W → Calls Tryz.prog 42 #[.pointer (some ⟨be, 0, none⟩), .agg #[.string a.rel, .slice xa a.args.length xc]] W fun en w' => en = .returned (.int .i64 (ckR e.rs a)) ∧ Below W.heap.size W w') := fun W hb => checkRel_any S be e W (hEW.out W hb) HRS.out a _ _ _ rfl hak.args
      have hof : Hid (∀ W, Below W1.heap.size W1 W → Calls Tryz.prog 48 #[.agg #[.string a.rel, .slice xa a.args.length xc]] W fun e w' => e = .returned (.agg #[.string (groundA nms0 a).rel, .string (groundA nms0 a).x, .string (groundA nms0 a).y]) ∧ Below W.heap.size W w') := fun W hb => of_atom_any a _ W1.heap.size W (hsl.rk (RuleKept.ofBelow hb)) hak.args hn'
      have hen : Hid (∀ W, Below w.heap.size w W → Calls Tryz.prog 47 #[.map (some bm), .agg #[.string (groundA nms0 a).rel, .string (groundA nms0 a).x, .string (groundA nms0 a).y]] W fun e' w' => e' = .returned (.int .i64 ((e.M (groundA nms0 a)).getD 0)) ∧ Below W.heap.size W w') := fun W hb => end_any bm 5000 e.M (groundA nms0 a) (atom_gd hak) W (hblk.out W hb).2
      have hW1 : w.heap.size ≤ W1.heap.size := hb1.size
      have hbA : Hid (Below w.heap.size w (W1.alloc (.cells #[.string a.rel, .slice xa a.args.length xc] 92)) ∧ Below W1.heap.size W1 (W1.alloc (.cells #[.string a.rel, .slice xa a.args.length xc] 92))) := ⟨hb1.alloc hb1.size _, (Below.refl _ W1).alloc (Nat.le_refl _) _⟩
      have hbox : Hid (∀ W2, Below (W1.alloc (.cells #[.string a.rel, .slice xa a.args.length xc] 92)).heap.size (W1.alloc (.cells #[.string a.rel, .slice xa a.args.length xc] 92)) W2 → W2.heap[W1.heap.size]? = some (Obj.cells #[.string a.rel, .slice xa a.args.length xc] 92 (0, 0)) ∧ Below w.heap.size w W2 ∧ Below W1.heap.size W1 W2) := fun W2 hb =>
        ⟨(hb.block _ (by simp)).trans (World.alloc_heap_new W1 _), hbA.out.1.trans (hb.mono (by simp; omega)), hbA.out.2.trans (hb.mono (by simp))⟩
      clear hak hsl hEW
      by_cases hck : ckR e.rs a = 0
      · rw [if_pos hck] at hu
        rw [hck] at hckc
        clear hck
        go_wp2_with fail
        refine (hckc.out _ hbA.out.1).mono ?_
        rintro e' W2 ⟨rfl, hb2⟩
        obtain ⟨p1, hb3, hb4⟩ := hbox.out W2 hb2
        have t0 : W2.cell? ⟨W1.heap.size, 0, none⟩ = some (.string a.rel) := by simp [World.cell?, p1]
        have t1 : W2.cell? ⟨W1.heap.size, 1, none⟩ = some (.slice xa a.args.length xc) := by simp [World.cell?, p1]
        have q1 := (hblk.out W2 hb3).1
        have t7 : W2.cell? ⟨be, 7, none⟩ = some (.map (some bm)) := by simp [World.cell?, q1]
        have hD2 : Hid (Below W1.heap.size W1 W2.drew ∧ Below w.heap.size w W2.drew) := ⟨hb4.drew, hb3.drew⟩
        have hafter : Hid (∀ W3, Below W2.drew.heap.size W2.drew W3 → Below w.heap.size w W3 ∧ W3.cell? ⟨be, 7, none⟩ = some (.map (some bm))) := fun W3 hb => by
          have hx : Below w.heap.size w W3 := hb3.drew.trans (hb.mono (by show _ ≤ W2.heap.size; exact hb3.size))
          have := (hblk.out W3 hx).1
          exact ⟨hx, by simp [World.cell?, this]⟩
        clear p1 q1 hb2
        go_wp2_with fail
        first | (go_region_with (first | (go_at_call 48; refine (hof.out _ hD2.out.1).mono ?_; rintro e' W3 ⟨rfl, hb5⟩; obtain ⟨hb6, s7⟩ := hafter.out W3 hb5) | (go_at_call 47; refine (hen.out W3 hb6).mono ?_; rintro e' W4 ⟨rfl, hb7⟩))) | fail
        all_goals go_wp2
        all_goals go_ret2
        all_goals exact ⟨by rw [hu.out]; rfl, hb6.trans (hb7.mono hb6.size)⟩
      · rw [if_neg hck] at hu
        have hck' : (ckR e.rs a == 0) = false := by simp [hck]
        generalize ckR e.rs a = ck at *
        go_wp2_with (go_at_call 42; refine (hckc.out _ hbA.out.1).mono ?_; rintro e' W2 ⟨rfl, hb2⟩; obtain ⟨p1, hb3, hb4⟩ := hbox.out W2 hb2)
        go_ret2
        exact ⟨by rw [hu.out]; rfl, hb3⟩

end Go.Proofs.YtjajnhemgphefaaGreatDoor

namespace Go.Proofs.YtjajnhemgphefaaGreatDoor
open Go.RowKit Go.Shelf Go.Maps
set_option linter.unusedVariables false
set_option linter.unusedSimpArgs false

theorem md_size {e : Eg} (h : EgOk e) (rel x y : ByteArray) (hx : (e.M ⟨rel, x, y⟩).isSome = true) : x.size ≤ 2000 ∧ y.size ≤ 2000 := by
  have := uni_size h.rs h.nsz (h.md _ hx).2
  exact ⟨Nat.le_trans this.2.1 (by decide), Nat.le_trans this.2.2 (by decide)⟩

end Go.Proofs.YtjajnhemgphefaaGreatDoor

namespace Go.Proofs.YtjajnhemgphefaaGreatDoor
open Go.RowKit Go.Shelf Go.Maps
set_option linter.unusedVariables false
set_option linter.unusedSimpArgs false

/-- The engine's own block, and the row of its facts, are changed. -/
theorem EngV.put {W W' : World} {S : Nat → Prop} {be : Nat} {e e' : Eg} {vr vn vk vf vn' vk' : Value} {bm bm' rb b45 b87 : Nat} {bfs : List Nat} {Sf : Nat → Nat → Prop} (h : EngV W S be e vr vn vk vf bm rb b45 b87 bfs Sf)
    (hc : Chg W W' (fun k => k = be ∨ vk.ownBlock = some k)) (hrs : e'.rs = e.rs) (hfds : e'.fds = e.fds)
    (blk : W'.heap[be]? = some (Obj.cells #[vr, .int .i64 e'.win, .int .i64 e'.lat, .int .i64 e'.que, .int .i64 e'.mark, vn', vk', .map (some bm'), vf] 101 (0, 0)))
    (names : W'.ownsRow 0 9 1 vn' e'.names.length (e'.names.map Value.string)) (kept : W'.ownsRow 0 161 4 vk' e'.kept.length (e'.kept.flatMap lastC)) (md : MdAt W' bm' 5000 e'.M) :
    EngV W' (fun k => (S k ∧ vk.ownBlock ≠ some k) ∨ vk'.ownBlock = some k ∨ vn'.ownBlock = some k) be e' vr vn' vk' vf bm' rb b45 b87 bfs Sf := by
  have hex : ∀ (j : Nat) (c : Array Value) (t : TypeId), W.heap[j]? = some (Obj.cells c t (0, 0)) → t ≠ 101 → t ≠ 161 → ¬ (j = be ∨ vk.ownBlock = some j) := by
    rintro j c t hj h1 h2 (rfl | hs)
    · rw [h.blk] at hj; cases hj; exact h1 rfl
    · obtain ⟨_, c', hcc⟩ := owns_block h.kept hs
      rw [hj] at hcc; cases hcc; exact h2 rfl
  have hkT : ∀ (j : Nat) (c : Array Value) (t : TypeId), W.heap[j]? = some (Obj.cells c t (0, 0)) → t ≠ 101 → t ≠ 161 → W'.heap[j]? = some (Obj.cells c t (0, 0)) := fun j c t hj h1 h2 => (hc.block j (Array.getElem?_eq_some_iff.1 hj).1 (hex j c t hj h1 h2)).trans hj
  have hF : ∀ j, FTy W j → ¬ (j = be ∨ vk.ownBlock = some j) := by
    rintro j ⟨c, t, h1, h2⟩
    exact hex j c t h1 (by rcases h2 with rfl | rfl <;> decide) (by rcases h2 with rfl | rfl <;> decide)
  have hv : ∀ g, vf.ownBlock = some g → ¬ (g = be ∨ vk.ownBlock = some g) := by
    intro g hg
    obtain ⟨_, c, hcc⟩ := owns_block h.frow hg
    exact hex g c _ hcc (by decide) (by decide)
  have hbk : vk.ownBlock ≠ some be := fun hs => by
    obtain ⟨_, c, hcc⟩ := owns_block h.kept hs
    rw [h.blk] at hcc; cases hcc
  refine ⟨blk, ?_, names, kept, md, by rw [hfds]; exact h.len, own_keep h.frow (fun g hg hlt => hc.block g hlt (hv g hg)), fun i hi hi' => ?_, h.sep, fun i k hk => ⟨.inl ⟨(h.sub i k hk).1, fun e => hF k (h.sub i k hk).2 (.inr e)⟩, (h.sub i k hk).2.same (hc.block k (h.sub i k hk).2.lt (hF k (h.sub i k hk).2))⟩, ⟨.inl ⟨h.own.1, hbk⟩, fun g hg => .inr (.inl hg), fun g hg => .inl ⟨h.own.2.2.1 g hg, fun e => hv g hg (.inr e)⟩, fun g hg => .inr (.inr hg)⟩, fun k hk => ?_⟩
  · rw [hrs]
    exact h.rules.keep (fun j c t ht hj => hkT j c t hj (by rcases ht with rfl | rfl | rfl <;> decide) (by rcases ht with rfl | rfl | rfl <;> decide))
  · obtain ⟨b, hf⟩ := h.feed i hi (by rw [← hfds]; exact hi')
    refine ⟨b, ?_⟩
    have he : e'.fds[i]'hi' = e.fds[i]'(by rw [← hfds]; exact hi') := by simp only [hfds]
    rw [he]
    exact hf.keep (ex := fun k => k = be ∨ vk.ownBlock = some k) hc.block (fun k hs => hF k (h.sub i k hs).2) (fun k c hj => hex k c _ hj (by decide) (by decide))
  · rcases hk with ⟨h1, h2⟩ | hk | hk
    · by_cases hke : k = be
      · subst hke; exact ⟨_, _, blk, .inl rfl⟩
      · exact (h.typ k h1).same (hc.block k (h.typ k h1).lt (fun e => e.elim hke h2))
    · obtain ⟨_, c, hcc⟩ := owns_block kept hk
      exact ⟨_, _, hcc, .inr (.inl rfl)⟩
    · obtain ⟨_, c, hcc⟩ := owns_block names hk
      exact ⟨_, _, hcc, .inr (.inr (.inr (.inr (.inr rfl))))⟩

end Go.Proofs.YtjajnhemgphefaaGreatDoor

namespace Go.Proofs.YtjajnhemgphefaaGreatDoor
open Go.RowKit Go.Shelf Go.Maps
set_option linter.unusedVariables false
set_option linter.unusedSimpArgs false

/-- What an engine's method does to memory: it is an engine still. -/
def EngPost (S : Nat → Prop) (be : Nat) (e' : Eg) (w w' : World) : Prop := ∃ S', EngAt w' S' be e' ∧ (∀ k, S' k → S k ∨ w.heap.size ≤ k) ∧ Chg w w' S
theorem EngPost.same {w w' : World} {S : Nat → Prop} {be : Nat} {e : Eg} (h : EngAt w S be e) (hb : Below w.heap.size w w') : EngPost S be e w w' := ⟨S, h.below hb, fun _ hk => .inl hk, Chg.ofBelow _ hb⟩
theorem EngPost.trans {w w1 w2 : World} {S : Nat → Prop} {be : Nat} {e1 e2 : Eg} (h : EngPost S be e1 w w1) (k : ∀ S1, EngAt w1 S1 be e1 → EngPost S1 be e2 w1 w2) : EngPost S be e2 w w2 := by
  obtain ⟨S1, h1, h2, h3⟩ := h
  obtain ⟨S2, k1, k2, k3⟩ := k S1 h1
  refine ⟨S2, k1, fun j hj => ?_, k3.os.trans h3.os, k3.tape.trans h3.tape, k3.output.trans h3.output, Nat.le_trans h3.size k3.size, fun j hj hs => (k3.block j (Nat.lt_of_lt_of_le hj h3.size) (fun e => ?_)).trans (h3.block j hj hs)⟩
  · rcases k2 j hj with e | e
    · exact h2 j e
    · exact .inr (Nat.le_trans h3.size e)
  · rcases h2 j e with e | e
    · exact hs e
    · omega

/-- A fact is kept. -/
theorem acc_mem {w W5 w1 : World} {S : Nat → Prop} {be : Nat} {e : Eg} {vr vn vk vf vn' v' : Value} {bm rb b45 b87 nb : Nat} {bfs : List Nat} {Sf : Nat → Nat → Prop} (hv : EngV w S be e vr vn vk vf bm rb b45 b87 bfs Sf) (hb : Below w.heap.size w W5)
    {ns : List ByteArray} (hnb : w.heap.size ≤ nb) (hnm : W5.ownsRow nb 9 1 vn' ns.length (ns.map Value.string)) {d : Gd × Int} (O : Obj) (hown1 : w1.ownsRow 0 161 4 v' (e.kept.length + 1) (e.kept.flatMap lastC ++ lastC d))
    (hgrow : ((W5.setCell ⟨be, 5, none⟩ vn').alloc O).grownBy w1 vk.ownBlock) (hat : v'.ownBlock = vk.ownBlock ∨ v'.ownBlock = some ((W5.setCell ⟨be, 5, none⟩ vn').alloc O).heap.size) :
    w1.cell? ⟨be, 6, none⟩ = some vk ∧ w1.frozen? ⟨be, 6, none⟩ = false ∧ EngPost S be { e with names := ns, kept := e.kept ++ [d] } w (w1.setCell ⟨be, 6, none⟩ v') := by
  have h5 := hv.below hb
  have hbe := (Array.getElem?_eq_some_iff.1 h5.blk).1
  have hbk : vk.ownBlock ≠ some be := fun hs => by
    obtain ⟨_, c, hcc⟩ := owns_block h5.kept hs
    rw [h5.blk] at hcc; cases hcc
  have hsz : ((W5.setCell ⟨be, 5, none⟩ vn').alloc O).heap.size = W5.heap.size + 1 := by simp
  have b1 : w1.heap[be]? = some (Obj.cells #[vr, .int .i64 e.win, .int .i64 e.lat, .int .i64 e.que, .int .i64 e.mark, vn', vk, .map (some bm), vf] 101 (0, 0)) := by
    refine (hgrow.block be (by rw [hsz]; omega) (fun e => hbk e.symm)).trans ?_
    exact (Below.heap_alloc _ _ _ (by simpa using hbe)).trans (heap_set h5.blk 5 vn')
  have hc1 : Chg W5 w1 (fun k => k = be ∨ vk.ownBlock = some k) := (((Chg.refl W5 _).setCell ⟨be, 5, none⟩ vn' (fun _ => .inl rfl)).alloc O).grown hgrow (fun k hk _ => .inr hk)
  have hc2 : Chg W5 (w1.setCell ⟨be, 6, none⟩ v') (fun k => k = be ∨ vk.ownBlock = some k) := hc1.setCell ⟨be, 6, none⟩ v' (fun _ => .inl rfl)
  have hty : ∀ (k : Nat) (c : Array Value) (t : TypeId), W5.heap[k]? = some (Obj.cells c t (0, 0)) → t ≠ 101 → t ≠ 161 → ¬ (k = be ∨ vk.ownBlock = some k) := by
    rintro j c t hj h1 h2 (rfl | hs)
    · rw [h5.blk] at hj; cases hj; exact h1 rfl
    · obtain ⟨_, c', hcc⟩ := owns_block h5.kept hs
      rw [hj] at hcc; cases hcc; exact h2 rfl
  have hput := h5.put (W' := w1.setCell ⟨be, 6, none⟩ v') (e' := { e with names := ns, kept := e.kept ++ [d] }) (vn' := vn') (vk' := v') (bm' := bm) hc2 rfl rfl (heap_set b1 6 v')
    (own_keep (ownsRow_lower hnm (Nat.zero_le _)) (fun g hg hlt => by
      obtain ⟨_, c, hcc⟩ := owns_block hnm hg
      exact hc2.block g hlt (hty g c _ hcc (by decide) (by decide))))
    (by
      show World.ownsRow _ 0 161 4 v' (e.kept ++ [d]).length ((e.kept ++ [d]).flatMap lastC)
      rw [List.length_append, List.flatMap_append]
      simp only [List.length_cons, List.length_nil, Nat.zero_add, List.flatMap_cons, List.flatMap_nil, List.append_nil]
      exact owns_set hown1 ⟨be, 6, none⟩ v' (owns_ne hown1 b1 (by decide)))
    (h5.md.kept (fun j es c hm => (hc2.block j (Array.getElem?_eq_some_iff.1 hm).1 (by
      rintro (rfl | hs)
      · rw [h5.blk] at hm; cases hm
      · obtain ⟨_, c', hcc⟩ := owns_block h5.kept hs
        rw [hm] at hcc; cases hcc)).trans hm))
  refine ⟨by simp [World.cell?, b1], by simp [World.frozen?, b1], _, ⟨_, _, _, _, _, _, _, _, _, _, hput⟩, fun k hk => ?_, ?_⟩
  · rcases hk with ⟨h1, _⟩ | h1 | h1
    · exact .inl h1
    · rcases hat with e1 | e1
      · exact .inl (hv.own.2.1 k (e1.symm.trans h1))
      · right
        rw [e1, hsz] at h1
        cases h1
        have := hb.size; omega
    · obtain ⟨hk1, _⟩ := owns_block hnm h1
      exact .inr (Nat.le_trans hnb hk1)
  · refine ⟨hc2.os.trans hb.os, hc2.tape.trans hb.tape, hc2.output.trans hb.output, Nat.le_trans hb.size hc2.size, fun k hk hs => (hc2.block k (Nat.lt_of_lt_of_le hk hb.size) (fun e => hs ?_)).trans (hb.block k hk)⟩
    rcases e with rfl | e
    · exact hv.own.1
    · exact hv.own.2.1 k e

end Go.Proofs.YtjajnhemgphefaaGreatDoor

namespace Go.Proofs.YtjajnhemgphefaaGreatDoor
open Go.RowKit Go.Shelf Go.Maps
set_option linter.unusedVariables false
set_option linter.unusedSimpArgs false

/-- The blocks of the feeds behind a change of one of them. -/
def sfSet (Sf : Nat → Nat → Prop) (w w' : World) (k : Nat) : Nat → Nat → Prop := fun i j => if i = k then (Sf k j ∨ w.heap.size ≤ j) ∧ FTy w' j else Sf i j
def sSet (S : Nat → Prop) (Sf : Nat → Nat → Prop) (w w' : World) (k : Nat) : Nat → Prop := fun j => (S j ∧ ¬ Sf k j) ∨ sfSet Sf w w' k k j
theorem sfSet_same {Sf : Nat → Nat → Prop} {w w' : World} {k j : Nat} : sfSet Sf w w' k k j ↔ ((Sf k j ∨ w.heap.size ≤ j) ∧ FTy w' j) := by unfold sfSet; rw [if_pos rfl]
theorem sfSet_ne {Sf : Nat → Nat → Prop} {w w' : World} {k i j : Nat} (h : i ≠ k) : sfSet Sf w w' k i j ↔ Sf i j := by unfold sfSet; rw [if_neg h]

theorem EngV.feedSet {w w' : World} {S : Nat → Prop} {be : Nat} {e : Eg} {vr vn vk vf : Value} {bm rb b45 b87 : Nat} {bfs : List Nat} {Sf : Nat → Nat → Prop} (h : EngV w S be e vr vn vk vf bm rb b45 b87 bfs Sf)
    {k : Nat} (hk : k < bfs.length) {b : Nat} {f' : Fs} (hf : FdAt w' (fun j => Sf k j ∨ w.heap.size ≤ j) bfs[k] b f') (hc : Chg w w' (Sf k)) :
    EngV w' (sSet S Sf w w' k) be { e with fds := e.fds.set k f' } vr vn vk vf bm rb b45 b87 bfs (sfSet Sf w w' k) := by
  have hty : ∀ (j : Nat) (c : Array Value) (t : TypeId), w.heap[j]? = some (Obj.cells c t (0, 0)) → t ≠ 198 → t ≠ 71 → ¬ Sf k j := by
    intro j c t hj h1 h2 hs
    obtain ⟨c', t', e1, e2⟩ := (h.sub k j hs).2
    rw [hj] at e1; cases e1
    exact e2.elim h1 h2
  have hkT : ∀ (j : Nat) (c : Array Value) (t : TypeId), w.heap[j]? = some (Obj.cells c t (0, 0)) → t ≠ 198 → t ≠ 71 → w'.heap[j]? = some (Obj.cells c t (0, 0)) := fun j c t hj h1 h2 => (hc.block j (Array.getElem?_eq_some_iff.1 hj).1 (hty j c t hj h1 h2)).trans hj
  have hkS : ∀ j, S j → ¬ Sf k j → w'.heap[j]? = w.heap[j]? := fun j hs hn => hc.block j (h.typ j hs).lt hn
  have hkept : ∀ g, vk.ownBlock = some g → ¬ Sf k g := fun g hg => by
    obtain ⟨_, c, hcc⟩ := owns_block h.kept hg
    exact hty g c _ hcc (by decide) (by decide)
  have hnames : ∀ g, vn.ownBlock = some g → ¬ Sf k g := fun g hg => by
    obtain ⟨_, c, hcc⟩ := owns_block h.names hg
    exact hty g c _ hcc (by decide) (by decide)
  have hfrow : ∀ g, vf.ownBlock = some g → ¬ Sf k g := fun g hg => by
    obtain ⟨_, c, hcc⟩ := owns_block h.frow hg
    exact hty g c _ hcc (by decide) (by decide)
  refine ⟨hkT _ _ _ h.blk (by decide) (by decide), h.rules.keep (fun j c t ht hj => hkT j c t hj (by rcases ht with rfl | rfl | rfl <;> decide) (by rcases ht with rfl | rfl | rfl <;> decide)), owns_kept h.names (fun g c _ hj => hkT g c _ hj (by decide) (by decide)), own_keep h.kept (fun g hg hlt => hkS g (h.own.2.1 g hg) (hkept g hg)), h.md.kept (fun j es c hm => (hc.block j (Array.getElem?_eq_some_iff.1 hm).1 (fun hs => ?_)).trans hm), by simp [h.len], own_keep h.frow (fun g hg hlt => hkS g (h.own.2.2.1 g hg) (hfrow g hg)), fun i hi hi' => ?_, fun i j hij m h1 h2 => ?_, fun i m hm => ?_, ⟨.inl ⟨h.own.1, hty _ _ _ h.blk (by decide) (by decide)⟩, fun g hg => .inl ⟨h.own.2.1 g hg, hkept g hg⟩, fun g hg => .inl ⟨h.own.2.2.1 g hg, hfrow g hg⟩, fun g hg => .inl ⟨h.own.2.2.2 g hg, hnames g hg⟩⟩, fun m hm => ?_⟩
  · exact WTy.notMap hm (h.sub k j hs).2.w
  · by_cases hik : i = k
    · subst hik
      refine ⟨b, ?_⟩
      have hfe : (e.fds.set i f')[i]'hi' = f' := List.getElem_set_self _
      rw [hfe]
      exact (hf.narrow).wider (fun j hj => sfSet_same.2 hj)
    · obtain ⟨b', hf'⟩ := h.feed i hi (by simpa using hi')
      refine ⟨b', ?_⟩
      have hfe : (e.fds.set k f')[i]'hi' = e.fds[i]'(by simpa using hi') := List.getElem_set_ne (by omega) _
      rw [hfe]
      exact (hf'.keep (ex := Sf k) hc.block (fun j hj hk' => h.sep i k hik j hj hk') (fun j c hj hs => hty j c _ hj (by decide) (by decide) hs)).wider (fun j hj => (sfSet_ne hik).2 hj)
  · by_cases hik : i = k
    · subst hik
      rw [sfSet_ne (Ne.symm hij)] at h2
      rw [sfSet_same] at h1
      rcases h1.1 with h1 | h1
      · exact h.sep i j hij m h1 h2
      · have := (h.sub j m h2).2.lt; omega
    · rw [sfSet_ne hik] at h1
      by_cases hjk : j = k
      · subst hjk
        rw [sfSet_same] at h2
        rcases h2.1 with h2 | h2
        · exact h.sep i j hij m h1 h2
        · have := (h.sub i m h1).2.lt; omega
      · rw [sfSet_ne hjk] at h2
        exact h.sep i j hij m h1 h2
  · by_cases hik : i = k
    · subst hik
      exact ⟨.inr hm, (sfSet_same.1 hm).2⟩
    · rw [sfSet_ne hik] at hm
      exact ⟨.inl ⟨(h.sub i m hm).1, h.sep i k hik m hm⟩, (h.sub i m hm).2.same (hkS m (h.sub i m hm).1 (h.sep i k hik m hm))⟩
  · rcases hm with ⟨h1, h2⟩ | hm
    · exact (h.typ m h1).same (hkS m h1 h2)
    · exact (sfSet_same.1 hm).2.w
theorem sSet_sub {S : Nat → Prop} {Sf : Nat → Nat → Prop} {w w' : World} {k : Nat} (hs : ∀ j, Sf k j → S j) : ∀ j, sSet S Sf w w' k j → S j ∨ w.heap.size ≤ j := by
  rintro j (⟨h, _⟩ | h)
  · exact .inl h
  · exact (sfSet_same.1 h).1.imp (hs j) id


theorem ptr_cell {W : World} {b T : Nat} {v : Value} {l : List Nat} (h : W.ownsRow b T 1 v l.length (l.map ptrV)) {k : Nat} (hk : k < l.length) :
    ∃ (g c : Nat), v = .slice (some ⟨g, 0, none⟩) l.length c ∧ W.cell? ⟨g, k, none⟩ = some (.pointer (some ⟨l[k], 0, none⟩)) ∧ g < W.heap.size := by
  obtain ⟨_, ⟨_, hz⟩ | ⟨g, c, cur, hv, _, hw, _, _, _, htk⟩⟩ := h
  · omega
  refine ⟨g, c, hv, ?_, (Array.getElem?_eq_some_iff.1 hw).1⟩
  have e1 : (l.map ptrV)[k]? = some (ptrV l[k]) := by rw [List.getElem?_map, List.getElem?_eq_getElem hk]; rfl
  rw [← htk, List.getElem?_take, if_pos (by omega)] at e1
  simp only [World.cell?, hw]
  have e2 : cur[k]? = some (ptrV l[k]) := by simpa using e1
  exact e2

end Go.Proofs.YtjajnhemgphefaaGreatDoor

namespace Go.Proofs.YtjajnhemgphefaaGreatDoor
open Go.RowKit Go.Shelf Go.Maps
set_option linter.unusedVariables false
set_option linter.unusedSimpArgs false

theorem seenL_mem (vs : List ByteArray) (x y : ByteArray) : y ∈ seenL vs x ↔ y ∈ vs ∨ y = x := by
  unfold seenL seenN
  by_cases h : vs.findIdx (sameB x) < vs.length
  · rw [if_pos h]
    have h1 := List.findIdx_getElem (w := h)
    rw [sameB_iff] at h1
    constructor
    · exact .inl
    · rintro (h2 | rfl)
      · exact h2
      · rw [h1]; exact List.getElem_mem h
  · rw [if_neg h]; simp
theorem nmL_mem : ∀ (l : List Tm) (vs : List ByteArray) (y : ByteArray), y ∈ nmL vs l ↔ y ∈ vs ∨ ∃ t ∈ l, t.name ≠ eB ∧ y = t.name
  | [], vs, y => by simp [nmL]
  | t :: l, vs, y => by
    have ih := nmL_mem l (nmStep vs t) y
    have e1 : nmL vs (t :: l) = nmL (nmStep vs t) l := rfl
    rw [e1, ih]
    unfold nmStep
    by_cases h : t.name.toList.isEmpty = true
    · rw [if_pos h]
      rw [empty_iff] at h
      constructor
      · rintro (h1 | ⟨u, hu, h2⟩)
        · exact .inl h1
        · exact .inr ⟨u, by simp [hu], h2⟩
      · rintro (h1 | ⟨u, hu, h2, h3⟩)
        · exact .inl h1
        · simp only [List.mem_cons] at hu
          rcases hu with rfl | hu
          · exact absurd h h2
          · exact .inr ⟨u, hu, h2, h3⟩
    · rw [if_neg h, seenL_mem]
      have h' : t.name ≠ eB := fun e => h ((empty_iff _).2 e)
      constructor
      · rintro ((h1 | h1) | ⟨u, hu, h2⟩)
        · exact .inl h1
        · exact .inr ⟨t, by simp, h', h1⟩
        · exact .inr ⟨u, by simp [hu], h2⟩
      · rintro (h1 | ⟨u, hu, h2, h3⟩)
        · exact .inl (.inl h1)
        · simp only [List.mem_cons] at hu
          rcases hu with rfl | hu
          · exact .inl (.inr h3)
          · exact .inr ⟨u, hu, h2, h3⟩
/-- What accept, and Insert, answer. -/
def accR (e : Eg) (a : Am) (t : Int) : Int × Eg :=
  if overB e.win e.mark t = true then (8, e) else if hasD e.kept (groundA nms0 a, t) = true then (9, e)
  else if e.kept.length = 24 ∨ 8 < (nmL e.names a.args).length then (10, e)
  else (0, { e with names := nmL e.names a.args, kept := e.kept ++ [(groundA nms0 a, t)] })
def insR (e : Eg) (s : ByteArray) (t : Int) : Int × Eg :=
  match atomR s with
  | none => (2, e)
  | some a => if groundB a = false then (2, e) else if derB e.rs a.rel = true then (7, e) else if ckR e.rs a ≠ 0 then (ckR e.rs a, e) else if ¬ (0 ≤ t ∧ t ≤ 1000000) then (6, e) else accR e a t
/-- What Subscribe answers. -/
def subR (e : Eg) (s : ByteArray) : Int × Int × Eg :=
  if nameB s = false then (0, 2, e) else if arR e.rs s = 0 then (0, 7, e) else if e.fds.length = 3 then (0, 10, e)
  else (e.fds.length, 0, { e with fds := e.fds ++ [⟨formA s (arR e.rs s), true, [], [], 0⟩] })
/-- The facts that hold at a watermark, with their ends. -/
def factsF (e : Eg) (m : Int) : List (Gd × Int) := ((e.kept.filter (fun d => !overB e.win m d.2)).filter (fun d => decide (d.2 ≤ m))).map (fun d => (d.1, d.2 + e.win))
/-- A feed behind a move. -/
def MoveF (M M' : Gd → Option Int) (m q : Int) (f f' : Fs) : Prop :=
  (f.behind = true ∧ f' = f) ∨ (f.behind = false ∧ ∃ g1 g2, beyP M M' f.form g1 ∧ beyP M' M f.form g2 ∧ ((q < ((f.que ++ textsR 3 g1 ++ textsR 2 g2).length : Int) + 1 ∧ f' = { f with behind := true, snap := [], que := [] }) ∨ (((f.que ++ textsR 3 g1 ++ textsR 2 g2).length : Int) + 1 ≤ q ∧ f' = { f with que := f.que ++ textsR 3 g1 ++ textsR 2 g2 ++ [⟨4, 0, ⟨#[]⟩, m⟩] })))
/-- The engine behind a move of its watermark. -/
def MoveE (e : Eg) (m : Int) (e' : Eg) : Prop := ∃ M' fds', LeastM e.rs (factsF e m ++ givenL e.rs) M' ∧ fds'.length = e.fds.length ∧ (∀ i (h : i < e.fds.length) (h' : i < fds'.length), MoveF e.M M' m e.que e.fds[i] fds'[i]) ∧ e' = { e with mark := m, kept := e.kept.filter (fun d => !overB e.win m d.2), M := M', fds := fds' }
/-- What Tick answers. -/
def TickE (e : Eg) (c : Int) (e' : Eg) (r : Int × Int) : Prop :=
  (¬ (0 ≤ c ∧ c ≤ 1000000) ∧ e' = e ∧ r = (0, 6)) ∨ ((0 ≤ c ∧ c ≤ 1000000) ∧ r = (e'.mark, 0) ∧ ((c - e.lat ≤ e.mark ∧ e' = e) ∨ (e.mark < c - e.lat ∧ MoveE e (c - e.lat) e')))

theorem EgOk.mono {e e' : Eg} (h : EgOk e) (h1 : e'.rs = e.rs) (h2 : e'.win = e.win) (h3 : e'.lat = e.lat) (h4 : e'.que = e.que) (h5 : e'.mark = e.mark) (h6 : e'.names = e.names) (h7 : e'.kept = e.kept) (h8 : e'.M = e.M)
    (f3 : e'.fds.length ≤ 3) (fds : ∀ f ∈ e'.fds, FormOk f.form ∧ f.snap.length ≤ 1000 ∧ f.que.length ≤ 50) : EgOk e' := by
  obtain ⟨rs, win, lat, que, mark, names, kept, M, fds'⟩ := e'
  simp only at *
  subst h1 h2 h3 h4 h5 h6 h7 h8
  exact ⟨h.rs, h.win, h.lat, h.que, h.mark, h.n8, h.nsz, h.nrs, h.k24, h.kept, h.md, f3, fds⟩

theorem name_size {s : ByteArray} (h : nameB s = true) : s.size ≤ 32 := by
  unfold nameB at h
  simp only [Bool.and_eq_true, Bool.not_eq_true', decide_eq_false_iff_not] at h
  have := size_le_runes s
  omega
theorem sub_ok {e : Eg} (h : EgOk e) (s : ByteArray) : EgOk (subR e s).2.2 := by
  unfold subR
  split
  · exact h
  rename_i hn
  split
  · exact h
  split
  · exact h
  rename_i h3
  have hs := name_size (s := s) (by simpa using hn)
  have hf := h.f3
  refine h.mono rfl rfl rfl rfl rfl rfl rfl rfl (by simp; omega) (fun f hf => ?_)
  rcases List.mem_append.1 hf with hf | hf
  · exact h.fds f hf
  · simp only [List.mem_cons, List.not_mem_nil, or_false] at hf
    subst hf
    refine ⟨⟨?_, ?_, ?_, ?_⟩, by simp, by simp⟩
    · show (formA s _).args.length ≤ 2
      rw [formA_len]
      rcases arR_cases h.rs s with e | e | e <;> omega
    · intro t ht
      obtain ⟨k, hk, rfl⟩ := List.mem_map.1 ht
      have := List.mem_range.1 hk
      rcases arR_cases h.rs s with e | e | e
      · show k < 6; omega
      · show k < 6; omega
      · show k < 6; omega
    · show s.size ≤ 2000; omega
    · intro t ht
      obtain ⟨k, hk, rfl⟩ := List.mem_map.1 ht
      show (0 : Nat) ≤ 2000
      decide

theorem ground_names {a : Am} (h : groundB a = true) : ∀ t ∈ a.args, t.name ≠ eB := by
  intro t ht e
  unfold groundB at h
  simp only [Bool.not_eq_true', List.any_eq_false] at h
  exact h t ht ((empty_iff _).2 e)
theorem ck_zero {rs : List Rl} {a : Am} (h : ckR rs a = 0) : arR rs a.rel ≠ 0 ∧ arR rs a.rel = a.args.length := by
  unfold ckR at h
  split at h
  · cases h
  · rename_i h0
    split at h
    · rename_i h1; exact ⟨h0, h1⟩
    · cases h
theorem rel_mem {rs : List Rl} {x : ByteArray} (h : arR rs x ≠ 0) : x ∈ relsR rs := by
  unfold arR at h
  cases ha : arOf (rs.flatMap ruleAms) x.data.toList with
  | none => rw [ha] at h; exact absurd rfl h
  | some n =>
    obtain ⟨a, h1, h2, _⟩ := arOf_mem ha
    exact List.mem_map.2 ⟨a, h1, ba_inj h2⟩
theorem fact_in {rs : List Rl} (h : RsOk rs) {a : Am} (hg : groundB a = true) (hc : ckR rs a = 0) {ns : List ByteArray} (hns : ∀ t ∈ a.args, t.name ∈ ns) : groundA nms0 a ∈ uni (relsR rs) ns ∧ arOk (arR rs) (groundA nms0 a) := by
  obtain ⟨h0, h1⟩ := ck_zero hc
  have hn := ground_names hg
  have hl : a.args.length = 1 ∨ a.args.length = 2 := by rcases arR_cases h a.rel with e | e | e <;> omega
  rcases hl with hl | hl
  · match ha : a.args, hl with
    | [t], _ =>
      have ht := hn t (by rw [ha]; simp)
      have hg : groundA nms0 a = ⟨a.rel, t.name, eB⟩ := by unfold groundA; rw [ha]; show (⟨a.rel, ofT nms0 t, eB⟩ : Gd) = _; rw [ofT_name ht]
      rw [hg]
      exact ⟨mem_uni.2 ⟨rel_mem h0, hns t (by rw [ha]; simp), .inl rfl⟩, ht, .inl ⟨by show arR rs a.rel = 1; rw [h1, ha]; rfl, rfl⟩⟩
  · match ha : a.args, hl with
    | [t, u], _ =>
      have ht := hn t (by rw [ha]; simp)
      have hu := hn u (by rw [ha]; simp)
      have hg : groundA nms0 a = ⟨a.rel, t.name, u.name⟩ := by unfold groundA; rw [ha]; show (⟨a.rel, ofT nms0 t, ofT nms0 u⟩ : Gd) = _; rw [ofT_name ht, ofT_name hu]
      rw [hg]
      exact ⟨mem_uni.2 ⟨rel_mem h0, hns t (by rw [ha]; simp), .inr (hns u (by rw [ha]; simp))⟩, ht, .inr ⟨by show arR rs a.rel = 2; rw [h1, ha]; rfl, hu⟩⟩

theorem acc_ok {e : Eg} (h : EgOk e) {a : Am} (hak : AmOk a) (hg : groundB a = true) (hc : ckR e.rs a = 0) {t : Int} (ht : 0 ≤ t ∧ t ≤ 1000000) : EgOk (accR e a t).2 := by
  unfold accR
  split
  · exact h
  split
  · exact h
  split
  · exact h
  rename_i hfull
  have hmem := nmL_mem a.args e.names
  have hsub : ∀ x ∈ e.names, x ∈ nmL e.names a.args := fun x hx => (hmem x).2 (.inl hx)
  have hnm := ground_names hg
  have h24 := h.k24
  refine ⟨h.rs, h.win, h.lat, h.que, h.mark, by show (nmL e.names a.args).length ≤ 8; omega, fun x hx => ?_, fun r hr t ht hne => hsub _ (h.nrs r hr t ht hne), by show (e.kept ++ _).length ≤ 24; simp; omega, fun d hd => ?_, fun g hg => ⟨(h.md g hg).1, uni_mono hsub (h.md g hg).2⟩, h.f3, h.fds⟩
  · rcases (hmem x).1 hx with hx | ⟨u, hu, _, rfl⟩
    · exact h.nsz x hx
    · exact (hak.tms u hu).name
  · rcases List.mem_append.1 hd with hd | hd
    · have := h.kept d hd
      exact ⟨uni_mono hsub this.1, this.2⟩
    · simp only [List.mem_cons, List.not_mem_nil, or_false] at hd
      subst hd
      have := fact_in h.rs hg hc (ns := nmL e.names a.args) (fun u hu => (hmem _).2 (.inr ⟨u, hu, hnm u hu, rfl⟩))
      exact ⟨this.1, this.2, ht⟩
theorem ins_ok {e : Eg} (h : EgOk e) (s : ByteArray) (hak : ∀ a, atomR s = some a → AmOk a) (t : Int) : EgOk (insR e s t).2 := by
  unfold insR
  cases ha : atomR s with
  | none => exact h
  | some a =>
    simp only
    split
    · exact h
    rename_i hg
    split
    · exact h
    split
    · exact h
    rename_i hc
    split
    · exact h
    rename_i ht
    exact acc_ok h (hak a ha) (by simpa using hg) (by simpa using hc) (by simpa using ht)

theorem facts_ok {e : Eg} (h : EgOk e) (m : Int) : FcOk e.rs e.names (factsF e m) := by
  unfold factsF
  refine ⟨?_, fun x hx => ?_⟩
  · rw [List.length_map]
    have h1 := List.length_filter_le (fun d : Gd × Int => decide (d.2 ≤ m)) (e.kept.filter (fun d => !overB e.win m d.2))
    have h2 := List.length_filter_le (fun d : Gd × Int => !overB e.win m d.2) e.kept
    have := h.k24
    omega
  · obtain ⟨d, hd, rfl⟩ := List.mem_map.1 hx
    have hk := h.kept d ((List.mem_filter.1 (List.mem_filter.1 hd).1).1)
    have hw := h.win
    exact ⟨hk.1, hk.2.1, by show 0 ≤ d.2 + e.win; omega, by show d.2 + e.win ≤ 2000000; omega⟩
theorem move_ok {e e' : Eg} (h : EgOk e) {m : Int} (hm : 0 ≤ m ∧ m ≤ 1000000) (hv : MoveE e m e') : EgOk e' := by
  obtain ⟨M', fds', h1, h2, h3, rfl⟩ := hv
  have hf3 := h.f3
  refine ⟨h.rs, h.win, h.lat, h.que, hm, h.n8, h.nsz, h.nrs, Nat.le_trans (List.length_filter_le _ _) h.k24, fun d hd => h.kept d (List.mem_filter.1 hd).1, least_in h.rs h.nrs (facts_ok h m) h1, by show fds'.length ≤ 3; omega, fun f hf => ?_⟩
  obtain ⟨i, hi, rfl⟩ := List.getElem_of_mem hf
  have hi' : i < e.fds.length := by have : i < fds'.length := hi; omega
  have hfo := h.fds _ (List.getElem_mem hi')
  have hq := h.que
  rcases h3 i hi' hi with ⟨_, h4⟩ | ⟨_, g1, g2, _, _, ⟨_, h4⟩ | ⟨h5, h4⟩⟩
  · rw [h4]; exact hfo
  · rw [h4]; exact ⟨hfo.1, by simp, by simp⟩
  · rw [h4]
    refine ⟨hfo.1, hfo.2.1, ?_⟩
    show (_ ++ [_]).length ≤ 50
    rw [List.length_append]
    simp only [List.length_cons, List.length_nil]
    omega
theorem tick_ok {e e' : Eg} (h : EgOk e) {c : Int} {r : Int × Int} (ht : TickE e c e' r) : EgOk e' := by
  rcases ht with ⟨_, rfl, _⟩ | ⟨hc, _, ⟨_, rfl⟩ | ⟨h1, h2⟩⟩
  · exact h
  · exact h
  · have hl := h.lat
    have hmk := h.mark
    exact move_ok h ⟨by omega, by omega⟩ h2
end Go.Proofs.YtjajnhemgphefaaGreatDoor

namespace Go.Proofs.YtjajnhemgphefaaGreatDoor
open Go.RowKit Go.Shelf Go.Maps
set_option linter.unusedVariables false
set_option linter.unusedSimpArgs false

theorem cloneN_any (v : Value) (ns : List ByteArray) (b : Nat) (w : World) (h : w.ownsRow b 9 1 v ns.length (ns.map Value.string)) (hl : ns.length ≤ 1000) :
    Calls Tryz.prog 83 #[v] w fun e w' => ∃ (oa : Option Addr) (oc : Nat), e = .returned (.slice oa ns.length oc) ∧ w'.ownsRow w.heap.size 9 1 (.slice oa ns.length oc) ns.length (ns.map Value.string) ∧ Below w.heap.size w w' := by
  obtain ⟨h0, ⟨hv, hn⟩ | ⟨g, cap, cur, hv, hb, hw, h1, h2, h3, h4⟩⟩ := h
  · subst hv
    have hz : ns = [] := List.eq_nil_of_length_eq_zero hn
    subst hz
    refine (Tryz.slices_Clone_string_nil 0 0 w).mono ?_
    rintro e w' ⟨rfl, rfl⟩
    exact ⟨none, 0, rfl, ⟨rfl, .inl ⟨rfl, rfl⟩⟩, Below.refl _ _⟩
  · subst hv
    refine (Tryz.slices_Clone_string g 0 ns.length cap ns w (Nat.le_refl _) (by omega) (fun j hj => ?_)).mono ?_
    · have e1 : (ns.map Value.string)[j]? = some (.string ns[j]) := by rw [List.getElem?_map, List.getElem?_eq_getElem hj]; rfl
      rw [← h4, List.getElem?_take, if_pos (by omega)] at e1
      simp only [World.cell?, hw, Nat.zero_add]
      have e2 : cur[j]? = some (.string ns[j]) := by simpa using e1
      rw [e2, List.getD_eq_getElem?_getD, List.getElem?_eq_getElem hj]
      rfl
    · rintro e w' ⟨v', rfl, ho, _, hb'⟩
      rw [List.take_length] at ho
      obtain ⟨oa, oc, hof⟩ := owns_form ho
      subst hof
      exact ⟨oa, oc, rfl, ho, hb'⟩

set_option maxHeartbeats 400000 in
theorem idxD_nil (f : Value) (w : World) : Calls Tryz.prog 145 #[.slice none 0 0, .func (.func 86) #[] #[f]] w fun e w' => e = .returned (.int .i64 (-1)) ∧ Below w.heap.size w w' := by
  go_enter Tryz.func145, Tryz.ntmps145
  go_wp2
  go_loopw [8] (fun i wr => i = .int .i64 0 ∧ Below w.heap.size w wr) (fun i _ => 0)
  case atStart => exact ⟨rfl, Below.refl _ _⟩
  case round =>
    obtain ⟨rfl, hb⟩ := hrel
    go_wp2
    go_ret
    exact ⟨rfl, hb⟩

theorem deleteD_nil (f : Value) (w : World) : Calls Tryz.prog 85 #[.slice none 0 0, .func (.func 86) #[] #[f]] w fun e w' => e = .returned (.slice none 0 0) ∧ Below w.heap.size w w' := by
  have hI : Hid (∀ W, Calls Tryz.prog 145 #[.slice none 0 0, .func (.func 86) #[] #[f]] W fun e w' => e = .returned (.int .i64 (-1)) ∧ Below W.heap.size W w') := fun W => idxD_nil f W
  go_enter Tryz.func85, Tryz.ntmps85
  go_wp2_with (go_at_call 145; refine (hI.out _).mono ?_; rintro e W1 ⟨rfl, hb1⟩)
  go_ret
  exact ⟨rfl, hb1⟩

/-- AddNames over the arguments of an atom. -/
theorem addArgs_any (v : Value) (ns : List ByteArray) (base Bs b : Nat) (va : Value) (ts : List Tm) (w : World) (hbox : w.heap[Bs]? = some (Obj.cells #[va] 90 (0, 0))) (hs : SealT w b va ts) (hl : ts.length ≤ 2) (hown : w.ownsRow base 9 1 v ns.length (ns.map Value.string)) (hbw : base ≤ w.heap.size) (hn : ns.length ≤ 900) :
    Calls Tryz.prog 76 #[v, .func (.func 144) #[] #[.pointer (some ⟨Bs, 0, none⟩)]] w fun e w' => ∃ (oa : Option Addr) (oc : Nat), e = .returned (.slice oa (nmL ns ts).length oc) ∧ w'.ownsRow base 9 1 (.slice oa (nmL ns ts).length oc) (nmL ns ts).length ((nmL ns ts).map Value.string) ∧ Below base w w' := by
  refine (addNames_seq 144 #[.pointer (some ⟨Bs, 0, none⟩)] ts (fun _ => True) ts.length v ns base w (enters_of Tryz.func144 (by kernel_rfl) rfl) (fun O => ?_) (by omega) hown hbw hn).mono ?_
  · have hb : Below w.heap.size w (w.alloc O) := (Below.refl _ w).alloc (Nat.le_refl _) O
    exact valuesT_seq Bs b va ts (w.alloc O) ((hb.block _ (Array.getElem?_eq_some_iff.1 hbox).1).trans hbox) (hs.rk (RuleKept.ofBelow hb)) (by omega)
  · rintro e w' ⟨v', rfl, ho, hso⟩
    obtain ⟨oa, oc, hof⟩ := owns_form ho
    subst hof
    exact ⟨oa, oc, rfl, ho, ⟨hso.os, hso.tape, hso.output, hso.size, fun k hk => hso.block k (by omega) (.inl hk)⟩⟩

end Go.Proofs.YtjajnhemgphefaaGreatDoor
