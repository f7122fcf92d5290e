/-
  Package model: the iterator over the ground atoms of a model that come of an atom.
  Package model: Of; the heads of rules without a body.
  append as one operation of a region inside a fence.
-/
import Derived.Test.YtjajnhemgphefaaGreatDoorJMoG
import Derived.Test.YtjajnhemgphefaaGreatDoorJTxt
import Derived.Test.YtjajnhemgphefaaGreatDoorJIdxRules
import Derived.Test.YtjajnhemgphefaaGreatDoorJMoE
namespace Go.Proofs.YtjajnhemgphefaaGreatDoor
open Go.RowKit Go.Shelf Go.Maps
set_option linter.unusedVariables false
set_option linter.unusedSimpArgs false
attribute [local go_sem] Oper.semAt_some

theorem mfits_any (B : Nat) (a : Am) (va : Value) (w : World) (ta : Option Addr) (tn tc : Nat) (hva : va = .slice ta tn tc) :
    Calls Tryz.prog 51 #[.map (some B), .agg #[.string a.rel, va]] w fun e w' => e = .returned (.func (.func 93) #[] #[.pointer (some ⟨w.heap.size, 0, none⟩), .pointer (some ⟨w.heap.size + 1, 0, none⟩)]) ∧
      w' = (w.alloc (.cells #[.map (some B)] 98)).alloc (.cells #[.string a.rel, va] 92) := by
  subst hva
  go_enter Tryz.func51, Tryz.ntmps51
  go_wp2
  go_ret
  exact ⟨rfl, rfl⟩

/-- Ground atoms of no great size. -/
def GdX := { g : Gd // GdOk g }
def gdX (g : Gd) (h : GdOk g) : GdX := ⟨g, h⟩

theorem ground_ok {p : Nms} {a : Am} (hp : ∀ k, (p.get k).size ≤ maxLen) (hr : a.rel.size ≤ maxLen) (ht : ∀ t ∈ a.args, t.name.size ≤ maxLen) : GdOk (groundA p a) := by
  have hof : ∀ t ∈ a.args, (ofT p t).size ≤ maxLen := by
    intro t h
    unfold ofT
    split
    · exact hp _
    · exact ht t h
  have he : (⟨#[]⟩ : ByteArray).size ≤ maxLen := by show 0 ≤ maxLen; exact Nat.zero_le _
  refine ⟨hr, ?_, ?_⟩
  · show (xOf p a.args).size ≤ maxLen
    unfold xOf
    split
    · exact he
    · rename_i t l h; exact hof t (by rw [h]; simp)
  · show (yOf p a.args).size ≤ maxLen
    unfold yOf
    split
    · rename_i t u l h; exact hof u (by rw [h]; simp)
    · exact he

/-- A ground atom of short names. -/
structure GdS (g : Gd) : Prop where
  rel : g.rel.size ≤ 2000
  x : g.x.size ≤ 2000
  y : g.y.size ≤ 2000
theorem GdS.ok {g : Gd} (h : GdS g) : GdOk g := ⟨Nat.le_trans h.rel (by unfold maxLen; decide), Nat.le_trans h.x (by unfold maxLen; decide), Nat.le_trans h.y (by unfold maxLen; decide)⟩
def GdY := { g : Gd // GdS g }
def gdY (g : Gd) (h : GdS g) : GdY := ⟨g, h⟩
theorem ground_small {p : Nms} {a : Am} (hp : ∀ k, (p.get k).size ≤ 2000) (hr : a.rel.size ≤ 2000) (ht : ∀ t ∈ a.args, t.name.size ≤ 2000) : GdS (groundA p a) := by
  have hof : ∀ t ∈ a.args, (ofT p t).size ≤ 2000 := by
    intro t h
    unfold ofT
    split
    · exact hp _
    · exact ht t h
  have he : (⟨#[]⟩ : ByteArray).size ≤ 2000 := by show 0 ≤ 2000; exact Nat.zero_le _
  refine ⟨hr, ?_, ?_⟩
  · show (xOf p a.args).size ≤ 2000
    unfold xOf
    split
    · exact he
    · rename_i t l h; exact hof t (by rw [h]; simp)
  · show (yOf p a.args).size ≤ 2000
    unfold yOf
    split
    · rename_i t u l h; exact hof u (by rw [h]; simp)
    · exact he

set_option maxRecDepth 100000 in
set_option maxHeartbeats 4000000 in
theorem fits_seq (n0 : Nat) (Bm Ba B nn b87 : Nat) (M : Gd → Option Int) (a : Am) (va : Value) (w : World)
    (hm : w.heap[Bm]? = some (Obj.cells #[.map (some B)] 98 (0, 0))) (ha : w.heap[Ba]? = some (Obj.cells #[.string a.rel, va] 92 (0, 0)))
    (hM : MdAt w B nn M) (hS : SealT w b87 va a.args) (hal : a.args.length ≤ 2) (hnum : ∀ t ∈ a.args, t.num < 6) (hrel : a.rel.size ≤ 2000) (hnm : ∀ t ∈ a.args, t.name.size ≤ 2000) (hMs : ∀ x y, (M ⟨a.rel, x, y⟩).isSome = true → x.size ≤ 2000 ∧ y.size ≤ 2000) (m : Nat) :
    SeqM m n0 93 #[.pointer (some ⟨Bm, 0, none⟩), .pointer (some ⟨Ba, 0, none⟩)] (fun g : GdY => #[g.1.v]) (MKept m)
      (fun gs => ∃ ks : List (ByteArray × ByteArray), ks.Nodup ∧ (∀ x y, (x, y) ∈ ks ↔ (x.size ≤ maxLen ∧ y.size ≤ maxLen ∧ (M ⟨a.rel, x, y⟩).isSome = true)) ∧ ks.length ≤ nn ∧ gs.map (·.1) = (ks.filterMap (fun k => matchA nms0 a k.1 k.2)).map (fun p => groundA p a)) (fun _ => True) nn w := by
  obtain ⟨n, hn⟩ : ∃ n, 12 ≤ n := ⟨12, Nat.le_refl _⟩
  refine SeqM.any (n := n) ?_ n0
  have n1 : 1 ≤ n := by omega
  have n2 : 1 ≤ n - 1 := by omega
  have n3 : 1 ≤ n - 1 - 1 := by omega
  intro l J Jx W hW hsz hJ hJx hY h0
  have hkW : MKept m w W := MKept.ofBelow hW
  have hm' := hkW.cells _ _ _ (by unfold MFix; decide) hm
  have ha' := hkW.cells _ _ _ (by unfold MFix; decide) ha
  have hM' := hM.mk hkW
  have hS' := hS.mk hkW
  clear hm ha hM hS hkW hW
  obtain ⟨fa, fc, hva⟩ := hS'.form
  subst hva
  have hal' : ∀ O, Below W.heap.size W (W.alloc O) := fun O => (Below.refl _ W).alloc (Nat.le_refl _) O
  have c0 : ∀ O, (W.alloc O).cell? ⟨Bm, 0, none⟩ = some (.map (some B)) := fun O => cell_later (hal' O) (by simp [World.cell?, hm'])
  have c1 : ∀ O, (W.alloc O).cell? ⟨Ba, 0, none⟩ = some (.string a.rel) := fun O => cell_later (hal' O) (by simp [World.cell?, ha'])
  have c2 : ∀ O, (W.alloc O).cell? ⟨Ba, 1, none⟩ = some (.slice fa a.args.length fc) := fun O => cell_later (hal' O) (by simp [World.cell?, ha'])
  have e0 : W.cell? ⟨Bm, 0, none⟩ = some (.map (some B)) := by simp [World.cell?, hm']
  have e1 : W.cell? ⟨Ba, 0, none⟩ = some (.string a.rel) := by simp [World.cell?, ha']
  have e2 : W.cell? ⟨Ba, 1, none⟩ = some (.slice fa a.args.length fc) := by simp [World.cell?, ha']
  have hex : Hid (∀ W, Calls Tryz.prog 94 #[.map (some B), .agg #[.string a.rel, .slice fa a.args.length fc], .agg #[.string ⟨#[]⟩, .string ⟨#[]⟩, .string ⟨#[]⟩, .string ⟨#[]⟩, .string ⟨#[]⟩, .string ⟨#[]⟩]] W fun e w' => e = .returned (.func (.func 156) #[] #[.pointer (some ⟨W.heap.size, 0, none⟩), .pointer (some ⟨W.heap.size + 1, 0, none⟩), .pointer (some ⟨W.heap.size + 2, 0, none⟩)]) ∧
      w' = ((W.alloc (.cells #[.map (some B)] 98)).alloc (.cells #[.string a.rel, .slice fa a.args.length fc] 92)).alloc (.cells #[.string ⟨#[]⟩, .string ⟨#[]⟩, .string ⟨#[]⟩, .string ⟨#[]⟩, .string ⟨#[]⟩, .string ⟨#[]⟩] 176)) := fun W => extend_any B a _ nms0 W _ _ _ rfl
  have HY : Hid _ := hY
  have HJ : Hid (OwnFrom W.heap.size J) := hJ
  have HJx : Hid (OwnFrom W.heap.size Jx) := hJx
  have H0 : Hid _ := h0
  clear hY hJ hJx h0 hal'
  refine callsIn_of_wp_marks Tryz.func93 rfl trivial ?_ rfl
  simp only [Tryz.ntmps93, List.size_toArray, List.length_cons, List.length_nil, Nat.reduceAdd, Nat.reduceSub, Array.replicate_succ, Array.replicate_zero, List.push_toArray, List.append_toArray, List.nil_append, List.cons_append]
  gi_wp2_with (refine ⟨trivial, ?_⟩; gi_at_call 94; refine (callsIn_wide.2 (hex.out _)).mono ?_; rintro e w' ⟨rfl, rfl⟩)
  obtain ⟨NB, hNB⟩ : ∃ NB, W.heap.size = NB := ⟨_, rfl⟩
  obtain ⟨W0, hW0⟩ : ∃ W0, (((W.alloc (.cells #[.func (.yield l) #[] #[]] 181)).alloc (.cells #[.map (some B)] 98)).alloc (.cells #[.string a.rel, .slice fa a.args.length fc] 92)).alloc (.cells #[.string ⟨#[]⟩, .string ⟨#[]⟩, .string ⟨#[]⟩, .string ⟨#[]⟩, .string ⟨#[]⟩, .string ⟨#[]⟩] 176) = W0 := ⟨_, rfl⟩
  have hb0 : Below W.heap.size W W0 := by rw [← hW0]; exact ((((Below.refl _ W).alloc (Nat.le_refl _) _).alloc (by simp) _).alloc (by simp; omega) _).alloc (by simp; omega) _
  have hs0 : W0.heap.size = NB + 4 := by rw [← hW0, ← hNB]; simp
  have bY : W0.heap[NB]? = some (Obj.cells #[.func (.yield l) #[] #[]] 181 (0, 0)) := by
    rw [← hW0, ← hNB]
    exact (Below.heap_alloc _ _ _ (by simp; omega)).trans ((Below.heap_alloc _ _ _ (by simp; omega)).trans ((Below.heap_alloc _ _ _ (by simp)).trans (World.alloc_heap_new W _)))
  have bM : W0.heap[NB + 1]? = some (Obj.cells #[.map (some B)] 98 (0, 0)) := by
    rw [← hW0, ← hNB]
    refine (Below.heap_alloc _ _ _ (by simp)).trans ((Below.heap_alloc _ _ _ (by simp)).trans ?_)
    have := World.alloc_heap_new (W.alloc (.cells #[.func (.yield l) #[] #[]] 181)) (.cells #[.map (some B)] 98)
    rw [World.size_alloc] at this; exact this
  have bA : W0.heap[NB + 1 + 1]? = some (Obj.cells #[.string a.rel, .slice fa a.args.length fc] 92 (0, 0)) := by
    rw [← hW0, ← hNB]
    refine (Below.heap_alloc _ _ _ (by simp)).trans ?_
    have := World.alloc_heap_new ((W.alloc (.cells #[.func (.yield l) #[] #[]] 181)).alloc (.cells #[.map (some B)] 98)) (.cells #[.string a.rel, .slice fa a.args.length fc] 92)
    rw [World.size_alloc, World.size_alloc] at this; exact this
  have bP : W0.heap[NB + 1 + 2]? = some (Obj.cells nms0.c 176 (0, 0)) := by
    rw [← hW0, ← hNB]
    have := World.alloc_heap_new (((W.alloc (.cells #[.func (.yield l) #[] #[]] 181)).alloc (.cells #[.map (some B)] 98)).alloc (.cells #[.string a.rel, .slice fa a.args.length fc] 92)) (.cells #[.string ⟨#[]⟩, .string ⟨#[]⟩, .string ⟨#[]⟩, .string ⟨#[]⟩, .string ⟨#[]⟩, .string ⟨#[]⟩] 176)
    rw [World.size_alloc, World.size_alloc, World.size_alloc] at this; exact this
  have hk0 : MKept m W W0 := MKept.ofBelow hb0
  have hJ0 : J [] W0 := HJ.out _ _ _ none H0.out (below_grownBy hb0) (fun r e => by cases e)
  have hM0 := hM'.mk hk0
  have hS0 := hS'.mk hk0
  have ha0 := hk0.cells _ _ _ (by unfold MFix; decide) ha'
  have hm0 : m ≤ W0.heap.size := by have := hb0.size; omega
  have hz : ∀ k, (nms0.get k).size ≤ 2000 := by
    intro k
    have : (nms0.get k) = ⟨#[]⟩ := by unfold nms0 Nms.get; split <;> rfl
    rw [this]; exact Nat.zero_le _
  simp only [hNB]
  rw [hW0]
  clear hW0 hM' hS' hm' ha'
  refine range_outM (n := n) (gf := 156) (lb := #[.pointer (some ⟨NB + 1, 0, none⟩), .pointer (some ⟨NB + 1 + 1, 0, none⟩), .pointer (some ⟨NB + 1 + 2, 0, none⟩)]) rfl (enters_of Tryz.func156 (by kernel_rfl) rfl)
    (extend_seqB 2000 (n - 1) (NB + 1) (NB + 1 + 1) (NB + 1 + 2) B nn b87 M a (.slice fa a.args.length fc) nms0 W0 bM bA bP hM0 hS0 hal hnum (Nat.le_trans hrel (by unfold maxLen; decide)) hz (fun x y _ _ h => hMs x y h) (W0.heap.size + 2)) MKept.tr (fun V rc o' ho => MKept.put V _ _ o' (by omega) ho rfl (fun _ _ h => by cases h)) (fun _ => rfl)
    (fun pre V => ∃ gs : List GdY, J gs V ∧ gs.map (·.1) = (pre.map (·.1)).map (fun p => groundA p a) ∧ MKept m W0 V)
    (fun c pre V => c = .ret ∧ ∃ gs, Jx gs V)
    ?hI ?hIx ⟨[], hJ0, rfl, MKept.ofBelow (Below.refl _ _)⟩
    (fun x a' V => ∃ Bx, V.heap[Bx]? = some (Obj.cells x.1.c 176 (0, 0)) ∧ a' = { tmps := #[.func (.yield l) #[] #[], .pointer (some ⟨Bm, 0, none⟩), .pointer (some ⟨Ba, 0, none⟩), .pointer (some ⟨NB, 0, none⟩), .pointer (some ⟨Bx, 0, none⟩), .map (some B), .agg #[.string a.rel, .slice fa a.args.length fc], .agg #[.string ⟨#[]⟩, .string ⟨#[]⟩, .string ⟨#[]⟩, .string ⟨#[]⟩, .string ⟨#[]⟩, .string ⟨#[]⟩], .func (.func 156) #[] #[.pointer (some ⟨NB + 1, 0, none⟩), .pointer (some ⟨NB + 1 + 1, 0, none⟩), .pointer (some ⟨NB + 1 + 2, 0, none⟩)], .agg #[.string x.1.a0, .string x.1.a1, .string x.1.a2, .string x.1.a3, .string x.1.a4, .string x.1.a5], undef, undef, undef, undef, undef, undef], defers := [] })
    ?hAx ?assign ?body ?done ?stop
  case hI =>
    rintro pre V V' row ⟨gs, h1, h2, h4⟩ hg hr
    exact ⟨gs, HJ.out _ _ _ row h1 hg (fun r e => ⟨by have := (hr r e).1; omega, (hr r e).2⟩), h2, h4.own hg (fun r e => (hr r e).1)⟩
  case hIx =>
    rintro c pre V V' row ⟨rfl, gs, h1⟩ hg hr
    exact ⟨rfl, gs, HJx.out _ _ _ row h1 hg (fun r e => ⟨by have := (hr r e).1; omega, (hr r e).2⟩)⟩
  case hAx =>
    rintro x a' _ V V' row ⟨Bx, h2, h3⟩ hg hr
    exact ⟨Bx, kept_of_grown hg (fun r e => (hr r e).2) _ _ _ _ h2, h3⟩
  case assign =>
    rintro l' pre x V K hl hlr ⟨gs, h1, h2, h4⟩ hK
    have HK : Hid _ := hK
    clear hK
    unfold Nms.v Nms.c
    gi_wp2
    have hbl : Below V.heap.size V (V.alloc (.cells #[.string x.1.a0, .string x.1.a1, .string x.1.a2, .string x.1.a3, .string x.1.a4, .string x.1.a5] 176)) := (Below.refl _ V).alloc (Nat.le_refl _) _
    exact HK.out _ _ (KeepsFrom.ofBelow hbl) (MKept.ofBelow hbl) ⟨gs, HJ.out _ _ _ none h1 (below_grownBy hbl) (fun r e => by cases e), h2, h4.tr (MKept.ofBelow hbl)⟩ ⟨V.heap.size, World.alloc_heap_new V _, rfl⟩
  case done =>
    rintro D xs V hD ⟨ks, k1, k2, k3, k4⟩ ⟨gs, h1, h2, h4⟩ hK
    have hfin : Hid (∃ ks : List (ByteArray × ByteArray), ks.Nodup ∧ (∀ x y, (x, y) ∈ ks ↔ (x.size ≤ maxLen ∧ y.size ≤ maxLen ∧ (M ⟨a.rel, x, y⟩).isSome = true)) ∧ ks.length ≤ nn ∧ gs.map (·.1) = (ks.filterMap (fun k => matchA nms0 a k.1 k.2)).map (fun p => groundA p a)) :=
      ⟨ks, k1, k2, k3, by rw [h2, k4]⟩
    clear h2 k2 k4
    gi_wp2
    refine ⟨by simp, .inl ⟨_, _, rfl, run_takeDeferred hK, ?_⟩⟩
    refine ⟨_, results_none rfl _ _ _, ⟨_, rfl⟩, .inl ⟨gs, hfin.out, ?_⟩⟩
    exact HJ.out _ _ _ (some D) h1 (grownBy_putObj' V D (.deferred none)) (fun r e => by cases e; exact ⟨by omega, _, hK, rfl⟩)
  case stop =>
    rintro D c pre V hD _ ⟨rfl, gs, h1⟩ hK
    gi_wp2
    refine ⟨by simp, .inl ⟨_, _, rfl, run_takeDeferred hK, ?_⟩⟩
    refine ⟨_, results_none rfl _ _ _, ⟨_, rfl⟩, .inr ⟨gs, trivial, ?_⟩⟩
    exact HJx.out _ _ _ (some D) h1 (grownBy_putObj' V D (.deferred none)) (fun r e => by cases e; exact ⟨by omega, _, hK, rfl⟩)
  case body =>
    rintro l' pre x a' V hl' ⟨rc, hrc⟩ ⟨gs, h1, h2, h4⟩ ⟨Bx, hbx, rfl⟩ hlt
    have hyb := h4.cells _ _ _ (by unfold MFix; decide) bY
    have haV := h4.cells _ _ _ (by unfold MFix; decide) ha0
    have hSV := hS0.mk h4
    have cy : V.cell? ⟨NB, 0, none⟩ = some (.func (.yield l) #[] #[]) := by simp [World.cell?, hyb]
    have z1 : V.cell? ⟨Ba, 0, none⟩ = some (.string a.rel) := by simp [World.cell?, haV]
    have z2 : V.cell? ⟨Ba, 1, none⟩ = some (.slice fa a.args.length fc) := by simp [World.cell?, haV]
    have hbx' := hbx
    unfold Nms.c at hbx'
    have q0 : V.cell? ⟨Bx, 0, none⟩ = some (.string x.1.a0) := by simp [World.cell?, hbx']
    have q1 : V.cell? ⟨Bx, 1, none⟩ = some (.string x.1.a1) := by simp [World.cell?, hbx']
    have q2 : V.cell? ⟨Bx, 2, none⟩ = some (.string x.1.a2) := by simp [World.cell?, hbx']
    have q3 : V.cell? ⟨Bx, 3, none⟩ = some (.string x.1.a3) := by simp [World.cell?, hbx']
    have q4 : V.cell? ⟨Bx, 4, none⟩ = some (.string x.1.a4) := by simp [World.cell?, hbx']
    have q5 : V.cell? ⟨Bx, 5, none⟩ = some (.string x.1.a5) := by simp [World.cell?, hbx']
    have hcy : Hid (∀ W1, Below V.heap.size V W1 → W1.cell? ⟨NB, 0, none⟩ = some (.func (.yield l) #[] #[])) := fun W1 hb => cell_later hb cy
    have hgok : GdS (groundA x.1 a) := ground_small x.2 hrel hnm
    have hlen : gs.length < nn := by
      have := congrArg List.length h2
      simp at this
      omega
    have hgr : Hid (∀ W, (∀ (k : Nat) (c : Array Value), V.heap[k]? = some (Obj.cells c 166 (0, 0)) → W.heap[k]? = some (Obj.cells c 166 (0, 0))) → Calls Tryz.prog 89 #[.agg #[.string x.1.a0, .string x.1.a1, .string x.1.a2, .string x.1.a3, .string x.1.a4, .string x.1.a5], .agg #[.string a.rel, .slice fa a.args.length fc]] W fun e w' => e = .returned (.agg #[.string (groundA x.1 a).rel, .string (groundA x.1 a).x, .string (groundA x.1 a).y]) ∧ Below W.heap.size W w') := fun W hk =>
      ground_any x.1 a _ b87 W (hSV.kept (fun k c _ hc => hk k c hc)) hal hnum
    have hyl : Hid (∀ W1, Below V.heap.size V W1 → YieldAt Fence.wide (n - 1) Tryz.prog l #[.agg #[.string (groundA x.1 a).rel, .string (groundA x.1 a).x, .string (groundA x.1 a).y]] W1 fun e W' => ∃ b : Bool, e = .returned (.bool b) ∧ ((b = true ∧ J (gs ++ [⟨groundA x.1 a, hgok⟩]) W' ∧ MKept m V W') ∨ (b = false ∧ Jx (gs ++ [⟨groundA x.1 a, hgok⟩]) W' ∧ KeepsFrom m V W'))) := by
      intro W1 hb
      obtain ⟨fn, tmps, assign, body, hy, hR⟩ := HY.out gs ⟨groundA x.1 a, hgok⟩ W1 (HJ.out _ _ _ none h1 (below_grownBy hb) (fun r e => by cases e)) hlen
      refine ⟨fn, tmps, assign, body, hy, hR.mono ?_⟩
      rintro e W' (⟨rfl, k1, k2⟩ | ⟨rfl, k1, k2⟩)
      · exact ⟨true, rfl, .inl ⟨rfl, k1, (MKept.ofBelow hb).tr k2⟩⟩
      · exact ⟨false, rfl, .inr ⟨rfl, k1, KeepsFrom.tr (KeepsFrom.ofBelow hb) k2⟩⟩
    have hsp : Hid ((gs ++ [gdY (groundA x.1 a) hgok]).map (·.1) = ((pre ++ [x]).map (·.1)).map (fun p => groundA p a)) := by
      show _ = _
      rw [List.map_append, List.map_append, List.map_append, h2]
      rfl
    generalize hGr : (groundA x.1 a).rel = gr at *
    generalize hGx : (groundA x.1 a).x = gx at *
    generalize hGy : (groundA x.1 a).y = gy at *
    clear hGr hGx hGy hbx' hSV h2
    gi_wp2
    refine wpIn_mono (Q := fun e a' w' => e = Exit.normal ∧ ∃ b : Bool, a' = { tmps := #[.func (.yield l) #[] #[], .pointer (some ⟨Bm, 0, none⟩), .pointer (some ⟨Ba, 0, none⟩), .pointer (some ⟨NB, 0, none⟩), .pointer (some ⟨Bx, 0, none⟩), .map (some B), .agg #[.string a.rel, .slice fa a.args.length fc], .agg #[.string ⟨#[]⟩, .string ⟨#[]⟩, .string ⟨#[]⟩, .string ⟨#[]⟩, .string ⟨#[]⟩, .string ⟨#[]⟩], .func (.func 156) #[] #[.pointer (some ⟨NB + 1, 0, none⟩), .pointer (some ⟨NB + 1 + 1, 0, none⟩), .pointer (some ⟨NB + 1 + 2, 0, none⟩)], .agg #[.string x.1.a0, .string x.1.a1, .string x.1.a2, .string x.1.a3, .string x.1.a4, .string x.1.a5], .func (.yield l) #[] #[], .agg #[.string x.1.a0, .string x.1.a1, .string x.1.a2, .string x.1.a3, .string x.1.a4, .string x.1.a5], .agg #[.string a.rel, .slice fa a.args.length fc], .agg #[.string gr, .string gx, .string gy], .bool b, .bool (!b)], defers := [] } ∧ ((b = true ∧ J (gs ++ [⟨groundA x.1 a, hgok⟩]) w' ∧ MKept m V w') ∨ (b = false ∧ Jx (gs ++ [⟨groundA x.1 a, hgok⟩]) w' ∧ KeepsFrom m V w'))) ?reg ?rest
    case reg =>
      gi_region_with (first | (refine ⟨trivial, ?_⟩; (try refine ⟨fun h => (by cases h), ?_⟩); refine (CallsIn.inRound l' (callsIn_wide.2 (hgr.out V.drew (fun _ _ h => h)))).mono ?_; rintro e W1 ⟨rfl, hb1⟩; obtain ⟨fn2, tmps2, assign2, body2, hy2, hR2⟩ := hyl.out W1 (Below.trans (Below.drew (Below.refl V.heap.size V)) hb1); have cy1 := hcy.out W1 (Below.trans (Below.drew (Below.refl V.heap.size V)) hb1)) | (refine (roundIn_any hR2).mono ?_; rintro e W2 ⟨b, rfl, hpost⟩))
      all_goals exact ⟨rfl, b, rfl, hpost⟩
    case rest =>
      rintro e a' X' ⟨rfl, b, rfl, hpost⟩
      rcases hpost with ⟨rfl, k1, k2⟩ | ⟨rfl, k1, k2⟩
      · gi_wp2
        exact ⟨KeepsFrom.up k2.from' (by omega), k2.up (by omega), _, k1, hsp.out, h4.tr k2⟩
      · gi_wp2
        exact ⟨KeepsFrom.up k2 (by omega), rfl, _, k1⟩

end Go.Proofs.YtjajnhemgphefaaGreatDoor

namespace Go.Proofs.YtjajnhemgphefaaGreatDoor
open Go.RowKit Go.Shelf Go.Maps
set_option linter.unusedVariables false
set_option linter.unusedSimpArgs false
attribute [local go_sem] Oper.semAt_some

set_option maxHeartbeats 1000000 in
theorem of_atom_any (a : Am) (va : Value) (b : Nat) (w : World) (hS : SealT w b va a.args) (hl : a.args.length ≤ 2) (hn : ∀ t ∈ a.args, t.num < 6) :
    Calls Tryz.prog 48 #[.agg #[.string a.rel, va]] w fun e w' => e = .returned (groundA nms0 a).v ∧ Below w.heap.size w w' := by
  obtain ⟨ta, tc, htf⟩ := hS.form
  subst htf
  have hg : Hid (∀ W, Below w.heap.size w W → Calls Tryz.prog 89 #[.agg #[.string ⟨#[]⟩, .string ⟨#[]⟩, .string ⟨#[]⟩, .string ⟨#[]⟩, .string ⟨#[]⟩, .string ⟨#[]⟩], .agg #[.string a.rel, .slice ta a.args.length tc]] W fun e w' => e = .returned (.agg #[.string (groundA nms0 a).rel, .string (groundA nms0 a).x, .string (groundA nms0 a).y]) ∧ Below W.heap.size W w') := fun W hk =>
    ground_any nms0 a _ b W (hS.kept (fun k c _ hc => (hk.block k (Array.getElem?_eq_some_iff.1 hc).1).trans hc)) hl hn
  clear hS hn
  unfold Gd.v Gd.c
  generalize hGr : (groundA nms0 a).rel = gr at *
  generalize hGx : (groundA nms0 a).x = gx at *
  generalize hGy : (groundA nms0 a).y = gy at *
  clear hGr hGx hGy
  have hH : Hid (∀ W1, Below ((w.alloc (.cells #[.string a.rel, .slice ta a.args.length tc] 92)).alloc (.cells #[.string ⟨#[]⟩, .string ⟨#[]⟩, .string ⟨#[]⟩] 111)).heap.size ((w.alloc (.cells #[.string a.rel, .slice ta a.args.length tc] 92)).alloc (.cells #[.string ⟨#[]⟩, .string ⟨#[]⟩, .string ⟨#[]⟩] 111)) W1 → W1.heap[w.heap.size + 1]? = some (Obj.cells #[.string ⟨#[]⟩, .string ⟨#[]⟩, .string ⟨#[]⟩] 111 (0, 0))) := by
    intro W1 hb
    refine (hb.block _ (by simp)).trans ?_
    have := World.alloc_heap_new (w.alloc (.cells #[.string a.rel, .slice ta a.args.length tc] 92)) (.cells #[.string ⟨#[]⟩, .string ⟨#[]⟩, .string ⟨#[]⟩] 111)
    rw [World.size_alloc] at this
    exact this
  go_enter Tryz.func48, Tryz.ntmps48
  go_wp2_with (go_at_call 89; refine (hg.out _ (((Below.refl _ w).alloc (Nat.le_refl _) _).alloc (by simp) _)).mono ?_; rintro e W1 ⟨rfl, hb1⟩; have hh := hH.out W1 hb1; have c0 : W1.cell? ⟨w.heap.size + 1, 0, none⟩ = some (.string ⟨#[]⟩) := (by simp [World.cell?, hh]); have c1 : W1.cell? ⟨w.heap.size + 1, 1, none⟩ = some (.string ⟨#[]⟩) := (by simp [World.cell?, hh]); have c2 : W1.cell? ⟨w.heap.size + 1, 2, none⟩ = some (.string ⟨#[]⟩) := (by simp [World.cell?, hh]); have f0 : W1.frozen? ⟨w.heap.size + 1, 0, none⟩ = false := (by simp [World.frozen?, hh]); have f1 : W1.frozen? ⟨w.heap.size + 1, 1, none⟩ = false := (by simp [World.frozen?, hh]); have f2 : W1.frozen? ⟨w.heap.size + 1, 2, none⟩ = false := (by simp [World.frozen?, hh]))
  refine bodyPost_ret (v := .agg #[.string gr, .string gx, .string gy]) (by simp [results, Tryz.results48, go_sem, c0, c1, c2]) rfl ?_
  exact ⟨rfl, ((((((Below.refl _ w).alloc (Nat.le_refl _) _).alloc (by simp) _).trans (hb1.mono (by simp; omega))).setCell (p := ⟨w.heap.size + 1, 0, none⟩) (by simp) _).setCell (p := ⟨w.heap.size + 1, 1, none⟩) (by simp) _).setCell (p := ⟨w.heap.size + 1, 2, none⟩) (by simp) _⟩

theorem given_any (v : Value) (w : World) (ta : Option Addr) (tn tc : Nat) (hva : v = .slice ta tn tc) :
    Calls Tryz.prog 135 #[v] w fun e w' => e = .returned (.func (.func 188) #[] #[.pointer (some ⟨w.heap.size, 0, none⟩)]) ∧ w' = w.alloc (.cells #[v] 75) := by
  subst hva
  go_enter Tryz.func135, Tryz.ntmps135
  go_wp2
  go_ret
  exact ⟨rfl, rfl⟩

/-- The heads of rules without a body: they never end. -/
def givenL (R : List Rl) : List (Gd × Int) := R.filterMap (fun r => if r.body = [] then some (groundA nms0 r.head, 2000000) else none)
theorem givenL_take {R : List Rl} {k : Nat} (h : k < R.length) : givenL (R.take (k + 1)) = givenL (R.take k) ++ (if (R[k]).body = [] then [(groundA nms0 (R[k]).head, 2000000)] else []) := by
  unfold givenL
  rw [List.take_succ_eq_append_getElem h, List.filterMap_append]
  congr 1
  by_cases hb : (R[k]).body = []
  · simp [hb]
  · simp [hb]

/-- A head that may be put into a model. -/
def HeadOk (r : Rl) : Prop := r.head.args.length ≤ 2 ∧ ∀ t ∈ r.head.args, t.num < 6

set_option maxRecDepth 100000 in
set_option maxHeartbeats 1000000 in
theorem given_seq (base Bl rb b45 b87 : Nat) (v : Value) (R : List Rl) (w : World) (hbox : w.heap[Bl]? = some (Obj.cells #[v] 75 (0, 0))) (hR : RulesAt w rb b45 b87 v R) (hok : ∀ r ∈ R, HeadOk r) (h8 : R.length ≤ 8) (m n0 : Nat) :
    SeqM m n0 188 #[.pointer (some ⟨Bl, 0, none⟩)] (fun x : Gd × Int => #[.agg (lastC x).toArray]) (LKept w.heap.size base m) (fun ys => ys = givenL R) (fun _ => True) R.length w := by
  obtain ⟨n, hn⟩ : ∃ n, 12 ≤ n := ⟨12, Nat.le_refl _⟩
  refine SeqM.any (n := n) ?_ n0
  have n1 : 1 ≤ n := by omega
  intro l J Jx W hW hsz hJ hJx hY h0
  have hbW := (hW.block Bl (Array.getElem?_eq_some_iff.1 hbox).1).trans hbox
  obtain ⟨va, vc, rfl⟩ := hR.form
  have c0 : W.cell? ⟨Bl, 0, none⟩ = some (.slice va R.length vc) := by simp [World.cell?, hbW]
  have HY : Hid _ := hY
  have HJ : Hid (OwnFrom W.heap.size J) := hJ
  have HJx : Hid (OwnFrom W.heap.size Jx) := hJx
  have HR : Hid _ := hR
  have HW : Hid _ := hW
  clear hY hJ hJx hR hW hbox
  refine callsIn_of_wp_marks Tryz.func188 rfl trivial ?_ rfl
  simp only [Tryz.ntmps188, List.size_toArray, List.length_cons, List.length_nil, Nat.reduceAdd, Nat.reduceSub, Array.replicate_succ, Array.replicate_zero, List.push_toArray, List.append_toArray, List.nil_append, List.cons_append]
  gi_wp2
  refine wpIn_loop (fun A V => ∃ (k : Nat) (u4 u8 u9 u10 u11 u12 u13 u14 u15 u16 u17 u18 u19 u20 u21 u22 u23 u24 : Value), A = { tmps := #[.func (.yield l) #[] #[], .pointer (some ⟨Bl, 0, none⟩), undef, undef, u4, .slice va R.length vc, .int .i64 R.length, .int .i64 k, u8, u9, u10, u11, u12, u13, u14, u15, u16, u17, u18, u19, u20, u21, u22, u23, u24], defers := [] } ∧ k ≤ R.length ∧ J (givenL (R.take k)) V ∧ LKept w.heap.size base m W V) (fun A _ => R.length - (intOf (A.tmps.getD 7 undef)).toNat) ⟨0, _, _, _, _, _, _, _, _, _, _, _, _, _, _, _, _, _, _, rfl, Nat.zero_le _, by simpa [givenL] using h0, LKept.ofBelow (Below.refl _ _)⟩ ?_
  rintro A V ⟨k, u4, u8, u9, u10, u11, u12, u13, u14, u15, u16, u17, u18, u19, u20, u21, u22, u23, u24, rfl, hk, hJk, hLk⟩
  by_cases hlt : k < R.length
  · have hrk : RuleKept w V := fun i c t ht hi => by
      have hil := (Array.getElem?_eq_some_iff.1 hi).1
      refine hLk.block i _ hil ((HW.out.block i hil).trans hi) (.inr (fun c' fz e => ?_))
      cases e
      rcases ht with h | h | h <;> revert h <;> decide
    obtain ⟨g, c, v0, vb, e0, x0, x1, x2, hv1, hv2⟩ := rules_cell (RulesAt.rk HR.out hrk) hlt
    cases e0
    obtain ⟨fa, fc, hf0⟩ := hv1.form
    obtain ⟨ga, gc, hfb⟩ := SealA.form hv2
    subst hf0 hfb
    have hal : ∀ O, Below V.heap.size V (V.alloc O) := fun O => (Below.refl _ V).alloc (Nat.le_refl _) O
    have hof : Hid (∀ W1, Below V.heap.size V W1 → Calls Tryz.prog 48 #[.agg #[.string (R[k]).head.rel, .slice fa (R[k]).head.args.length fc]] W1 fun e w' => e = .returned (.agg #[.string (groundA nms0 (R[k]).head).rel, .string (groundA nms0 (R[k]).head).x, .string (groundA nms0 (R[k]).head).y]) ∧ Below W1.heap.size W1 w') := fun W1 hb =>
      of_atom_any (R[k]).head _ b87 W1 (hv1.kept (fun i c _ hc => (hb.block i (Array.getElem?_eq_some_iff.1 hc).1).trans hc)) (hok _ (List.getElem_mem hlt)).1 (hok _ (List.getElem_mem hlt)).2
    have hgl := givenL_take hlt
    have hlen : (givenL (R.take k)).length ≤ k := by
      refine Nat.le_trans (List.length_filterMap_le _ _) ?_
      simp; omega
    have hyl : Hid (∀ W1, Below V.heap.size V W1 → YieldAt Fence.wide (n - 1) Tryz.prog l #[.agg #[.string (groundA nms0 (R[k]).head).rel, .string (groundA nms0 (R[k]).head).x, .string (groundA nms0 (R[k]).head).y, .int .i64 2000000]] W1 fun e W' => ∃ b : Bool, e = .returned (.bool b) ∧ ((b = true ∧ J (givenL (R.take k) ++ [(groundA nms0 (R[k]).head, 2000000)]) W' ∧ LKept w.heap.size base m V W') ∨ (b = false ∧ Jx (givenL (R.take k) ++ [(groundA nms0 (R[k]).head, 2000000)]) W'))) := by
      intro W1 hb
      obtain ⟨fn, tmps, assign, body, hy, hR⟩ := HY.out (givenL (R.take k)) (groundA nms0 (R[k]).head, 2000000) W1 (HJ.out _ _ _ none hJk (below_grownBy hb) (fun r e => by cases e)) (by omega)
      refine ⟨fn, tmps, assign, body, hy, hR.mono ?_⟩
      rintro e W' (⟨rfl, k1, k2⟩ | ⟨rfl, k1, k2⟩)
      · exact ⟨true, rfl, .inl ⟨rfl, k1, (LKept.ofBelow hb).tr k2⟩⟩
      · exact ⟨false, rfl, .inr ⟨rfl, k1⟩⟩
    generalize hxk : R[k] = rk at *
    have HLK : Hid _ := hLk
    have HGL : Hid (givenL (R.take (k + 1)) = givenL (R.take k) ++ (if rk.body = [] then [(groundA nms0 rk.head, 2000000)] else [])) := hgl
    have HB : Hid _ := hal
    clear hal hLk hxk hrk hv1 hv2 hgl
    cases hbd : rk.body with
    | nil =>
      have HGL2 : Hid (givenL (R.take (k + 1)) = givenL (R.take k) ++ [(groundA nms0 rk.head, 2000000)]) := by show _ = _; rw [HGL.out, if_pos hbd]
      rw [hbd] at x2
      clear hbd HGL
      generalize hGr : (groundA nms0 rk.head).rel = gr at *
      generalize hGx : (groundA nms0 rk.head).x = gx at *
      generalize hGy : (groundA nms0 rk.head).y = gy at *
      clear hGr hGx hGy
      gi_wp2_with (first | (refine ⟨trivial, ?_⟩; gi_at_call 48; refine (callsIn_wide.2 (hof.out _ (HB.out _))).mono ?_; rintro e W1 ⟨rfl, hb1⟩; obtain ⟨fn, tmps, assign, body, hy, hR⟩ := hyl.out W1 ((HB.out _).trans (hb1.mono (by simp)))))
      refine hR.mono ?_
      rintro e W2 ⟨b, rfl, ⟨rfl, hJ2, hk2⟩ | ⟨rfl, hJx2⟩⟩
      · clear hy hR
        gi_wp2
        refine ⟨⟨k + 1, _, _, _, _, _, _, _, _, _, _, _, _, _, _, _, _, _, _, rfl, by omega, by rw [HGL2.out]; exact hJ2, HLK.out.tr hk2⟩, ?_⟩
        simp [intOf]; omega
      · clear hy hR
        gi_wp2
        exact ⟨_, results_none rfl _ _ _, ⟨_, rfl⟩, .inr ⟨_, trivial, hJx2⟩⟩
    | cons a0 at2 =>
      have HGL2 : Hid (givenL (R.take (k + 1)) = givenL (R.take k)) := by show _ = _; rw [HGL.out, if_neg (by rw [hbd]; simp), List.append_nil]
      rw [hbd] at x2
      clear hbd HGL
      have hz : ((at2.length : Int) + 1 == 0) = false := by simp; omega
      gi_wp2
      refine ⟨trivial, ?_⟩
      gi_wp2
      refine ⟨fun f h => (by cases h), ?_⟩
      gi_wp2
      refine ⟨⟨k + 1, _, _, _, _, _, _, _, _, _, _, _, _, _, _, _, _, _, _, rfl, by omega, by rw [HGL2.out]; exact HJ.out _ _ _ none hJk (below_grownBy (HB.out _)) (fun r e => by cases e), HLK.out.tr (LKept.ofBelow (HB.out _))⟩, ?_⟩
      simp [intOf]; omega
  · have hkl : k = R.length := by omega
    subst hkl
    rw [List.take_length] at hJk
    gi_wp2
    exact ⟨_, results_none rfl _ _ _, ⟨_, rfl⟩, .inl ⟨_, rfl, hJk⟩⟩

end Go.Proofs.YtjajnhemgphefaaGreatDoor

namespace Go.Proofs.YtjajnhemgphefaaGreatDoor
open Go.RowKit Go.Shelf Go.Maps
set_option linter.unusedVariables false
set_option linter.unusedSimpArgs false

theorem opIn_append_at {F : Fence} {nF : Nat} {P : Program} (w : World) {o : Oper} {a : Act} {K : Act → World → Prop} {Q : Exit → Act → World → Prop} (s x : Operand) (t : TypeId)
    (ho : o.op = .call { callee := .builtin .append, args := #[s, x], argTypes := #[t, t] })
    (base : Nat) (e : TypeId) (i : TypeInfo) (z : Value) (size bytes : Nat) (ht : P.underlying t = some (.slice e)) (hi : P.info? e = some i) (hz : i.zero = some z)
    (hsize : i.size = size) (hby : i.bytes = bytes) (hzs : z.cells.size = size) (hsz : 0 < size)
    (v : Value) (n : Nat) (xs : List Value) (hs : a.eval s = v) (hown : w.ownsRow base e size v n xs)
    (ad : Addr) (m c : Nat) (news : List Value) (hx : a.eval x = .slice (some ad) m c) (hl : news.length = m * size) (hnews : ∀ j u, news[j]? = some u → w.cell? (ad.add j) = some u) (h1 : ∀ u ∈ news, u.oneCell' = true)
    (h63 : n + m ≤ maxLen) (hbytes : (n + m) * bytes ≤ 140737488355328) (hbase : base ≤ w.heap.size)
    (h : ∀ v' w', w'.ownsRow base e size v' (n + m) (xs ++ news) → w.grownBy w' v.ownBlock → (v'.ownBlock = v.ownBlock ∨ v'.ownBlock = some w.heap.size) → K (a.put o.dst v') w') :
    Oper.wpIn F nF P o a w K Q := by
  obtain ⟨v', w', hr, h2, h3, h4, h5⟩ := run_append_own_at (P := P) w base t o.type e i z size bytes ht hi hz hsize hby hzs hsz v n xs hown ad m c news hl hnews h1 h63 hbytes hbase
  unfold Oper.wpIn
  refine ⟨by simp [Oper.about, ho, resolve, Target.leads, Sem.run_pure], ?_⟩
  rw [Oper.semAt_plain F _ _ (by rw [ho]; intro c hc'; cases hc')]
  simp [execOp, ho, resolve, invoke, builtin, hs, hx, hr, Result.andThen]
  exact h _ _ h2 h3 h5

end Go.Proofs.YtjajnhemgphefaaGreatDoor
