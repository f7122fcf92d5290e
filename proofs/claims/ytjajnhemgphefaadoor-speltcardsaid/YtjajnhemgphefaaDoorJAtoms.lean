/-
  Rule.Atoms: the iterator over the atoms of a rule, its head first.
-/
import Derived.Test.YtjajnhemgphefaaDoorJParse
namespace Go.Proofs.YtjajnhemgphefaaDoor
open Go.RowKit Go.Shelf
set_option linter.unusedVariables false
set_option linter.unusedSimpArgs false
attribute [local go_sem] Oper.semAt_some

/-- An atom, with its slice of terms as it was read in the world w0. -/
def AtX (w0 : World) (b : Nat) : Type := { p : Am × Value // SealT w0 b p.2 p.1.args ∧ AmOk p.1 }

/-- What a loop over atoms or terms leaves alone: rows of rules, atoms and terms. -/
def RuleKept (W W' : World) : Prop := ∀ (k : Nat) (c : Array Value) (t : TypeId), (t = 48 ∨ t = 45 ∨ t = 80) → W.heap[k]? = some (Obj.cells c t (0, 0)) → W'.heap[k]? = some (Obj.cells c t (0, 0))

theorem RuleKept.refl (W : World) : RuleKept W W := fun _ _ _ _ h => h
theorem RuleKept.trans {A B C : World} (h : RuleKept A B) (k : RuleKept B C) : RuleKept A C := fun i c t ht hi => k i c t ht (h i c t ht hi)
theorem RuleKept.ofBelow {W W' : World} (h : Below W.heap.size W W') : RuleKept W W' := fun k c t _ hk => (h.block k (Array.getElem?_eq_some_iff.1 hk).1).trans hk
theorem RuleKept.put (W : World) (l : Nat) (o o' : Obj) (h : W.heap[l]? = some o) (ho : o.isCells = false) : RuleKept W (W.putObj l o') := fun k c t _ hk =>
  kept_of_grown (grownBy_putObj' W l o') (fun r e => by cases e; exact ⟨_, h, ho⟩) k c t _ hk
theorem SealT.rk {W W' : World} {b : Nat} {v : Value} {l : List Tm} (h : SealT W b v l) (hk : RuleKept W W') : SealT W' b v l := h.kept (fun k c _ hc => hk k c _ (.inr (.inr rfl)) hc)
theorem SealA.rk {W W' : World} {b45 b87 : Nat} {v : Value} {l : List Am} (h : SealA W b45 b87 v l) (hk : RuleKept W W') : SealA W' b45 b87 v l := h.kept (fun k c _ hc => hk k c _ (.inr (.inl rfl)) hc) (fun k c _ hc => hk k c _ (.inr (.inr rfl)) hc)

theorem ratoms_any (c : Array Value) (x y z : Value) (hc : c = #[x, y, z]) (hx : x.oneCell' = true) (hy : y.oneCell' = true) (hz : z.oneCell' = true) (w : World) :
    Calls Tryd.prog 25 #[.agg c] w fun e w' => e = .returned (.func (.func 44) #[] #[.pointer (some ⟨w.heap.size, 0, none⟩)]) ∧ w' = w.alloc (.cells #[x, y, z] 48) := by
  subst hc
  go_enter Tryd.func25, Tryd.ntmps25
  go_wp2
  go_ret
  exact ⟨rfl, rfl⟩

theorem flat_two {α : Type} (f g : α → Value) (l : List α) (i : Nat) (h : i < l.length) : (l.flatMap fun x => [f x, g x])[i * 2]? = some (f l[i]) ∧ (l.flatMap fun x => [f x, g x])[i * 2 + 1]? = some (g l[i]) := by
  induction l generalizing i with
  | nil => simp at h
  | cons a l ih =>
    cases i with
    | zero => simp
    | succ i =>
      simp only [List.length_cons] at h
      have := ih i (by omega)
      simp only [List.flatMap_cons, List.cons_append, List.nil_append]
      rw [show (i + 1) * 2 = i * 2 + 2 by omega]
      exact this

set_option maxHeartbeats 1000000 in
theorem atoms1_in (n : Nat) (hn : 1 ≤ n) (l B : Nat) (w0 : World) (b87 : Nat) (x0 : AtX w0 b87) (L : List (AtX w0 b87)) (hL : L.length ≤ 1000) (a : Option Addr) (cap : Nat) (J Jx : List (AtX w0 b87) → World → Prop) (W : World)
    (hJ : AbidesFrom W.heap.size J)
    (hY : ∀ pre x W1, J pre W1 → pre.length < (x0 :: L).length → YieldAt Fence.wide (n - 1) Tryd.prog l #[.agg #[.string x.1.1.rel, x.1.2]] W1 fun e W' =>
      (e = .returned (.bool true) ∧ J (pre ++ [x]) W' ∧ RuleKept W1 W') ∨ (e = .returned (.bool false) ∧ Jx (pre ++ [x]) W'))
    (hB : W.heap[B]? = some (Obj.cells #[.string x0.1.1.rel, x0.1.2, .slice a L.length cap] 48 (0, 0)))
    (hrow : L ≠ [] → ∃ (g off : Nat) (cur : Array Value), a = some ⟨g, off, none⟩ ∧ W.heap[g]? = some (Obj.cells cur 45 (0, 0)) ∧ (cur.toList.drop off).take (L.length * 2) = L.flatMap fun x => [.string x.1.1.rel, x.1.2])
    (h0 : J [] W) :
    CallsIn Fence.wide n Tryd.prog 44 #[.func (.yield l) #[] #[], .pointer (some ⟨B, 0, none⟩)] W fun e W' => (∃ v, e = .returned v) ∧
      ((∃ ys, ys = x0 :: L ∧ J ys W') ∨ (∃ pre, pre <+: x0 :: L ∧ Jx pre W')) := by
  refine callsIn_of_wp Tryd.func44 rfl trivial ?_ rfl
  simp only [Tryd.ntmps44, List.size_toArray, List.length_cons, List.length_nil, Nat.reduceAdd, Nat.reduceSub, Array.replicate_succ, Array.replicate_zero, List.push_toArray, List.append_toArray, List.nil_append, List.cons_append]
  have HY : Hid _ := hY
  have HJ : Hid (AbidesFrom W.heap.size J) := hJ
  have cB0 : W.cell? ⟨B, 0, none⟩ = some (.string x0.1.1.rel) := by simp [World.cell?, hB]
  have cB1 : W.cell? ⟨B, 1, none⟩ = some x0.1.2 := by simp [World.cell?, hB]
  have hform : ∃ a' n' c', x0.1.2 = .slice a' n' c' := by obtain ⟨a', c', e⟩ := x0.2.1.form; exact ⟨a', _, c', e⟩
  obtain ⟨fn, tmps, assign, body, hy, hR⟩ := hY [] x0 W h0 (by simp)
  clear hY hJ
  obtain ⟨fa, fn', fc, hf⟩ := hform
  rw [hf] at cB1 hy
  gi_wp2
  refine hR.mono ?_
  rintro e W1 (⟨rfl, hJ1, hk1⟩ | ⟨rfl, hJx1⟩)
  · have hB1 := hk1 _ _ _ (.inl rfl) hB
    have cB2 : W1.cell? ⟨B, 2, none⟩ = some (.slice a L.length cap) := by simp [World.cell?, hB1]
    clear hy hR cB0 cB1
    gi_wp2
    gi_loopw [13] (fun i wr => ∃ k : Nat, k ≤ L.length ∧ i = .int .i64 k ∧ J (x0 :: L.take k) wr ∧ RuleKept W wr) (fun i _ => L.length - (intOf i).toNat)
    case atStart => exact ⟨0, Nat.zero_le _, rfl, by simpa using hJ1, hk1⟩
    case round =>
      obtain ⟨k, hk, rfl, hJk, hkk⟩ := hrel
      by_cases hlt : k < L.length
      · obtain ⟨g, off, cur, rfl, hg, hcells⟩ := hrow (by intro e; rw [e] at hlt; simp at hlt)
        have hgr := hkk _ _ _ (.inr (.inl rfl)) hg
        obtain ⟨p0, p1⟩ := flat_two (fun x : AtX w0 b87 => Value.string x.1.1.rel) (fun x => x.1.2) L k hlt
        rw [← hcells, List.getElem?_take, if_pos (by omega), List.getElem?_drop] at p0
        rw [← hcells, List.getElem?_take, if_pos (by omega), List.getElem?_drop] at p1
        have hxk : x0 :: L.take (k + 1) = (x0 :: L.take k) ++ [L[k]] := by rw [List.take_succ_eq_append_getElem hlt]; rfl
        have HXK : Hid (x0 :: L.take (k + 1) = (x0 :: L.take k) ++ [L[k]]) := hxk
        have hpf : Hid ((x0 :: L.take k) ++ [L[k]] <+: x0 :: L) := by show _ <+: _; rw [← hxk]; exact List.cons_prefix_cons.2 ⟨rfl, List.take_prefix _ _⟩
        clear hxk
        have hlen : (x0 :: L.take k).length < (x0 :: L).length := by simp; omega
        generalize L[k] = xk at *
        obtain ⟨fa', fc', hfk⟩ := xk.2.1.form
        have q0 : wr.cell? ⟨g, off + k * 2, none⟩ = some (.string xk.1.1.rel) := by simp only [World.cell?, hgr]; simpa using p0
        have q1 : wr.cell? ⟨g, off + k * 2 + 1, none⟩ = some (.slice fa' xk.1.1.args.length fc') := by simp only [World.cell?, hgr]; rw [← hfk]; simpa [Nat.add_assoc] using p1
        have hbl : Below wr.heap.size wr (wr.alloc (.cells #[.string xk.1.1.rel, .slice fa' xk.1.1.args.length fc'] 45)) := (Below.refl _ wr).alloc (Nat.le_refl _) _
        obtain ⟨fn2, tmps2, assign2, body2, hy2, hR2⟩ := HY.out (x0 :: L.take k) xk (wr.alloc (.cells #[.string xk.1.1.rel, .slice fa' xk.1.1.args.length fc'] 45)) (HJ.out _ _ _ none hJk (below_grownBy hbl) (fun r e => by cases e)) hlen
        rw [hfk] at hy2
        clear p0 p1 hcells hfk hB hrow cB2 hB1
        gi_wp2
        refine hR2.mono ?_
        rintro e W3 (⟨rfl, hJ3, hk3⟩ | ⟨rfl, hJx3⟩)
        · clear hy2 hR2
          gi_wp2
          go_roundw
          case rel => exact ⟨k + 1, by omega, by go_num, by rw [HXK.out]; exact hJ3, (hkk.trans (RuleKept.ofBelow hbl)).trans hk3⟩
          case measure => simp [intOf]; omega
        · gi_wp2
          refine bodyPost_ret (results_none rfl _ _ _) rfl ?_
          exact ⟨⟨_, rfl⟩, .inr ⟨_, hpf.out, hJx3⟩⟩
      · gi_wp2
        go_end0
        exact ⟨⟨_, rfl⟩, .inl ⟨_, rfl, by rw [List.take_of_length_le (by omega)] at hJk; exact hJk⟩⟩
  · gi_wp2
    refine bodyPost_ret (results_none rfl _ _ _) rfl ?_
    exact ⟨⟨_, rfl⟩, .inr ⟨[x0], ⟨L, rfl⟩, hJx1⟩⟩

theorem atoms_stops (n : Nat) (hn : 1 ≤ n) (B : Nat) (w0 : World) (b87 : Nat) (x0 : AtX w0 b87) (L : List (AtX w0 b87)) (hL : L.length ≤ 1000) (a : Option Addr) (cap : Nat) (w : World)
    (hB : w.heap[B]? = some (Obj.cells #[.string x0.1.1.rel, x0.1.2, .slice a L.length cap] 48 (0, 0)))
    (hrow : L ≠ [] → ∃ (g off : Nat) (cur : Array Value), a = some ⟨g, off, none⟩ ∧ w.heap[g]? = some (Obj.cells cur 45 (0, 0)) ∧ (cur.toList.drop off).take (L.length * 2) = L.flatMap fun x => [.string x.1.1.rel, x.1.2]) :
    SeqStopsK Fence.wide n Tryd.prog 44 #[.pointer (some ⟨B, 0, none⟩)] (fun x : AtX w0 b87 => #[.agg #[.string x.1.1.rel, x.1.2]]) RuleKept (fun ys => ys = x0 :: L) (fun pre => pre <+: x0 :: L) (x0 :: L).length w :=
  fun l J Jx W hW hJ _ hY h0 => atoms1_in n hn l B w0 b87 x0 L hL a cap J Jx W hJ hY (RuleKept.ofBelow hW _ _ _ (.inl rfl) hB)
    (fun hne => by obtain ⟨g, off, cur, h1, h2, h3⟩ := hrow hne; exact ⟨g, off, cur, h1, RuleKept.ofBelow hW _ _ _ (.inr (.inl rfl)) h2, h3⟩) h0

end Go.Proofs.YtjajnhemgphefaaDoor
