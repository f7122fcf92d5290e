/-
  The engine: Tick.
  The engine: New.
  What the statements of ebbkeep call beside the program: pick, point, of.
  The statement Reset in plain data: one relation that is another; its facts, and what is told of them.
-/
import Derived.Test.YtjajnhemgphefaaGreatDoorJEgW
import Derived.Test.YtjajnhemgphefaaGreatDoorJEgU
import Derived.Test.YtjajnhemgphefaaGreatDoorJRef2
import Derived.BigQuiet
import Derived.KernelRfl
namespace Go.Proofs.YtjajnhemgphefaaGreatDoor
open Go.RowKit Go.Shelf Go.Maps
set_option linter.unusedVariables false
set_option linter.unusedSimpArgs false

/-- What Tick does. -/
def TickPost (S : Nat → Prop) (be : Nat) (e : Eg) (c : Int) (w : World) (en : Ending) (w' : World) : Prop :=
  ∃ e' r, TickE e c e' r ∧ en = .returned (.tuple #[.int .i64 r.1, .int .i64 r.2]) ∧ EngPost S be e' w w'

set_option maxRecDepth 100000 in
set_option maxHeartbeats 4000000 in
theorem tick_any (S : Nat → Prop) (be : Nat) (e : Eg) (c : Int) (w : World) (h : EngAt w S be e) (hok : EgOk e) :
    Calls Tryz.prog 22 #[.pointer (some ⟨be, 0, none⟩), .int .i64 c] w (TickPost S be e c w) := by
  have HE : Hid (EngAt w S be e) := h
  have hwi : Hid (∀ W, Calls Tryz.prog 43 #[.int .i64 c, .int .i64 0, .int .i64 1000000] W fun e' w' => e' = .returned (.bool (decide (0 ≤ c) && decide (c ≤ 1000000))) ∧ W = w') := fun W => by
    refine (isWithin_any c 0 1000000 W).mono ?_
    rintro e' w' ⟨h1, h2⟩; exact ⟨h1, h2.symm⟩
  by_cases hc : 0 ≤ c ∧ c ≤ 1000000
  · have hwt : (decide (0 ≤ c) && decide (c ≤ 1000000)) = true := by simp [hc.1, hc.2]
    rw [hwt] at hwi
    obtain ⟨vr, vn, vk, vf, bm, rb, b45, b87, bfs, Sf, hv⟩ := h
    have hb := hv.blk
    have c2 : w.cell? ⟨be, 2, none⟩ = some (.int .i64 e.lat) := by simp [World.cell?, hb]
    have c4 : w.cell? ⟨be, 4, none⟩ = some (.int .i64 e.mark) := by simp [World.cell?, hb]
    have hl := hok.lat
    have hwr : IntKind.i64.wrap (c - e.lat) = c - e.lat := wrap_small _ (by omega) (by omega)
    have hmk := hok.mark
    have HC : Hid (0 ≤ c ∧ c ≤ 1000000) := hc
    by_cases hgo : e.mark < c - e.lat
    · have hmv : Hid (Calls Tryz.prog 46 #[.pointer (some ⟨be, 0, none⟩), .int .i64 (c - e.lat)] w fun en w' => en = .returned (.tuple #[]) ∧ ∃ e', Hid (MoveE e (c - e.lat) e') ∧ Hid (EngPost S be e' w w') ∧ w'.cell? ⟨be, 4, none⟩ = some (.int .i64 (c - e.lat))) := by
        refine (move_any S be e (c - e.lat) w HE.out hok ⟨by omega, by omega⟩).mono ?_
        rintro en w' ⟨h1, e', h2, h3⟩
        have h3' := h3
        obtain ⟨S', ⟨vr', vn', vk', vf', bm', rb', b45', b87', bfs', Sf', hv'⟩, _⟩ := h3
        have hm : e'.mark = c - e.lat := by obtain ⟨M', fds', _, _, _, rfl⟩ := h2; rfl
        have hb' := hv'.blk
        exact ⟨h1, e', h2, h3', by rw [← hm]; simp [World.cell?, hb']⟩
      have HG : Hid (e.mark < c - e.lat) := hgo
      clear hv hb hc hwt hok hl hmk
      go_enter Tryz.func22, Tryz.ntmps22
      go_wp2_with (first | (go_at_call 43; refine (hwi.out _).mono ?_; rintro e' w' ⟨rfl, hw'⟩; subst hw') | (go_at_call 46; refine Calls.mono hmv.out ?_; rintro e' W1 ⟨rfl, e1, hm1, hp1, d4⟩))
      go_ret2
      have hm : e1.mark = c - e.lat := by obtain ⟨M', fds', _, _, _, rfl⟩ := hm1.out; rfl
      exact ⟨e1, (c - e.lat, 0), .inr ⟨HC.out, by rw [hm], .inr ⟨HG.out, hm1.out⟩⟩, rfl, hp1.out⟩
    · have HG : Hid (c - e.lat ≤ e.mark) := by show _ ≤ _; omega
      clear hv hb hc hwt hok hl hmk
      go_enter Tryz.func22, Tryz.ntmps22
      go_wp2_with (go_at_call 43; refine (hwi.out _).mono ?_; rintro e' w' ⟨rfl, hw'⟩; subst hw')
      go_ret2
      exact ⟨e, (e.mark, 0), .inr ⟨HC.out, rfl, .inl ⟨HG.out, rfl⟩⟩, rfl, EngPost.same HE.out (Below.refl _ _)⟩
  · have hwt : (decide (0 ≤ c) && decide (c ≤ 1000000)) = false := by
      rw [Bool.and_eq_false_iff]
      simp only [decide_eq_false_iff_not]
      omega
    rw [hwt] at hwi
    have HC : Hid (¬ (0 ≤ c ∧ c ≤ 1000000)) := hc
    clear hc hwt h hok
    go_enter Tryz.func22, Tryz.ntmps22
    go_wp2_with (go_at_call 43; refine (hwi.out _).mono ?_; rintro e' w' ⟨rfl, hw'⟩; subst hw')
    go_ret2
    exact ⟨e, (0, 6), .inl ⟨HC.out, rfl, rfl⟩, rfl, EngPost.same HE.out (Below.refl _ _)⟩

end Go.Proofs.YtjajnhemgphefaaGreatDoor

namespace Go.Proofs.YtjajnhemgphefaaGreatDoor
open Go.RowKit Go.Shelf Go.Maps
set_option linter.unusedVariables false
set_option linter.unusedSimpArgs false

/-- The names that stand in rules. -/
def namesR (ns : List ByteArray) (rs : List Rl) : List ByteArray := rs.foldl (fun ns r => nmL ns (ruleTerms r)) ns
theorem namesR_take {rs : List Rl} {k : Nat} (h : k < rs.length) : namesR [] (rs.take (k + 1)) = nmL (namesR [] (rs.take k)) (ruleTerms rs[k]) := by
  unfold namesR
  rw [List.take_succ_eq_append_getElem h, List.foldl_append]
  rfl
/-- An engine that is new. -/
def newE (rs : List Rl) (win lat que : Int) (M : Gd → Option Int) : Eg := ⟨rs, win, lat, que, 0, namesR [] rs, [], M, []⟩

/-- What is asked of the rules of a new engine. -/
structure NewOk (s : ByteArray) (rs : List Rl) : Prop where
  parse : parseR s = .ok rs
  rules : (rulesR s).2.1 = 0
  ok : RsOk rs
  n8 : ∀ k, (namesR [] (rs.take k)).length ≤ 8
  nrs : ∀ r ∈ rs, ∀ t ∈ r.head.args, t.name ≠ eB → t.name ∈ namesR [] rs
  nsz : ∀ x ∈ namesR [] rs, x.size ≤ 1200

def NewPost (rs : List Rl) (win lat que : Int) (w : World) (en : Ending) (w' : World) : Prop :=
  ∃ (be : Nat) (S : Nat → Prop) (M : Gd → Option Int), en = .returned (.tuple #[.pointer (some ⟨be, 0, none⟩), .int .i64 0]) ∧ LeastM rs (givenL rs) M ∧ EngAt w' S be (newE rs win lat que M) ∧ (∀ k, S k → w.heap.size ≤ k) ∧ Below w.heap.size w w'

/-- The engine while its names are gathered. -/
def NwI (W3 : World) (N B : Nat) (vr : Value) (win lat que : Int) (us : List ByteArray) (vn : Value) (V : World) : Prop :=
  V.heap[N]? = some (Obj.cells #[vr, .int .i64 win, .int .i64 lat, .int .i64 que, .int .i64 0, vn, .slice none 0 0, .map (some B), .slice none 0 0] 101 (0, 0)) ∧ V.ownsRow (N + 1) 9 1 vn us.length (us.map Value.string) ∧ Chg W3 V (fun j => j = N)
theorem NwI.rk {W3 V : World} {N B : Nat} {vr : Value} {win lat que : Int} {us : List ByteArray} {vn : Value} (h : NwI W3 N B vr win lat que us vn V) {c0 : Array Value} (h3 : W3.heap[N]? = some (Obj.cells c0 101 (0, 0))) : RuleKept W3 V := by
  intro k c t ht hc
  refine (h.2.2.block k (Array.getElem?_eq_some_iff.1 hc).1 (fun e => ?_)).trans hc
  rw [e, h3] at hc; cases hc
  rcases ht with h | h | h <;> cases h
/-- A round's end. -/
theorem NwI.next {W3 V V2 W6 : World} {N B : Nat} {vr : Value} {win lat que : Int} {us us' : List ByteArray} {vn vn' : Value} (h : NwI W3 N B vr win lat que us vn V) (hs3 : W3.heap.size = N + 1) (hb : Below V.heap.size V V2) (hso : StrOnly (N + 1) V2 W6) (ho : W6.ownsRow (N + 1) 9 1 vn' us'.length (us'.map Value.string)) :
    W6.cell? ⟨N, 5, none⟩ = some vn ∧ W6.frozen? ⟨N, 5, none⟩ = false ∧ NwI W3 N B vr win lat que us' vn' (W6.setCell ⟨N, 5, none⟩ vn') := by
  obtain ⟨h1, h2, h3⟩ := h
  have hsz : N + 1 ≤ V.heap.size := by have := h3.size; omega
  have hbN : Below (N + 1) V W6 := (hb.mono hsz).trans (strBelow hso (by have := hb.size; omega))
  have b6 := (hbN.block N (by omega)).trans h1
  refine ⟨by simp [World.cell?, b6], by simp [World.frozen?, b6], heap_set b6 5 vn', owns_set ho ⟨N, 5, none⟩ vn' (owns_ne ho b6 (by decide)), ?_⟩
  have hc : Chg W3 W6 (fun j => j = N) := ⟨hbN.os.trans h3.os, hbN.tape.trans h3.tape, hbN.output.trans h3.output, Nat.le_trans h3.size hbN.size, fun j hj hn => (hbN.block j (by omega)).trans (h3.block j hj hn)⟩
  exact hc.setCell ⟨N, 5, none⟩ vn' (fun _ => rfl)

set_option maxRecDepth 100000 in
set_option maxHeartbeats 4000000 in
theorem new_any (s : ByteArray) (rs : List Rl) (win lat que : Int) (w : World) (hok : NewOk s rs) (hs : s.size ≤ 4611686018427387904) (hT : Lib.Utf8Tabs 0 1 w) (h1 : 1 ≤ win ∧ win ≤ 1000) (h2 : 0 ≤ lat ∧ lat ≤ 1000) (h3 : 1 ≤ que ∧ que ≤ 50) :
    Calls Tryz.prog 39 #[.string s, .int .i64 win, .int .i64 lat, .int .i64 que] w (NewPost rs win lat que w) := by
  have hrd : Hid (Calls Tryz.prog 30 #[.string s] w fun e w' => ∃ (ra : Option Addr) (rc b45 b87 : Nat), e = .returned (.tuple #[.slice ra rs.length rc, .int .i64 0, .int .i64 0]) ∧ RulesAt w' w.heap.size b45 b87 (.slice ra rs.length rc) rs ∧ Below w.heap.size w w') := by
    refine (readAll_any s w hs hT).mono ?_
    rintro e w' ⟨hb, ⟨c, p, _, hc, hr⟩ | ⟨rs', v, b45, b87, he, hR, _, _, _, hp, _⟩⟩
    · have := hok.rules
      rw [hr] at this
      exact absurd this hc
    · have hrs : rs' = rs := by
        have := hp.symm.trans hok.parse
        injection this
      subst hrs
      obtain ⟨ra, rc, hf⟩ := hR.form
      subst hf
      exact ⟨ra, rc, b45, b87, he, hR, hb⟩
  have hwi : Hid (∀ (n l m : Int) W, l ≤ n → n ≤ m → Calls Tryz.prog 43 #[.int .i64 n, .int .i64 l, .int .i64 m] W fun e' w' => e' = .returned (.bool true) ∧ W = w') := fun n l m W a b => by
    refine (isWithin_any n l m W).mono ?_
    rintro e' w' ⟨h1, h2⟩
    rw [show (decide (l ≤ n) && decide (n ≤ m)) = true by simp [a, b]] at h1
    exact ⟨h1, h2.symm⟩
  have H1 : Hid _ := h1
  have H2 : Hid _ := h2
  have H3 : Hid _ := h3
  have HOK : Hid _ := hok
  clear h1 h2 h3 hok hT
  go_enter Tryz.func39, Tryz.ntmps39
  go_wp2_with fail
  refine Calls.mono hrd.out ?_
  rintro e' W1 ⟨ra, rc, b45, b87, rfl, hR, hb1⟩
  go_wp2_with fail
  refine (hwi.out win 1 1000 _ H1.out.1 H1.out.2).mono ?_
  rintro e' w' ⟨rfl, hw'⟩
  subst hw'
  go_wp2_with fail
  refine (hwi.out lat 0 1000 _ H2.out.1 H2.out.2).mono ?_
  rintro e' w' ⟨rfl, hw'⟩
  subst hw'
  go_wp2_with fail
  refine (hwi.out que 1 50 _ H3.out.1 H3.out.2).mono ?_
  rintro e' w' ⟨rfl, hw'⟩
  subst hw'
  go_wp2_with fail
  have hn8 : (namesR [] rs).length ≤ 8 := by have := HOK.out.n8 rs.length; rw [List.take_length] at this; exact this
  have hlea : Hid (Calls Tryz.prog 75 #[.slice ra rs.length rc, .slice none 0 0] W1 fun e' w' => ∃ B M, e' = .returned (.map (some B)) ∧ MdAt w' B 5000 M ∧ LeastM rs (givenL rs) M ∧ Below W1.heap.size W1 w') := by
    refine (least_any (arR rs) rs [] (uni (relsR rs) (namesR [] rs)) _ _ w.heap.size b45 b87 0 W1 (ls_ok HOK.out.ok hn8 HOK.out.nsz HOK.out.nrs ⟨by simp, by simp⟩) hR ⟨rfl, .inl ⟨rfl, rfl⟩⟩).mono ?_
    rintro e' w' ⟨B, M, h1, h2, h3, _, h4⟩
    exact ⟨B, M, h1, MdL.at' h2, h3, h4⟩
  refine Calls.mono hlea.out ?_
  rintro e' W2 ⟨B, M, rfl, hmd, hlm, hb2⟩
  have hbw2 : Below w.heap.size w W2 := hb1.trans (hb2.mono hb1.size)
  have hR2 : RulesAt W2 w.heap.size b45 b87 (.slice ra rs.length rc) rs := hR.rk (RuleKept.ofBelow hb2)
  obtain ⟨N, hN⟩ : ∃ N, W2.heap.size = N := ⟨_, rfl⟩
  obtain ⟨W3, hW3⟩ : ∃ W3, W2.alloc (.cells #[.slice ra rs.length rc, .int .i64 win, .int .i64 lat, .int .i64 que, .int .i64 0, .slice none 0 0, .slice none 0 0, .map (some B), .slice none 0 0] 101) = W3 := ⟨_, rfl⟩
  have HLM : Hid _ := hlm
  have e3 : W3.heap[N]? = some (Obj.cells #[.slice ra rs.length rc, .int .i64 win, .int .i64 lat, .int .i64 que, .int .i64 0, .slice none 0 0, .slice none 0 0, .map (some B), .slice none 0 0] 101 (0, 0)) := by rw [← hW3, ← hN]; exact World.alloc_heap_new W2 _
  have hs3 : W3.heap.size = N + 1 := by rw [← hW3, ← hN]; simp
  have hb3 : Below W2.heap.size W2 W3 := by rw [← hW3]; exact (Below.refl _ W2).alloc (Nat.le_refl _) _
  have hR3 : Hid (RulesAt W3 w.heap.size b45 b87 (.slice ra rs.length rc) rs) := hR2.rk (RuleKept.ofBelow hb3)
  have hM3 : Hid (MdAt W3 B 5000 M) := hmd.below hb3
  have hbw3 : Hid (Below w.heap.size w W3) := hbw2.trans (hb3.mono hbw2.size)
  have hwN : Hid (w.heap.size ≤ N) := by show _ ≤ _; rw [← hN]; exact hbw2.size
  have hfirst : Hid (NwI W3 N B (.slice ra rs.length rc) win lat que [] (.slice none 0 0) W3) := ⟨e3, ⟨rfl, .inl ⟨rfl, rfl⟩⟩, Chg.refl _ _⟩
  have HE3 : Hid _ := e3
  have HS3 : Hid _ := hs3
  -- one round's call
  have hround : Hid (∀ k (hk : k < rs.length) (wr : World) (us : List ByteArray) (vn : Value), NwI W3 N B (.slice ra rs.length rc) win lat que us vn wr → us.length ≤ 8 → ∃ g fa fn fc ga gn gc, ra = some ⟨g, 0, none⟩ ∧ wr.cell? ⟨g, k * 3, none⟩ = some (.string (rs[k]).head.rel) ∧ wr.cell? ⟨g, k * 3 + 1, none⟩ = some (.slice fa fn fc) ∧ wr.cell? ⟨g, k * 3 + 2, none⟩ = some (.slice ga gn gc) ∧
      Hid (Calls Tryz.prog 76 #[vn, .func (.func 141) #[] #[.pointer (some ⟨wr.heap.size + 1, 0, none⟩)]] ((wr.alloc (.cells #[.string (rs[k]).head.rel, .slice fa fn fc, .slice ga gn gc] 136)).drew.alloc (.cells #[.string (rs[k]).head.rel, .slice fa fn fc, .slice ga gn gc] 136)) fun e w' => ∃ (pa : Option Addr) (pc : Nat), e = .returned (.slice pa (nmL us (ruleTerms rs[k])).length pc) ∧ w'.cell? ⟨N, 5, none⟩ = some vn ∧ w'.frozen? ⟨N, 5, none⟩ = false ∧ Hid (NwI W3 N B (.slice ra rs.length rc) win lat que (nmL us (ruleTerms rs[k])) (.slice pa (nmL us (ruleTerms rs[k])).length pc) (w'.setCell ⟨N, 5, none⟩ (.slice pa (nmL us (ruleTerms rs[k])).length pc))))) := fun k hk wr us vn hnw hul => by
    have hRr := hR3.out.rk (hnw.rk HE3.out)
    obtain ⟨g, c', v0, vb, q1, q2, q3, q4, q5⟩ := rules_cell hRr hk
    obtain ⟨fa, fc, hsf⟩ := q5.1.form
    obtain ⟨ga, gc, htf⟩ := q5.2.form
    subst hsf htf
    cases q1
    refine ⟨g, fa, _, fc, ga, _, gc, rfl, q2, q3, q4, ?_⟩
    have hbl : Below wr.heap.size wr ((wr.alloc (.cells #[.string (rs[k]).head.rel, .slice fa (rs[k]).head.args.length fc, .slice ga (rs[k]).body.length gc] 136)).drew.alloc (.cells #[.string (rs[k]).head.rel, .slice fa (rs[k]).head.args.length fc, .slice ga (rs[k]).body.length gc] 136)) := (((Below.refl _ wr).alloc (Nat.le_refl _) _).drew).alloc (by show _ ≤ (wr.alloc _).heap.size; simp) _
    have hszr : N + 1 ≤ wr.heap.size := by have := hnw.2.2.size; have := HS3.out; omega
    refine (addNames_any rs[k] _ _ vn us (N + 1) b45 b87 (wr.heap.size + 1) _ (HOK.out.ok.rok _ (List.getElem_mem hk)) (q5.rk (RuleKept.ofBelow hbl)) ?_ (own_below hnw.2.1 hbl) (by have := hbl.size; omega) (by omega)).mono ?_
    · have := World.alloc_heap_new (wr.alloc (.cells #[.string (rs[k]).head.rel, .slice fa (rs[k]).head.args.length fc, .slice ga (rs[k]).body.length gc] 136)).drew (.cells #[.string (rs[k]).head.rel, .slice fa (rs[k]).head.args.length fc, .slice ga (rs[k]).body.length gc] 136)
      rw [show (wr.alloc (.cells #[.string (rs[k]).head.rel, .slice fa (rs[k]).head.args.length fc, .slice ga (rs[k]).body.length gc] 136)).drew.heap.size = wr.heap.size + 1 by show (wr.alloc _).heap.size = _; simp] at this
      exact this
    · rintro e w' ⟨v', h1, h2, h3⟩
      obtain ⟨pa, pc, hof⟩ := owns_form h2
      subst hof
      obtain ⟨k1, k2, k3⟩ := hnw.next HS3.out hbl h3 h2
      exact ⟨pa, pc, h1, k1, k2, k3⟩
  clear hlea hrd hlm hR hbw2 hb2 hR2 hmd hb3 e3
  go_wp2_with fail
  go_loopw [48] (fun vi wr => ∃ (k : Nat) (vn : Value), vi = .int .i64 k ∧ k ≤ rs.length ∧ Hid (NwI W3 N B (.slice ra rs.length rc) win lat que (namesR [] (rs.take k)) vn wr)) (fun vi _ => rs.length - (intOf vi).toNat)
  case atStart => exact ⟨0, _, rfl, Nat.zero_le _, hfirst⟩
  case round =>
    obtain ⟨k, vn, rfl, hk, hnw⟩ := hrel
    by_cases hlt : k < rs.length
    · have i1 : (k : Int) < (rs.length : Int) := by omega
      have h8 : rs.length ≤ 8 := HOK.out.ok.r8
      obtain ⟨g, fa, fn, fc, ga, gn, gc, e0, q0, q1, q2, hcall⟩ := hround.out k hlt wr _ vn hnw.out (HOK.out.n8 k)
      cases e0
      have hnm : Hid _ := namesR_take hlt
      obtain ⟨na, nc, hnf⟩ := owns_form hnw.out.2.1
      subst hnf
      have hbk := hnw.out.1
      have hszr : N + 1 ≤ wr.heap.size := by have := hnw.out.2.2.size; have := HS3.out; omega
      have c5 : ∀ O, (wr.alloc O).cell? ⟨N, 5, none⟩ = some (.slice na (namesR [] (rs.take k)).length nc) := fun O => cell_later ((Below.refl wr.heap.size wr).alloc (Nat.le_refl _) O) (by simp [World.cell?, hbk])
      have hne : N ≠ wr.heap.size := by omega
      clear hbk
      generalize (rs[k]).head.rel = rel at *
      generalize nmL (namesR [] (rs.take k)) (ruleTerms rs[k]) = us' at *
      obtain ⟨V1, hV1⟩ : ∃ V1, (wr.alloc (.cells #[.string rel, .slice fa fn fc, .slice ga gn gc] 136)).drew = V1 := ⟨_, rfl⟩
      have hsV : V1.heap.size = wr.heap.size + 1 := by rw [← hV1]; show (wr.alloc _).heap.size = _; simp
      have eV : V1.heap[wr.heap.size]? = some (Obj.cells #[.string rel, .slice fa fn fc, .slice ga gn gc] 136 (0, 0)) := by rw [← hV1]; exact World.alloc_heap_new wr _
      have p0 : V1.cell? ⟨wr.heap.size, 0, none⟩ = some (.string rel) := by simp [World.cell?, eV]
      have p1 : V1.cell? ⟨wr.heap.size, 1, none⟩ = some (.slice fa fn fc) := by simp [World.cell?, eV]
      have p2 : V1.cell? ⟨wr.heap.size, 2, none⟩ = some (.slice ga gn gc) := by simp [World.cell?, eV]
      have p5 : V1.cell? ⟨N, 5, none⟩ = some (.slice na (namesR [] (rs.take k)).length nc) := by rw [← hV1]; exact c5 _
      rw [hV1] at hcall
      obtain ⟨V2, hV2⟩ : ∃ V2, V1.alloc (.cells #[.string rel, .slice fa fn fc, .slice ga gn gc] 136) = V2 := ⟨_, rfl⟩
      have r5 : V2.cell? ⟨N, 5, none⟩ = some (.slice na (namesR [] (rs.take k)).length nc) := by rw [← hV2]; exact cell_later ((Below.refl V1.heap.size V1).alloc (Nat.le_refl _) _) p5
      rw [hV2] at hcall
      have hargs : Hid (Calls Tryz.prog 77 #[.agg #[.string rel, .slice fa fn fc, .slice ga gn gc]] V1 fun e w' => e = .returned (.func (.func 141) #[] #[.pointer (some ⟨wr.heap.size + 1, 0, none⟩)]) ∧ V2 = w') := by
        refine (rargs_any _ _ _ _ rfl V1).mono ?_
        rintro e w' ⟨h1, h2⟩
        rw [hsV] at h1
        exact ⟨h1, by rw [h2, hV2]⟩
      clear eV hV2 hsV c5
      go_wp2_with fail
      first | (go_region_with (first | (go_at_call 77; refine Calls.mono hargs.out ?_; rintro e' w' ⟨rfl, hw'⟩; subst hw') | (go_at_call 76; refine Calls.mono hcall.out ?_; rintro e' W6 ⟨pa, pc, rfl, t5, y5, hn6⟩))) | fail
      all_goals (
        go_wp2
        refine ⟨⟨k + 1, .slice pa us'.length pc, by go_num, by omega, ?_⟩, by simp [intOf]; omega⟩
        rw [hnm.out]
        exact hn6)
    · have hkk : k = rs.length := by omega
      subst hkk
      rw [List.take_length] at hnw
      have hfin : Hid (NewPost rs win lat que w (.returned (.tuple #[.pointer (some ⟨N, 0, none⟩), .int .i64 0])) wr) := by
        obtain ⟨k1, k2, k3⟩ := hnw.out
        have hm : ∀ j es c, W3.heap[j]? = some (Obj.map es c) → wr.heap[j]? = some (Obj.map es c) := fun j es c hj => (k3.block j (Array.getElem?_eq_some_iff.1 hj).1 (fun e => by rw [e, HE3.out] at hj; cases hj)).trans hj
        refine ⟨N, fun j => j = N ∨ vn.ownBlock = some j, M, rfl, HLM.out, ⟨_, _, _, _, _, _, _, _, [], fun _ _ => False, ⟨k1, hR3.out.rk (hnw.out.rk HE3.out), ownsRow_lower k2 (Nat.zero_le _), ⟨rfl, .inl ⟨rfl, rfl⟩⟩, hM3.out.kept hm, rfl, ⟨rfl, .inl ⟨rfl, rfl⟩⟩, fun i hi _ => by simp at hi, fun _ _ _ _ h => h.elim, fun _ _ h => h.elim, ⟨.inl rfl, fun g hg => (by cases hg), fun g hg => (by cases hg), fun g hg => .inr hg⟩, fun j hj => ?_⟩⟩, fun j hj => ?_, ?_⟩
        · rcases hj with rfl | hj
          · exact ⟨_, _, k1, .inl rfl⟩
          · obtain ⟨_, c, hcc⟩ := owns_block k2 hj
            exact ⟨_, _, hcc, .inr (.inr (.inr (.inr (.inr rfl))))⟩
        · rcases hj with rfl | hj
          · exact hwN.out
          · have := (owns_block k2 hj).1
            have := hwN.out
            omega
        · have h1 := hbw3.out
          exact ⟨k3.os.trans h1.os, k3.tape.trans h1.tape, k3.output.trans h1.output, Nat.le_trans h1.size k3.size, fun j hj => (k3.block j (by have := h1.size; omega) (by have := hwN.out; omega)).trans (h1.block j hj)⟩
      go_wp2
      go_ret2
      exact hfin.out

end Go.Proofs.YtjajnhemgphefaaGreatDoor

namespace Go.Proofs.YtjajnhemgphefaaGreatDoor
open Go.RowKit
set_option linter.unusedVariables false
set_option linter.unusedSimpArgs false

def ptB (i : Nat) : ByteArray := ⟨#[UInt8.ofNat (97 + i)]⟩
/-- A relation of two points, as it is written. -/
def ofB (r : ByteArray) (a b : Nat) : ByteArray := ⟨r.data ++ #[40, UInt8.ofNat (97 + a), 44, UInt8.ofNat (97 + b), 41]⟩
theorem lt6 {a : Nat} (h : a < 6) : a = 0 ∨ a = 1 ∨ a = 2 ∨ a = 3 ∨ a = 4 ∨ a = 5 := by omega
def pickZ (c n : Int) : Int := if c < 0 then (-(c + 1)) % n else c % n
theorem pickZ_bounds (c n : Int) (hn : 0 < n) : 0 ≤ pickZ c n ∧ pickZ c n < n := by
  unfold pickZ
  split
  · exact ⟨Int.emod_nonneg _ (by omega), Int.emod_lt_of_pos _ hn⟩
  · exact ⟨Int.emod_nonneg _ (by omega), Int.emod_lt_of_pos _ hn⟩
theorem pick_neg (c n : Int) (hc : c < 0) : -(c + 1).tmod n = pickZ c n := by
  unfold pickZ
  rw [if_pos hc]
  obtain ⟨a, ha⟩ : ∃ a, a = -(c + 1) := ⟨_, rfl⟩
  have : c + 1 = -a := by omega
  rw [this, Int.neg_tmod, Int.neg_neg, Int.neg_neg, Int.tmod_eq_emod_of_nonneg (by omega)]

set_option maxHeartbeats 400000 in
theorem kpick_any (c n : Int) (w : World) (h1 : -9223372036854775808 ≤ c) (h2 : c ≤ 9223372036854775807) (hn : 0 < n) (hn2 : n ≤ 1000) :
    Calls Tryz.prog 19 #[.int .i64 c, .int .i64 n] w fun e w' => e = .returned (.int .i64 (pickZ c n)) ∧ w' = w := by
  have hn0 : (n == 0) = false := by simp; omega
  by_cases hc : c < 0
  · go_enter Tryz.func19, Tryz.ntmps19
    go_wp2
    go_ret
    exact ⟨ret_int (pick_neg c n hc), rfl⟩
  · go_enter Tryz.func19, Tryz.ntmps19
    go_wp2
    go_ret
    exact ⟨ret_int (by unfold pickZ; rw [if_neg (by omega)]), rfl⟩

set_option maxRecDepth 100000 in
theorem kpoint_any (n : Nat) (hn : n < 6) (w : World) :
    Calls Tryz.prog 45 #[.int .i64 n] w fun e w' => e = .returned (.string (ptB n)) ∧ w' = w := by
  rcases lt6 hn with rfl | rfl | rfl | rfl | rfl | rfl
  all_goals
    go_enter Tryz.func45, Tryz.ntmps45
    go_wp2
    go_ret
    exact ⟨rfl, rfl⟩

set_option maxRecDepth 100000 in
theorem kof_any (r : ByteArray) (a b : Nat) (hr : r.size ≤ 1000) (ha : a < 6) (hb : b < 6) (w : World) :
    Calls Tryz.prog 21 #[.string r, .int .i64 a, .int .i64 b] w fun e w' => e = .returned (.string (ofB r a b)) ∧ w' = w := by
  have hp : Hid (∀ n : Nat, n < 6 → ∀ W, Calls Tryz.prog 45 #[.int .i64 n] W fun e w' => e = .returned (.string (ptB n)) ∧ W = w') := fun n hn W => (kpoint_any n hn W).mono (by rintro e w' ⟨h1, h2⟩; exact ⟨h1, h2.symm⟩)
  have s1 : ∀ n, (ptB n).size = 1 := fun _ => rfl
  have n1 : ¬ 9223372036854775807 < r.size + 1 := by omega
  have n2 : ¬ 9223372036854775807 < r.size + 1 + (ptB a).size := by rw [s1]; omega
  have n3 : ¬ 9223372036854775807 < r.size + 1 + (ptB a).size + 1 := by rw [s1]; omega
  have n4 : ¬ 9223372036854775807 < r.size + 1 + (ptB a).size + 1 + (ptB b).size := by rw [s1, s1]; omega
  have n5 : ¬ 9223372036854775807 < r.size + 1 + (ptB a).size + 1 + (ptB b).size + 1 := by rw [s1, s1]; omega
  have HO : Hid (r ++ ⟨#[40]⟩ ++ ptB a ++ ⟨#[44]⟩ ++ ptB b ++ ⟨#[41]⟩ = ofB r a b) := by
    show _ = _
    unfold ofB ptB
    cases r with
    | mk d =>
      apply ByteArray.ext
      apply Array.ext'
      simp [ByteArray.data_append]
  clear s1
  go_enter Tryz.func21, Tryz.ntmps21
  go_wp2_with (first | (go_at_call 45; refine (hp.out a ha _).mono ?_; rintro e w' ⟨rfl, rfl⟩) | (go_at_call 45; refine (hp.out b hb _).mono ?_; rintro e w' ⟨rfl, rfl⟩))
  go_ret
  rw [← HO.out]
  exact ⟨rfl, rfl⟩

end Go.Proofs.YtjajnhemgphefaaGreatDoor

namespace Go.Proofs.YtjajnhemgphefaaGreatDoor
open Go.RowKit Go.Shelf Go.Maps
set_option linter.unusedVariables false
set_option linter.unusedSimpArgs false

def bP : ByteArray := ⟨#[112]⟩
def bQ : ByteArray := ⟨#[113]⟩
def amB (r : ByteArray) (a b : Nat) : Am := ⟨r, [⟨ptB a, 0⟩, ⟨ptB b, 0⟩]⟩
theorem pt_inj {i j : Nat} (hi : i < 6) (hj : j < 6) (h : ptB i = ptB j) : i = j := by
  have h1 := congrArg (fun x : ByteArray => (x.data[0]?.getD 0).toNat) h
  simp [ptB] at h1
  omega
theorem pt_ne (i : Nat) : ptB i ≠ eB := by
  intro h
  have h1 := congrArg (fun x : ByteArray => x.data.size) h
  simp [ptB, eB] at h1

def txtQ : ByteArray := ⟨#[112, 40, 88, 44, 89, 41, 58, 45, 113, 40, 88, 44, 89, 41, 46]⟩
theorem q_count : Lib.runeCount txtQ = 15 := by kernel_rfl
theorem q_parse : parseR txtQ = .ok (copyR bP bQ) := by kernel_rfl
theorem q_check : checkS (copyR bP bQ) = (0, 0) := by kernel_rfl
theorem atom_q {a b : Nat} (ha : a < 6) (hb : b < 6) : atomR (ofB bQ a b) = some (amB bQ a b) := by
  rcases lt6 ha with rfl | rfl | rfl | rfl | rfl | rfl <;> rcases lt6 hb with rfl | rfl | rfl | rfl | rfl | rfl <;> kernel_rfl
theorem q_ams : (copyR bP bQ).flatMap ruleAms = [⟨bP, [v0T, v1T]⟩, ⟨bQ, [v0T, v1T]⟩] := rfl
theorem q_arP : arR (copyR bP bQ) bP = 2 := by kernel_rfl
theorem q_arQ : arR (copyR bP bQ) bQ = 2 := by kernel_rfl
theorem q_der : derB (copyR bP bQ) bQ = false := by kernel_rfl
theorem q_ok : RsOk (copyR bP bQ) := by
  have hA : ∀ x, x.size ≤ 1200 → AmOk ⟨x, [v0T, v1T]⟩ := fun x hx => ⟨hx, Nat.le_refl 2, fun t ht => by
    simp only [List.mem_cons, List.not_mem_nil, or_false] at ht
    rcases ht with rfl | rfl <;> exact ⟨by decide, by decide⟩⟩
  refine ⟨by decide, fun r hr => ?_, fun a ha => ?_, fun a ha t ht => ?_, fun r hr t ht _ => ?_⟩
  · simp only [copyR, List.mem_cons, List.not_mem_nil, or_false] at hr
    subst hr
    exact ⟨hA _ (by decide), by decide, fun a ha => by simp only [List.mem_cons, List.not_mem_nil, or_false] at ha; subst ha; exact hA _ (by decide)⟩
  · rw [q_ams] at ha
    simp only [List.mem_cons, List.not_mem_nil, or_false] at ha
    rcases ha with rfl | rfl
    · exact ⟨q_arP.symm, .inr rfl⟩
    · exact ⟨q_arQ.symm, .inr rfl⟩
  · rw [q_ams] at ha
    simp only [List.mem_cons, List.not_mem_nil, or_false] at ha
    rcases ha with rfl | rfl <;> (simp only [List.mem_cons, List.not_mem_nil, or_false] at ht; rcases ht with rfl | rfl <;> decide)
  · simp only [copyR, List.mem_cons, List.not_mem_nil, or_false] at hr
    subst hr
    exact ⟨⟨bQ, [v0T, v1T]⟩, List.mem_cons_self, t, ht, by assumption, rfl⟩
theorem q_given : givenL (copyR bP bQ) = [] := rfl

theorem md_ok {e : Eg} (h : EgOk e) : mdOk (arR e.rs) e.M := fun g hg => ⟨(h.md g hg).1, uni_ok (fun x hx => big (rels_size h.rs x hx)) (fun x hx => big (h.nsz x hx)) g (h.md g hg).2⟩

/-- The i-th fact. -/
def qG (r : ByteArray) (i : Nat) : Gd := ⟨r, ptB (i % 6), ptB (i / 6)⟩
def qf (i : Nat) : Gd × Int := (qG bQ i, 5)
theorem qG_inj {r : ByteArray} {i j : Nat} (hi : i < 36) (hj : j < 36) (h : qG r i = qG r j) : i = j := by
  unfold qG at h
  simp only [Gd.mk.injEq, true_and] at h
  have h1 := pt_inj (by omega) (by omega) h.1
  have h2 := pt_inj (by omega) (by omega) h.2
  omega
theorem qG_nodup (r : ByteArray) {k : Nat} (hk : k ≤ 36) : ((List.range k).map (qG r)).Nodup := by
  rw [List.Nodup, List.pairwise_map]
  refine List.Pairwise.imp_of_mem (fun {a b} ha hb hne e => hne (qG_inj ?_ ?_ e)) List.nodup_range
  · have := List.mem_range.1 ha; omega
  · have := List.mem_range.1 hb; omega

/-- What holds of the one relation is what is given of the other. -/
theorem reset_model {F : List (Gd × Int)} {M : Gd → Option Int} (hM : LeastM (copyR bP bQ) F M) (hF : ∀ x ∈ F, x.1.rel = bQ) (x y : ByteArray) : (M ⟨bP, x, y⟩).isSome = true ↔ ∃ t, (⟨bQ, x, y⟩, t) ∈ F := by
  have hne : bP ≠ bQ := by decide
  constructor
  · intro h
    obtain ⟨t, ht⟩ := Option.isSome_iff_exists.1 h
    rcases (copy_der hne F (t - 1) x y).1 (hM.sound _ t ht (t - 1) (by omega)) with ⟨u, h1, _⟩ | ⟨u, h1, _⟩
    · exact absurd (hF _ h1) hne
    · exact ⟨u, h1⟩
  · rintro ⟨t, h⟩
    obtain ⟨u, hu, _⟩ := hM.complete (t - 1) ⟨bP, x, y⟩ ((copy_der hne F (t - 1) x y).2 (.inr ⟨t, h, by omega⟩))
    rw [hu]; rfl
theorem none_model {R : List Rl} {M : Gd → Option Int} (hM : LeastM R [] M) (g : Gd) : M g = none := by
  cases h : M g with
  | none => rfl
  | some t =>
    obtain ⟨x, hx, _⟩ := der_some (hM.sound g t h (t - 1) (by omega))
    cases hx
/-- So many are told as there are facts. -/
theorem reset_fit {k : Nat} (hk : k ≤ 36) {M : Gd → Option Int} (hM : LeastM (copyR bP bQ) (((List.range k).map qf).map (fun d => (d.1, d.2 + 20))) M) (hok : mdOk (arR (copyR bP bQ)) M) {gs : List Gd} (h : fitP M (formA bP 2) gs) : gs.length = k := by
  obtain ⟨h1, h2⟩ := fit_vv hok q_arP (gs := gs) h
  have hF : ∀ x ∈ ((List.range k).map qf).map (fun d => (d.1, d.2 + 20)), x.1.rel = bQ := by
    intro x hx
    simp only [List.map_map, List.mem_map, Function.comp] at hx
    obtain ⟨i, _, rfl⟩ := hx
    rfl
  have hp : gs.Perm ((List.range k).map (qG bP)) := (List.perm_ext_iff_of_nodup h1 (qG_nodup bP hk)).2 (fun g => by
    rw [h2 g]
    constructor
    · rintro ⟨e1, e2⟩
      have hg : (⟨bP, g.x, g.y⟩ : Gd) = g := by rw [← e1]
      rw [← hg] at e2
      obtain ⟨t, ht⟩ := (reset_model hM hF g.x g.y).1 e2
      simp only [List.map_map, List.mem_map, Function.comp] at ht
      obtain ⟨i, hi, e3⟩ := ht
      refine List.mem_map.2 ⟨i, hi, ?_⟩
      rw [← hg]
      simp only [qf, qG, Prod.mk.injEq, Gd.mk.injEq, true_and] at e3
      unfold qG
      rw [e3.1.1, e3.1.2]
    · intro hg
      obtain ⟨i, hi, rfl⟩ := List.mem_map.1 hg
      refine ⟨rfl, (reset_model hM hF _ _).2 ⟨25, ?_⟩⟩
      simp only [List.map_map, List.mem_map, Function.comp]
      exact ⟨i, hi, rfl⟩)
  have := hp.length_eq
  simpa using this

/-- The names of six points. -/
def PtsOk (ns : List ByteArray) : Prop := ns.Nodup ∧ ∀ x ∈ ns, ∃ j, j < 6 ∧ x = ptB j
theorem pts_nil : PtsOk [] := ⟨List.nodup_nil, by simp⟩
theorem pts_add {ns : List ByteArray} (h : PtsOk ns) (r : ByteArray) {a b : Nat} (ha : a < 6) (hb : b < 6) : PtsOk (nmL ns (amB r a b).args) := by
  refine ⟨nmL_nodup _ _ h.1, fun x hx => ?_⟩
  rcases (nmL_mem _ _ _).1 hx with hx | ⟨t, ht, _, rfl⟩
  · exact h.2 x hx
  · simp only [amB, List.mem_cons, List.not_mem_nil, or_false] at ht
    rcases ht with rfl | rfl
    · exact ⟨a, ha, rfl⟩
    · exact ⟨b, hb, rfl⟩
theorem pts_six {ns : List ByteArray} (h : PtsOk ns) : ns.length ≤ 6 := by
  have := nodup_le ns ((List.range 6).map ptB) h.1 (fun x hx => by
    obtain ⟨j, hj, rfl⟩ := h.2 x hx
    exact List.mem_map.2 ⟨j, List.mem_range.2 hj, rfl⟩)
  simpa using this
theorem ground_am (r : ByteArray) (a b : Nat) : groundA nms0 (amB r a b) = ⟨r, ptB a, ptB b⟩ := by
  show (⟨r, ofT nms0 ⟨ptB a, 0⟩, ofT nms0 ⟨ptB b, 0⟩⟩ : Gd) = _
  rw [ofT_name (by exact pt_ne a), ofT_name (by exact pt_ne b)]
theorem am_ground (r : ByteArray) (a b : Nat) : groundB (amB r a b) = true := by
  unfold groundB amB
  have h : ∀ i, varB ⟨ptB i, 0⟩ = false := fun i => by
    unfold varB
    cases hc : (ptB i).toList.isEmpty with
    | false => rfl
    | true => exact absurd ((empty_iff _).1 hc) (pt_ne i)
  simp [h]
theorem am_ok (r : ByteArray) (hr : r.size ≤ 1200) (a b : Nat) : AmOk (amB r a b) := by
  refine ⟨hr, Nat.le_refl 2, fun t ht => ?_⟩
  simp only [amB, List.mem_cons, List.not_mem_nil, or_false] at ht
  rcases ht with rfl | rfl <;> exact ⟨by show (1 : Nat) ≤ 1200; decide, by show (0 : Nat) ≤ 50; decide⟩
theorem sameD_iff (x y : Gd × Int) : sameD x y = true ↔ x = y := by
  unfold sameD
  simp only [Bool.and_eq_true, beq_iff_eq, ba_list]
  constructor
  · rintro ⟨⟨h1, h2, h3⟩, h4⟩
    obtain ⟨⟨a, b, c⟩, d⟩ := x
    obtain ⟨⟨a', b', c'⟩, d'⟩ := y
    simp only at h1 h2 h3 h4
    rw [ba_inj h1, ba_inj h2, ba_inj h3, h4]
  · rintro rfl; simp
theorem hasD_iff (l : List (Gd × Int)) (x : Gd × Int) : hasD l x = true ↔ x ∈ l := by
  unfold hasD
  rw [List.any_eq_true]
  constructor
  · rintro ⟨y, hy, h⟩; rw [sameD_iff] at h; subst h; exact hy
  · intro h; exact ⟨x, h, (sameD_iff _ _).2 rfl⟩

/-- The engine of Reset behind i facts. -/
structure RsE (n : Int) (i : Nat) (e : Eg) : Prop where
  rs : e.rs = copyR bP bQ
  win : e.win = 20
  lat : e.lat = 3
  que : e.que = n
  mark : e.mark = 0
  names : PtsOk e.names
  kept : e.kept = (List.range i).map qf
  M : ∀ g, e.M g = none
  fds : e.fds = [⟨formA bP 2, false, [], [], 2⟩]

theorem reset_ins {n : Int} {i : Nat} {e : Eg} (h : RsE n i e) (hi : i < 24) : (insR e (ofB bQ (i % 6) (i / 6)) 5).1 = 0 ∧ RsE n (i + 1) (insR e (ofB bQ (i % 6) (i / 6)) 5).2 := by
  have ha : i % 6 < 6 := Nat.mod_lt _ (by decide)
  have hb : i / 6 < 6 := by omega
  have hins : insR e (ofB bQ (i % 6) (i / 6)) 5 = (0, { e with names := nmL e.names (amB bQ (i % 6) (i / 6)).args, kept := e.kept ++ [qf i] }) := by
    unfold insR
    rw [atom_q ha hb]
    simp only
    rw [if_neg (by rw [am_ground]; decide), if_neg (by rw [h.rs]; show ¬ derB (copyR bP bQ) bQ = true; rw [q_der]; decide), if_neg (by
      have : ckR e.rs (amB bQ (i % 6) (i / 6)) = 0 := by
        unfold ckR
        show (if arR e.rs bQ = 0 then (7 : Int) else if arR e.rs bQ = 2 then 0 else 4) = 0
        rw [h.rs, q_arQ]; rfl
      rw [this]; decide), if_neg (by decide)]
    unfold accR
    rw [if_neg (by rw [h.win, h.mark]; decide), ground_am]
    rw [if_neg (by
      rw [hasD_iff, h.kept]
      intro hm
      obtain ⟨j, hj, e1⟩ := List.mem_map.1 hm
      have hj' := List.mem_range.1 hj
      have e2 : qG bQ j = qG bQ i := congrArg Prod.fst e1
      have := qG_inj (by omega) (by omega) e2
      omega), if_neg (by
      have := pts_six (pts_add h.names bQ ha hb)
      rw [h.kept]
      simp only [List.length_map, List.length_range]
      omega)]
    rfl
  rw [hins]
  refine ⟨rfl, h.rs, h.win, h.lat, h.que, h.mark, pts_add h.names bQ ha hb, ?_, h.M, h.fds⟩
  show e.kept ++ [qf i] = _
  rw [h.kept, List.range_succ, List.map_append]
  rfl

/-- Behind the Tick: all facts are told, or the feed is behind. -/
structure RsT (k : Nat) (e : Eg) (f : Fs) : Prop where
  mark : e.mark = 6
  fds : e.fds = [f]
  form : f.form = formA bP 2
  told : f.told = 2
  snap : f.snap = []
  fit : ∀ gs, fitP e.M (formA bP 2) gs → gs.length = k
theorem reset_tick {n : Int} {k : Nat} {e e' : Eg} {r : Int × Int} (h : RsE n k e) (hk : k ≤ 24) (hok : EgOk e) (ht : TickE e 9 e' r) :
    r = (6, 0) ∧ ∃ f, RsT k e' f ∧ ((n < (k : Int) + 1 ∧ f.behind = true ∧ f.que = []) ∨ ((k : Int) + 1 ≤ n ∧ f.behind = false ∧ ∃ g2, g2.length = k ∧ f.que = textsR 2 g2 ++ [⟨4, 0, ⟨#[]⟩, 6⟩])) := by
  have hok' := tick_ok hok ht
  rcases ht with ⟨h0, _, _⟩ | ⟨_, hr, ⟨h1, _⟩ | ⟨_, hmv⟩⟩
  · exact absurd ⟨by decide, by decide⟩ h0
  · rw [h.lat, h.mark] at h1; exact absurd h1 (by decide)
  rw [h.lat] at hmv
  obtain ⟨M', fds', hM, hl, hmf, rfl⟩ := hmv
  have hfacts : factsF e ((9 : Int) - 3) = ((List.range k).map qf).map (fun d => (d.1, d.2 + 20)) := by
    unfold factsF
    rw [h.kept, h.win]
    have f1 : ∀ l : List Nat, ((l.map qf).filter (fun d => !overB 20 ((9 : Int) - 3) d.2)) = l.map qf := by
      intro l
      rw [List.filter_eq_self]
      intro d hd
      obtain ⟨j, _, rfl⟩ := List.mem_map.1 hd
      show (!overB 20 ((9 : Int) - 3) 5) = true
      decide
    have f2 : ∀ l : List Nat, ((l.map qf).filter (fun d => decide (d.2 ≤ (9 : Int) - 3))) = l.map qf := by
      intro l
      rw [List.filter_eq_self]
      intro d hd
      obtain ⟨j, _, rfl⟩ := List.mem_map.1 hd
      show decide ((5 : Int) ≤ (9 : Int) - 3) = true
      decide
    rw [f1, f2]
  rw [hfacts, h.rs, q_given, List.append_nil] at hM
  have hmd : mdOk (arR (copyR bP bQ)) M' := by
    have := md_ok hok'
    rw [show ({ e with mark := (9 : Int) - 3, kept := e.kept.filter (fun d => !overB e.win ((9 : Int) - 3) d.2), M := M', fds := fds' } : Eg).rs = copyR bP bQ from h.rs] at this
    exact this
  have hfit : ∀ gs, fitP M' (formA bP 2) gs → gs.length = k := fun gs hg => reset_fit (by omega) hM hmd hg
  have hl1 : fds'.length = 1 := by rw [hl, h.fds]; rfl
  obtain ⟨f, rfl⟩ : ∃ f, fds' = [f] := by
    match fds', hl1 with
    | [f], _ => exact ⟨f, rfl⟩
  have hm0 := hmf 0 (by rw [h.fds]; decide) (by simp)
  have e0 : e.fds[0]'(by rw [h.fds]; decide) = ⟨formA bP 2, false, [], [], 2⟩ := by simp only [h.fds]; rfl
  rw [e0] at hm0
  simp only [List.getElem_cons_zero] at hm0
  refine ⟨hr, f, ?_⟩
  rcases hm0 with ⟨hb, _⟩ | ⟨_, g1, g2, hg1, hg2, hc⟩
  · cases hb
  have hg1' : g1 = [] := by
    obtain ⟨g0, ⟨ks, k1, k2, rfl⟩, rfl⟩ := hg1
    have : ks = [] := List.eq_nil_iff_forall_not_mem.2 (fun ⟨x, y⟩ hx => by
      have := ((k2 x y).1 hx).2.2
      rw [h.M] at this; cases this)
    subst this; rfl
  have hg2' : g2.length = k := by
    obtain ⟨g0, hg0, rfl⟩ := hg2
    have : g0.filter (fun g => (e.M g).isNone) = g0 := by
      rw [List.filter_eq_self]
      intro g _
      rw [h.M]; rfl
    rw [this]
    exact hfit g0 hg0
  subst hg1'
  have hlen : ((([] : List Rc) ++ textsR 3 [] ++ textsR 2 g2).length : Int) = k := by
    have h0 : textsR 3 [] = [] := List.eq_nil_of_length_eq_zero (textsR_len 3 [])
    rw [h0, List.nil_append, List.nil_append, textsR_len, hg2']
  rw [hlen, h.que] at hc
  have h0 : textsR 3 [] = [] := List.eq_nil_of_length_eq_zero (textsR_len 3 [])
  rcases hc with ⟨hc, rfl⟩ | ⟨hc, rfl⟩
  · exact ⟨⟨rfl, rfl, rfl, rfl, rfl, hfit⟩, .inl ⟨hc, rfl, rfl⟩⟩
  · refine ⟨⟨rfl, rfl, rfl, rfl, rfl, hfit⟩, .inr ⟨hc, rfl, g2, hg2', ?_⟩⟩
    show [] ++ textsR 3 [] ++ textsR 2 g2 ++ _ = _
    rw [h0]; rfl

end Go.Proofs.YtjajnhemgphefaaGreatDoor
