/-
  The engine: Tick.
  The engine: New.
  What the statements of ebbkeep call beside the program: pick, point, of.
  The statement Reset in plain data: one relation that is another; its facts, and what is told of them.
  A feed in plain data: what waits, and what a Poll tells of it.
  The engine as the statements of ebbkeep use it: one engine, and boxes beside it that are not its own.
  The statement Reset: its engine; records compared.
  The rules of the paths, for the statements of ebbkeep: read; the engine's facts; what holds at a watermark.
  The statement Lasts in plain data: what holds as the watermark goes on and nothing more comes.
  The two engines' states and ends, in plain data.
  The document's own answer and the code sort alike.
  What is asked for: the two engines tell the same texts, in the same order.
  strings.Builder: the library's contracts on WriteString and WriteByte, laid at this program by hand (the table of numbers is written out).
  The writers: a term, with the builder's text said byte by byte.
  The writers: a term, an atom.
  The writers: an atom.
  The writers: a rule.
  rules.Write: the rules, written in order.
  ebb.Rules: for every text it answers what the plain function 'rulesR' says; nothing that lay before is turned. Conditions: the text is of at most 2^62 bytes; the two tables of package utf8 hold what their text lays.
-/
import Derived.Test.YtjajnhemgphefaaGreatDoorJEgW
import Derived.Test.YtjajnhemgphefaaGreatDoorJEgX
import Derived.Test.YtjajnhemgphefaaGreatDoorJAll
import Derived.BigQuiet
import Derived.Test.YtjajnhemgphefaaGreatDoorJEgT
import Derived.KernelRfl
import Derived.Test.YtjajnhemgphefaaGreatDoorJWyG
import Derived.Test.YtjajnhemgphefaaGreatDoorJWyD
import Derived.Test.YtjajnhemgphefaaGreatDoorJMdK
import Derived.Sort.Walk0
import Derived.Test.YtjajnhemgphefaaGreatDoorJIdxRules
import Derived.Shelf.Strings.BuilderK
namespace Go.Proofs.YtjajnhemgphefaaGreatDoor
open Go.RowKit Go.Shelf Go.Maps
set_option linter.unusedVariables false
set_option linter.unusedSimpArgs false

/-- What Tick does. -/
def TickPost (S : Nat → Prop) (be : Nat) (e : Eg) (c : Int) (w : World) (en : Ending) (w' : World) : Prop :=
  ∃ e' r, TickE e c e' r ∧ en = .returned (.tuple #[.int .i64 r.1, .int .i64 r.2]) ∧ EngPost S be e' w w'

set_option maxRecDepth 100000 in
set_option maxHeartbeats 4000000 in
theorem tick_any (S : Nat → Prop) (be : Nat) (e : Eg) (c : Int) (w : World) (h : EngAt w S be e) (hok : EgOk e) :
    Calls Tryz.prog 22 #[.pointer (some ⟨be, 0, none⟩), .int .i64 c] w (TickPost S be e c w) := by
  have HE : Hid (EngAt w S be e) := h
  have hwi : Hid (∀ W, Calls Tryz.prog 43 #[.int .i64 c, .int .i64 0, .int .i64 1000000] W fun e' w' => e' = .returned (.bool (decide (0 ≤ c) && decide (c ≤ 1000000))) ∧ W = w') := fun W => by
    refine (isWithin_any c 0 1000000 W).mono ?_
    rintro e' w' ⟨h1, h2⟩; exact ⟨h1, h2.symm⟩
  by_cases hc : 0 ≤ c ∧ c ≤ 1000000
  · have hwt : (decide (0 ≤ c) && decide (c ≤ 1000000)) = true := by simp [hc.1, hc.2]
    rw [hwt] at hwi
    obtain ⟨vr, vn, vk, vf, bm, rb, b45, b87, bfs, Sf, hv⟩ := h
    have hb := hv.blk
    have c2 : w.cell? ⟨be, 2, none⟩ = some (.int .i64 e.lat) := by simp [World.cell?, hb]
    have c4 : w.cell? ⟨be, 4, none⟩ = some (.int .i64 e.mark) := by simp [World.cell?, hb]
    have hl := hok.lat
    have hwr : IntKind.i64.wrap (c - e.lat) = c - e.lat := wrap_small _ (by omega) (by omega)
    have hmk := hok.mark
    have HC : Hid (0 ≤ c ∧ c ≤ 1000000) := hc
    by_cases hgo : e.mark < c - e.lat
    · have hmv : Hid (Calls Tryz.prog 46 #[.pointer (some ⟨be, 0, none⟩), .int .i64 (c - e.lat)] w fun en w' => en = .returned (.tuple #[]) ∧ ∃ e', Hid (MoveE e (c - e.lat) e') ∧ Hid (EngPost S be e' w w') ∧ w'.cell? ⟨be, 4, none⟩ = some (.int .i64 (c - e.lat))) := by
        refine (move_any S be e (c - e.lat) w HE.out hok ⟨by omega, by omega⟩).mono ?_
        rintro en w' ⟨h1, e', h2, h3⟩
        have h3' := h3
        obtain ⟨S', ⟨vr', vn', vk', vf', bm', rb', b45', b87', bfs', Sf', hv'⟩, _⟩ := h3
        have hm : e'.mark = c - e.lat := by obtain ⟨M', fds', _, _, _, rfl⟩ := h2; rfl
        have hb' := hv'.blk
        exact ⟨h1, e', h2, h3', by rw [← hm]; simp [World.cell?, hb']⟩
      have HG : Hid (e.mark < c - e.lat) := hgo
      clear hv hb hc hwt hok hl hmk
      go_enter Tryz.func22, Tryz.ntmps22
      go_wp2_with (first | (go_at_call 43; refine (hwi.out _).mono ?_; rintro e' w' ⟨rfl, hw'⟩; subst hw') | (go_at_call 46; refine Calls.mono hmv.out ?_; rintro e' W1 ⟨rfl, e1, hm1, hp1, d4⟩))
      go_ret2
      have hm : e1.mark = c - e.lat := by obtain ⟨M', fds', _, _, _, rfl⟩ := hm1.out; rfl
      exact ⟨e1, (c - e.lat, 0), .inr ⟨HC.out, by rw [hm], .inr ⟨HG.out, hm1.out⟩⟩, rfl, hp1.out⟩
    · have HG : Hid (c - e.lat ≤ e.mark) := by show _ ≤ _; omega
      clear hv hb hc hwt hok hl hmk
      go_enter Tryz.func22, Tryz.ntmps22
      go_wp2_with (go_at_call 43; refine (hwi.out _).mono ?_; rintro e' w' ⟨rfl, hw'⟩; subst hw')
      go_ret2
      exact ⟨e, (e.mark, 0), .inr ⟨HC.out, rfl, .inl ⟨HG.out, rfl⟩⟩, rfl, EngPost.same HE.out (Below.refl _ _)⟩
  · have hwt : (decide (0 ≤ c) && decide (c ≤ 1000000)) = false := by
      rw [Bool.and_eq_false_iff]
      simp only [decide_eq_false_iff_not]
      omega
    rw [hwt] at hwi
    have HC : Hid (¬ (0 ≤ c ∧ c ≤ 1000000)) := hc
    clear hc hwt h hok
    go_enter Tryz.func22, Tryz.ntmps22
    go_wp2_with (go_at_call 43; refine (hwi.out _).mono ?_; rintro e' w' ⟨rfl, hw'⟩; subst hw')
    go_ret2
    exact ⟨e, (0, 6), .inl ⟨HC.out, rfl, rfl⟩, rfl, EngPost.same HE.out (Below.refl _ _)⟩

end Go.Proofs.YtjajnhemgphefaaGreatDoor

namespace Go.Proofs.YtjajnhemgphefaaGreatDoor
open Go.RowKit Go.Shelf Go.Maps
set_option linter.unusedVariables false
set_option linter.unusedSimpArgs false

/-- The names that stand in rules. -/
def namesR (ns : List ByteArray) (rs : List Rl) : List ByteArray := rs.foldl (fun ns r => nmL ns (ruleTerms r)) ns
theorem namesR_take {rs : List Rl} {k : Nat} (h : k < rs.length) : namesR [] (rs.take (k + 1)) = nmL (namesR [] (rs.take k)) (ruleTerms rs[k]) := by
  unfold namesR
  rw [List.take_succ_eq_append_getElem h, List.foldl_append]
  rfl
/-- An engine that is new. -/
def newE (rs : List Rl) (win lat que : Int) (M : Gd → Option Int) : Eg := ⟨rs, win, lat, que, 0, namesR [] rs, [], M, []⟩

/-- What is asked of the rules of a new engine. -/
structure NewOk (s : ByteArray) (rs : List Rl) : Prop where
  parse : parseR s = .ok rs
  rules : (rulesR s).2.1 = 0
  ok : RsOk rs
  n8 : ∀ k, (namesR [] (rs.take k)).length ≤ 8
  nrs : ∀ r ∈ rs, ∀ t ∈ r.head.args, t.name ≠ eB → t.name ∈ namesR [] rs
  nsz : ∀ x ∈ namesR [] rs, x.size ≤ 1200

def NewPost (rs : List Rl) (win lat que : Int) (w : World) (en : Ending) (w' : World) : Prop :=
  ∃ (be : Nat) (S : Nat → Prop) (M : Gd → Option Int), en = .returned (.tuple #[.pointer (some ⟨be, 0, none⟩), .int .i64 0]) ∧ LeastM rs (givenL rs) M ∧ EngAt w' S be (newE rs win lat que M) ∧ (∀ k, S k → w.heap.size ≤ k) ∧ Below w.heap.size w w'

/-- The engine while its names are gathered. -/
def NwI (W3 : World) (N B : Nat) (vr : Value) (win lat que : Int) (us : List ByteArray) (vn : Value) (V : World) : Prop :=
  V.heap[N]? = some (Obj.cells #[vr, .int .i64 win, .int .i64 lat, .int .i64 que, .int .i64 0, vn, .slice none 0 0, .map (some B), .slice none 0 0] 101 (0, 0)) ∧ V.ownsRow (N + 1) 9 1 vn us.length (us.map Value.string) ∧ Chg W3 V (fun j => j = N)
theorem NwI.rk {W3 V : World} {N B : Nat} {vr : Value} {win lat que : Int} {us : List ByteArray} {vn : Value} (h : NwI W3 N B vr win lat que us vn V) {c0 : Array Value} (h3 : W3.heap[N]? = some (Obj.cells c0 101 (0, 0))) : RuleKept W3 V := by
  intro k c t ht hc
  refine (h.2.2.block k (Array.getElem?_eq_some_iff.1 hc).1 (fun e => ?_)).trans hc
  rw [e, h3] at hc; cases hc
  rcases ht with h | h | h <;> cases h
/-- A round's end. -/
theorem NwI.next {W3 V V2 W6 : World} {N B : Nat} {vr : Value} {win lat que : Int} {us us' : List ByteArray} {vn vn' : Value} (h : NwI W3 N B vr win lat que us vn V) (hs3 : W3.heap.size = N + 1) (hb : Below V.heap.size V V2) (hso : StrOnly (N + 1) V2 W6) (ho : W6.ownsRow (N + 1) 9 1 vn' us'.length (us'.map Value.string)) :
    W6.cell? ⟨N, 5, none⟩ = some vn ∧ W6.frozen? ⟨N, 5, none⟩ = false ∧ NwI W3 N B vr win lat que us' vn' (W6.setCell ⟨N, 5, none⟩ vn') := by
  obtain ⟨h1, h2, h3⟩ := h
  have hsz : N + 1 ≤ V.heap.size := by have := h3.size; omega
  have hbN : Below (N + 1) V W6 := (hb.mono hsz).trans (strBelow hso (by have := hb.size; omega))
  have b6 := (hbN.block N (by omega)).trans h1
  refine ⟨by simp [World.cell?, b6], by simp [World.frozen?, b6], heap_set b6 5 vn', owns_set ho ⟨N, 5, none⟩ vn' (owns_ne ho b6 (by decide)), ?_⟩
  have hc : Chg W3 W6 (fun j => j = N) := ⟨hbN.os.trans h3.os, hbN.tape.trans h3.tape, hbN.output.trans h3.output, Nat.le_trans h3.size hbN.size, fun j hj hn => (hbN.block j (by omega)).trans (h3.block j hj hn)⟩
  exact hc.setCell ⟨N, 5, none⟩ vn' (fun _ => rfl)

set_option maxRecDepth 100000 in
set_option maxHeartbeats 4000000 in
theorem new_any (s : ByteArray) (rs : List Rl) (win lat que : Int) (w : World) (hok : NewOk s rs) (hs : s.size ≤ 4611686018427387904) (hT : Lib.Utf8Tabs 0 1 w) (h1 : 1 ≤ win ∧ win ≤ 1000) (h2 : 0 ≤ lat ∧ lat ≤ 1000) (h3 : 1 ≤ que ∧ que ≤ 50) :
    Calls Tryz.prog 39 #[.string s, .int .i64 win, .int .i64 lat, .int .i64 que] w (NewPost rs win lat que w) := by
  have hrd : Hid (Calls Tryz.prog 30 #[.string s] w fun e w' => ∃ (ra : Option Addr) (rc b45 b87 : Nat), e = .returned (.tuple #[.slice ra rs.length rc, .int .i64 0, .int .i64 0]) ∧ RulesAt w' w.heap.size b45 b87 (.slice ra rs.length rc) rs ∧ Below w.heap.size w w') := by
    refine (readAll_any s w hs hT).mono ?_
    rintro e w' ⟨hb, ⟨c, p, _, hc, hr⟩ | ⟨rs', v, b45, b87, he, hR, _, _, _, hp, _⟩⟩
    · have := hok.rules
      rw [hr] at this
      exact absurd this hc
    · have hrs : rs' = rs := by
        have := hp.symm.trans hok.parse
        injection this
      subst hrs
      obtain ⟨ra, rc, hf⟩ := hR.form
      subst hf
      exact ⟨ra, rc, b45, b87, he, hR, hb⟩
  have hwi : Hid (∀ (n l m : Int) W, l ≤ n → n ≤ m → Calls Tryz.prog 43 #[.int .i64 n, .int .i64 l, .int .i64 m] W fun e' w' => e' = .returned (.bool true) ∧ W = w') := fun n l m W a b => by
    refine (isWithin_any n l m W).mono ?_
    rintro e' w' ⟨h1, h2⟩
    rw [show (decide (l ≤ n) && decide (n ≤ m)) = true by simp [a, b]] at h1
    exact ⟨h1, h2.symm⟩
  have H1 : Hid _ := h1
  have H2 : Hid _ := h2
  have H3 : Hid _ := h3
  have HOK : Hid _ := hok
  clear h1 h2 h3 hok hT
  go_enter Tryz.func39, Tryz.ntmps39
  go_wp2_with fail
  refine Calls.mono hrd.out ?_
  rintro e' W1 ⟨ra, rc, b45, b87, rfl, hR, hb1⟩
  go_wp2_with fail
  refine (hwi.out win 1 1000 _ H1.out.1 H1.out.2).mono ?_
  rintro e' w' ⟨rfl, hw'⟩
  subst hw'
  go_wp2_with fail
  refine (hwi.out lat 0 1000 _ H2.out.1 H2.out.2).mono ?_
  rintro e' w' ⟨rfl, hw'⟩
  subst hw'
  go_wp2_with fail
  refine (hwi.out que 1 50 _ H3.out.1 H3.out.2).mono ?_
  rintro e' w' ⟨rfl, hw'⟩
  subst hw'
  go_wp2_with fail
  have hn8 : (namesR [] rs).length ≤ 8 := by have := HOK.out.n8 rs.length; rw [List.take_length] at this; exact this
  have hlea : Hid (Calls Tryz.prog 75 #[.slice ra rs.length rc, .slice none 0 0] W1 fun e' w' => ∃ B M, e' = .returned (.map (some B)) ∧ MdAt w' B 5000 M ∧ LeastM rs (givenL rs) M ∧ Below W1.heap.size W1 w') := by
    refine (least_any (arR rs) rs [] (uni (relsR rs) (namesR [] rs)) _ _ w.heap.size b45 b87 0 W1 (ls_ok HOK.out.ok hn8 HOK.out.nsz HOK.out.nrs ⟨by simp, by simp⟩) hR ⟨rfl, .inl ⟨rfl, rfl⟩⟩).mono ?_
    rintro e' w' ⟨B, M, h1, h2, h3, _, h4⟩
    exact ⟨B, M, h1, MdL.at' h2, h3, h4⟩
  refine Calls.mono hlea.out ?_
  rintro e' W2 ⟨B, M, rfl, hmd, hlm, hb2⟩
  have hbw2 : Below w.heap.size w W2 := hb1.trans (hb2.mono hb1.size)
  have hR2 : RulesAt W2 w.heap.size b45 b87 (.slice ra rs.length rc) rs := hR.rk (RuleKept.ofBelow hb2)
  obtain ⟨N, hN⟩ : ∃ N, W2.heap.size = N := ⟨_, rfl⟩
  obtain ⟨W3, hW3⟩ : ∃ W3, W2.alloc (.cells #[.slice ra rs.length rc, .int .i64 win, .int .i64 lat, .int .i64 que, .int .i64 0, .slice none 0 0, .slice none 0 0, .map (some B), .slice none 0 0] 101) = W3 := ⟨_, rfl⟩
  have HLM : Hid _ := hlm
  have e3 : W3.heap[N]? = some (Obj.cells #[.slice ra rs.length rc, .int .i64 win, .int .i64 lat, .int .i64 que, .int .i64 0, .slice none 0 0, .slice none 0 0, .map (some B), .slice none 0 0] 101 (0, 0)) := by rw [← hW3, ← hN]; exact World.alloc_heap_new W2 _
  have hs3 : W3.heap.size = N + 1 := by rw [← hW3, ← hN]; simp
  have hb3 : Below W2.heap.size W2 W3 := by rw [← hW3]; exact (Below.refl _ W2).alloc (Nat.le_refl _) _
  have hR3 : Hid (RulesAt W3 w.heap.size b45 b87 (.slice ra rs.length rc) rs) := hR2.rk (RuleKept.ofBelow hb3)
  have hM3 : Hid (MdAt W3 B 5000 M) := hmd.below hb3
  have hbw3 : Hid (Below w.heap.size w W3) := hbw2.trans (hb3.mono hbw2.size)
  have hwN : Hid (w.heap.size ≤ N) := by show _ ≤ _; rw [← hN]; exact hbw2.size
  have hfirst : Hid (NwI W3 N B (.slice ra rs.length rc) win lat que [] (.slice none 0 0) W3) := ⟨e3, ⟨rfl, .inl ⟨rfl, rfl⟩⟩, Chg.refl _ _⟩
  have HE3 : Hid _ := e3
  have HS3 : Hid _ := hs3
  -- one round's call
  have hround : Hid (∀ k (hk : k < rs.length) (wr : World) (us : List ByteArray) (vn : Value), NwI W3 N B (.slice ra rs.length rc) win lat que us vn wr → us.length ≤ 8 → ∃ g fa fn fc ga gn gc, ra = some ⟨g, 0, none⟩ ∧ wr.cell? ⟨g, k * 3, none⟩ = some (.string (rs[k]).head.rel) ∧ wr.cell? ⟨g, k * 3 + 1, none⟩ = some (.slice fa fn fc) ∧ wr.cell? ⟨g, k * 3 + 2, none⟩ = some (.slice ga gn gc) ∧
      Hid (Calls Tryz.prog 76 #[vn, .func (.func 141) #[] #[.pointer (some ⟨wr.heap.size + 1, 0, none⟩)]] ((wr.alloc (.cells #[.string (rs[k]).head.rel, .slice fa fn fc, .slice ga gn gc] 136)).drew.alloc (.cells #[.string (rs[k]).head.rel, .slice fa fn fc, .slice ga gn gc] 136)) fun e w' => ∃ (pa : Option Addr) (pc : Nat), e = .returned (.slice pa (nmL us (ruleTerms rs[k])).length pc) ∧ w'.cell? ⟨N, 5, none⟩ = some vn ∧ w'.frozen? ⟨N, 5, none⟩ = false ∧ Hid (NwI W3 N B (.slice ra rs.length rc) win lat que (nmL us (ruleTerms rs[k])) (.slice pa (nmL us (ruleTerms rs[k])).length pc) (w'.setCell ⟨N, 5, none⟩ (.slice pa (nmL us (ruleTerms rs[k])).length pc))))) := fun k hk wr us vn hnw hul => by
    have hRr := hR3.out.rk (hnw.rk HE3.out)
    obtain ⟨g, c', v0, vb, q1, q2, q3, q4, q5⟩ := rules_cell hRr hk
    obtain ⟨fa, fc, hsf⟩ := q5.1.form
    obtain ⟨ga, gc, htf⟩ := q5.2.form
    subst hsf htf
    cases q1
    refine ⟨g, fa, _, fc, ga, _, gc, rfl, q2, q3, q4, ?_⟩
    have hbl : Below wr.heap.size wr ((wr.alloc (.cells #[.string (rs[k]).head.rel, .slice fa (rs[k]).head.args.length fc, .slice ga (rs[k]).body.length gc] 136)).drew.alloc (.cells #[.string (rs[k]).head.rel, .slice fa (rs[k]).head.args.length fc, .slice ga (rs[k]).body.length gc] 136)) := (((Below.refl _ wr).alloc (Nat.le_refl _) _).drew).alloc (by show _ ≤ (wr.alloc _).heap.size; simp) _
    have hszr : N + 1 ≤ wr.heap.size := by have := hnw.2.2.size; have := HS3.out; omega
    refine (addNames_any rs[k] _ _ vn us (N + 1) b45 b87 (wr.heap.size + 1) _ (HOK.out.ok.rok _ (List.getElem_mem hk)) (q5.rk (RuleKept.ofBelow hbl)) ?_ (own_below hnw.2.1 hbl) (by have := hbl.size; omega) (by omega)).mono ?_
    · have := World.alloc_heap_new (wr.alloc (.cells #[.string (rs[k]).head.rel, .slice fa (rs[k]).head.args.length fc, .slice ga (rs[k]).body.length gc] 136)).drew (.cells #[.string (rs[k]).head.rel, .slice fa (rs[k]).head.args.length fc, .slice ga (rs[k]).body.length gc] 136)
      rw [show (wr.alloc (.cells #[.string (rs[k]).head.rel, .slice fa (rs[k]).head.args.length fc, .slice ga (rs[k]).body.length gc] 136)).drew.heap.size = wr.heap.size + 1 by show (wr.alloc _).heap.size = _; simp] at this
      exact this
    · rintro e w' ⟨v', h1, h2, h3⟩
      obtain ⟨pa, pc, hof⟩ := owns_form h2
      subst hof
      obtain ⟨k1, k2, k3⟩ := hnw.next HS3.out hbl h3 h2
      exact ⟨pa, pc, h1, k1, k2, k3⟩
  clear hlea hrd hlm hR hbw2 hb2 hR2 hmd hb3 e3
  go_wp2_with fail
  go_loopw [48] (fun vi wr => ∃ (k : Nat) (vn : Value), vi = .int .i64 k ∧ k ≤ rs.length ∧ Hid (NwI W3 N B (.slice ra rs.length rc) win lat que (namesR [] (rs.take k)) vn wr)) (fun vi _ => rs.length - (intOf vi).toNat)
  case atStart => exact ⟨0, _, rfl, Nat.zero_le _, hfirst⟩
  case round =>
    obtain ⟨k, vn, rfl, hk, hnw⟩ := hrel
    by_cases hlt : k < rs.length
    · have i1 : (k : Int) < (rs.length : Int) := by omega
      have h8 : rs.length ≤ 8 := HOK.out.ok.r8
      obtain ⟨g, fa, fn, fc, ga, gn, gc, e0, q0, q1, q2, hcall⟩ := hround.out k hlt wr _ vn hnw.out (HOK.out.n8 k)
      cases e0
      have hnm : Hid _ := namesR_take hlt
      obtain ⟨na, nc, hnf⟩ := owns_form hnw.out.2.1
      subst hnf
      have hbk := hnw.out.1
      have hszr : N + 1 ≤ wr.heap.size := by have := hnw.out.2.2.size; have := HS3.out; omega
      have c5 : ∀ O, (wr.alloc O).cell? ⟨N, 5, none⟩ = some (.slice na (namesR [] (rs.take k)).length nc) := fun O => cell_later ((Below.refl wr.heap.size wr).alloc (Nat.le_refl _) O) (by simp [World.cell?, hbk])
      have hne : N ≠ wr.heap.size := by omega
      clear hbk
      generalize (rs[k]).head.rel = rel at *
      generalize nmL (namesR [] (rs.take k)) (ruleTerms rs[k]) = us' at *
      obtain ⟨V1, hV1⟩ : ∃ V1, (wr.alloc (.cells #[.string rel, .slice fa fn fc, .slice ga gn gc] 136)).drew = V1 := ⟨_, rfl⟩
      have hsV : V1.heap.size = wr.heap.size + 1 := by rw [← hV1]; show (wr.alloc _).heap.size = _; simp
      have eV : V1.heap[wr.heap.size]? = some (Obj.cells #[.string rel, .slice fa fn fc, .slice ga gn gc] 136 (0, 0)) := by rw [← hV1]; exact World.alloc_heap_new wr _
      have p0 : V1.cell? ⟨wr.heap.size, 0, none⟩ = some (.string rel) := by simp [World.cell?, eV]
      have p1 : V1.cell? ⟨wr.heap.size, 1, none⟩ = some (.slice fa fn fc) := by simp [World.cell?, eV]
      have p2 : V1.cell? ⟨wr.heap.size, 2, none⟩ = some (.slice ga gn gc) := by simp [World.cell?, eV]
      have p5 : V1.cell? ⟨N, 5, none⟩ = some (.slice na (namesR [] (rs.take k)).length nc) := by rw [← hV1]; exact c5 _
      rw [hV1] at hcall
      obtain ⟨V2, hV2⟩ : ∃ V2, V1.alloc (.cells #[.string rel, .slice fa fn fc, .slice ga gn gc] 136) = V2 := ⟨_, rfl⟩
      have r5 : V2.cell? ⟨N, 5, none⟩ = some (.slice na (namesR [] (rs.take k)).length nc) := by rw [← hV2]; exact cell_later ((Below.refl V1.heap.size V1).alloc (Nat.le_refl _) _) p5
      rw [hV2] at hcall
      have hargs : Hid (Calls Tryz.prog 77 #[.agg #[.string rel, .slice fa fn fc, .slice ga gn gc]] V1 fun e w' => e = .returned (.func (.func 141) #[] #[.pointer (some ⟨wr.heap.size + 1, 0, none⟩)]) ∧ V2 = w') := by
        refine (rargs_any _ _ _ _ rfl V1).mono ?_
        rintro e w' ⟨h1, h2⟩
        rw [hsV] at h1
        exact ⟨h1, by rw [h2, hV2]⟩
      clear eV hV2 hsV c5
      go_wp2_with fail
      first | (go_region_with (first | (go_at_call 77; refine Calls.mono hargs.out ?_; rintro e' w' ⟨rfl, hw'⟩; subst hw') | (go_at_call 76; refine Calls.mono hcall.out ?_; rintro e' W6 ⟨pa, pc, rfl, t5, y5, hn6⟩))) | fail
      all_goals (
        go_wp2
        refine ⟨⟨k + 1, .slice pa us'.length pc, by go_num, by omega, ?_⟩, by simp [intOf]; omega⟩
        rw [hnm.out]
        exact hn6)
    · have hkk : k = rs.length := by omega
      subst hkk
      rw [List.take_length] at hnw
      have hfin : Hid (NewPost rs win lat que w (.returned (.tuple #[.pointer (some ⟨N, 0, none⟩), .int .i64 0])) wr) := by
        obtain ⟨k1, k2, k3⟩ := hnw.out
        have hm : ∀ j es c, W3.heap[j]? = some (Obj.map es c) → wr.heap[j]? = some (Obj.map es c) := fun j es c hj => (k3.block j (Array.getElem?_eq_some_iff.1 hj).1 (fun e => by rw [e, HE3.out] at hj; cases hj)).trans hj
        refine ⟨N, fun j => j = N ∨ vn.ownBlock = some j, M, rfl, HLM.out, ⟨_, _, _, _, _, _, _, _, [], fun _ _ => False, ⟨k1, hR3.out.rk (hnw.out.rk HE3.out), ownsRow_lower k2 (Nat.zero_le _), ⟨rfl, .inl ⟨rfl, rfl⟩⟩, hM3.out.kept hm, rfl, ⟨rfl, .inl ⟨rfl, rfl⟩⟩, fun i hi _ => by simp at hi, fun _ _ _ _ h => h.elim, fun _ _ h => h.elim, ⟨.inl rfl, fun g hg => (by cases hg), fun g hg => (by cases hg), fun g hg => .inr hg⟩, fun j hj => ?_⟩⟩, fun j hj => ?_, ?_⟩
        · rcases hj with rfl | hj
          · exact ⟨_, _, k1, .inl rfl⟩
          · obtain ⟨_, c, hcc⟩ := owns_block k2 hj
            exact ⟨_, _, hcc, .inr (.inr (.inr (.inr (.inr rfl))))⟩
        · rcases hj with rfl | hj
          · exact hwN.out
          · have := (owns_block k2 hj).1
            have := hwN.out
            omega
        · have h1 := hbw3.out
          exact ⟨k3.os.trans h1.os, k3.tape.trans h1.tape, k3.output.trans h1.output, Nat.le_trans h1.size k3.size, fun j hj => (k3.block j (by have := h1.size; omega) (by have := hwN.out; omega)).trans (h1.block j hj)⟩
      go_wp2
      go_ret2
      exact hfin.out

end Go.Proofs.YtjajnhemgphefaaGreatDoor

namespace Go.Proofs.YtjajnhemgphefaaGreatDoor
open Go.RowKit
set_option linter.unusedVariables false
set_option linter.unusedSimpArgs false

def pickZ (c n : Int) : Int := if c < 0 then (-(c + 1)) % n else c % n
theorem pickZ_bounds (c n : Int) (hn : 0 < n) : 0 ≤ pickZ c n ∧ pickZ c n < n := by
  unfold pickZ
  split
  · exact ⟨Int.emod_nonneg _ (by omega), Int.emod_lt_of_pos _ hn⟩
  · exact ⟨Int.emod_nonneg _ (by omega), Int.emod_lt_of_pos _ hn⟩
theorem pick_neg (c n : Int) (hc : c < 0) : -(c + 1).tmod n = pickZ c n := by
  unfold pickZ
  rw [if_pos hc]
  obtain ⟨a, ha⟩ : ∃ a, a = -(c + 1) := ⟨_, rfl⟩
  have : c + 1 = -a := by omega
  rw [this, Int.neg_tmod, Int.neg_neg, Int.neg_neg, Int.tmod_eq_emod_of_nonneg (by omega)]

end Go.Proofs.YtjajnhemgphefaaGreatDoor

namespace Go.Proofs.YtjajnhemgphefaaGreatDoor
open Go.RowKit Go.Shelf Go.Maps
set_option linter.unusedVariables false
set_option linter.unusedSimpArgs false

def bP : ByteArray := ⟨#[112]⟩
theorem sameD_iff (x y : Gd × Int) : sameD x y = true ↔ x = y := by
  unfold sameD
  simp only [Bool.and_eq_true, beq_iff_eq, ba_list]
  constructor
  · rintro ⟨⟨h1, h2, h3⟩, h4⟩
    obtain ⟨⟨a, b, c⟩, d⟩ := x
    obtain ⟨⟨a', b', c'⟩, d'⟩ := y
    simp only at h1 h2 h3 h4
    rw [ba_inj h1, ba_inj h2, ba_inj h3, h4]
  · rintro rfl; simp
end Go.Proofs.YtjajnhemgphefaaGreatDoor

namespace Go.Proofs.YtjajnhemgphefaaGreatDoor
open Go.RowKit Go.Shelf Go.Maps
set_option linter.unusedVariables false
set_option linter.unusedSimpArgs false

end Go.Proofs.YtjajnhemgphefaaGreatDoor

namespace Go.Proofs.YtjajnhemgphefaaGreatDoor
open Go.RowKit Go.Shelf Go.Maps
set_option linter.unusedVariables false
set_option linter.unusedSimpArgs false

/-- An engine at be, made behind the world w; the blocks bs are none of its own. -/
structure KSt (w : World) (be : Nat) (bs : List Nat) (e : Eg) (W : World) : Prop where
  eng : ∃ S : Nat → Prop, EngAt W S be e ∧ ∀ k, S k → w.heap.size ≤ k ∧ k ∉ bs
  lt : ∀ b ∈ bs, b < W.heap.size
  below : Below w.heap.size w W
  ok : EgOk e
theorem new_ok {s : ByteArray} {rs : List Rl} (h : NewOk s rs) {win lat que : Int} (h1 : 1 ≤ win ∧ win ≤ 1000) (h2 : 0 ≤ lat ∧ lat ≤ 1000) (h3 : 1 ≤ que ∧ que ≤ 50) {M : Gd → Option Int} (hM : LeastM rs (givenL rs) M) : EgOk (newE rs win lat que M) := by
  have hn8 : (namesR [] rs).length ≤ 8 := by have := h.n8 rs.length; rw [List.take_length] at this; exact this
  refine ⟨h.ok, h1, h2, h3, ⟨by show (0 : Int) ≤ 0; decide, by show (0 : Int) ≤ 1000000; decide⟩, hn8, h.nsz, h.nrs, by show (0 : Nat) ≤ 24; decide, fun d hd => (by cases hd), ?_, by show (0 : Nat) ≤ 3; decide, fun f hf => (by cases hf)⟩
  exact least_in (F := []) h.ok h.nrs ⟨by simp, by simp⟩ hM
/-- What lies in the boxes abides. -/
def Kept (bs : List Nat) (W W' : World) : Prop := ∀ b ∈ bs, W'.heap[b]? = W.heap[b]?

theorem KSt.step {w W W' : World} {be : Nat} {bs : List Nat} {e e' : Eg} (h : KSt w be bs e W) {S : Nat → Prop} (h2 : ∀ k, S k → w.heap.size ≤ k ∧ k ∉ bs) (hp : EngPost S be e' W W') (hok : EgOk e') : KSt w be bs e' W' ∧ Kept bs W W' := by
  obtain ⟨S', j1, j2, j3⟩ := hp
  refine ⟨⟨⟨S', j1, fun k hk => ?_⟩, fun b hb => Nat.lt_of_lt_of_le (h.lt b hb) j3.size, ?_, hok⟩, fun b hb => j3.block b (h.lt b hb) (fun hs => (h2 b hs).2 hb)⟩
  · rcases j2 k hk with hs | hs
    · exact h2 k hs
    · exact ⟨Nat.le_trans h.below.size hs, fun hb => by have := h.lt k hb; omega⟩
  · exact h.below.trans (Chg.below j3 h.below.size (fun k hk => (h2 k hk).1))
theorem KSt.same {w W W' : World} {be : Nat} {bs : List Nat} {e : Eg} (h : KSt w be bs e W) (hb : Below W.heap.size W W') : KSt w be bs e W' ∧ Kept bs W W' := by
  obtain ⟨S, h1, h2⟩ := h.eng
  exact h.step h2 (EngPost.same h1 hb) h.ok
theorem KSt.alloc {w W : World} {be : Nat} {bs : List Nat} {e : Eg} (h : KSt w be bs e W) (O : Obj) : KSt w be (W.heap.size :: bs) e (W.alloc O) ∧ Kept bs W (W.alloc O) := by
  obtain ⟨⟨S, h1, h2⟩, h3, h4, h5⟩ := h
  have hb : Below W.heap.size W (W.alloc O) := (Below.refl _ W).alloc (Nat.le_refl _) O
  refine ⟨⟨⟨S, h1.below hb, fun k hk => ⟨(h2 k hk).1, fun hm => ?_⟩⟩, fun b hb' => ?_, h4.alloc h4.size O, h5⟩, fun b hb' => hb.block b (h3 b hb')⟩
  · rcases List.mem_cons.1 hm with rfl | hm
    · obtain ⟨_, _, _, _, _, _, _, _, _, _, hv⟩ := h1
      have := (hv.typ _ hk).lt
      omega
    · exact (h2 k hk).2 hm
  · rcases List.mem_cons.1 hb' with rfl | hb'
    · simp
    · have := h3 b hb'; simp; omega
theorem KSt.drew {w W : World} {be : Nat} {bs : List Nat} {e : Eg} (h : KSt w be bs e W) : KSt w be bs e W.drew := (h.same (Below.refl _ W).drew).1

section
variable {w W : World} {be : Nat} {bs : List Nat} {e : Eg}
end

end Go.Proofs.YtjajnhemgphefaaGreatDoor

namespace Go.Proofs.YtjajnhemgphefaaGreatDoor
open Go.RowKit Go.Shelf Go.Maps
set_option linter.unusedVariables false
set_option linter.unusedSimpArgs false

end Go.Proofs.YtjajnhemgphefaaGreatDoor

namespace Go.Proofs.YtjajnhemgphefaaGreatDoor
open Go.RowKit Go.Shelf Go.Maps
set_option linter.unusedVariables false
set_option linter.unusedSimpArgs false

def bPa : ByteArray := ⟨#[112, 97, 116, 104]⟩
def bEd : ByteArray := ⟨#[101, 100, 103, 101]⟩
/-- path(X,Y):-edge(X,Y). path(X,Z):-path(X,Y),edge(Y,Z). -/
def txtP : ByteArray := ⟨#[112, 97, 116, 104, 40, 88, 44, 89, 41, 58, 45, 101, 100, 103, 101, 40, 88, 44, 89, 41, 46, 32, 112, 97, 116, 104, 40, 88, 44, 90, 41, 58, 45, 112, 97, 116, 104, 40, 88, 44, 89, 41, 44, 101, 100, 103, 101, 40, 89, 44, 90, 41, 46]⟩
def rsP : List Rl := pathR bPa bEd
theorem p_count : Lib.runeCount txtP = 53 := by kernel_rfl
theorem p_parse : parseR txtP = .ok rsP := by kernel_rfl
theorem p_check : checkS rsP = (0, 0) := by kernel_rfl
theorem p_ams : rsP.flatMap ruleAms = [⟨bPa, [v0T, v1T]⟩, ⟨bEd, [v0T, v1T]⟩, ⟨bPa, [v0T, v1T]⟩, ⟨bPa, [v0T, v2T]⟩, ⟨bEd, [v2T, v1T]⟩] := rfl
theorem p_arP : arR rsP bPa = 2 := by kernel_rfl
theorem p_arE : arR rsP bEd = 2 := by kernel_rfl
theorem p_ok : RsOk rsP := by
  have hA : ∀ (x : ByteArray) (t u : Tm), x.size ≤ 1200 → TmOk t → TmOk u → AmOk ⟨x, [t, u]⟩ := fun x t u hx h1 h2 => ⟨hx, Nat.le_refl 2, fun v hv => by
    simp only [List.mem_cons, List.not_mem_nil, or_false] at hv
    rcases hv with rfl | rfl
    · exact h1
    · exact h2⟩
  have h0 : TmOk v0T := ⟨by decide, by decide⟩
  have h1 : TmOk v1T := ⟨by decide, by decide⟩
  have h2 : TmOk v2T := ⟨by decide, by decide⟩
  refine ⟨by decide, fun r hr => ?_, fun a ha => ?_, fun a ha t ht => ?_, fun r hr t ht hne => ?_⟩
  · simp only [rsP, pathR, List.mem_cons, List.not_mem_nil, or_false] at hr
    rcases hr with rfl | rfl
    · exact ⟨hA _ _ _ (by decide) h0 h1, by decide, fun a ha => by simp only [List.mem_cons, List.not_mem_nil, or_false] at ha; subst ha; exact hA _ _ _ (by decide) h0 h1⟩
    · exact ⟨hA _ _ _ (by decide) h0 h1, by decide, fun a ha => by
        simp only [List.mem_cons, List.not_mem_nil, or_false] at ha
        rcases ha with rfl | rfl
        · exact hA _ _ _ (by decide) h0 h2
        · exact hA _ _ _ (by decide) h2 h1⟩
  · rw [p_ams] at ha
    simp only [List.mem_cons, List.not_mem_nil, or_false] at ha
    rcases ha with rfl | rfl | rfl | rfl | rfl
    · exact ⟨p_arP.symm, .inr rfl⟩
    · exact ⟨p_arE.symm, .inr rfl⟩
    · exact ⟨p_arP.symm, .inr rfl⟩
    · exact ⟨p_arP.symm, .inr rfl⟩
    · exact ⟨p_arE.symm, .inr rfl⟩
  · rw [p_ams] at ha
    simp only [List.mem_cons, List.not_mem_nil, or_false] at ha
    rcases ha with rfl | rfl | rfl | rfl | rfl <;> (simp only [List.mem_cons, List.not_mem_nil, or_false] at ht; rcases ht with rfl | rfl <;> decide)
  · simp only [rsP, pathR, List.mem_cons, List.not_mem_nil, or_false] at hr
    rcases hr with rfl | rfl
    · exact ⟨⟨bEd, [v0T, v1T]⟩, List.mem_cons_self, t, ht, hne, rfl⟩
    · simp only [List.mem_cons, List.not_mem_nil, or_false] at ht
      rcases ht with rfl | rfl
      · exact ⟨⟨bPa, [v0T, v2T]⟩, List.mem_cons_self, v0T, List.mem_cons_self, rfl, rfl⟩
      · exact ⟨⟨bEd, [v2T, v1T]⟩, List.mem_cons_of_mem _ List.mem_cons_self, v1T, List.mem_cons_of_mem _ List.mem_cons_self, rfl, rfl⟩
theorem p_names1 : namesR [] (rsP.take 1) = [] := by kernel_rfl
theorem p_names : namesR [] rsP = [] := by kernel_rfl
theorem p_new : NewOk txtP rsP := by
  refine ⟨p_parse, ?_, p_ok, fun k => ?_, fun r hr t ht hne => ?_, fun x hx => ?_⟩
  · unfold rulesR
    rw [p_count, if_neg (by decide), p_parse]
    simp only
    rw [p_check, if_pos rfl]
  · match k with
    | 0 => exact Nat.zero_le _
    | 1 => rw [p_names1]; exact Nat.zero_le _
    | k + 2 =>
      have h : rsP.take (k + 2) = rsP := List.take_of_length_le (by show (2 : Nat) ≤ k + 2; omega)
      rw [h, p_names]; exact Nat.zero_le _
  · simp only [rsP, pathR, List.mem_cons, List.not_mem_nil, or_false] at hr
    rcases hr with rfl | rfl <;> (simp only [List.mem_cons, List.not_mem_nil, or_false] at ht; rcases ht with rfl | rfl <;> exact absurd rfl hne)
  · rw [p_names] at hx; cases hx

end Go.Proofs.YtjajnhemgphefaaGreatDoor

namespace Go.Proofs.YtjajnhemgphefaaGreatDoor
open Go.RowKit Go.Shelf Go.Maps
set_option linter.unusedVariables false
set_option linter.unusedSimpArgs false

end Go.Proofs.YtjajnhemgphefaaGreatDoor

namespace Go.Proofs.YtjajnhemgphefaaGreatDoor
open Go.RowKit Go.Shelf
set_option linter.unusedVariables false
set_option linter.unusedSimpArgs false

/-- A fact that is kept by the document's own answer: the atom, its time; whether the state is made of it. -/
abbrev Fk := Gr × Int × Bool
/-- The facts that the state is made of, those that last beyond a time. -/
def begG (win : Int) (fs : List Fk) (t : Int) : List Gr := (fs.filter (fun f => f.2.2 && decide (t < f.2.1 + win))).map (·.1)
/-- .. the code's: with their ends. -/
def begE (win : Int) (ds : List (Gd × Int × Bool)) : List (Gd × Int) := (ds.filter (fun d => d.2.2)).map (fun d => (d.1, d.2.1 + win))
theorem mem_begG {win : Int} {fs : List Fk} {t : Int} {g : Gr} : g ∈ begG win fs t ↔ ∃ f ∈ fs, f.2.2 = true ∧ t < f.2.1 + win ∧ f.1 = g := by
  unfold begG
  rw [List.mem_map]
  constructor
  · rintro ⟨f, hf, rfl⟩
    obtain ⟨h1, h2⟩ := List.mem_filter.1 hf
    simp only [Bool.and_eq_true, decide_eq_true_eq] at h2
    exact ⟨f, h1, h2.1, h2.2, rfl⟩
  · rintro ⟨f, hf, h1, h2, rfl⟩
    exact ⟨f, List.mem_filter.2 ⟨hf, by simp [h1, h2]⟩, rfl⟩
/-- The code's facts and the document's are the same. -/
def SameF (ds : List (Gd × Int × Bool)) (fs : List Fk) : Prop := fs = ds.map (fun d => (toGr d.1, d.2.1, d.2.2))
theorem facts_one {ar : ByteArray → Nat} {R : List Rl} {win : Int} {ds : List (Gd × Int × Bool)} {fs : List Fk} (hR : RulesTwo ar R) (hs : SameF ds fs) (ha : ∀ d ∈ ds, ArE ar d.1) {t : Int} (ht : t < 2000000) : FactsOne ar R (begE win ds ++ givenL R) t (begG win fs t) := by
  have hgiv : ∀ x ∈ givenL R, ∃ r ∈ R, r.body = [] ∧ x = (groundA nms0 r.head, 2000000) := fun x hx => by
    obtain ⟨r, hr, e⟩ := List.mem_filterMap.1 hx
    split at e
    · rename_i h0; exact ⟨r, hr, h0, (Option.some.inj e).symm⟩
    · cases e
  refine ⟨fun x hx he => ?_, fun g hg => ?_, fun r hr h0 => ?_⟩
  · rcases List.mem_append.1 hx with hx | hx
    · obtain ⟨d, hd, rfl⟩ := List.mem_map.1 hx
      obtain ⟨h1, h2⟩ := List.mem_filter.1 hd
      refine ⟨ha d h1, .inl (mem_begG.2 ⟨(toGr d.1, d.2.1, d.2.2), ?_, h2, he, rfl⟩)⟩
      rw [hs]; exact List.mem_map.2 ⟨d, h1, rfl⟩
    · obtain ⟨r, hr, h0, rfl⟩ := hgiv x hx
      have hc := head_const (hR.safe r hr) h0
      obtain ⟨h2, h3⟩ := hR.two r hr r.head List.mem_cons_self
      refine ⟨(are_ground h2.1 h3).2 (fun t ht => ?_), .inr ⟨r, hr, h0, rfl⟩⟩
      have hne := hc t ht
      unfold ofT
      rw [if_neg (by show ¬ emptyB t.name = true; rw [hne]; decide)]
      exact hne
  · obtain ⟨f, hf, h1, h2, rfl⟩ := mem_begG.1 hg
    rw [hs] at hf
    obtain ⟨d, hd, rfl⟩ := List.mem_map.1 hf
    exact ⟨(d.1, d.2.1 + win), List.mem_append_left _ (List.mem_map.2 ⟨d, List.mem_filter.2 ⟨hd, h1⟩, rfl⟩), h2, rfl⟩
  · exact ⟨(groundA nms0 r.head, 2000000), List.mem_append_right _ (List.mem_filterMap.2 ⟨r, hr, by rw [if_pos h0]⟩), ht, rfl⟩
/-- What the code's model holds beyond a time is what follows from the facts that last so long. -/
theorem model_iff {ar : ByteArray → Nat} {R : List Rl} {win : Int} {ds : List (Gd × Int × Bool)} {fs : List Fk} {M : Gd → Option Int} (hR : RulesTwo ar R) (hs : SameF ds fs) (ha : ∀ d ∈ ds, ArE ar d.1) (hM : LeastM R (begE win ds ++ givenL R) M) {t : Int} (ht : t < 2000000) (g : Gd) : (∃ u, M g = some u ∧ t < u) ↔ Dv R (begG win fs t) (toGr g) := by
  rw [← der_iff hR (facts_one (win := win) hR hs ha ht) g]
  exact ⟨fun ⟨u, h1, h2⟩ => hM.sound g u h1 t h2, fun h => hM.complete t g h⟩
/-- The state: what holds at all. -/
theorem state_iff {ar : ByteArray → Nat} {R : List Rl} {win m : Int} {ds : List (Gd × Int × Bool)} {fs : List Fk} {M : Gd → Option Int} (hR : RulesTwo ar R) (hs : SameF ds fs) (ha : ∀ d ∈ ds, ArE ar d.1) (hM : LeastM R (begE win ds ++ givenL R) M) (hm : m < 2000000) (hb : ∀ d ∈ ds, d.2.2 = true → m < d.2.1 + win) (g : Gd) : (M g).isSome = true ↔ Dv R (begG win fs m) (toGr g) := by
  rw [← model_iff hR hs ha hM hm g]
  constructor
  · intro h
    obtain ⟨u, hu⟩ := Option.isSome_iff_exists.1 h
    refine ⟨u, hu, ?_⟩
    obtain ⟨d, hd, rfl⟩ := hM.end_mem hu
    rcases List.mem_append.1 hd with hd | hd
    · obtain ⟨x, hx, rfl⟩ := List.mem_map.1 hd
      exact hb x (List.mem_filter.1 hx).1 (List.mem_filter.1 hx).2
    · obtain ⟨r, hr, e⟩ := List.mem_filterMap.1 hd
      split at e
      · rw [← Option.some.inj e]; exact hm
      · cases e
  · rintro ⟨u, hu, _⟩; rw [hu]; rfl
/-- The end that is reckoned: the least at which it does not follow any more. -/
def bestR (P : Int → Bool) : Int → List Int → Int
  | b, [] => b
  | b, e :: l => bestR P (if b ≤ e then b else if P e = true then b else e) l
theorem best_is (P : Int → Bool) (t : Int) : ∀ (l : List Int) (b : Int), (∀ e ∈ l, P e = true ↔ e < t) → t ≤ b → (b = t ∨ t ∈ l) → bestR P b l = t
  | [], b, _, _, h => by
    rcases h with h | h
    · exact h
    · cases h
  | e :: l, b, hP, hb, h => by
    have hP' : ∀ e ∈ l, P e = true ↔ e < t := fun x hx => hP x (List.mem_cons_of_mem _ hx)
    have he := hP e List.mem_cons_self
    unfold bestR
    by_cases h1 : b ≤ e
    · rw [if_pos h1]
      refine best_is P t l b hP' hb ?_
      rcases h with h | h
      · exact .inl h
      · rcases List.mem_cons.1 h with h | h
        · left; omega
        · exact .inr h
    · rw [if_neg h1]
      by_cases h2 : P e = true
      · rw [if_pos h2]
        have := he.1 h2
        refine best_is P t l b hP' hb ?_
        rcases h with h | h
        · exact .inl h
        · rcases List.mem_cons.1 h with h | h
          · omega
          · exact .inr h
      · rw [if_neg h2]
        have h3 : t ≤ e := by
          rcases Int.lt_or_le e t with h | h
          · exact absurd (he.2 h) h2
          · exact h
        refine best_is P t l e hP' h3 ?_
        rcases h with h | h
        · omega
        · rcases List.mem_cons.1 h with h | h
          · exact .inl h.symm
          · exact .inr h
/-- Until: the code's end of what holds is the one that the document's own answer reckons. -/
theorem until_one {ar : ByteArray → Nat} {R : List Rl} {win m : Int} {ds : List (Gd × Int × Bool)} {fs : List Fk} {M : Gd → Option Int} (hR : RulesTwo ar R) (hs : SameF ds fs) (ha : ∀ d ∈ ds, ArE ar d.1) (hM : LeastM R (begE win ds ++ givenL R) M) (hb : ∀ d ∈ ds, d.2.2 = true → d.2.1 + win < 2000000) (g : Gd) {u : Int} (hu : M g = some u) (P : Int → Bool) (hP : ∀ e, P e = true ↔ Dv R (begG win fs e) (toGr g)) : bestR P 2000000 ((fs.filter (fun f => f.2.2)).map (fun f => f.2.1 + win)) = u := by
  have hends : ∀ e ∈ (fs.filter (fun f => f.2.2)).map (fun f => f.2.1 + win), e < 2000000 := fun e he => by
    obtain ⟨f, hf, rfl⟩ := List.mem_map.1 he
    obtain ⟨h1, h2⟩ := List.mem_filter.1 hf
    rw [hs] at h1
    obtain ⟨d, hd, rfl⟩ := List.mem_map.1 h1
    exact hb d hd h2
  refine best_is P u _ _ (fun e he => ?_) ?_ ?_
  · rw [hP e, ← model_iff hR hs ha hM (hends e he) g]
    constructor
    · rintro ⟨u', h1, h2⟩; rw [hu] at h1; cases h1; exact h2
    · intro h; exact ⟨u, hu, h⟩
  all_goals
    obtain ⟨d, hd, hde⟩ := hM.end_mem hu
  · rcases List.mem_append.1 hd with hd | hd
    · obtain ⟨x, hx, rfl⟩ := List.mem_map.1 hd
      have := hb x (List.mem_filter.1 hx).1 (List.mem_filter.1 hx).2
      simp only at hde
      omega
    · obtain ⟨r, hr, e⟩ := List.mem_filterMap.1 hd
      split at e
      · have := congrArg Prod.snd (Option.some.inj e)
        simp only at this
        omega
      · cases e
  · rcases List.mem_append.1 hd with hd | hd
    · obtain ⟨x, hx, rfl⟩ := List.mem_map.1 hd
      obtain ⟨h1, h2⟩ := List.mem_filter.1 hx
      right
      refine List.mem_map.2 ⟨(toGr x.1, x.2.1, x.2.2), List.mem_filter.2 ⟨?_, h2⟩, hde⟩
      rw [hs]; exact List.mem_map.2 ⟨x, h1, rfl⟩
    · obtain ⟨r, hr, e⟩ := List.mem_filterMap.1 hd
      split at e
      · left
        have := congrArg Prod.snd (Option.some.inj e)
        simp only at this
        omega
      · cases e

end Go.Proofs.YtjajnhemgphefaaGreatDoor

namespace Go.Proofs.YtjajnhemgphefaaGreatDoor
open Go.RowKit Go.Shelf
set_option linter.unusedVariables false
set_option linter.unusedSimpArgs false

end Go.Proofs.YtjajnhemgphefaaGreatDoor

namespace Go.Proofs.YtjajnhemgphefaaGreatDoor
open Go.RowKit Go.Shelf
set_option linter.unusedVariables false
set_option linter.unusedSimpArgs false

theorem arE_ok {ar : ByteArray → Nat} {g : Gd} : arOk ar g ↔ ArE ar g := by
  have h : ∀ x : ByteArray, (x ≠ eB) ↔ emptyB x = false := fun x => by
    constructor
    · intro hx
      cases he : emptyB x with
      | false => rfl
      | true => exact absurd ((emptyB_iff x).1 he) hx
    · intro he hx
      rw [(emptyB_iff x).2 hx] at he; cases he
  have h' : ∀ x : ByteArray, (x = eB) ↔ emptyB x = true := fun x => (emptyB_iff x).symm
  unfold arOk ArE
  rw [h, h, h']
end Go.Proofs.YtjajnhemgphefaaGreatDoor

namespace Go.Proofs.YtjajnhemgphefaaGreatDoor
open Go.RowKit Go.Shelf
set_option linter.unusedVariables false
set_option linter.unusedSimpArgs false

end Go.Proofs.YtjajnhemgphefaaGreatDoor

namespace Go.Proofs.YtjajnhemgphefaaGreatDoor
open Go.RowKit Go.Shelf
set_option linter.unusedVariables false
set_option linter.unusedSimpArgs false

def Bld (B b : Nat) (bs : List UInt8) (W : World) : Prop := Lib.IsBuilderF 133 5 B b (Lib.byteCells bs) W

/-- What a writer does: the builder's text is longer; all else that is no row of bytes is as it was. -/
structure Wrote (B b : Nat) (bs : List UInt8) (W W' : World) : Prop where
  bld : Bld B b bs W'
  below : Below B W W'
  others : Lib.OthersKept 5 (some b) W W'

theorem Bld.block {B b : Nat} {bs : List UInt8} {W : World} (h : Bld B b bs W) : B ≤ b ∧ ∃ c, W.heap[b]? = some (Obj.cells c 133 (0, 0)) := by
  rcases h with ⟨hB, v, hb, _⟩ | ⟨hB, v, hb, _⟩
  · exact ⟨hB, _, hb⟩
  · exact ⟨hB, _, hb⟩

theorem Bld.below {B b : Nat} {bs : List UInt8} {W W' : World} (h : Bld B b bs W) (hb : Below W.heap.size W W') : Bld B b bs W' := by
  have hlt : b < W.heap.size := by obtain ⟨_, c, hc⟩ := h.block; exact (Array.getElem?_eq_some_iff.1 hc).1
  rcases h with ⟨h1, v, h2, h3, h4⟩ | ⟨h1, v, h2, h3, h4⟩
  · exact .inl ⟨h1, v, (hb.block b hlt).trans h2, h3.kept (below_grownBy hb) (by cases hv : v.ownBlock <;> simp), h4⟩
  · exact .inr ⟨h1, v, (hb.block b hlt).trans h2, h3.kept (below_grownBy hb) (by cases hv : v.ownBlock <;> simp), h4⟩

theorem Wrote.cells {B b : Nat} {bs bs0 : List UInt8} {W W' : World} (h : Wrote B b bs W W') (h0 : Bld B b bs0 W) {k : Nat} {c : Array Value} {t : TypeId} {fz : Nat × Nat} (hk : W.heap[k]? = some (Obj.cells c t fz)) (ht : t ≠ 5) (ht2 : t ≠ 133) : W'.heap[k]? = some (Obj.cells c t fz) := by
  refine h.others k _ hk (fun e => ?_) (fun c' fz' e => ?_)
  · cases e
    obtain ⟨_, c', hc'⟩ := h0.block
    rw [hk] at hc'; cases hc'; exact ht2 rfl
  · cases e; exact ht rfl

theorem Wrote.rk {B b : Nat} {bs bs0 : List UInt8} {W W' : World} (h : Wrote B b bs W W') (h0 : Bld B b bs0 W) : RuleKept W W' := fun k c t ht hc =>
  h.cells h0 hc (by rcases ht with rfl | rfl | rfl <;> decide) (by rcases ht with rfl | rfl | rfl <;> decide)

theorem Wrote.row {B b : Nat} {bs bs0 : List UInt8} {W W' : World} (h : Wrote B b bs W W') (h0 : Bld B b bs0 W) {base n : Nat} {v : Value} {xs : List Value} (hv : W.ownsRow base 9 1 v n xs) : W'.ownsRow base 9 1 v n xs :=
  owns_kept hv (fun g c _ hc => h.cells h0 hc (by decide) (by decide))

theorem Wrote.trans {B b : Nat} {bs bs' : List UInt8} {A C D : World} (h : Wrote B b bs A C) (k : Wrote B b bs' C D) : Wrote B b bs' A D := ⟨k.bld, h.below.trans k.below, h.others.trans k.others⟩
end Go.Proofs.YtjajnhemgphefaaGreatDoor

namespace Go.Proofs.YtjajnhemgphefaaGreatDoor
open Go.RowKit Go.Shelf
set_option linter.unusedVariables false
set_option linter.unusedSimpArgs false

end Go.Proofs.YtjajnhemgphefaaGreatDoor

namespace Go.Proofs.YtjajnhemgphefaaGreatDoor
open Go.RowKit Go.Shelf
set_option linter.unusedVariables false
set_option linter.unusedSimpArgs false


end Go.Proofs.YtjajnhemgphefaaGreatDoor

namespace Go.Proofs.YtjajnhemgphefaaGreatDoor
open Go.RowKit Go.Shelf
set_option linter.unusedVariables false
set_option linter.unusedSimpArgs false


end Go.Proofs.YtjajnhemgphefaaGreatDoor

namespace Go.Proofs.YtjajnhemgphefaaGreatDoor
open Go.RowKit Go.Shelf
set_option linter.unusedVariables false
set_option linter.unusedSimpArgs false


end Go.Proofs.YtjajnhemgphefaaGreatDoor

namespace Go.Proofs.YtjajnhemgphefaaGreatDoor
open Go.RowKit Go.Shelf
set_option linter.unusedVariables false
set_option linter.unusedSimpArgs false

end Go.Proofs.YtjajnhemgphefaaGreatDoor
