/-
  Proved: the second card of States: for every input of at most 2^20 values and letters the call returns true and its argument reads as before.
  Conditions: as the card says: the listed tables start as the program's text lays them.
-/
import Derived.Test.YtjajnhemgphefaaGreatDoorKWxI
import Derived.Test.YtjajnhemgphefaaGreatDoorKWxJ
set_option linter.all false
set_option maxRecDepth 100000
namespace Go.Proofs.YtjajnhemgphefaaGreatDoor
open Go renaming World->Wq,Value->Vq
open Go.ChangeShapes Go.WideShapes Go.ChangeAt Go.RowKit Go.Shelf
theorem q5f(os:Os):laidMet Tryz.prog Rows.statesUptoRow.laid ((q5e (World.holding Tryz.prog os ⟨#[],#[],[]⟩)).forCall (λ_ _=>0) ⟨#[],#[.slice none 0 0],[]⟩).memory:=
 laidMet_of_run' 8 (by kernel_rfl) (by kernel_rfl)
theorem reads(os:Os){H:Type}(enc:TypeId×Vq->H):∃ab,DataW.whole enc Tryz.prog ((q5e (World.holding Tryz.prog os ⟨#[],#[],[]⟩)).forCall (λ_ _=>0) ⟨#[],#[.slice none 0 0],[]⟩).memory Tryz.f4.params.toList Rows.statesSpec.vars false #[Value.slice none 0 0].toList 8=some ([.nil],[],ab):=
 ⟨[],by kernel_rfl⟩
theorem Qb0(os:Os)(aa:os.Started)(H:Type)(enc:TypeId×Vq->H)(F:Stop.Interp) :
  ReturnsInHanded {} Tryz.checked os 4 .any ((Rows.OpenSpec.upto Rows.statesSpec).preRow enc Tryz.prog Tryz.f4 Rows.statesUptoRow.domain false Rows.statesUptoRow.laid) (((Rows.OpenSpec.upto Rows.statesSpec).at F).post enc Tryz.prog Tryz.f4 false true false false):=by
 obtain⟨ab,hx⟩:=reads os enc
 refine returnsInHanded_of_row (C:=Tryz.checked) (s:=Rows.OpenSpec.upto Rows.statesSpec) own aa (by kernel_rfl) Tryz.func4
  (witness_row_at (enc:=enc) (C:=Tryz.checked) false (q5e (World.holding Tryz.prog os ⟨#[],#[],[]⟩)) #[.slice none 0 0] rfl (by kernel_rfl) (by kernel_rfl) (by kernel_rfl)
   (OpenSpec.preRow_of_cond 8 hx (by kernel_rfl) (λk hk=>by cases hk;kernel_rfl) (by kernel_rfl) (q5f os))) ?_
 intro W ae args ds gs ac af hW _ ad _ hL _ _;exact contract H enc W ae args ds gs ac af hW (ad _ rfl) hL
theorem Qhk:Rows.StatesUptoSaid:=
 OpenClaim.holds_of_cond 4 Tryz.f4 rfl rfl rfl rfl rfl rfl rfl ⟨rfl,rfl,rfl,rfl,rfl⟩ rfl rfl rfl rfl rfl (by as_aux_lemma=>kernel_rfl) Tryz.func4 closed
  (of_decide_eq_true (by as_aux_lemma=>kernel_rfl)) (by unfold Func.isWrapper;first | (rw[if_pos (by decide +kernel)];kernel_rfl) | (rw[if_neg (by decide +kernel)];exact⟨rfl,rfl⟩))
  (λos aa H enc _ F=>by rw[OpenClaim.pre_eq_preRow];exact Qb0 os aa H enc F)
theorem plain(f:FuncId)(fn:Func)(hf:Tryz.pinned.checked.prog.funcNamed Rows.statesUptoRow.func=some f)(ah:Tryz.pinned.checked.prog.funcs[f]?=some fn) :
  false=Tryz.pinned.checked.prog.looks []/\∀(j:Nat) t,fn.params[j]?=some t->Tryz.pinned.checked.prog.wantsStandIn t=false:=by
 obtain rfl:f=4:=Option.some.inj ((show Tryz.prog.funcNamed Rows.statesUptoRow.func=some 4 by kernel_rfl).symm.trans hf) |>.symm;obtain rfl:fn=Tryz.f4:=(Option.some.inj (Tryz.func4.symm.trans ah)).symm;refine⟨by kernel_rfl,λj t ht=>?_⟩;rw[Tryz.params4] at ht;have hm:t∈[36]:=by simpa using Array.mem_of_getElem? ht
 have ag:([36].all λu=>!Tryz.prog.wantsStandIn u)=true:=by kernel_rfl
 exact (show Tryz.prog.wantsStandIn t=false by simpa using List.all_eq_true.1 ag t hm)
theorem states_card:Rows.StatesUptoCardSaid:=
 Claim7.holds_tied_plain_at .later [] _ _ _ _ Qhk (λ_ h=>by cases h) (by kernel_rfl) (λ_ h=>by cases h) statesUpto_row_tie rfl ⟨rfl,rfl⟩ (by kernel_rfl) rfl plain (by kernel_rfl)
