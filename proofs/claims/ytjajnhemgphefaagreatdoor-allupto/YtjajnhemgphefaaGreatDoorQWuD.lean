/-
  Proved: the second card of All: for every input of at most 2^20 values and letters the call returns true and its argument reads as before.
  Conditions: as the card says: the listed tables start as the program's text lays them.
-/
import Derived.Test.YtjajnhemgphefaaGreatDoorQWuB
import Derived.Test.YtjajnhemgphefaaGreatDoorQWuC
set_option linter.all false
set_option maxRecDepth 100000
open Go.Value renaming slice->aJ
open Option renaming some->aX,none->aY,some->bC
open Go.World renaming holding->bB
open Go.Proofs.Tryz renaming prog->bD
namespace Go.Proofs.YtjajnhemgphefaaGreatDoor
open Go renaming World->Wq,Value->Vq
open Go.ChangeShapes Go.WideShapes Go.ChangeAt Go.RowKit Go.Shelf
def IY(z:Os):laidMet bD Rows.allUptoRow.laid ((AG (bB bD z ⟨#[],#[],[]⟩)).forCall (λ_ _=>0) ⟨#[],#[aJ aY 0 0],[]⟩).memory:=
 laidMet_of_run' 8 (by kernel_rfl) (by kernel_rfl)
def reads(z:Os){H:Type}(enc:TypeId×Vq->H):∃ab,DataW.whole enc bD ((AG (bB bD z ⟨#[],#[],[]⟩)).forCall (λ_ _=>0) ⟨#[],#[aJ aY 0 0],[]⟩).memory Tryz.f7.params.toList Rows.allSpec.vars false #[aJ aY 0 0].toList 8=aX ([.nil],[],ab):=
 ⟨[],by kernel_rfl⟩
def J9(z:Os)(aa:z.Started)(H:Type)(enc:TypeId×Vq->H)(F:Stop.Interp):ReturnsInHanded {} Tryz.checked z 7 .any ((Rows.OpenSpec.upto Rows.allSpec).preRow enc bD Tryz.f7 Rows.allUptoRow.domain false Rows.allUptoRow.laid) (((Rows.OpenSpec.upto Rows.allSpec).at F).post enc bD Tryz.f7 false true false false):=by
 have⟨ab,hx⟩:=reads z enc;refine returnsInHanded_of_row (C:=Tryz.checked) (s:=Rows.OpenSpec.upto Rows.allSpec) own aa (by kernel_rfl) Tryz.func7
  (witness_row_at (enc:=enc) (C:=Tryz.checked) false (AG (bB bD z ⟨#[],#[],[]⟩)) #[aJ aY 0 0] rfl (by kernel_rfl) (by kernel_rfl) (by kernel_rfl)
   (OpenSpec.preRow_of_cond 8 hx (by kernel_rfl) (λk M=>by cases M;kernel_rfl) (by kernel_rfl) (IY z))) ?_
 intro W ae args ds gs ac af G _ A _ E _ _;exact rT H enc W ae args ds gs ac af G (A _ rfl) E
def NV:Rows.AllUptoSaid:=
 OpenClaim.holds_of_cond 7 Tryz.f7 rfl rfl rfl rfl rfl rfl rfl ⟨rfl,rfl,rfl,rfl,rfl⟩ rfl rfl rfl rfl rfl (by as_aux_lemma=>kernel_rfl) Tryz.func7 closed
  (of_decide_eq_true (by as_aux_lemma=>kernel_rfl)) (by unfold Func.isWrapper;first|(rw[if_pos (by decide +kernel)];kernel_rfl)|(rw[if_neg (by decide +kernel)];exact⟨rfl,rfl⟩))
  (λz aa H enc _ F=>by rw[OpenClaim.pre_eq_preRow];exact J9 z aa H enc F)
def rX(f:FuncId)(fn:Func)(E:Tryz.pinned.checked.prog.funcNamed Rows.allUptoRow.func=aX f)(A:Tryz.pinned.checked.prog.funcs[f]?=aX fn):false=Tryz.pinned.checked.prog.looks []/\∀(j:Nat) t,fn.params[j]?=aX t->Tryz.pinned.checked.prog.wantsStandIn t=false:=by
 obtain rfl:f=7:=bC.inj ((show Tryz.prog.funcNamed Rows.allUptoRow.func=aX 7 by kernel_rfl).s.t E) |>.s;obtain rfl:fn=Tryz.f7:=(bC.inj (Tryz.func7.s.t A)).s;refine⟨by kernel_rfl,λj t z=>?_⟩;rw[Tryz.params7] at z;have G:t∈[36]:=by simpa using Array.mem_of_getElem? z
 have C:([36].all λu=>!Tryz.prog.wantsStandIn u)=true:=by kernel_rfl
 exact (show Tryz.prog.wantsStandIn t=false by simpa using List.all_eq_true.1 C t G)
theorem all_card:Rows.AllUptoCardSaid:=
 Claim7.holds_tied_plain_at .later [] _ _ _ _ NV (λ_ h=>by cases h) (by kernel_rfl) (λ_ h=>by cases h) allUpto_row_tie rfl ⟨rfl,rfl⟩ (by kernel_rfl) rfl rX (by kernel_rfl)
