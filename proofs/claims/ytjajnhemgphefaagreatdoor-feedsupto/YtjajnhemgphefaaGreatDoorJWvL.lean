/-
  Proved: the second card of Feeds: for every input of at most 2^20 values and letters the call returns true and its argument reads as before.
  Conditions: as the card says: the listed tables start as the program's text lays them.
-/
import Derived.Test.YtjajnhemgphefaaGreatDoorJWvJ
import Derived.Test.YtjajnhemgphefaaGreatDoorJWvK
set_option linter.all false
set_option maxRecDepth 100000
open Go.Value renaming slice->aH
open Option renaming some->aV,none->aW,some->aY
open Go.World renaming holding->aX
open Go.Proofs.Tryz renaming prog->aZ
namespace Go.Proofs.YtjajnhemgphefaaGreatDoor
open Go renaming World->Wq,Value->Vq
open Go.ChangeShapes Go.WideShapes Go.ChangeAt Go.RowKit Go.Shelf
theorem Gl(d:Os):laidMet aZ Rows.feedsUptoRow.laid ((vS (aX aZ d ⟨#[],#[],[]⟩)).forCall (λ_ _=>0) ⟨#[],#[aH aW 0 0],[]⟩).memory:=
 laidMet_of_run' 8 (by kernel_rfl) (by kernel_rfl)
theorem reads(d:Os){H:Type}(enc:TypeId×Vq->H):∃ab,DataW.whole enc aZ ((vS (aX aZ d ⟨#[],#[],[]⟩)).forCall (λ_ _=>0) ⟨#[],#[aH aW 0 0],[]⟩).memory Tryz.f6.params.toList Rows.feedsSpec.vars false #[aH aW 0 0].toList 8=aV ([.nil],[],ab):=
 ⟨[],by kernel_rfl⟩
theorem JC(d:Os)(aa:d.Started)(H:Type)(enc:TypeId×Vq->H)(F:Stop.Interp):ReturnsInHanded {} Tryz.checked d 6 .any ((Rows.OpenSpec.upto Rows.feedsSpec).preRow enc aZ Tryz.f6 Rows.feedsUptoRow.domain false Rows.feedsUptoRow.laid) (((Rows.OpenSpec.upto Rows.feedsSpec).at F).post enc aZ Tryz.f6 false true false false):=by
 have⟨ab,hx⟩:=reads d enc
 refine returnsInHanded_of_row (C:=Tryz.checked) (s:=Rows.OpenSpec.upto Rows.feedsSpec) own aa (by kernel_rfl) Tryz.func6
  (witness_row_at (enc:=enc) (C:=Tryz.checked) false (vS (aX aZ d ⟨#[],#[],[]⟩)) #[aH aW 0 0] rfl (by kernel_rfl) (by kernel_rfl) (by kernel_rfl)
   (OpenSpec.preRow_of_cond 8 hx (by kernel_rfl) (λk M=>by cases M;kernel_rfl) (by kernel_rfl) (Gl d))) ?_
 intro W ae args ds gs z A G _ ad _ E _ _;exact lV H enc W ae args ds gs z A G (ad _ rfl) E
theorem Hk:Rows.FeedsUptoSaid:=
 OpenClaim.holds_of_cond 6 Tryz.f6 rfl rfl rfl rfl rfl rfl rfl ⟨rfl,rfl,rfl,rfl,rfl⟩ rfl rfl rfl rfl rfl (by as_aux_lemma=>kernel_rfl) Tryz.func6 closed
  (of_decide_eq_true (by as_aux_lemma=>kernel_rfl)) (by unfold Func.isWrapper;first|(rw[if_pos (by decide +kernel)];kernel_rfl)|(rw[if_neg (by decide +kernel)];exact⟨rfl,rfl⟩))
  (λd aa H enc _ F=>by rw[OpenClaim.pre_eq_preRow];exact JC d aa H enc F)
theorem mf(f:FuncId)(fn:Func)(C:Tryz.pinned.checked.prog.funcNamed Rows.feedsUptoRow.func=aV f)(z:Tryz.pinned.checked.prog.funcs[f]?=aV fn):false=Tryz.pinned.checked.prog.looks []/\∀(j:Nat) t,fn.params[j]?=aV t->Tryz.pinned.checked.prog.wantsStandIn t=false:=by
 obtain rfl:f=6:=aY.inj ((show Tryz.prog.funcNamed Rows.feedsUptoRow.func=aV 6 by kernel_rfl).symm.trans C) |>.symm;obtain rfl:fn=Tryz.f6:=(aY.inj (Tryz.func6.symm.trans z)).symm;refine⟨by kernel_rfl,λj t d=>?_⟩;rw[Tryz.params6] at d;have E:t∈[36]:=by simpa using Array.mem_of_getElem? d
 have A:([36].all λu=>!Tryz.prog.wantsStandIn u)=true:=by kernel_rfl
 exact (show Tryz.prog.wantsStandIn t=false by simpa using List.all_eq_true.1 A t E)
theorem feeds_card:Rows.FeedsUptoCardSaid:=
 Claim7.holds_tied_plain_at .later [] _ _ _ _ Hk (λ_ h=>by cases h) (by kernel_rfl) (λ_ h=>by cases h) feedsUpto_row_tie rfl ⟨rfl,rfl⟩ (by kernel_rfl) rfl mf (by kernel_rfl)
