/- A part -/
import Derived.Test.YtjajnhemgphefaaGreatDoorJArity
set_option linter.all false
set_option maxRecDepth 100000
set_option maxHeartbeats 1000000
open List renaming length->aB,append_toArray->bC,size_toArray->bD,push_toArray->bE,length_cons->bF,cons_append->bG,length_nil->bH,nil_append->bI,mem_cons->bQ,map_append->bU,map_cons->bX,flatMap_cons->bZ,nodup_cons->cA,any_append->cD,map_nil->cG
open Go.World renaming cell?->aC,frozen?->aD,ownsRow->aE,size_alloc->aX
open Go.Value renaming ownBlock->aF,slice->aH,string->aI,agg->aJ,bool->aK,tuple->aL,int->aM,oneCell'->cF
open Go.Obj renaming cells->aN
open Go.Ending renaming returned->aO
open Go.IntKind renaming i64->aP
open Or renaming inl->aQ,inr->aR
open Option renaming some->aV,none->aW,none_or->cE
open Array renaming replicate_succ->aY,replicate_zero->aZ
open Go.RowKit.Below renaming refl->bB,heap_setCell->bO,heap_alloc->bT
open Nat renaming reduceAdd->bJ,reduceSub->bL,le_trans->cH,le_succ->cI
open Go renaming callsIn_wide->cJ,callsIn_of_wp_marks->cM,Boxed->cO,run_takeDeferred->cS
open Go.RowKit renaming Below->cL
open Go.CallsIn renaming inRound->cP
open Go.Lib renaming runeCount->cQ
open Go.Boxed renaming new->cR
open Go.Oper renaming semAt_some->cT
namespace Go.Proofs.YtjajnhemgphefaaGreatDoor
open Go renaming World->Wq,Value->Vq
open Go.RowKit Go.Shelf
attribute [local go_sem] cT
variable {W:Wq} {N:Nat} {ds:List Nat} {x:ByteArray}
def dH(rs:List Rl)(x:ByteArray):Nat:=(fB (rs.flatMap qz) x.data.toList).getD 0
structure nD(w:Wq)(N:Nat)(ds:List Nat)(x:ByteArray)(W:Wq):Prop where
 rel:cO W N 9 (St x)
 res:cO W (N+1) 3 (Ii 0)
 nodup:ds.Nodup
 shut:∀d∈ds,W.heap[d]?=aV (.deferred (aV []))
 above:∀d∈ds,N+1<d
 rk:qf w W
 below:cL N w W
theorem nD.grown{w W':Wq}{row:Option Nat}(h:nD w N ds x W)(G:w.heap.size=N)(z:W.grownBy W' row)(C:∀r,row=aV r->N+1<r/\r∉ds/\∃o:Obj,W.heap[r]?=aV o/\o.isCells=false):nD w N ds x W':=by have A:=qm z (λr e=>(C r e).2.2);refine⟨A _ _ _ _ h.rel,A _ _ _ _ h.res,h.nodup,λd hd=>?_,h.above,h.rk.trans (λk c t _ M=>A k c t _ M),h.below.grown z (Qy h.below G) (λk e=>by have:=(C k e).1;omega)⟩;have E:=h.shut d hd;exact (z.block d (zg E).1 (λe=>(C d e.symm).2.1 hd)).trans E
theorem nD.lt{w:Wq}(h:nD w N ds x W):∀d∈ds,d<W.heap.size:=λd hd=>(zg (h.shut d hd)).1
theorem vJ(l m:List Am)(x:List UInt8):fB (l++m) x=(fB l x).or (fB m x):=by grind [fB]
theorem BZ(a:Am)(l:List Am)(x:List UInt8):fB (a::l) x=if a.rel.data.toList == x then aV (aB a.args) else fB l x:=by grind [fB]
theorem DV(y x:ByteArray):(y.toList == x.toList)=(y.data.toList == x.data.toList):=by rw[jQ,jQ]
theorem AK(v:Vq)(rs:List Rl)(x:ByteArray)(aa am al:Nat)(w:Wq)(hR:Qn w aa am al v rs)(Q2:∀g,aF v=aV g->g<w.heap.size)(h8:aB rs<=8)(dd:∀r∈rs,iS r):Cs 53 #[v,St x] w λe w'=>e=aO (Ii (dH rs x))/\cL w.heap.size w w':=by
 have⟨a,c,bn⟩:=hR.form;have Ql:∀k (hk:k<aB rs),∃g v0 vb,a=aV ⟨g,0,aW⟩/\aC w (Ad g (k*3))=aV (St (rs[k]).head.rel)/\aC w (Ad g (k*3+1))=aV v0/\aC w (Ad g (k*3+2))=aV vb/\jx w am al rs[k] v0 vb/\g<w.heap.size:=by intro k hk;have⟨g,c',v0,vb,z,Z,h3,h4,h5⟩:=n9 hR hk;have hg:=Q2 g (by rw[z];rfl);rw[bn] at z;cases z;exact⟨g,v0,vb,rfl,Z,h3,h4,h5,hg⟩
 subst bn;have HC:=aA Ql;have eh:=aA dd;clear Ql hR dd Q2;obtain⟨N,O⟩:∃N,w.heap.size=N:=⟨_,rfl⟩;refine (cJ (n:=9)).1 ?_;refine cM Tryz.func53 rfl trivial ?_ rfl;simp only[Tryz.ntmps53,bD,bF,bH,bJ,bL,aY,aZ,bE,bC,bI,bG]
 gi_wp2
 have b6:nD w N [] x ((w.alloc (aN #[St x] 9)).alloc (aN #[Ii 0] 3)):=by have hb:cL w.heap.size w ((w.alloc (aN #[St x] 9)).alloc (aN #[Ii 0] 3)):=((bB _ w).alloc zl _).alloc (by simp) _;have aj:=(cR w 9 (St x)).alloc (aN #[Ii 0] 3);rw[O] at hb aj;refine⟨aj,?_,List.nodup_nil,by simp,by simp,qf.ofBelow (by rw[O];exact hb),hb⟩;have:=cR (w.alloc (aN #[St x] 9)) 3 (Ii 0);rw[aX,O] at this;exact this
 refine wpIn_loop (λA W=>∃(k:Nat) (ds:List Nat) (u6 ax ao aq aw au cq:Vq),A={tmps:=#[aH a (aB rs) c,St x,undef,Pt N,Pt (N+1),undef,u6,undef,aH a (aB rs) c,Ii (aB rs),Ii k,ax,ao,aq,aw,au,undef,undef,undef,undef,undef,undef,undef,undef,cq],defers:=jr ds}/\k<=aB rs/\nD w N ds x W/\Hid (dH rs x=(fB ((rs.drop k).flatMap qz) x.data.toList).getD 0)) (λA _=>aB rs-(intOf (A.tmps.getD 10 undef)).toNat) ⟨0,[],_,_,_,_,_,_,_,rfl,zz,b6,rfl⟩ ?_;rintro A W ⟨k,ds,u6,ax,ao,aq,aw,au,cq,rfl,hk,hI,Q9⟩;clear b6;by_cases ag:k<aB rs
 .obtain⟨g,v0,vb,rfl,q0,q1,q2,hv,hg⟩:=HC.o k ag;have cn:g<N:=by{omega};have dq:=(hI.below.cell (p:=⟨g,k*3,aW⟩) cn).trans q0;have cj:=(hI.below.cell (p:=⟨g,k*3+1,aW⟩) cn).trans q1;have d4:=(hI.below.cell (p:=⟨g,k*3+2,aW⟩) cn).trans q2;have dm:=hv.rk hI.rk;have da:=eh.o _ (zm ag);have cf:Hid (fB ((rs.drop k).flatMap qz) x.data.toList=(fB (qz rs[k]) x.data.toList).or (fB ((rs.drop (k+1)).flatMap qz) x.data.toList)):=by{show _=_;rw[List.drop_eq_getElem_cons ag,bZ,vJ]};obtain⟨C,L,la,E,bv,hL,rfl,e4,dv⟩:=xd dm da;have dp:qz rs[k]=(C::L).map (·.1.1):=by{unfold qz;rw[bX,hL,bv]};have du:(rs[k]).head.rel=C.1.1.rel:=by{rw[bv]};have dz:v0=C.1.2:=by{rw[bv]};have⟨fa,fc,hf⟩:=C.2.1.form;rw[du] at dq;rw[dz,hf] at cj;rw[dp] at cf;clear dp du dz bv hL dm da hv q0 q1 q2;have i1:(k:Int)<(aB rs:Int):=by omega
  gi_wp2_with (refine⟨trivial,?_⟩;gi_at_call 98;refine (cJ.2 (uD _ _ _ _ rfl rfl rfl rfl _)).mono ?_;rintro e w' ⟨rfl,rfl⟩)
  obtain⟨M,hM⟩:∃M,W.heap.size=M:=⟨_,rfl⟩;obtain⟨W0,ad⟩:∃W0,(W.alloc (aN #[St C.1.1.rel,aH fa (aB C.1.1.args) fc,aH la (aB L) E] 136)).alloc (aN #[St C.1.1.rel,aH fa (aB C.1.1.args) fc,aH la (aB L) E] 136)=W0:=⟨_,rfl⟩;have aj:cL W.heap.size W W0:=by{rw[<-ad];exact ((bB _ W).alloc zl _).alloc (by simp) _};have ee:W0.heap.size=M+2:=by{rw[<-ad,<-hM];simp};have bR:W0.heap[M+1]?=cC #[St C.1.1.rel,C.1.2,aH la (aB L) E] 136:=by{rw[<-ad,hf];have:=zn (W.alloc (aN #[St C.1.1.rel,aH fa (aB C.1.1.args) fc,aH la (aB L) E] 136)) (aN #[St C.1.1.rel,aH fa (aB C.1.1.args) fc,aH la (aB L) E] 136);rw[aX,hM] at this;exact this};have eu:L≠[]->∃(g b7:Nat) (bq:Array Vq),la=aV ⟨g,b7,aW⟩/\W0.heap[g]?=cC bq 92/\(bq.toList.drop b7).take (aB L*2)=L.flatMap λx=>[St x.1.1.rel,x.1.2]:=λcd=>by{have⟨g,b7,bq,z,Z,h3⟩:=dv cd;exact⟨g,b7,bq,z,qf.ofBelow aj _ _ _ (aR (aQ rfl)) Z,h3⟩};have b6:=hI.grown O (qg aj) (λr e=>by cases e);have ca:=hI.lt;have fb:N+1<M:=by{have:=hI.res.lt;omega};simp only[hM];rw[ad];clear ad dv
  refine rQ (n:=9) (gf:=163) (lb:=#[Pt (M+1)]) rfl (enters_of Tryz.func163 (by kernel_rfl) rfl)
   (mW.ofStops (uE 8 (by decide) (M+1) W al C L (by omega) la E W0 bR eu)) qf.trans (λV o o' ho hc=>qf.put V _ o o' ho hc) (λ_=>rfl)
   (λpre V=>fB (pre.map (·.1.1)) x.data.toList=aW/\nD w N ds x V)
   (λc pre V=>c=.ret/\∃n:Nat,fB (pre.map (·.1.1)) x.data.toList=aV n/\cO V (N+1) 3 (Ii n)/\(∀d∈ds,V.heap[d]?=aV (.deferred (aV [])))/\cL N w V)
   ?hI ?hIx ⟨rfl,b6⟩
   (λy a' V=>∃Bx,V.heap[Bx]?=cC #[St y.1.1.rel,y.1.2] 92/\a'={tmps:=#[Sc g (aB rs) c,St x,undef,Pt N,Pt (N+1),undef,Pt M,Pt Bx,Sc g (aB rs) c,Ii (aB rs),Ii k,aK true,.pointer (aV ⟨g,k*3,aW⟩),aJ #[St C.1.1.rel,aH fa (aB C.1.1.args) fc,aH la (aB L) E],aJ #[St C.1.1.rel,aH fa (aB C.1.1.args) fc,aH la (aB L) E],.func (.func 163) #[] #[Pt (M+1)],aJ #[St y.1.1.rel,y.1.2],undef,undef,undef,undef,undef,undef,undef,cq],defers:=[]})
   ?hAx ?assign ?body ?done ?stop
  case hI=>rintro pre V V' row ⟨h0,z⟩ hg hr;refine⟨h0,z.grown O hg (λr e=>⟨by have:=(hr r e).1;omega,λhd=>?_,(hr r e).2⟩)⟩;have:=ca r hd;have:=(hr r e).1;omega
  case hIx=>rintro c pre V V' row ⟨rfl,n,h0,z,Z,h3⟩ hg hr;refine⟨rfl,n,h0,qm hg (λr e=>(hr r e).2) _ _ _ _ z,λd hd=>?_,h3.grown hg (Qy h3 O) (λk e=>by have:=(hr k e).1;omega)⟩;have bc:=Z d hd;exact (hg.block d (zg bc).1 (λe=>by have:=ca d hd;have:=(hr d e.symm).1;omega)).trans bc
  case hAx=>rintro y a' _ V V' row ⟨Bx,Z,h3⟩ hg hr;exact⟨Bx,qm hg (λr e=>(hr r e).2) _ _ _ _ Z,h3⟩
  case assign=>
   rintro l' pre y V K hl ec ⟨h0,z⟩ hK;have HK:=aA hK;clear hK;have⟨ga,gc,ay⟩:=y.2.1.form;simp only[ay]
   gi_wp2
   have ak:cL V.heap.size V (V.alloc (aN #[St y.1.1.rel,aH ga (aB y.1.1.args) gc] 92)):=(bB _ V).alloc zl _;exact HK.o _ _ (KeepsFrom.ofBelow ak) (qf.ofBelow ak) ⟨h0,z.grown O (qg ak) (λr e=>by cases e)⟩ ⟨V.heap.size,by rw[ay];exact zn V _,by rw[ay]⟩
  case body=>
   rintro l' pre y a' V d0 ⟨r,hr⟩ ⟨an,z⟩ ⟨Bx,ah,rfl⟩ ep;have⟨ga,gc,ay⟩:=y.2.1.form;have c0:aC V (Ad Bx 0)=aV (St y.1.1.rel):=zc ah;have c1:aC V (Ad Bx 1)=aV (aH ga (aB y.1.1.args) gc):=by{simp[aC,ah,ay]};have cV:=z.rel.cell;have cN:=z.res.cell;have fN:=z.res.frozen;have ap:Hid (fB ((pre++[y]).map (·.1.1)) x.data.toList=if (y.1.1.rel.toList == x.toList) then aV (aB y.1.1.args) else aW):=by{show _=_;rw[bU,vJ,an,cE,bX,cG,BZ,DV];rfl};clear ay an
   cases af:(y.1.1.rel.toList == x.toList) with
   |true=>
    rw[if_pos af] at ap;have c8:y.1.1.rel.toList=x.toList:=by simpa using af
    gi_wp2
    exact⟨(KeepsOthers.setCell _ _ _).from _,rfl,_,ap.o,lh z.res _,λd hd=>(bO _ _ _ d (by have:=z.above d hd;simp;omega)).trans (z.shut d hd),z.below.setCell (p:=⟨N+1,0,aW⟩) (cI _) _⟩
   |false=>
    rw[if_neg (by rw[af];decide)] at ap;have c8:¬y.1.1.rel.toList=x.toList:=by simpa using af
    gi_wp2
    exact⟨KeepsFrom.ofBelow zr,qf.refl _,ap.o,z⟩
  case done=>
   rintro G xs V hD rfl ⟨an,z⟩ hK;have cp:G∉ds:=λhd=>by{have:=ca G hd;omega};have cr:(G::ds).Nodup:=cA.2 ⟨cp,z.nodup⟩
   have bk:∀d∈G::ds,V.heap[d]?=aV (.deferred (aV [])):=λd hd=>by
    rcases bQ.1 hd with rfl|hd
    .exact hK
    .exact z.shut d hd
   have cb:∀d∈G::ds,N+1<d:=λd hd=>by
    rcases bQ.1 hd with rfl|hd
    .omega
    .exact z.above d hd
   have ew:Hid (dH rs x=(fB ((rs.drop (k+1)).flatMap qz) x.data.toList).getD 0):=by{show _=_;rw[Q9.o,cf.o,an,cE]};clear an
   gi_wp2
   refine⟨⟨k+1,G::ds,_,_,_,_,_,_,_,rfl,by omega,?_,ew⟩,?_⟩;{exact {z with nodup:=cr,shut:=bk,above:=cb}};{simp[intOf];omega}
  case stop=>
   rintro G c' pre V hD hp ⟨rfl,n,an,Z,h3,h4⟩ hK;have cp:G∉ds:=λhd=>by{have:=ca G hd;omega};have cr:(G::ds).Nodup:=cA.2 ⟨cp,hI.nodup⟩
   have bk:∀d∈G::ds,V.heap[d]?=aV (.deferred (aV [])):=λd hd=>by
    rcases bQ.1 hd with rfl|hd
    .exact hK
    .exact h3 d hd
   have cb:∀d∈G::ds,N+1<d:=λd hd=>by
    rcases bQ.1 hd with rfl|hd
    .omega
    .exact hI.above d hd
   have a9:Hid (dH rs x=n):=by{show _=_;have⟨tl,cx⟩:=hp;rw[Q9.o,cf.o,<-cx,bU,vJ,an];rfl};clear an
   gi_wp2
   show LeavesInM Fence.wide 9 Tryz.prog _ _ _ (jr (G::ds)) .returning V;refine pw (G::ds) V cr bk (λW' hc hs=>?_);have dN:aC W' (Ad (N+1) 0)=aV (Ii n):=Boxed.cell (t:=3) ((hc.block (N+1) Z.lt (λhd=>by have:=cb (N+1) hd;omega)).trans Z);refine⟨Ii n,by simp[results,Tryz.results53,go_sem,dN],by rw[a9.o],?_⟩;rw[O];exact h4.trans (hc.below (Qy h4 O) (λd hd=>by have:=cb d hd;omega))
 .have cN:=hI.res.cell;have fN:=hI.res.frozen
  gi_wp2
  show LeavesInM Fence.wide 9 Tryz.prog _ _ _ (jr ds) .returning (W.setCell (Ad (N+1) 0) (Ii 0));have bk:∀d∈ds,(W.setCell (Ad (N+1) 0) (Ii 0)).heap[d]?=aV (.deferred (aV [])):=λd hd=>(bO _ _ _ d (by have:=hI.above d hd;simp;omega)).trans (hI.shut d hd);refine pw ds _ hI.nodup bk (λW' hc hs=>?_);have ah:=lh hI.res (Ii 0);have dN:aC W' (Ad (N+1) 0)=aV (Ii 0):=Boxed.cell (t:=3) ((hc.block (N+1) ah.lt (λhd=>by have:=hI.above (N+1) hd;omega)).trans ah);have a9:dH rs x=0:=by{rw[Q9.o,List.drop_of_length_le (by omega)];rfl};have ak:=hI.below.setCell (p:=⟨N+1,0,aW⟩) (cI _) (Ii 0);refine⟨Ii 0,by simp[results,Tryz.results53,go_sem,dN],by rw[a9];rfl,?_⟩;rw[O];exact ak.trans (hc.below (Qy ak O) (λd hd=>by have:=hI.above d hd;omega))
def tp(x:ByteArray)(r:Rl):Bool:=r.head.rel.toList == x.toList
def lu(rs:List Rl)(x:ByteArray):Bool:=rs.any (tp x)
theorem GH(r:Rl)(x:ByteArray)(z vb:Vq)(B:Nat)(w:Wq)(d:w.heap[B]?=cC #[St x] 9)(A E:Option Addr)(fn C M G:Nat)(O:z=aH A fn C)(Z:vb=aH E M G):Cs 80 #[aJ #[St r.head.rel,z,vb],Pt B] w λe w'=>e=aO (aK (tp x r))/\cL w.heap.size w w':=by
 subst O Z;have ag:=(zg d).1;have cd:B≠w.heap.size:=by omega
 have c0:aC w (Ad B 0)=aV (St x):=zc d;go_enter Tryz.func80,Tryz.ntmps80;go_wp2;go_ret;exact⟨rfl,by first|exact zr|exact (bB _ w).alloc zl _⟩
theorem Dp(v:Vq)(rs:List Rl)(x:ByteArray)(B aa am al:Nat)(w:Wq)(Z:w.heap[B]?=cC #[aI x] 9)(hR:Qn w aa am al v rs)(Q2:∀g,aF v=aV g->g<w.heap.size)(h8:aB rs<=8):Cs 101 #[v,.func (.func 80) #[] #[.pointer (aV ⟨B,0,aW⟩)]] w λe w'=>∃i:Int,e=aO (aM aP i)/\decide (0<=i)=lu rs x/\cL w.heap.size w w':=by
 obtain⟨a,c,bn⟩:=hR.form;have Ql:∀k (hk:k<aB rs),∃g z vb,a=aV ⟨g,0,aW⟩/\aC w (Ad g (k*3))=aV (aI (rs[k]).head.rel)/\aC w (Ad g (k*3+1))=aV z/\aC w (Ad g (k*3+2))=aV vb/\jx w am al rs[k] z vb/\g<w.heap.size:=by intro k hk;obtain⟨g,c',z,vb,A,h2,h3,h4,h5⟩:=n9 hR hk;have C:=Q2 g (by rw[A];rfl);rw[bn] at A;cases A;exact⟨g,z,vb,rfl,h2,h3,h4,h5,C⟩
 subst bn;have HC:Hid _:=Ql;have HB:Hid _:=Z;have ed:=(zg Z).1;clear Ql hR Q2 Z;go_enter Tryz.func101,Tryz.ntmps101;go_wp2
 go_loopw [8] (λi wr=>∃k:Nat,k<=aB rs/\i=aM aP k/\Hid (∀j,(E:j<aB rs)->j<k->tp x rs[j]=false)/\cL w.heap.size w wr) (λi _=>aB rs-(intOf i).toNat)
 case atStart=>exact⟨0,zz,rfl,λj _ E=>by omega,zr⟩
 case round=>
  obtain⟨k,hk,rfl,df,d⟩:=hrel;by_cases ag:k<aB rs
  .obtain⟨g,z,vb,rfl,q0,q1,q2,hv,C⟩:=HC.o k ag;have dq:=(d.cell (p:=⟨g,k*3,aW⟩) C).trans q0;have cj:=(d.cell (p:=⟨g,k*3+1,aW⟩) C).trans q1;have d4:=(d.cell (p:=⟨g,k*3+2,aW⟩) C).trans q2;obtain⟨sa,sc,M⟩:=hv.1.form;obtain⟨ta,tc,O⟩:=hv.2.form;have G:=GH rs[k] x z vb B wr ((d.block B ed).trans HB.o) _ _ _ _ _ _ M O;rw[M] at G cj;rw[O] at G d4;have i1:(k:Int)<(aB rs:Int):=by omega
   generalize af:tp x rs[k]=bb at *;have dx:Hid (tp x rs[k]=bb):=af;clear af q0 q1 q2 hv M O;generalize (rs[k]).head.rel=rel at *;generalize (aB (rs[k]).head.args)=m1 at *;generalize (aB (rs[k]).body)=m2 at *
   cases bb with
   |true=>
    go_wp2_with fail;refine G.mono ?_;rintro e w1 ⟨rfl,ab⟩;go_wp2;go_ret;refine⟨k,rfl,?_,d.trans (ab.mono d.size)⟩;have A:lu rs x=true:=by unfold lu;rw[List.any_eq_true];exact⟨rs[k],List.getElem_mem ag,dx.o⟩
    rw[A];simp
   |false=>
    go_wp2_with fail;refine G.mono ?_;rintro e w1 ⟨rfl,ab⟩;go_wp2
    go_roundw
    case rel=>
     refine⟨k+1,by omega,by go_num,?_,d.trans (ab.mono d.size)⟩;intro j E e6;by_cases e:j=k
     .subst e;exact dx.o
     .exact df.o j E (by omega)
    case measure=>simp[intOf];omega
  .go_wp2;go_ret;refine⟨-1,rfl,?_,d⟩;unfold lu;rw[qF _ _ (λj E=>df.o j E (by omega))];rfl
theorem Ed(v:Vq)(rs:List Rl)(x:ByteArray)(aa C al:Nat)(w:Wq)(d:Qn w aa C al v rs)(z:∀g,aF v=aV g->g<w.heap.size)(Z:aB rs<=8):Cs 41 #[v,St x] w λe w'=>e=aO (aK (lu rs x))/\cL w.heap.size w w':=by
 have A:∀O,cL w.heap.size w (w.alloc O):=λO=>(bB _ w).alloc zl _
 have hI:Hid (Cs 101 #[v,.func (.func 80) #[] #[Pt w.heap.size]] (w.alloc (aN #[St x] 9)) λe w'=>∃i:Int,e=aO (Ii i)/\decide (0<=i)=lu rs x/\cL (w.alloc (aN #[St x] 9)).heap.size (w.alloc (aN #[St x] 9)) w'):=
  Dp v rs x w.heap.size aa C al _ (zn w _) (Qn.rk d (qf.ofBelow (A _))) (λg hg=>by have:=z g hg;simp;omega) Z
 obtain⟨xa,xc,rfl⟩:=d.form;have G:Hid (Cs 79 #[aH xa (aB rs) xc,.func (.func 80) #[] #[Pt w.heap.size]] (w.alloc (aN #[St x] 9)) λe w'=>e=aO (aK (lu rs x))/\cL (w.alloc (aN #[St x] 9)).heap.size (w.alloc (aN #[St x] 9)) w'):=by clear d z A;show Calls _ _ _ _ _;generalize (w.alloc (aN #[St x] 9))=W at *;go_enter Tryz.func79,Tryz.ntmps79;go_wp2_with fail;refine Calls.mono hI.o ?_;rintro e w1 ⟨i,rfl,E,ab⟩;have M:=aA E;clear E;go_wp2;go_ret;exact⟨ie (by rw[<-M.o]),ab⟩
 clear hI d z;go_enter Tryz.func41,Tryz.ntmps41
 go_wp2_with (go_at_call 79;refine Calls.mono G.o ?_;rintro e w1 ⟨rfl,ab⟩)
 go_ret;exact⟨rfl,(A _).trans (ab.mono (by simp))⟩
attribute [local go_sem] cT
theorem Du(v:Vq)(w:Wq)(z:Option Addr)(C A:Nat)(d:v=aH z C A):Cs 84 #[v] w λe w'=>e=aO (.func (.func 144) #[] #[Pt w.heap.size])/\w'=w.alloc (aN #[v] 90):=by subst d;go_enter Tryz.func84,Tryz.ntmps84;go_wp2;go_ret;exact⟨rfl,rfl⟩
theorem Cx(d b:Nat)(v:Vq)(xs:List Tm)(w:Wq)(G:w.heap[d]?=cC #[v] 90)(qt:Qh w b v xs)(hl:aB xs<=1000):mW 7 144 #[Pt d] (λt:Tm=>#[aJ #[St t.name,Ii t.num]]) (gA (w.heap.size+2)) (λys=>ys=xs) (λ_=>True) (aB xs) w:=by
 obtain⟨n,hn,d3⟩:∃n,6<=n/\n=7:=⟨7,by omega,rfl⟩;rw[<-d3];clear d3;have n1:1<=n:=by omega
 intro l J Jx W Z c9 hJ dy hY h0;generalize w.heap.size+2=m at *;have ev:=(Z.block d (zg G).1).trans G;have M:=qt.rk (qf.ofBelow Z);clear G qt Z;obtain⟨va,vc,rfl⟩:=M.form;have c0:aC W (Ad d 0)=aV (aH va (aB xs) vc):=zc ev;have HY:=aA hY;have HJ:=aA hJ;have HJx:=aA dy;clear hY hJ dy;refine cM Tryz.func144 rfl trivial ?_ rfl;simp only[Tryz.ntmps144,bD,bF,bH,bJ,bL,aY,aZ,bE,bC,bI,bG]
 gi_wp2
 refine wpIn_loop (λA V=>∃(k:Nat) (u4 u8 u9 dh ax ao aq aw au:Vq),A={tmps:=#[.func (.yield l) #[] #[],Pt d,undef,undef,u4,aH va (aB xs) vc,Ii (aB xs),Ii k,u8,u9,dh,ax,ao,aq,aw,au],defers:=[]}/\k<=aB xs/\J (xs.take k) V/\gA m W V) (λA _=>aB xs-(intOf (A.tmps.getD 7 undef)).toNat) ⟨0,_,_,_,_,_,_,_,_,_,rfl,zz,by simpa using h0,gA.ofBelow zr⟩ ?_;rintro A V ⟨k,u4,u8,u9,dh,ax,ao,aq,aw,au,rfl,hk,C,z⟩;by_cases ag:k<aB xs
 .have dj:Qh V b (aH va (aB xs) vc) xs:=M.rk z.rule;have⟨g,c,e0,x0,x1,e5⟩:=pF dj ag;cases e0;have E:∀O,cL V.heap.size V (V.alloc O):=λO=>(bB _ V).alloc zl O;have Q9:Hid (xs.take (k+1)=xs.take k++[xs[k]]):=by{show _=_;rw[List.take_succ_eq_append_getElem ag]};have⟨fn,tmps,assign,body,hy,hR⟩:=HY.o (xs.take k) xs[k] (V.alloc (aN #[St (xs[k]).name,Ii (xs[k]).num] 166)) (HJ.o _ _ _ aW C (qg (E _)) (λr e=>by cases e)) (by simp;omega);generalize hxk:xs[k]=xk at *;have ej:=aA z;have HB:=aA E;clear dj M E z hxk
  gi_wp2
  refine hR.mono ?_;rintro e W1 (⟨rfl,em,a6⟩|⟨rfl,c2,_⟩)
  .clear hy hR
   gi_wp2
   refine⟨⟨k+1,_,_,_,_,_,_,_,_,_,rfl,by omega,by rw[Q9.o];exact em,(gA.tr ej.o (gA.ofBelow (HB.o _))).tr a6⟩,?_⟩;simp[intOf];omega
  .clear hy hR
   gi_wp2
   exact⟨_,results_none rfl _ _ _,⟨_,rfl⟩,aR ⟨_,trivial,c2⟩⟩
 .have en:k=aB xs:=by{omega};subst en;rw[List.take_length] at C
  gi_wp2
  exact⟨_,results_none rfl _ _ _,⟨_,rfl⟩,aQ ⟨xs,rfl,C⟩⟩
theorem Jv(gf:Nat)(lb:Array Vq)(ts:List Tm)(Sp:List Tm->Prop)(C:Nat)(v:Vq)(z:List ByteArray)(aa:Nat)(w:Wq)(eg:∀args w,(callFunc gf args).run Tryz.prog w=.ok (.enter gf args) w)(bh:∀O,mW 7 gf lb (λt:Tm=>#[aJ #[St t.name,Ii t.num]]) (gA ((w.alloc O).heap.size+2)) (λys=>ys=ts) Sp C (w.alloc O))(hC:C<=40)(qt:aE w aa 9 1 v (aB z) (z.map aI))(e8:aa<=w.heap.size)(e9:aB z<=900):Cs 76 #[v,.func (.func gf) #[] lb] w λe w'=>∃v',e=aO v'/\aE w' aa 9 1 v' (aB (dG z ts)) ((dG z ts).map aI)/\Qa aa w w':=by
 have⟨a8,bd,d9⟩:=qq qt;obtain⟨N,hN⟩:∃N,w.heap.size=N:=⟨_,rfl⟩;have⟨i0,hi,cl,cz,cv⟩:=info_parts Tryz.info9;rw[d9] at qt ⊢;refine (cJ (n:=8)).1 ?_;refine cM Tryz.func76 rfl trivial ?_ rfl;simp only[Tryz.ntmps76,bD,bF,bH,bJ,bL,aY,aZ,bE,bC,bI,bG]
 gi_wp2
 obtain⟨W0,ad⟩:∃W0,w.alloc (aN #[aH a8 (aB z) bd] 22)=W0:=⟨_,rfl⟩;have aj:cL w.heap.size w W0:=by rw[<-ad];exact (bB _ w).alloc zl _
 have ee:W0.heap.size=N+1:=by rw[<-ad,<-hN];simp
 have bV:cO W0 N 22 (aH a8 (aB z) bd):=by have:=cR w 22 (aH a8 (aB z) bd);rw[hN,ad] at this;exact this
 have dg:=bh (aN #[aH a8 (aB z) bd] 22);rw[ad] at dg;have d7:=qj qt aj;have Qer:Qa aa w W0:=by rw[<-ad];exact (Qa.refl aa w).alloc _
 (try simp only[hN])
 rw[ad];clear ad bh
 refine rQ (n:=8) (gf:=gf) (lb:=lb) rfl eg
  dg gA.tr (λV o o' ho Z=>gA.put V _ o o' (by omega) ho Z) (λ_=>rfl)
  (λpre V=>∃v,cO V N 22 v/\aE V aa 9 1 v (aB (dG z pre)) ((dG z pre).map aI)/\Qa aa w V)
  (λ_ _ _=>False)
  ?hI (λ_ _ _ _ _ h _ _=>h) ⟨_,bV,d7,Qer⟩
  (λt a' V=>∃M,V.heap[M]?=cC #[St t.name,Ii t.num] 166/\a'={tmps:=#[aH a8 (aB z) bd,.func (.func gf) #[] lb,Pt N,undef,aH aW 0 0,Pt M,.func (.func gf) #[] lb,aJ #[St t.name,Ii t.num],undef,undef,undef,undef,undef,undef,undef,undef,undef,undef,undef,undef,undef,undef,undef,undef],defers:=[]})
  ?hAx ?assign ?body ?done (λ_ _ _ _ _ _ h _=>h.elim)
 case hI=>rintro pre V V' row ⟨v,G,A,E⟩ hg hr;have hk:=qm hg (λr e=>(hr r e).2);exact⟨v,hk _ _ _ _ G,Qc A (λg c _ Z=>hk g c _ _ Z),E.grown hg (λk e=>aQ (by have:=(hr k e).1;omega))⟩
 case hAx=>rintro x a' _ V V' row ⟨M,A,E⟩ hg hr;exact⟨M,qm hg (λr e=>(hr r e).2) _ _ _ _ A,E⟩
 case assign=>
  rintro l' pre t V K hl ec ⟨v,G,A,E⟩ hK;have HK:=aA hK;clear hK
  gi_wp2
  have ak:cL V.heap.size V (V.alloc (aN #[St t.name,Ii t.num] 166)):=(bB _ V).alloc zl _;exact HK.o _ _ (KeepsFrom.ofBelow ak) (gA.ofBelow ak) ⟨v,G.alloc _,A.alloc _,E.alloc _⟩ ⟨V.heap.size,zn V _,rfl⟩
 case done=>
  rintro D xs V hD rfl ⟨v,G,A,E⟩ hK;have c1:=G.cell
  gi_wp2
  refine⟨by simp,aQ ⟨_,_,rfl,cS hK,?_⟩⟩;have hk:=qm (grownBy_putObj' V D (.deferred aW)) (λr e=>by cases e;exact⟨_,hK,rfl⟩);refine⟨_,results_tmp rfl _ _ _,v,rfl,Qc A (λg c _ Z=>hk g c _ _ Z),?_⟩;exact E.grown (grownBy_putObj' V D (.deferred aW)) (λk e=>aQ (by cases e;omega))
 case body=>
  rintro l' pre t a' V d0 ⟨r,hr⟩ ⟨v,G,A,E⟩ ⟨M,ah,rfl⟩ ag;have fh:=yp pre z;have Qku:aB (dG z pre)<=950:=by{omega};have fg:N<=V.heap.size:=by{have:=E.size;omega};have el:M<V.heap.size:=(zg ah).1;have c0:aC V (Ad M 0)=aV (St t.name):=zc ah;have c1:aC V (Ad M 1)=aV (Ii t.num):=zc ah;have dl:=Bd z pre t;have bj:=pu t V;obtain⟨va,vc,rfl⟩:=qq A;have az:=yj (dG z pre) t.name;generalize hvs:dG z pre=us at *;have HS:=aA dl;clear dl hvs
  cases htv:t.name.toList.isEmpty with
  |true=>
   rw[htv] at bj;have Qf:Hid (dG z (pre++[t])=us):=by{show _=_;rw[HS.o];unfold gI;rw[if_pos htv]};clear htv
   gi_wp2_with (refine⟨trivial,?_⟩;gi_at_call 139;refine (cP l' (cJ.2 bj)).mono ?_;rintro e V1 ⟨rfl,ab⟩)
   refine⟨trivial,?_⟩
   gi_wp2
   refine⟨KeepsFrom.ofBelow ab,gA.ofBelow ab,aH va (aB us) vc,?_,?_,?_⟩;{exact (ab.block _ G.lt).trans G};{rw[Qf.o];exact qj A ab};{exact E.trans (Qa.ofBelow ab)}
  |false=>
   rw[htv] at bj;have dr:=aA bj;have b4:Hid (gI us t=Qq us t.name):=by{show _=_;unfold gI;rw[if_neg (by simp[htv])]};clear htv bj;have ct:Hid (∀V1,cL V.heap.size V V1->cO V1 N 22 (aH va (aB us) vc)/\aE V1 aa 9 1 (aH va (aB us) vc) (aB us) (us.map aI)/\aC V1 (Ad M 0)=aV (St t.name)/\Qa aa w V1):=λV1 ab=>⟨(ab.block _ G.lt).trans G,qj A ab,(ab.cell (p:=⟨M,0,aW⟩) el).trans c0,E.trans (Qa.ofBelow ab)⟩
   cases hct:Lib.containsS us t.name with
   |true=>
    have Qf:Hid (dG z (pre++[t])=us):=by{show _=_;rw[HS.o,b4.o];unfold Qq;rw[if_pos (by rw[hct] at az;simpa using az.symm)]};have c7:=aA hct;clear hct az G A E
    gi_wp2_with (first|(refine⟨trivial,?_⟩;gi_at_call 139;refine (cP l' (cJ.2 dr.o)).mono ?_;rintro e V1 ⟨rfl,ab⟩;have⟨k1,k2,k3,k4⟩:=ct.o V1 ab;have kc:=k1.cell)|(refine⟨trivial,?_⟩;gi_at_call 140;refine (cP l' (cJ.2 (tX k2 (by omega) t.name))).mono ?_;rintro e w' ⟨rfl,ck⟩;obtain rfl:V1=w':=ck.symm;rw[c7.o]))
    exact⟨KeepsFrom.ofBelow ab,gA.ofBelow ab,_,k1,by rw[Qf.o];exact k2,k4⟩
   |false=>
    have Qf:Hid (dG z (pre++[t])=us++[t.name]):=by{show _=_;rw[HS.o,b4.o];unfold Qq;rw[if_neg (by rw[hct] at az;simpa using az.symm)]};have c7:=aA hct;clear hct az G A E;have cu:aB us+1<=maxLen:=by{unfold maxLen;omega};have ch:(aB us+1)*16<=140737488355328:=by{omega};have ef:Hid (∀V1 w1,cL V.heap.size V V1->(V1.alloc (aN #[St t.name] 9)).grownBy w1 (aF (aH va (aB us) vc))->cO w1 N 22 (aH va (aB us) vc)/\dD V1 w1 (λj=>aV j=aF (aH va (aB us) vc))):=by{intro V1 w1 ab hg;have⟨k1,k2,k3,k4⟩:=ct.o V1 ab;have Z:dD V1 w1 (λj=>aV j=aF (aH va (aB us) vc)):=((dD.refl V1 _).alloc _).grown hg (λk e _=>e.symm);exact⟨(Z.block _ k1.lt (λe=>Qe k2 k1 (by decide) _ e.symm rfl)).trans k1,Z⟩};have af:Hid (∀V1,cL V.heap.size V V1->aa<=(V1.alloc (aN #[St t.name] 9)).heap.size):=λV1 ab=>by have:=ab.size;show aa<=_;simp;omega
    gi_wp2_with (first|(refine⟨trivial,?_⟩;gi_at_call 139;refine (cP l' (cJ.2 dr.o)).mono ?_;rintro e V1 ⟨rfl,ab⟩;have⟨k1,k2,k3,k4⟩:=ct.o V1 ab;have kc:=k1.cell)|(refine⟨trivial,?_⟩;gi_at_call 140;refine (cP l' (cJ.2 (tX k2 (by omega) t.name))).mono ?_;rintro e w' ⟨rfl,ck⟩;obtain rfl:V1=w':=ck.symm;rw[c7.o])|(gi_at_builtin;refine wpListIn_append_own _ rfl _ _ 22 rfl aa 9 i0 (St ⟨#[]⟩) 1 16 Tryz.underlying22 hi cl cz cv rfl (by decide) _ _ _ rfl (aE.alloc k2 _) ⟨V1.heap.size,0,aW⟩ 1 1 [St t.name] rfl rfl (cell_one_new _ _ _) (by simp[cF]) cu ch (af.o V1 ab) ?_;intro v' w1 ac ae _;have⟨g',ai,cy⟩:=ownsRow_succ ac;subst cy;have⟨bu,d6⟩:=ef.o V1 w1 ab ae;have cc:=bu.cell;have ff:=bu.frozen))
    have d8:dD V1 (w1.setCell (Ad N 0) (Sc g' (aB us+1) ai)) (λj=>j=N\/aV j=aF (aH va (aB us) vc)):=(d6.mono (λ_ _ e=>aR e)).setCell (Ad N 0) _ (λ_=>aQ rfl)
    have⟨bf,eo⟩:=As (m:=W0.heap.size) d8 (λj hj hx=>by
     rcases hx with rfl|hx
     .exact⟨_,_,k1,by decide,by decide,by decide,by decide⟩
     .have⟨_,c,Z⟩:=qd k2 hx.symm;exact⟨c,_,Z,by decide,by decide,by decide,by decide⟩)
    refine⟨KeepsFrom.trans (KeepsFrom.ofBelow ab) bf,(gA.ofBelow ab).tr (eo _),_,lh bu _,?_,?_⟩;{rw[Qf.o];have:=Qk ac ⟨N,0,aW⟩ (Sc g' (aB us+1) ai) (Qe ac bu (by decide));simpa using this}
    .exact (k4.alloc _ |>.grown ae (λj e=>by
      have⟨ez,d,hd⟩:=qd k2 e
      exact aR ⟨ez,d,_,(bT _ _ _ (zg hd).1).trans hd⟩)).setCell (Nat.le_of_eq hN) _
attribute [local go_sem] cT
def kR(s:ByteArray)(t:eE):Bool:=decide (t.kind=1) && (t.text.toList == s.toList)
def jT(s:ByteArray):Bool:=!decide (8<cQ s) && (eA s.size s 0).any (kR s)
def wi(s:ByteArray)(b:Bool):Vq:=aL #[aI (if b then s else ⟨#[]⟩),aK b]
theorem JR(s:ByteArray)(w:Wq)(hs:s.size<=4611686018427387904)(hT:Lib.Utf8Tabs 0 1 w):Cs 52 #[St s] w λe w'=>e=aO (wi s (jT s))/\cL w.heap.size w w':=by
 obtain⟨N,z⟩:∃N,w.heap.size=N:=⟨_,rfl⟩;have e7:s.size<9223372036854775807:=by omega
 by_cases av:8<cQ s
 .have hl:(8:Int)<(cQ s:Int):=by{omega};have b9:jT s=false:=by{unfold jT;simp[av]};rw[b9];subst z;refine (cJ (n:=6)).1 ?_;refine cM Tryz.func52 rfl trivial ?_ rfl;simp only[Tryz.ntmps52,bD,bF,bH,bJ,bL,aY,aZ,bE,bC,bI,bG]
  gi_wp2_with (refine⟨trivial,?_⟩;gi_at_call 95;refine (cJ.2 (re _ _ (by omega))).mono ?_;rintro e w' ⟨rfl,be,rfl⟩)
  refine⟨wi s false,by simp[results,Tryz.results52,go_sem,wi],rfl,?_⟩;exact ((((zr.alloc zl _).alloc (by simp) _).alloc (by simp;omega) _).alloc (by simp;omega) _)
 .have hl:decide ((8:Int)<(cQ s:Int))=false:=by{simp;omega};refine (cJ (n:=6)).1 ?_;refine cM Tryz.func52 rfl trivial ?_ rfl;simp only[Tryz.ntmps52,bD,bF,bH,bJ,bL,aY,aZ,bE,bC,bI,bG]
  gi_wp2_with (first|(refine⟨trivial,?_⟩;gi_at_call 95;refine (cJ.2 (re _ _ (by omega))).mono ?_;rintro e w' ⟨rfl,be,rfl⟩)|(refine⟨trivial,?_⟩;gi_at_call 96;refine (cJ.2 (A2 _ _)).mono ?_;rintro e w' ⟨rfl,rfl⟩))
  have fe:cQ s<=s.size:=Lib.runeCount_le s;have Qlc:s.size<=1200:=by{have:=mG s;omega};have b9:Hid (jT s=(eA s.size s 0).any (kR s)):=by{show _=_;unfold jT;simp[av]};generalize hrc:cQ s=rc at *;clear hrc;obtain⟨W0,ad⟩:∃W0,(((((w.alloc (aN #[St s] 9)).alloc (aN #[St ⟨#[]⟩] 9)).alloc (aN #[aK false] 4)).alloc (.stringIter s be)).alloc (aN #[St s] 9))=W0:=⟨_,rfl⟩;have c9:W0.heap.size=N+5:=by{rw[<-ad,<-z];simp};have dn:cL w.heap.size w W0:=by{rw[<-ad];exact ((((zr.alloc zl _).alloc (by simp) _).alloc (by simp;omega) _).alloc (by simp;omega) _).alloc (by simp;omega) _};have e2:cL N w W0:=by{rw[<-z];exact dn};have b0:cO W0 N 9 (St s):=by{rw[<-ad,<-z];exact ((((cR w _ _).alloc _).alloc _).alloc _).alloc _};have b1:cO W0 (N+1) 9 (St ⟨#[]⟩):=by{have:=(((cR (w.alloc (aN #[St s] 9)) 9 (St ⟨#[]⟩)).alloc (aN #[aK false] 4)).alloc (.stringIter s be)).alloc (aN #[St s] 9);rw[aX,z,ad] at this;exact this};have b2:cO W0 (N+1+1) 4 (aK false):=by{have:=((cR ((w.alloc (aN #[St s] 9)).alloc (aN #[St ⟨#[]⟩] 9)) 4 (aK false)).alloc (.stringIter s be)).alloc (aN #[St s] 9);rw[aX,aX,z,ad] at this;exact this};have b5:cO W0 (N+4) 9 (St s):=by{have:=cR ((((w.alloc (aN #[St s] 9)).alloc (aN #[St ⟨#[]⟩] 9)).alloc (aN #[aK false] 4)).alloc (.stringIter s be)) 9 (St s);simp only[aX] at this;rw[z,ad] at this;exact this};have ey:Hid (∀W,Cs 97 #[St s] W λe w'=>e=aO (St s)/\cL W.heap.size W w'):=λW=>ug s W (by omega)
  (try simp only[z])
  rw[ad];clear ad
  refine wpIn_rangeFunc_ownH rfl (by decide) (gf:=158) (lb:=#[Pt (N+4)]) rfl trivial (enters_of Tryz.func158 (by kernel_rfl) rfl)
   (B5 5 (by decide) (N+4) s Qlc w hT W0 dn (by omega) b5.cell) kP.tr (kP.put (by omega)) zr (λ_=>rfl)
   (λpre W=>pre.any (kR s)=false/\cO W N 9 (St s)/\cO W (N+1) 9 (St ⟨#[]⟩)/\cO W (N+1+1) 4 (aK false)/\cL N w W)
   (λc pre W=>c=.ret/\pre.any (kR s)=true/\cO W (N+1) 9 (St s)/\cO W (N+1+1) 4 (aK true)/\cL N w W)
   ?hI ?hIx ?h0
   (λx a' W=>∃Bx,W.heap[Bx]?=cC (fL x.kind x.text x.place x.runes) 191/\a'={tmps:=#[St s,Pt N,Pt (N+1),Pt (N+1+1),Pt Bx,St s,Ii rc,aK false,St s,.func (.func 158) #[] #[Pt (N+1+1+1+1)],x.v,undef,undef,undef,undef,undef,undef,undef,undef,undef,undef,undef],defers:=[]})
   ?hAx ?assign ?body ?done ?stop
  case hI=>rintro pre W W' row ⟨A,M,E,G,d⟩ hg hr;have C:=qm hg (λr e=>(hr r e).2);exact⟨A,C _ _ _ _ M,C _ _ _ _ E,C _ _ _ _ G,d.grown hg (Qy d z) (λk e=>by have:=(hr k e).1;omega)⟩
  case hIx=>rintro c pre W W' row ⟨rfl,A,E,G,d⟩ hg hr;have C:=qm hg (λr e=>(hr r e).2);exact⟨rfl,A,C _ _ _ _ E,C _ _ _ _ G,d.grown hg (Qy d z) (λk e=>by have:=(hr k e).1;omega)⟩
  case h0=>exact⟨rfl,b0,b1,b2,e2⟩
  case hAx=>rintro x a' _ W W' row ⟨Bx,M,E⟩ hg hr;exact⟨Bx,qm hg (λr e=>(hr r e).2) _ _ _ _ M,E⟩
  case assign=>
   rintro l pre x W K ⟨A,M,E,G,d⟩ Z;have HK:=aA Z;clear Z;have h8:=Qy d z;unfold eE.v dU fL
   gi_wp2
   have ak:cL W.heap.size W (W.alloc (aN #[Ii x.kind,St x.text,Ii x.place,Ii x.runes] 191)):=(bB _ W).alloc zl _;refine HK.o _ _ ((KeepsOthers.alloc _ _).from _) ⟨ak.mono (by omega),λk c fz C=>(bT _ _ _ (zg C).1).trans C⟩ ⟨A,M.alloc _,E.alloc _,G.alloc _,d.alloc (by omega) _⟩ ⟨W.heap.size,zn W _,rfl⟩
  case body=>
   rintro l pre x a' W d0 ⟨r,hr⟩ ⟨A,M,E,G,d⟩ ⟨Bx,ah,rfl⟩ ag;have h8:=Qy d z;have kp:=M.cell;have k0:aC W (Ad Bx 0)=aV (Ii x.kind):=by{simp[aC,ah,fL]};have k1:aC W (Ad Bx 1)=aV (St x.text):=by{simp[aC,ah,fL]};have ap:Hid (∀b,kR s x=b->(pre++[x]).any (kR s)=b):=λb O=>by{rw[cD,A,List.any_cons,O];simp};have bf:Hid (∀W1,cL W.heap.size W W1->KeepsFrom W0.heap.size W W1/\kP w.heap.size W W1):=λW1 O=>⟨KeepsFrom.ofBelow O,⟨O.mono (by omega),λk c fz C=>(O.block k (zg C).1).trans C⟩⟩;have H1:=aA A;clear A;by_cases a6:x.kind=1
   .cases af:(x.text.toList == s.toList) with
    |true=>
     have bi:Hid (kR s x=true):=by{show _=_;unfold kR;simp[a6,af]};have c8:x.text.toList=s.toList:=by{simpa using af};have b4:Hid (∀W1,cL W.heap.size W W1->cO W1 (N+1) 9 (St ⟨#[]⟩)/\cO W1 (N+1+1) 4 (aK false)/\cL N w W1):=λW1 O=>⟨(O.block _ E.lt).trans E,(O.block _ G.lt).trans G,d.trans (O.mono (by omega))⟩;clear E G d
     gi_wp2_with (refine⟨trivial,?_⟩;gi_at_call 97;refine (cP l (cJ.2 (ey.o _))).mono ?_;rintro e W1 ⟨rfl,ab⟩;have⟨g5,g6,g7⟩:=b4.o W1 ab;have c5:=g5.cell;have c6:=g6.cell;have f5:=g5.frozen;have f6:=g6.frozen)
     have⟨t1,t2,tc,tk⟩:=sR g5 g6 (St s) (aK true);have⟨a7,b3⟩:=bf.o W1 ab;refine⟨⟨cH a7.size tk.size,λk o C ho hc=>tk.same k o (a7.same k o C ho hc) hc⟩,rfl,ap.o _ bi.o,t1,t2,g7.trans (tc.below (Qy g7 z) (λk e=>by omega))⟩
    |false=>
     have bi:Hid (kR s x=false):=by{show _=_;unfold kR;simp[a6,af]};have c8:¬x.text.toList=s.toList:=by simpa using af
     gi_wp2
     have⟨a7,b3⟩:=bf.o W zr;exact⟨a7,b3,ap.o _ bi.o,M,E,G,d⟩
   .have bi:Hid (kR s x=false):=by{show _=_;unfold kR;simp[a6]};have Qmg:(x.kind == 1)=false:=by simp[a6]
    gi_wp2
    have⟨a7,b3⟩:=bf.o W zr;exact⟨a7,b3,ap.o _ bi.o,M,E,G,d⟩
  case done=>
   rintro D xs W hD rfl ⟨A,M,d,h6,h7⟩ Z;have h8:=Qy h7 z;have c5:=d.cell;have c6:=h6.cell;have f5:=d.frozen;have f6:=h6.frozen;have H1:Hid (jT s=false):=by{show _=_;rw[b9.o];exact A};clear A
   gi_wp2
   have⟨t1,t2,tc,tk⟩:=sR d h6 (St ⟨#[]⟩) (aK false);refine⟨by simp,aQ ⟨_,_,rfl,cS (tk.same D _ Z rfl),?_⟩⟩;have⟨d1,d2,dk⟩:=sK t1 t2 (tk.same D _ Z rfl);refine⟨aL #[St ⟨#[]⟩,aK false],by simp[results,Tryz.results52,go_sem,d1,d2],?_⟩;have ea:=pQ (D:=D) (o:=.deferred aW) (h7.trans (tc.below h8 (λk e=>by omega))) (by omega) (cH h8 tc.size);rw[H1.o,z];exact⟨rfl,ea⟩
  case stop=>
   rintro D c pre W hD ei ⟨rfl,A,d,h6,h7⟩ Z;have h8:=Qy h7 z;have a9:Hid (jT s=true):=by{show _=_;have⟨tl,cx⟩:=ei;rw[b9.o,<-cx,cD,A];rfl};clear A
   gi_wp2
   refine⟨by simp,aQ ⟨_,_,rfl,cS Z,?_⟩⟩;have⟨d1,d2,dk⟩:=sK d h6 Z;refine⟨aL #[St s,aK true],by simp[results,Tryz.results52,go_sem,d1,d2],?_⟩;rw[a9.o,z];exact⟨rfl,pQ h7 (by omega) h8⟩
def fP(x:ByteArray)(n:Nat):Am:=⟨x,(List.range n).map (λk=>⟨⟨#[]⟩,k⟩)⟩
theorem IM(x:ByteArray)(k:Nat):mO (fP x (k+1)).args=mO (fP x k).args++[St ⟨#[]⟩,Ii (k:Int)]:=by unfold fP mO;simp only[List.range_succ,bU,List.flatMap_append,bX,cG,bZ,List.flatMap_nil,List.append_nil];rfl
theorem ry(x:ByteArray)(k:Nat):aB (fP x k).args=k:=by simp[fP]
theorem IY(x:ByteArray)(n:Nat)(hn:n<=2)(w:Wq):Cs 55 #[St x,Ii n] w λe w'=>∃va,e=aO (aJ #[St x,va])/\Qh w' w'.heap.size va (fP x n).args/\cL w.heap.size w w':=by
 obtain⟨N,Z⟩:∃N,w.heap.size=N:=⟨_,rfl⟩;have⟨i0,hi,cl,cz,cv⟩:=info_parts Tryz.info87;go_enter Tryz.func55,Tryz.ntmps55;go_wp2;refine wp_loop (λA V=>∃(k:Nat) (z:Option Addr) (C:Nat) (u6 ax ao aq aw au db dt dc de di dw:Vq),A={tmps:=#[St x,Ii n,undef,undef,Pt N,Pt (N+1),u6,St x,aJ #[St x,aH aW 0 0],Ii n,Ii k,ax,ao,aq,aw,au,db,dt,dc,de,di,dw],defers:=[]}/\k<=n/\V.heap[N]?=cC #[St ⟨#[]⟩,aH aW 0 0] 92/\V.heap[N+1]?=cC #[St x,aH z k C] 92/\aE V (N+2) 166 2 (aH z k C) k (mO (fP x k).args)/\cL N w V/\N+2<=V.heap.size) (λA _=>n-(intOf (A.tmps.getD 10 undef)).toNat) ⟨0,aW,0,_,_,_,_,_,_,_,_,_,_,_,_,rfl,zz,?a1,?a2,⟨rfl,aQ ⟨rfl,rfl⟩⟩,?a3,?a4⟩ ?_
 case a1=>have:=zn w (aN #[St ⟨#[]⟩,aH aW 0 0] 92);rw[Z] at this;exact (bT _ _ _ (by simp;omega)).trans this
 case a2=>have:=zn (w.alloc (aN #[St ⟨#[]⟩,aH aW 0 0] 92)) (aN #[St x,aH aW 0 0] 92);rw[aX,Z] at this;exact this
 case a3=>exact ((bB _ w).alloc (by omega) _).alloc (by simp;omega) _
 case a4=>simp;omega
 rintro A V ⟨k,z,C,u6,ax,ao,aq,aw,au,db,dt,dc,de,di,dw,rfl,hk,E,M,G,hb,c9⟩;have c0:∀j,aC V (Ad (N+1) j)=([St x,aH z k C]:List Vq)[j]?:=λj=>by simp[aC,M]
 have f1:aD V (Ad (N+1) 1)=false:=by simp[aD,M]
 have z0:aC V (Ad N 0)=aV (St ⟨#[]⟩):=zc E;have z1:aC V (Ad N 1)=aV (aH aW 0 0):=zc E;have y0:∀j,aD V (Ad N j)=false:=λj=>by simp[aD,E]
 by_cases ag:k<n
 .have i1:(k:Int)<(n:Int):=by{omega};have cu:k+1<=maxLen:=by{unfold maxLen;omega};have ch:(k+1)*24<=140737488355328:=by{omega};have et:Hid (∀w1 r,(V.alloc r).grownBy w1 (aF (aH z k C))->w1.heap[N+1]?=cC #[St x,aH z k C] 92/\w1.heap[N]?=cC #[St ⟨#[]⟩,aH aW 0 0] 92/\cL N w w1/\N+2<=w1.heap.size):=by intro w1 r hg;have d:dD V w1 (λj=>aV j=aF (aH z k C)):=((dD.refl V _).alloc r).grown hg (λk e _=>e.symm);refine⟨(d.block _ (by omega) (λe=>Qe G M (by decide) _ e.symm rfl)).trans M,(d.block _ (by omega) (λe=>Qe G E (by decide) _ e.symm rfl)).trans E,hb.trans (d.below (by omega) (λj e=>by have:=(qd G e.symm).1;omega)),by have:=d.size;omega⟩
  go_wp2_with (at_builtin;refine wpList_append_own _ rfl (.tmp 14) (.tmp 17) 90 rfl (N+2) 166 i0 (aJ #[St ⟨#[]⟩,Ii 0]) 2 24 Tryz.underlying90 hi cl cz cv rfl (by decide) _ _ _ rfl (aE.alloc G _) ⟨V.heap.size,0,aW⟩ 1 1 [St ⟨#[]⟩,Ii k] rfl rfl (cell_two_new _ _ _ _) (by simp[cF]) cu ch (by simp;omega) ?_;intro v' w1 O ae _;have⟨g',ai,cy⟩:=ownsRow_succ O;subst cy;have⟨e1,e0,eb,es⟩:=et.o w1 _ ae;have d1:aC w1 (Ad (N+1) 1)=aV (aH z k C):=(by simp[aC,e1]);have g1:aD w1 (Ad (N+1) 1)=false:=(by simp[aD,e1]))
  refine⟨⟨k+1,aV ⟨g',0,aW⟩,ai,_,_,_,_,_,_,_,_,_,_,_,_,rfl,by omega,?_,?_,?_,?_,?_⟩,?_⟩;{exact (bO _ _ _ _ (by show N≠N+1;omega)).trans e0};{exact qw e1 1 _}
  .have:=Qk O ⟨N+1,1,aW⟩ (Sc g' (k+1) ai) (λg hg e=>by
    have⟨_,c,d⟩:=qd O hg;rw[e] at d;have e3:w1.heap[N+1]?=_:=e1
    rw[show (⟨N+1,1,aW⟩:Addr).block=N+1 from rfl,e3] at d;cases d)
   rw[IM];exact this
  .exact eb.setCell (p:=⟨N+1,1,aW⟩) (by show N<=N+1;omega) _
  .simp;omega
  .simp[intOf];omega
 .have i1:¬(k:Int)<(n:Int):=by{omega};have d5:k=n:=by{omega};subst d5;have cd:N≠N+1:=by{omega};go_wp2;refine bodyPost_ret (v:=aJ #[St x,aH z k C]) (by simp[results,Tryz.results55,go_sem,z0,z1]) rfl ?_;refine⟨_,rfl,?_,by first|exact rv hb _ _|(rw[Z];exact rv hb _ _)⟩;have h1:=Qh.ofOwns (l:=(fP x k).args) (by rw[ry];exact G);show Qh (ky V N x (aH z k C)) (ky V N x (aH z k C)).heap.size _ _;rw[uK];refine h1.kept (λj c _ d=>(wK _ _ _ _ (λe=>?_)).trans d);rw[e,E] at d;cases d
