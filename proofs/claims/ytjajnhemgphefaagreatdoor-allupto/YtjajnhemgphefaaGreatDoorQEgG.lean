/- A part -/
import Derived.Test.YtjajnhemgphefaaGreatDoorQArity
set_option linter.all false
set_option maxRecDepth 100000
set_option maxHeartbeats 1000000
open List renaming length->aD,append_toArray->bF,size_toArray->bG,push_toArray->bH,length_cons->bI,cons_append->bJ,length_nil->bL,nil_append->bO,mem_cons->bX,map_append->cA,map_cons->cD,flatMap_cons->cE,nodup_cons->cF,any_append->cG,map_nil->cJ
open Go.World renaming cell?->aE,frozen?->aF,ownsRow->aH,size_alloc->bB
open Go.Value renaming ownBlock->aI,slice->aJ,string->aK,agg->aL,bool->aM,tuple->aN,int->aO,oneCell'->cI
open Go.Obj renaming cells->aP
open Go.Ending renaming returned->aQ
open Go.IntKind renaming i64->aR
open Or renaming inl->aS,inr->aU
open Option renaming some->aX,none->aY,none_or->cH
open Go renaming undef->aZ,callsIn_wide->cO,callsIn_of_wp_marks->cQ,Boxed->cR,run_takeDeferred->cW
open Array renaming replicate_succ->bC,replicate_zero->bD
open Go.RowKit.Below renaming refl->bE,heap_setCell->bU,heap_alloc->bZ
open Nat renaming reduceAdd->bQ,reduceSub->bT,le_trans->cL,le_succ->cM
open Go.RowKit renaming Below->cP
open Go.CallsIn renaming inRound->cS
open Go.Lib renaming runeCount->cT
open Go.Boxed renaming new->cU
open Go.Oper renaming semAt_some->cX
namespace Go.Proofs.YtjajnhemgphefaaGreatDoor
open Go renaming World->Wq,Value->Vq
open Go.RowKit Go.Shelf
attribute [local go_sem] cX
variable {W:Wq} {N:Nat} {ds:List Nat} {x:ByteArray}
def fG(rs:List Rl)(x:ByteArray):Nat:=(gV (rs.flatMap Qa) x.data.toList).getD 0
structure tX(w:Wq)(N:Nat)(ds:List Nat)(x:ByteArray)(W:Wq):Prop where
 j:cR W N 9 (St x)
 h:cR W (N+1) 3 (Ii 0)
 s:ds.Nodup
 c:∀d∈ds,W.heap[d]?=aX (.deferred (aX []))
 i:∀d∈ds,N+1<d
 a:qf w W
 f:cP N w W
def tX.o{w W':Wq}{row:Option Nat}(h:tX w N ds x W)(G:w.heap.size=N)(z:W.grownBy W' row)(C:∀r,row=aX r->N+1<r/\r∉ds/\∃o:Obj,W.heap[r]?=aX o/\o.isCells=false):tX w N ds x W':=by have A:=qn z (λr e=>(C r e).2.2);refine⟨A _ _ _ _ h.j,A _ _ _ _ h.h,h.s,λd hd=>?_,h.i,h.a.trans (λk c t _ M=>A k c t _ M),h.f.grown z (Q1 h.f G) (λk e=>by have:=(C k e).1;lia)⟩;have E:=h.c d hd;exact (z.b d (zg E).1 (λe=>(C d e.s).2.1 hd)).t E
def tX.lt{w:Wq}(h:tX w N ds x W):∀d∈ds,d<W.heap.size:=λd hd=>(zg (h.c d hd)).1
def AZ(l m:List Am)(x:List UInt8):gV (l++m) x=(gV l x).or (gV m x):=by grind [gV]
def GP(a:Am)(l:List Am)(x:List UInt8):gV (a::l) x=if a.j.data.toList == x then aX (aD a.d) else gV l x:=by grind [gV]
def Ia(y x:ByteArray):(y.toList == x.toList)=(y.data.toList == x.data.toList):=by rw[oT,oT]
def Gi(v:Vq)(rs:List Rl)(x:ByteArray)(aa am al:Nat)(w:Wq)(hR:Qq w aa am al v rs)(Qv:∀g,aI v=aX g->g<w.heap.size)(h8:aD rs<=8)(db:∀r∈rs,kF r):Cs 53 #[v,St x] w λe w'=>e=aQ (Ii (fG rs x))/\cP w.heap.size w w':=by
 have⟨a,c,bn⟩:=hR.c;have Qi:∀k(hk:k<aD rs),∃g v0 vb,a=aX ⟨g,0,aY⟩/\aE w (Ad g (k*3))=aX (St (rs[k]).d.j)/\aE w (Ad g (k*3+1))=aX v0/\aE w (Ad g (k*3+2))=aX vb/\mF w am al rs[k] v0 vb/\g<w.heap.size:=by intro k hk;have⟨g,c',v0,vb,z,h2,h3,h4,h5⟩:=sY hR hk;have hg:=Qv g (by rw[z];rfl);rw[bn] at z;cases z;exact⟨g,v0,vb,rfl,h2,h3,h4,h5,hg⟩
 subst bn;have HC:=aA Qi;have ec:=aA db;clear Qi hR db Qv;obtain⟨N,O⟩:=aC w.heap.size;refine (cO (n:=9)).1 ?_;refine cQ Tryz.func53 rfl trivial ?_ rfl;simp only[Tryz.ntmps53,bG,bI,bL,bQ,bT,bC,bD,bH,bF,bO,bJ];gi_wp2;have b6:tX w N [] x ((w.alloc (aP #[St x] 9)).alloc (aP #[Ii 0] 3)):=by have hb:cP w.heap.size w ((w.alloc (aP #[St x] 9)).alloc (aP #[Ii 0] 3)):=((bE _ w).l zl _).l (by simp) _;have aj:=(cU w 9 (St x)).alloc (aP #[Ii 0] 3);rw[O] at hb aj;refine⟨aj,?_,List.nodup_nil,by simp,by simp,qf.d (O▸hb),hb⟩;have:=cU (w.alloc (aP #[St x] 9)) 3 (Ii 0);rwa[bB,O] at this
 refine wpIn_loop (λA W=>∃(k:Nat)(ds:List Nat)(u6 ax ao aq aw au co:Vq),A={tmps:=#[aJ a (aD rs) c,St x,aZ,Pt N,Pt (N+1),aZ,u6,aZ,aJ a (aD rs) c,Ii (aD rs),Ii k,ax,ao,aq,aw,au,aZ,aZ,aZ,aZ,aZ,aZ,aZ,aZ,co],defers:=nL ds}/\k<=aD rs/\tX w N ds x W/\Hid (fG rs x=(gV ((rs.drop k).flatMap Qa) x.data.toList).getD 0)) (λA _=>aD rs-(intOf (A.tmps.getD 10 aZ)).toNat) ⟨0,[],_,_,_,_,_,_,_,rfl,zz,b6,rfl⟩ ?_;rintro A W ⟨k,ds,u6,ax,ao,aq,aw,au,co,rfl,hk,hI,bf⟩;clear b6;by_cases af:k<aD rs
 .obtain⟨g,v0,vb,rfl,q0,q1,q2,hv,hg⟩:=HC.o k af;have cl:g<N:=by{omega};have dm:=(hI.f.cell (p:=⟨g,k*3,aY⟩) cl).t q0;have ci:=(hI.f.cell (p:=⟨g,k*3+1,aY⟩) cl).t q1;have dy:=(hI.f.cell (p:=⟨g,k*3+2,aY⟩) cl).t q2;have dj:=hv.a hI.a;have Qai:=ec.o _ (zm af);have cq:Hid (gV ((rs.drop k).flatMap Qa) x.data.toList=(gV (Qa rs[k]) x.data.toList).or (gV ((rs.drop (k+1)).flatMap Qa) x.data.toList)):=by{show _=_;rw[List.drop_eq_getElem_cons af,cE,AZ]};obtain⟨C,L,la,E,bv,hL,rfl,e3,c7⟩:=Af dj Qai;have dq:Qa rs[k]=(C::L).map (·.1.1):=by{unfold Qa;rw[cD,hL,bv]};have dr:(rs[k]).d.j=C.1.1.j:=by{rw[bv]};have dv:v0=C.1.2:=by{rw[bv]};have⟨fa,fc,hf⟩:=C.2.1.c;rw[dr] at dm;rw[dv,hf] at ci;rw[dq] at cq;clear dq dr dv bv hL dj Qai hv q0 q1 q2;have i1:(k:Int)<(aD rs:Int):=by{omega};gi_wp2_with (refine⟨trivial,?_⟩;gi_at_call 98;refine (cO.2 (BI _ _ _ _ rfl rfl rfl rfl _)).mono ?_;rintro e w' ⟨rfl,rfl⟩);obtain⟨M,hM⟩:=aC W.heap.size;obtain⟨W0,ad⟩:=aC ((W.alloc (aP #[St C.1.1.j,aJ fa (aD C.1.1.d) fc,aJ la (aD L) E] 136)).alloc (aP #[St C.1.1.j,aJ fa (aD C.1.1.d) fc,aJ la (aD L) E] 136));have aj:cP W.heap.size W W0:=ad▸((bE _ W).l zl _).l (by simp) _;have d7:W0.heap.size=M+2:=by{rw[<-ad,<-hM];simp};have bR:W0.heap[M+1]?=cC #[St C.1.1.j,C.1.2,aJ la (aD L) E] 136:=by{rw[<-ad,hf];have:=zn (W.alloc (aP #[St C.1.1.j,aJ fa (aD C.1.1.d) fc,aJ la (aD L) E] 136)) (aP #[St C.1.1.j,aJ fa (aD C.1.1.d) fc,aJ la (aD L) E] 136);rwa[bB,hM] at this};have d8:L≠[]->∃(g b7:Nat)(bu:Array Vq),la=aX ⟨g,b7,aY⟩/\W0.heap[g]?=cC bu 92/\(bu.toList.drop b7).take (aD L*2)=L.flatMap λx=>[St x.1.1.j,x.1.2]:=λd0=>by{have⟨g,b7,bu,z,h2,h3⟩:=c7 d0;exact⟨g,b7,bu,z,qf.d aj _ _ _ (aU (aS rfl)) h2,h3⟩};have b6:=hI.o O (qi aj) (λr e=>by cases e);have cb:=hI.lt;have fb:N+1<M:=by{have:=hI.h.lt;omega};simp only[hM];rw[ad];clear ad c7;refine x8 (n:=9) (gf:=163) (lb:=#[Pt (M+1)]) rfl (enters_of Tryz.func163 (by kernel_rfl) rfl)
   (tf.a (zZ 8 (by decide) (M+1) W al C L (by omega) la E W0 bR d8)) qf.trans (λV o o' ho hc=>qf.H V _ o o' ho hc) (λ_=>rfl)
   (λpre V=>gV (pre.map (·.1.1)) x.data.toList=aY/\tX w N ds x V)
   (λc pre V=>c=.ret/\∃n:Nat,gV (pre.map (·.1.1)) x.data.toList=aX n/\cR V (N+1) 3 (Ii n)/\(∀d∈ds,V.heap[d]?=aX (.deferred (aX [])))/\cP N w V)
   ?hI ?hIx ⟨rfl,b6⟩
   (λy a' V=>∃Bx,V.heap[Bx]?=cC #[St y.1.1.j,y.1.2] 92/\a'={tmps:=#[Sc g (aD rs) c,St x,aZ,Pt N,Pt (N+1),aZ,Pt M,Pt Bx,Sc g (aD rs) c,Ii (aD rs),Ii k,aM true,.pointer (aX ⟨g,k*3,aY⟩),aL #[St C.1.1.j,aJ fa (aD C.1.1.d) fc,aJ la (aD L) E],aL #[St C.1.1.j,aJ fa (aD C.1.1.d) fc,aJ la (aD L) E],.func (.func 163) #[] #[Pt (M+1)],aL #[St y.1.1.j,y.1.2],aZ,aZ,aZ,aZ,aZ,aZ,aZ,co],defers:=[]})
   ?hAx ?assign ?body ?done ?stop
  case hI=>rintro pre V V' row ⟨h0,z⟩ hg hr;refine⟨h0,z.o O hg (λr e=>⟨by have:=(hr r e).1;omega,λhd=>?_,(hr r e).2⟩)⟩;have:=cb r hd;have:=(hr r e).1;omega
  case hIx=>rintro c pre V V' row ⟨rfl,n,h0,z,h2,h3⟩ hg hr;refine⟨rfl,n,h0,qn hg (λr e=>(hr r e).2) _ _ _ _ z,λd hd=>?_,h3.grown hg (Q1 h3 O) (λk e=>by have:=(hr k e).1;omega)⟩;have bc:=h2 d hd;exact (hg.b d (zg bc).1 (λe=>by have:=cb d hd;have:=(hr d e.s).1;omega)).t bc
  case hAx=>rintro y a' _ V V' row ⟨Bx,h2,h3⟩ hg hr;exact⟨Bx,qn hg (λr e=>(hr r e).2) _ _ _ _ h2,h3⟩
  case assign=>rintro l' pre y V K hl d5 ⟨h0,z⟩ hK;have HK:=aA hK;clear hK;have⟨ga,gc,ay⟩:=y.2.1.c;simp only[ay];gi_wp2;have ak:cP V.heap.size V (V.alloc (aP #[St y.1.1.j,aJ ga (aD y.1.1.d) gc] 92)):=(bE _ V).l zl _;exact HK.o _ _ (KeepsFrom.d ak) (qf.d ak) ⟨h0,z.o O (qi ak) (λr e=>by cases e)⟩ ⟨V.heap.size,ay▸zn V _,by rw[ay]⟩
  case body=>
   rintro l' pre y a' V dw ⟨r,hr⟩ ⟨an,z⟩ ⟨Bx,ah,rfl⟩ ek;have⟨ga,gc,ay⟩:=y.2.1.c;have c0:aE V (Ad Bx 0)=aX (St y.1.1.j):=zc ah;have c1:aE V (Ad Bx 1)=aX (aJ ga (aD y.1.1.d) gc):=by{simp[aE,ah,ay]};have cV:=z.j.cell;have cN:=z.h.cell;have fN:=z.h.frozen;have ap:Hid (gV ((pre++[y]).map (·.1.1)) x.data.toList=if (y.1.1.j.toList == x.toList) then aX (aD y.1.1.d) else aY):=by{show _=_;rw[cA,AZ,an,cH,cD,cJ,GP,Ia];rfl};clear ay an;cases ag:(y.1.1.j.toList == x.toList) with
   |true=>rw[if_pos ag] at ap;have et:y.1.1.j.toList=x.toList:=by{simpa using ag};gi_wp2;exact⟨(KeepsOthers.setCell _ _ _).from _,rfl,_,ap.o,qQ z.h _,λd hd=>(bU _ _ _ d (by have:=z.i d hd;simp;omega)).t (z.c d hd),z.f.c (p:=⟨N+1,0,aY⟩) (cM _) _⟩
   |false=>rw[if_neg (by rw[ag];decide)] at ap;gi_wp2;exact⟨KeepsFrom.d zr,qf.j _,ap.o,z⟩
  case done=>rintro G xs V hD rfl ⟨an,z⟩ hK;have c4:G∉ds:=λhd=>by{have:=cb G hd;omega};have cp:=cF.2 ⟨c4,z.s⟩;have bq:∀d∈G::ds,V.heap[d]?=aX (.deferred (aX [])):=λd hd=>by{obtain rfl|hd:=bX.1 hd;{exact hK};exact z.c d hd};have ca:∀d∈G::ds,N+1<d:=λd hd=>by{obtain rfl|hd:=bX.1 hd;{omega};exact z.i d hd};have ev:Hid (fG rs x=(gV ((rs.drop (k+1)).flatMap Qa) x.data.toList).getD 0):=by{show _=_;rw[bf.o,cq.o,an,cH]};clear an;gi_wp2;refine⟨⟨k+1,G::ds,_,_,_,_,_,_,_,rfl,by omega,?_,ev⟩,?_⟩;{exact {z with s:=cp,c:=bq,i:=ca}};{simp[intOf];omega}
  rintro G c' pre V hD hp ⟨rfl,n,an,h2,h3,h4⟩ hK;have c4:G∉ds:=λhd=>by{have:=cb G hd;omega};have cp:=cF.2 ⟨c4,hI.s⟩;have bq:∀d∈G::ds,V.heap[d]?=aX (.deferred (aX [])):=λd hd=>by{obtain rfl|hd:=bX.1 hd;{exact hK};exact h3 d hd};have ca:∀d∈G::ds,N+1<d:=λd hd=>by{obtain rfl|hd:=bX.1 hd;{omega};exact hI.i d hd};have a9:Hid (fG rs x=n):=by{show _=_;have⟨tl,cu⟩:=hp;rw[bf.o,cq.o,<-cu,cA,AZ,an];rfl};clear an;gi_wp2;show LeavesInM Fence.wide 9 Tryz.prog _ _ _ (nL (G::ds)) .returning V;refine vO (G::ds) V cp bq (λW' hc hs=>?_);have dN:aE W' (Ad (N+1) 0)=aX (Ii n):=Boxed.cell (t:=3) ((hc.h (N+1) h2.lt (λhd=>by have:=ca (N+1) hd;omega)).t h2);refine⟨Ii n,by simp[results,Tryz.results53,go_sem,dN],by rw[a9.o],?_⟩;rw[O];exact h4.t (hc.f (Q1 h4 O) (λd hd=>by have:=ca d hd;omega))
 have cN:=hI.h.cell;have fN:=hI.h.frozen;gi_wp2;show LeavesInM Fence.wide 9 Tryz.prog _ _ _ (nL ds) .returning (W.setCell (Ad (N+1) 0) (Ii 0));have bq:∀d∈ds,(W.setCell (Ad (N+1) 0) (Ii 0)).heap[d]?=aX (.deferred (aX [])):=λd hd=>(bU _ _ _ d (by have:=hI.i d hd;simp;omega)).t (hI.c d hd);refine vO ds _ hI.s bq (λW' hc hs=>?_);have ah:=qQ hI.h (Ii 0);have dN:aE W' (Ad (N+1) 0)=aX (Ii 0):=Boxed.cell (t:=3) ((hc.h (N+1) ah.lt (λhd=>by have:=hI.i (N+1) hd;omega)).t ah);have a9:fG rs x=0:=by{rw[bf.o,List.drop_of_length_le (by omega)];rfl};have ak:=hI.f.c (p:=⟨N+1,0,aY⟩) (cM _) (Ii 0);refine⟨Ii 0,by simp[results,Tryz.results53,go_sem,dN],by rw[a9];rfl,?_⟩;rw[O];exact ak.t (hc.f (Q1 ak O) (λd hd=>by have:=hI.i d hd;omega))
def ze(x:ByteArray)(r:Rl):Bool:=r.d.j.toList == x.toList
def qA(rs:List Rl)(x:ByteArray):Bool:=rs.any (ze x)
def IE(r:Rl)(x:ByteArray)(A vb:Vq)(B:Nat)(w:Wq)(z:w.heap[B]?=cC #[St x] 9)(C G:Option Addr)(fn E O M:Nat)(hf:A=aJ C fn E)(hg:vb=aJ G O M):Cs 80 #[aL #[St r.d.j,A,vb],Pt B] w λe w'=>e=aQ (aM (ze x r))/\cP w.heap.size w w':=by subst hf hg;have af:=(zg z).1;have c0:aE w (Ad B 0)=aX (St x):=zc z;go_enter Tryz.func80,Tryz.ntmps80;go_wp2;go_ret;exact⟨rfl,by first|exact zr|exact (bE _ w).l zl _⟩
theorem G7(v:Vq)(rs:List Rl)(x:ByteArray)(B aa am al:Nat)(w:Wq)(hB:w.heap[B]?=cC #[aK x] 9)(hR:Qq w aa am al v rs)(Qv:∀g,aI v=aX g->g<w.heap.size)(h8:aD rs<=8):Cs 101 #[v,.func (.func 80) #[] #[.pointer (aX ⟨B,0,aY⟩)]] w λe w'=>∃i:Int,e=aQ (aO aR i)/\decide (0<=i)=qA rs x/\cP w.heap.size w w':=by
 obtain⟨a,c,bn⟩:=hR.c;have Qi:∀k (hk:k<aD rs),∃g A vb,a=aX ⟨g,0,aY⟩/\aE w (Ad g (k*3))=aX (aK (rs[k]).d.j)/\aE w (Ad g (k*3+1))=aX A/\aE w (Ad g (k*3+2))=aX vb/\mF w am al rs[k] A vb/\g<w.heap.size:=by intro k hk;obtain⟨g,c',A,vb,C,h2,h3,h4,h5⟩:=sY hR hk;have E:=Qv g (by rw[C];rfl);rw[bn] at C;cases C;exact⟨g,A,vb,rfl,h2,h3,h4,h5,E⟩
 subst bn;have HC:Hid _:=Qi;have HB:Hid _:=hB;have d6:=(zg hB).1;clear Qi hR Qv hB;go_enter Tryz.func101,Tryz.ntmps101;go_wp2;go_loopw [8] (λi wr=>∃k:Nat,k<=aD rs/\i=aO aR k/\Hid (∀j,(G:j<aD rs)->j<k->ze x rs[j]=false)/\cP w.heap.size w wr) (λi _=>aD rs-(intOf i).toNat)
 case atStart=>exact⟨0,zz,rfl,λj _ G=>by omega,zr⟩
 obtain⟨k,hk,rfl,dd,z⟩:=hrel;by_cases af:k<aD rs
 .obtain⟨g,A,vb,rfl,q0,q1,q2,hv,E⟩:=HC.o k af;have dm:=(z.cell (p:=⟨g,k*3,aY⟩) E).t q0;have ci:=(z.cell (p:=⟨g,k*3+1,aY⟩) E).t q1;have dy:=(z.cell (p:=⟨g,k*3+2,aY⟩) E).t q2;obtain⟨sa,sc,cz⟩:=hv.1.c;obtain⟨ta,tc,O⟩:=hv.2.c;have M:=IE rs[k] x A vb B wr ((z.b B d6).t HB.o) _ _ _ _ _ _ cz O;rw[cz] at M ci;rw[O] at M dy;have i1:(k:Int)<(aD rs:Int):=by{omega};generalize ag:ze x rs[k]=bb at *;have du:Hid (ze x rs[k]=bb):=ag;clear ag q0 q1 q2 hv cz O;generalize (rs[k]).d.j=rel at *;generalize (aD (rs[k]).d.d)=m1 at *;generalize (aD (rs[k]).n)=m2 at *;cases bb with
  |true=>go_wp2_with fail;refine M.m ?_;rintro e w1 ⟨rfl,ab⟩;go_wp2;go_ret;refine⟨k,rfl,?_,z.t (ab.m z.s)⟩;have C:qA rs x=true:=by{unfold qA;rw[List.any_eq_true];exact⟨rs[k],List.getElem_mem af,du.o⟩};rw[C];simp
  |false=>
   go_wp2_with fail;refine M.m ?_;rintro e w1 ⟨rfl,ab⟩;go_wp2;go_roundw
   case rel=>refine⟨k+1,by omega,by go_num,?_,z.t (ab.m z.s)⟩;intro j G e5;by_cases e:j=k;{subst e;exact du.o};exact dd.o j G (by omega)
   simp[intOf];omega
 go_wp2;go_ret;refine⟨-1,rfl,?_,z⟩;unfold qA;rw[vQ _ _ (λj G=>dd.o j G (by omega))];rfl
def Hg(v:Vq)(rs:List Rl)(x:ByteArray)(aa E al:Nat)(w:Wq)(z:Qq w aa E al v rs)(A:∀g,aI v=aX g->g<w.heap.size)(h8:aD rs<=8):Cs 41 #[v,St x] w λe w'=>e=aQ (aM (qA rs x))/\cP w.heap.size w w':=by
 have C:∀O,cP w.heap.size w (w.alloc O):=λO=>(bE _ w).l zl _
 have hI:Hid (Cs 101 #[v,.func (.func 80) #[] #[Pt w.heap.size]] (w.alloc (aP #[St x] 9)) λe w'=>∃i:Int,e=aQ (Ii i)/\decide (0<=i)=qA rs x/\cP (w.alloc (aP #[St x] 9)).heap.size (w.alloc (aP #[St x] 9)) w'):=
  G7 v rs x w.heap.size aa E al _ (zn w _) (Qq.a z (qf.d (C _))) (λg hg=>by have:=A g hg;simp;omega) h8
 obtain⟨xa,xc,rfl⟩:=z.c;have M:Hid (Cs 79 #[aJ xa (aD rs) xc,.func (.func 80) #[] #[Pt w.heap.size]] (w.alloc (aP #[St x] 9)) λe w'=>e=aQ (aM (qA rs x))/\cP (w.alloc (aP #[St x] 9)).heap.size (w.alloc (aP #[St x] 9)) w'):=by clear z A C;show Calls _ _ _ _ _;generalize (w.alloc (aP #[St x] 9))=W at *;go_enter Tryz.func79,Tryz.ntmps79;go_wp2_with fail;refine Calls.m hI.o ?_;rintro e w1 ⟨i,rfl,G,ab⟩;have HR:=aA G;clear G;go_wp2;go_ret;exact⟨kU (by rw[<-HR.o]),ab⟩
 clear hI z A;go_enter Tryz.func41,Tryz.ntmps41
 go_wp2_with (go_at_call 79;refine Calls.m M.o ?_;rintro e w1 ⟨rfl,ab⟩)
 go_ret;exact⟨rfl,(C _).t (ab.m (by simp))⟩
attribute [local go_sem] cX
theorem MD(v:Vq)(w:Wq)(A:Option Addr)(E C:Nat)(z:v=aJ A E C):Cs 84 #[v] w λe w'=>e=aQ (.func (.func 144) #[] #[Pt w.heap.size])/\w'=w.alloc (aP #[v] 90):=by subst z;go_enter Tryz.func84,Tryz.ntmps84;go_wp2;go_ret;exact⟨rfl,rfl⟩
def Om(z b:Nat)(v:Vq)(xs:List Tm)(w:Wq)(C:w.heap[z]?=cC #[v] 90)(qt:Qg w b v xs)(hl:aD xs<=1000):tf 7 144 #[Pt z] (λt:Tm=>#[aL #[St t.c,Ii t.d]]) (jF (w.heap.size+2)) (λys=>ys=xs) (λ_=>True) (aD xs) w:=by
 obtain⟨n,hn,dx⟩:∃n,6<=n/\n=7:=⟨7,by lia,rfl⟩;rw[<-dx];clear dx;have n1:1<=n:=by lia
 intro l J Jx W hW c8 hJ eo hY h0;generalize w.heap.size+2=m at *;have en:=(hW.b z (zg C).1).t C;have cx:=qt.a (qf.d hW);clear C qt hW;obtain⟨va,vc,rfl⟩:=cx.c;have c0:aE W (Ad z 0)=aX (aJ va (aD xs) vc):=zc en;have HY:=aA hY;have HJ:=aA hJ;clear hY hJ eo;refine cQ Tryz.func144 rfl trivial ?_ rfl;simp only[Tryz.ntmps144,bG,bI,bL,bQ,bT,bC,bD,bH,bF,bO,bJ];gi_wp2;refine wpIn_loop (λA V=>∃(k:Nat)(u4 u8 u9 df ax ao aq aw au:Vq),A={tmps:=#[.func (.yield l) #[] #[],Pt z,aZ,aZ,u4,aJ va (aD xs) vc,Ii (aD xs),Ii k,u8,u9,df,ax,ao,aq,aw,au],defers:=[]}/\k<=aD xs/\J (xs.take k) V/\jF m W V) (λA _=>aD xs-(intOf (A.tmps.getD 7 aZ)).toNat) ⟨0,_,_,_,_,_,_,_,_,_,rfl,zz,h0,jF.d zr⟩ ?_;rintro A V ⟨k,u4,u8,u9,df,ax,ao,aq,aw,au,rfl,hk,G,E⟩;by_cases af:k<aD xs
 .have dh:=cx.a E.b;have⟨g,c,e0,x0,x1,e4⟩:=uJ dh af;cases e0;have M:=λO=>(bE _ V).l zl O;have bf:Hid (xs.take (k+1)=xs.take k++[xs[k]]):=by{show _=_;rw[List.take_succ_eq_append_getElem af]};have⟨fn,tmps,assign,body,hy,hR⟩:=HY.o (xs.take k) xs[k] (V.alloc (aP #[St (xs[k]).c,Ii (xs[k]).d] 166)) (HJ.o _ _ _ aY G (qi (M _)) (λr e=>by cases e)) (by simp;lia);generalize hxk:xs[k]=xk at *;have ed:=aA E;have HB:=aA M;clear dh cx M E hxk;gi_wp2;refine hR.mono ?_;rintro e W1 (⟨rfl,eh,a6⟩|⟨rfl,cy,_⟩);{clear hy hR;gi_wp2;refine⟨⟨k+1,_,_,_,_,_,_,_,_,_,rfl,by lia,bf.o▸eh,(jF.g ed.o (jF.d (HB.o _))).g a6⟩,?_⟩;simp[intOf];lia};clear hy hR;gi_wp2;exact⟨_,results_none rfl _ _ _,⟨_,rfl⟩,aU ⟨_,trivial,cy⟩⟩
 have ei:k=aD xs:=by{lia};subst ei;rw[List.take_length] at G;gi_wp2;exact⟨_,results_none rfl _ _ _,⟨_,rfl⟩,aS ⟨xs,rfl,G⟩⟩
def Kt(gf:Nat)(lb:Array Vq)(ts:List Tm)(Sp:List Tm->Prop)(C:Nat)(v:Vq)(z:List ByteArray)(aa:Nat)(w:Wq)(eg:∀args w,(callFunc gf args).run Tryz.prog w=.ok (.enter gf args) w)(bi:∀O,tf 7 gf lb (λt:Tm=>#[aL #[St t.c,Ii t.d]]) (jF ((w.alloc O).heap.size+2)) (λys=>ys=ts) Sp C (w.alloc O))(hC:C<=40)(qt:aH w aa 9 1 v (aD z) (z.map aK))(e7:aa<=w.heap.size)(e9:aD z<=900):Cs 76 #[v,.func (.func gf) #[] lb] w λe w'=>∃v',e=aQ v'/\aH w' aa 9 1 v' (aD (fF z ts)) ((fF z ts).map aK)/\Qb aa w w':=by
 have⟨a8,bd,d3⟩:=qq qt;obtain⟨N,hN⟩:=aC w.heap.size;have⟨i0,hi,ck,cw,cr⟩:=info_parts Tryz.d;rw[d3] at qt ⊢;refine (cO (n:=8)).1 ?_;refine cQ Tryz.func76 rfl trivial ?_ rfl;simp only[Tryz.ntmps76,bG,bI,bL,bQ,bT,bC,bD,bH,bF,bO,bJ]
 gi_wp2
 obtain⟨W0,ad⟩:=aC (w.alloc (aP #[aJ a8 (aD z) bd] 22));have aj:cP w.heap.size w W0:=ad▸(bE _ w).l zl _
 have d7:W0.heap.size=N+1:=by rw[<-ad,<-hN];simp
 have bV:cR W0 N 22 (aJ a8 (aD z) bd):=by have:=cU w 22 (aJ a8 (aD z) bd);rwa[hN,ad] at this
 have de:=bi (aP #[aJ a8 (aD z) bd] 22);rw[ad] at de;have ef:=qh qt aj;have Qig:Qb aa w W0:=ad▸(Qb.j aa w).alloc _
 (try simp only[hN])
 rw[ad];clear ad bi
 refine x8 (n:=8) (gf:=gf) (lb:=lb) rfl eg
  de jF.g (λV o o' ho hc=>jF.H V _ o o' (by omega) ho hc) (λ_=>rfl)
  (λpre V=>∃v,cR V N 22 v/\aH V aa 9 1 v (aD (fF z pre)) ((fF z pre).map aK)/\Qb aa w V)
  (λ_ _ _=>False)
  ?hI (λ_ _ _ _ _ h _ _=>h) ⟨_,bV,ef,Qig⟩
  (λt a' V=>∃M,V.heap[M]?=cC #[St t.c,Ii t.d] 166/\a'={tmps:=#[aJ a8 (aD z) bd,.func (.func gf) #[] lb,Pt N,aZ,aJ aY 0 0,Pt M,.func (.func gf) #[] lb,aL #[St t.c,Ii t.d],aZ,aZ,aZ,aZ,aZ,aZ,aZ,aZ,aZ,aZ,aZ,aZ,aZ,aZ,aZ,aZ],defers:=[]})
  ?hAx ?assign ?body ?done (λ_ _ _ _ _ _ h _=>h.elim)
 case hI=>rintro pre V V' row ⟨v,G,A,E⟩ hg hr;have hk:=qn hg (λr e=>(hr r e).2);exact⟨v,hk _ _ _ _ G,Qe A (λg c _ hc=>hk g c _ _ hc),E.o hg (λk e=>aS (by have:=(hr k e).1;omega))⟩
 case hAx=>rintro x a' _ V V' row ⟨M,A,E⟩ hg hr;exact⟨M,qn hg (λr e=>(hr r e).2) _ _ _ _ A,E⟩
 case assign=>
  rintro l' pre t V K hl d5 ⟨v,G,A,E⟩ hK;have HK:=aA hK;clear hK
  gi_wp2
  have ak:cP V.heap.size V (V.alloc (aP #[St t.c,Ii t.d] 166)):=(bE _ V).l zl _;exact HK.o _ _ (KeepsFrom.d ak) (jF.d ak) ⟨v,G.alloc _,A.l _,E.alloc _⟩ ⟨V.heap.size,zn V _,rfl⟩
 case done=>
  rintro D xs V hD rfl ⟨v,G,A,E⟩ hK;have c1:=G.cell
  gi_wp2
  refine⟨by simp,aS ⟨_,_,rfl,cW hK,?_⟩⟩;have hk:=qn (grownBy_putObj' V D (.deferred aY)) (λr e=>by cases e;exact⟨_,hK,rfl⟩);refine⟨_,results_tmp rfl _ _ _,v,rfl,Qe A (λg c _ hc=>hk g c _ _ hc),?_⟩;exact E.o (grownBy_putObj' V D (.deferred aY)) (λk e=>aS (by cases e;omega))
 case body=>
  rintro l' pre t a' V dw ⟨r,hr⟩ ⟨v,G,A,E⟩ ⟨M,ah,rfl⟩ af;have e8:=El pre z;have Qon:aD (fF z pre)<=950:=by{omega};have fg:N<=V.heap.size:=by{have:=E.size;omega};have em:=(zg ah).1;have c0:aE V (Ad M 0)=aX (St t.c):=zc ah;have c1:aE V (Ad M 1)=aX (Ii t.d):=zc ah;have di:=ED z pre t;have bk:=uY t V;obtain⟨va,vc,rfl⟩:=qq A;have az:=DW (fF z pre) t.c;generalize hvs:fF z pre=us at *;have HS:=aA di;clear di hvs
  cases htv:t.c.toList.isEmpty with
  |true=>
   rw[htv] at bk;have Qd:Hid (fF z (pre++[t])=us):=by{show _=_;rw[HS.o];unfold jO;rw[if_pos htv]};clear htv
   gi_wp2_with (refine⟨trivial,?_⟩;gi_at_call 139;refine (cS l' (cO.2 bk)).mono ?_;rintro e V1 ⟨rfl,ab⟩)
   refine⟨trivial,?_⟩
   gi_wp2
   refine⟨KeepsFrom.d ab,jF.d ab,aJ va (aD us) vc,?_,?_,?_⟩;{exact (ab.b _ G.lt).t G};{rw[Qd.o];exact qh A ab};{exact E.trans (Qb.d ab)}
  |false=>
   rw[htv] at bk;have dn:=aA bk;have b4:Hid (jO us t=Qs us t.c):=by{show _=_;unfold jO;rw[if_neg (by simp[htv])]};clear htv bk;have ct:Hid (∀V1,cP V.heap.size V V1->cR V1 N 22 (aJ va (aD us) vc)/\aH V1 aa 9 1 (aJ va (aD us) vc) (aD us) (us.map aK)/\aE V1 (Ad M 0)=aX (St t.c)/\Qb aa w V1):=λV1 ab=>⟨(ab.b _ G.lt).t G,qh A ab,(ab.cell (p:=⟨M,0,aY⟩) em).t c0,E.trans (Qb.d ab)⟩
   cases hct:Lib.containsS us t.c with
   |true=>
    have Qd:Hid (fF z (pre++[t])=us):=by{show _=_;rw[HS.o,b4.o];unfold Qs;rw[if_pos (by rw[hct] at az;simpa using az.s)]};have c3:=aA hct;clear hct az G A E
    gi_wp2_with (first|(refine⟨trivial,?_⟩;gi_at_call 139;refine (cS l' (cO.2 dn.o)).mono ?_;rintro e V1 ⟨rfl,ab⟩;have⟨k1,k2,k3,k4⟩:=ct.o V1 ab;have kc:=k1.cell)|(refine⟨trivial,?_⟩;gi_at_call 140;refine (cS l' (cO.2 (yO k2 (by omega) t.c))).mono ?_;rintro e w' ⟨rfl,cj⟩;obtain rfl:V1=w':=cj.s;rw[c3.o]))
    exact⟨KeepsFrom.d ab,jF.d ab,_,k1,Qd.o▸k2,k4⟩
   |false=>
    have Qd:Hid (fF z (pre++[t])=us++[t.c]):=by{show _=_;rw[HS.o,b4.o];unfold Qs;rw[if_neg (by rw[hct] at az;simpa using az.s)]};have c3:=aA hct;clear hct az G A E;have cg:aD us+1<=maxLen:=by{unfold maxLen;omega};have cn:(aD us+1)*16<=140737488355328:=by{omega};have ea:Hid (∀V1 w1,cP V.heap.size V V1->(V1.alloc (aP #[St t.c] 9)).grownBy w1 (aI (aJ va (aD us) vc))->cR w1 N 22 (aJ va (aD us) vc)/\fC V1 w1 (λj=>aX j=aI (aJ va (aD us) vc))):=by{intro V1 w1 ab hg;have⟨k1,k2,k3,k4⟩:=ct.o V1 ab;have hc:=((fC.j V1 _).alloc _).o hg (λk e _=>e.s);exact⟨(hc.h _ k1.lt (λe=>Qh k2 k1 (by decide) _ e.s rfl)).t k1,hc⟩};have ag:Hid (∀V1,cP V.heap.size V V1->aa<=(V1.alloc (aP #[St t.c] 9)).heap.size):=λV1 ab=>by have:=ab.s;show aa<=_;simp;omega
    gi_wp2_with (first|(refine⟨trivial,?_⟩;gi_at_call 139;refine (cS l' (cO.2 dn.o)).mono ?_;rintro e V1 ⟨rfl,ab⟩;have⟨k1,k2,k3,k4⟩:=ct.o V1 ab;have kc:=k1.cell)|(refine⟨trivial,?_⟩;gi_at_call 140;refine (cS l' (cO.2 (yO k2 (by omega) t.c))).mono ?_;rintro e w' ⟨rfl,cj⟩;obtain rfl:V1=w':=cj.s;rw[c3.o])|(gi_at_builtin;refine wpListIn_append_own _ rfl _ _ 22 rfl aa 9 i0 (St ⟨#[]⟩) 1 16 Tryz.underlying22 hi ck cw cr rfl (by decide) _ _ _ rfl (aH.l k2 _) ⟨V1.heap.size,0,aY⟩ 1 1 [St t.c] rfl rfl (cell_one_new _ _ _) (by simp[cI]) cg cn (ag.o V1 ab) ?_;intro v' w1 ac ae _;have⟨g',ai,cv⟩:=ownsRow_succ ac;subst cv;have⟨cd,d9⟩:=ea.o V1 w1 ab ae;have cc:=cd.cell;have ff:=cd.frozen))
    have eu:fC V1 (w1.setCell (Ad N 0) (Sc g' (aD us+1) ai)) (λj=>j=N\/aX j=aI (aJ va (aD us) vc)):=(d9.mono (λ_ _ e=>aU e)).i (Ad N 0) _ (λ_=>aS rfl)
    have⟨bh,ej⟩:=Gn (m:=W0.heap.size) eu (λj hj hx=>by
     obtain rfl|hx:=hx
     .exact⟨_,_,k1,by decide,by decide,by decide,by decide⟩
     .have⟨_,c,hc⟩:=qe k2 hx.s;exact⟨c,_,hc,by decide,by decide,by decide,by decide⟩)
    refine⟨KeepsFrom.trans (KeepsFrom.d ab) bh,(jF.d ab).g (ej _),_,qQ cd _,?_,?_⟩;{rw[Qd.o];have:=Qj ac ⟨N,0,aY⟩ (Sc g' (aD us+1) ai) (Qh ac cd (by decide));simpa using this}
    .exact (k4.alloc _ |>.o ae (λj e=>by
      have⟨ey,d,hd⟩:=qe k2 e
      exact aU ⟨ey,d,_,(bZ _ _ _ (zg hd).1).t hd⟩)).i (Nat.le_of_eq hN) _
attribute [local go_sem] cX
def qD(s:ByteArray)(t:gF):Bool:=decide (t.d=1) && (t.f.toList == s.toList)
def oG(s:ByteArray):Bool:=!decide (8<cT s) && (gD s.size s 0).any (qD s)
def B5(s:ByteArray)(b:Bool):Vq:=aN #[aK (if b then s else ⟨#[]⟩),aM b]
def Lo(s:ByteArray)(w:Wq)(hs:s.size<=4611686018427387904)(hT:Lib.Utf8Tabs 0 1 w):Cs 52 #[St s] w λe w'=>e=aQ (B5 s (oG s))/\cP w.heap.size w w':=by
 obtain⟨N,A⟩:=aC w.heap.size;have e6:s.size<9223372036854775807:=by omega
 by_cases av:8<cT s
 .have hl:(8:Int)<(cT s:Int):=by{omega};have b8:oG s=false:=by{unfold oG;simp[av]};rw[b8];subst A;refine (cO (n:=6)).1 ?_;refine cQ Tryz.func52 rfl trivial ?_ rfl;simp only[Tryz.ntmps52,bG,bI,bL,bQ,bT,bC,bD,bH,bF,bO,bJ];gi_wp2_with (refine⟨trivial,?_⟩;gi_at_call 95;refine (cO.2 (xl _ _ (by omega))).mono ?_;rintro e w' ⟨rfl,be,rfl⟩);refine⟨B5 s false,by simp[results,Tryz.results52,go_sem,B5],rfl,?_⟩;exact ((((zr.l zl _).l (by simp) _).l (by simp;omega) _).l (by simp;omega) _)
 have hl:decide ((8:Int)<(cT s:Int))=false:=by{simp;omega};refine (cO (n:=6)).1 ?_;refine cQ Tryz.func52 rfl trivial ?_ rfl;simp only[Tryz.ntmps52,bG,bI,bL,bQ,bT,bC,bD,bH,bF,bO,bJ];gi_wp2_with (first|(refine⟨trivial,?_⟩;gi_at_call 95;refine (cO.2 (xl _ _ (by omega))).mono ?_;rintro e w' ⟨rfl,be,rfl⟩)|(refine⟨trivial,?_⟩;gi_at_call 96;refine (cO.2 (E4 _ _)).mono ?_;rintro e w' ⟨rfl,rfl⟩));have fe:=Lib.runeCount_le s;have Qo4:s.size<=1200:=by{have:=sr s;omega};have b8:Hid (oG s=(gD s.size s 0).any (qD s)):=by{show _=_;unfold oG;simp[av]};generalize hrc:cT s=rc at *;clear hrc;obtain⟨W0,ad⟩:=aC ((((((w.alloc (aP #[St s] 9)).alloc (aP #[St ⟨#[]⟩] 9)).alloc (aP #[aM false] 4)).alloc (.stringIter s be)).alloc (aP #[St s] 9)));have c8:W0.heap.size=N+5:=by{rw[<-ad,<-A];simp};have dl:cP w.heap.size w W0:=ad▸((((zr.l zl _).l (by simp) _).l (by simp;omega) _).l (by simp;omega) _).l (by simp;omega) _;have ez:cP N w W0:=A▸dl;have b0:cR W0 N 9 (St s):=by{rw[<-ad,<-A];exact ((((cU w _ _).alloc _).alloc _).alloc _).alloc _};have b1:cR W0 (N+1) 9 (St ⟨#[]⟩):=by{have:=(((cU (w.alloc (aP #[St s] 9)) 9 (St ⟨#[]⟩)).alloc (aP #[aM false] 4)).alloc (.stringIter s be)).alloc (aP #[St s] 9);rwa[bB,A,ad] at this};have b2:cR W0 (N+1+1) 4 (aM false):=by{have:=((cU ((w.alloc (aP #[St s] 9)).alloc (aP #[St ⟨#[]⟩] 9)) 4 (aM false)).alloc (.stringIter s be)).alloc (aP #[St s] 9);rwa[bB,bB,A,ad] at this};have b5:cR W0 (N+4) 9 (St s):=by{have:=cU ((((w.alloc (aP #[St s] 9)).alloc (aP #[St ⟨#[]⟩] 9)).alloc (aP #[aM false] 4)).alloc (.stringIter s be)) 9 (St s);simp only[bB] at this;rwa[A,ad] at this};have ew:=aA λW=>Ct s W (by omega);(try simp only[A]);rw[ad];clear ad;refine wpIn_rangeFunc_ownH rfl (by decide) (gf:=158) (lb:=#[Pt (N+4)]) rfl trivial (enters_of Tryz.func158 (by kernel_rfl) rfl)
  (G4 5 (by decide) (N+4) s Qo4 w hT W0 dl (by omega) b5.cell) qP.g (qP.H (by omega)) zr (λ_=>rfl)
  (λpre W=>pre.any (qD s)=false/\cR W N 9 (St s)/\cR W (N+1) 9 (St ⟨#[]⟩)/\cR W (N+1+1) 4 (aM false)/\cP N w W)
  (λc pre W=>c=.ret/\pre.any (qD s)=true/\cR W (N+1) 9 (St s)/\cR W (N+1+1) 4 (aM true)/\cP N w W)
  ?hI ?hIx ?h0
  (λx a' W=>∃Bx,W.heap[Bx]?=cC (iH x.d x.f x.b x.a) 191/\a'={tmps:=#[St s,Pt N,Pt (N+1),Pt (N+1+1),Pt Bx,St s,Ii rc,aM false,St s,.func (.func 158) #[] #[Pt (N+1+1+1+1)],x.v,aZ,aZ,aZ,aZ,aZ,aZ,aZ,aZ,aZ,aZ,aZ],defers:=[]})
  ?hAx ?assign ?body ?done ?stop
 case hI=>rintro pre W W' row ⟨C,O,G,M,z⟩ hg hr;have E:=qn hg (λr e=>(hr r e).2);exact⟨C,E _ _ _ _ O,E _ _ _ _ G,E _ _ _ _ M,z.grown hg (Q1 z A) (λk e=>by have:=(hr k e).1;omega)⟩
 case hIx=>rintro c pre W W' row ⟨rfl,C,G,M,z⟩ hg hr;have E:=qn hg (λr e=>(hr r e).2);exact⟨rfl,C,E _ _ _ _ G,E _ _ _ _ M,z.grown hg (Q1 z A) (λk e=>by have:=(hr k e).1;omega)⟩
 case h0=>exact⟨rfl,b0,b1,b2,ez⟩
 case hAx=>rintro x a' _ W W' row ⟨Bx,O,G⟩ hg hr;exact⟨Bx,qn hg (λr e=>(hr r e).2) _ _ _ _ O,G⟩
 case assign=>rintro l pre x W K ⟨C,O,G,M,z⟩ hK;have HK:=aA hK;clear hK;have h8:=Q1 z A;unfold gF.v fY iH;gi_wp2;have ak:cP W.heap.size W (W.alloc (aP #[Ii x.d,St x.f,Ii x.b,Ii x.a] 191)):=(bE _ W).l zl _;refine HK.o _ _ ((KeepsOthers.alloc _ _).from _) ⟨ak.m (by omega),λk c fz E=>(bZ _ _ _ (zg E).1).t E⟩ ⟨C,O.alloc _,G.alloc _,M.alloc _,z.l (by omega) _⟩ ⟨W.heap.size,zn W _,rfl⟩
 case body=>
  rintro l pre x a' W dw ⟨r,hr⟩ ⟨C,O,G,M,z⟩ ⟨Bx,ah,rfl⟩ af;have h8:=Q1 z A;have kp:=O.cell;have k0:aE W (Ad Bx 0)=aX (Ii x.d):=by{simp[aE,ah,iH]};have k1:aE W (Ad Bx 1)=aX (St x.f):=by{simp[aE,ah,iH]};have ap:Hid (∀b,qD s x=b->(pre++[x]).any (qD s)=b):=λb hb=>by{rw[cG,C,List.any_cons,hb];simp};have bh:Hid (∀W1,cP W.heap.size W W1->KeepsFrom W0.heap.size W W1/\qP w.heap.size W W1):=λW1 hb=>⟨KeepsFrom.d hb,⟨hb.m (by omega),λk c fz E=>(hb.b k (zg E).1).t E⟩⟩;clear C;by_cases a6:x.d=1
  .cases ag:(x.f.toList == s.toList) with
   |true=>have bj:Hid (qD s x=true):=by{show _=_;unfold qD;simp[a6,ag]};have et:x.f.toList=s.toList:=by{simpa using ag};have b4:Hid (∀W1,cP W.heap.size W W1->cR W1 (N+1) 9 (St ⟨#[]⟩)/\cR W1 (N+1+1) 4 (aM false)/\cP N w W1):=λW1 hb=>⟨(hb.b _ G.lt).t G,(hb.b _ M.lt).t M,z.t (hb.m (by omega))⟩;clear G M z;gi_wp2_with (refine⟨trivial,?_⟩;gi_at_call 97;refine (cS l (cO.2 (ew.o _))).mono ?_;rintro e W1 ⟨rfl,ab⟩;have⟨g5,g6,g7⟩:=b4.o W1 ab;have c5:=g5.cell;have c6:=g6.cell;have f5:=g5.frozen;have f6:=g6.frozen);have⟨t1,t2,tc,tk⟩:=yv g5 g6 (St s) (aM true);have⟨a7,b3⟩:=bh.o W1 ab;refine⟨⟨cL a7.size tk.size,λk o E ho hc=>tk.same k o (a7.same k o E ho hc) hc⟩,rfl,ap.o _ bj.o,t1,t2,g7.t (tc.f (Q1 g7 A) (λk e=>by omega))⟩
   |false=>have bj:Hid (qD s x=false):=by{show _=_;unfold qD;simp[a6,ag]};gi_wp2;have⟨a7,b3⟩:=bh.o W zr;exact⟨a7,b3,ap.o _ bj.o,O,G,M,z⟩
  have bj:Hid (qD s x=false):=by{show _=_;unfold qD;simp[a6]};have Qp8:(x.d == 1)=false:=by{simp[a6]};gi_wp2;have⟨a7,b3⟩:=bh.o W zr;exact⟨a7,b3,ap.o _ bj.o,O,G,M,z⟩
 case done=>rintro D xs W hD rfl ⟨C,O,z,h6,h7⟩ hK;have h8:=Q1 h7 A;have c5:=z.cell;have c6:=h6.cell;have f5:=z.frozen;have f6:=h6.frozen;have H1:Hid (oG s=false):=by{show _=_;rwa[b8.o]};clear C;gi_wp2;have⟨t1,t2,tc,tk⟩:=yv z h6 (St ⟨#[]⟩) (aM false);refine⟨by simp,aS ⟨_,_,rfl,cW (tk.same D _ hK rfl),?_⟩⟩;have⟨d1,d2,dk⟩:=zI t1 t2 (tk.same D _ hK rfl);refine⟨aN #[St ⟨#[]⟩,aM false],by simp[results,Tryz.results52,go_sem,d1,d2],?_⟩;have d4:=v8 (D:=D) (o:=.deferred aY) (h7.t (tc.f h8 (λk e=>by omega))) (by omega) (cL h8 tc.size);rw[H1.o,A];exact⟨rfl,d4⟩
 rintro D c pre W hD ep ⟨rfl,C,z,h6,h7⟩ hK;have h8:=Q1 h7 A;have a9:Hid (oG s=true):=by{show _=_;have⟨tl,cu⟩:=ep;rw[b8.o,<-cu,cG,C];rfl};clear C;gi_wp2;refine⟨by simp,aS ⟨_,_,rfl,cW hK,?_⟩⟩;have⟨d1,d2,dk⟩:=zI z h6 hK;refine⟨aN #[St s,aM true],by simp[results,Tryz.results52,go_sem,d1,d2],?_⟩;rw[a9.o,A];exact⟨rfl,v8 h7 (by omega) h8⟩
def iP(x:ByteArray)(n:Nat):Am:=⟨x,(List.range n).map (λk=>⟨⟨#[]⟩,k⟩)⟩
def OR(x:ByteArray)(k:Nat):tg (iP x (k+1)).d=tg (iP x k).d++[St ⟨#[]⟩,Ii (k:Int)]:=by unfold iP tg;simp only[List.range_succ,cA,List.flatMap_append,cD,cJ,cE,List.flatMap_nil,List.append_nil];rfl
def wQ(x:ByteArray)(k:Nat):aD (iP x k).d=k:=by simp[iP]
def Nq(x:ByteArray)(n:Nat)(hn:n<=2)(w:Wq):Cs 55 #[St x,Ii n] w λe w'=>∃va,e=aQ (aL #[St x,va])/\Qg w' w'.heap.size va (iP x n).d/\cP w.heap.size w w':=by
 obtain⟨N,O⟩:=aC w.heap.size;have⟨i0,hi,ck,cw,cr⟩:=info_parts Tryz.i;go_enter Tryz.func55,Tryz.ntmps55;go_wp2;refine wp_loop (λA V=>∃(k:Nat) (C:Option Addr) (E:Nat) (u6 ax ao aq aw au c9 dp da dc dg dt:Vq),A={tmps:=#[St x,Ii n,aZ,aZ,Pt N,Pt (N+1),u6,St x,aL #[St x,aJ aY 0 0],Ii n,Ii k,ax,ao,aq,aw,au,c9,dp,da,dc,dg,dt],defers:=[]}/\k<=n/\V.heap[N]?=cC #[St ⟨#[]⟩,aJ aY 0 0] 92/\V.heap[N+1]?=cC #[St x,aJ C k E] 92/\aH V (N+2) 166 2 (aJ C k E) k (tg (iP x k).d)/\cP N w V/\N+2<=V.heap.size) (λA _=>n-(intOf (A.tmps.getD 10 aZ)).toNat) ⟨0,aY,0,_,_,_,_,_,_,_,_,_,_,_,_,rfl,zz,?a1,?a2,⟨rfl,aS ⟨rfl,rfl⟩⟩,?a3,?a4⟩ ?_
 case a1=>have:=zn w (aP #[St ⟨#[]⟩,aJ aY 0 0] 92);rw[O] at this;exact (bZ _ _ _ (by simp;omega)).t this
 case a2=>have:=zn (w.alloc (aP #[St ⟨#[]⟩,aJ aY 0 0] 92)) (aP #[St x,aJ aY 0 0] 92);rw[bB,O] at this;exact this
 case a3=>exact ((bE _ w).l (by omega) _).l (by simp;omega) _
 case a4=>simp;omega
 rintro A V ⟨k,C,E,u6,ax,ao,aq,aw,au,c9,dp,da,dc,dg,dt,rfl,hk,G,p1,M,hb,c8⟩;have c0:∀j,aE V (Ad (N+1) j)=([St x,aJ C k E]:List Vq)[j]?:=λj=>by simp[aE,p1]
 have z0:aE V (Ad N 0)=aX (St ⟨#[]⟩):=zc G;have z1:aE V (Ad N 1)=aX (aJ aY 0 0):=zc G;have y0:∀j,aF V (Ad N j)=false:=λj=>by simp[aF,G]
 by_cases af:k<n
 .have i1:(k:Int)<(n:Int):=by{omega};have cg:k+1<=maxLen:=by{unfold maxLen;omega};have cn:(k+1)*24<=140737488355328:=by{omega};have el:Hid (∀w1 r,(V.alloc r).grownBy w1 (aI (aJ C k E))->w1.heap[N+1]?=cC #[St x,aJ C k E] 92/\w1.heap[N]?=cC #[St ⟨#[]⟩,aJ aY 0 0] 92/\cP N w w1/\N+2<=w1.heap.size):=by{intro w1 r hg;have z:fC V w1 (λj=>aX j=aI (aJ C k E)):=((fC.j V _).alloc r).o hg (λk e _=>e.s);refine⟨(z.h _ (by omega) (λe=>Qh M p1 (by decide) _ e.s rfl)).t p1,(z.h _ (by omega) (λe=>Qh M G (by decide) _ e.s rfl)).t G,hb.t (z.f (by omega) (λj e=>by have:=(qe M e.s).1;omega)),by have:=z.size;omega⟩};go_wp2_with (at_builtin;refine wpList_append_own _ rfl (.tmp 14) (.tmp 17) 90 rfl (N+2) 166 i0 (aL #[St ⟨#[]⟩,Ii 0]) 2 24 Tryz.underlying90 hi ck cw cr rfl (by decide) _ _ _ rfl (aH.l M _) ⟨V.heap.size,0,aY⟩ 1 1 [St ⟨#[]⟩,Ii k] rfl rfl (cell_two_new _ _ _ _) (by simp[cI]) cg cn (by simp;omega) ?_;intro v' w1 ac ae _;have⟨g',ai,cv⟩:=ownsRow_succ ac;subst cv;have⟨e1,e0,eb,es⟩:=el.o w1 _ ae;have d1:aE w1 (Ad (N+1) 1)=aX (aJ C k E):=(by simp[aE,e1]);have g1:aF w1 (Ad (N+1) 1)=false:=(by simp[aF,e1]));refine⟨⟨k+1,aX ⟨g',0,aY⟩,ai,_,_,_,_,_,_,_,_,_,_,_,_,rfl,by omega,?_,?_,?_,?_,?_⟩,?_⟩;{exact (bU _ _ _ _ (by show N≠N+1;omega)).t e0};{exact qw e1 1 _}
  .have:=Qj ac ⟨N+1,1,aY⟩ (Sc g' (k+1) ai) (λg hg e=>by
    have⟨_,c,z⟩:=qe ac hg;rw[e] at z;have e2:w1.heap[N+1]?=_:=e1
    rw[show (⟨N+1,1,aY⟩:Addr).block=N+1 from rfl,e2] at z;cases z)
   rw[OR];exact this
  .exact eb.c (p:=⟨N+1,1,aY⟩) (by show N<=N+1;omega) _
  .simp;omega
  simp[intOf];omega
 have i1:¬(k:Int)<(n:Int):=by{omega};have dz:k=n:=by{omega};subst dz;go_wp2;refine bodyPost_ret (v:=aL #[St x,aJ C k E]) (by simp[results,Tryz.results55,go_sem,z0,z1]) rfl ?_;refine⟨_,rfl,?_,by first|exact xg hb _ _|(rw[O];exact xg hb _ _)⟩;have h1:=Qg.d (l:=(iP x k).d) (by rw[wQ];exact M);show Qg (pP V N x (aJ C k E)) (pP V N x (aJ C k E)).heap.size _ _;rw[Bu];refine h1.o (λj c _ z=>(BJ _ _ _ _ (λe=>?_)).t z);rw[e,G] at z;cases z
