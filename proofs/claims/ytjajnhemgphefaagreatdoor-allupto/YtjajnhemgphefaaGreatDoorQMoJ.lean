/- A part -/
import Derived.Test.YtjajnhemgphefaaGreatDoorQDel
set_option linter.all false
set_option maxRecDepth 100000
set_option maxHeartbeats 16000000
open List renaming length->aD,mem_cons->bE,nodup_cons->bF,length_append->bG,pairwise_append->bH,map_append->bI,mem_append->bJ,length_map->bQ,length_cons->bX,mem_map->bZ,length_filter_le->cA,mem_of_mem_take->cF,mem_of_mem_drop->cG,append_toArray->cH,getElem_of_mem->cI,getElem?_take->cJ,getElem?_drop->cL,size_toArray->cO,push_toArray->cP,append_assoc->cQ,not_mem_nil->cS,cons_append->cT,length_nil->cU,nil_append->cW,of_mem_zip->cX,append_nil->cZ,nodup_nil->dA
open Go.World renaming cell?->aE,ownsRow->aH,size_alloc->bC
open Go.Value renaming slice->aJ,agg->aL,bool->aM,tuple->aN
open Go.Obj renaming cells->aP
open Go.Ending renaming returned->aQ
open Go.IntKind renaming i64->aR
open Or renaming inl->aS,inr->aU
open Option renaming some->aX,none->aY,isSome_iff_exists->bL
open Go renaming undef->aZ,callsIn_wide->dE,cell_later->dF,LeavesInM->dJ,results_none->dK,callsIn_of_wp_marks->dL
open Go.RowKit.Below renaming heap_alloc->bB,refl->bD
open Nat renaming mul_le_mul_right->bO,add_mul->bT,one_mul->bU,le_refl->cR,reduceAdd->dB,reduceSub->dC
open Array renaming replicate_succ->cD,replicate_zero->cE
open Int renaming lt_of_lt_of_le->cM
open Go.RowKit renaming Below->dD
open Go.Fence renaming wide->dG
open Go.Proofs.Tryz renaming prog->dH
open Go.CallsIn renaming inRound->dI
namespace Go.Proofs.YtjajnhemgphefaaGreatDoor
open Go renaming World->Wq,Value->Vq
open Go.RowKit Go.Shelf Go.Maps
attribute [local go_sem] Oper.semAt_some
variable {M:Gd->Option Int} {L:List Am} {g h:Gd} {k m Bm Bg B nn al ac N:Nat} {p:fD} {W W':Wq} {ds:List Nat} {x:ByteArray} {a:Am} {t:Tm} {ar:ByteArray->Nat} {r:Rl} {F q F':List (Gd×Int)} {e:Int} {α:Type} {rels NS:List ByteArray}
def Mb(B:Nat)(rel:ByteArray)(z vb:Vq)(g:Gd)(w:Wq)(M:Option Addr)(tn O:Nat)(A:z=aJ M tn O)(E:Option Addr)(G sc:Nat)(C:vb=aJ E G sc):Cs 190 #[.map (aX B),aL #[St rel,z,vb],g.v] w λe w'=>e=aQ (.func (.func 229) #[] #[Pt (w.heap.size+1),Pt (w.heap.size+2),Pt w.heap.size])/\
   w'=((w.alloc (aP #[.map (aX B)] 98)).alloc (aP #[St rel,z,vb] 136)).alloc (aP g.c 111):=by subst A C;unfold Gd.v Gd.c;go_enter Tryz.func190,Tryz.ntmps190;go_wp2;go_ret;exact⟨rfl,rfl⟩
def tW(M:Gd->Option Int)(L:List Am)(g:Gd)(p:fD):Prop:=
 ∃i,∃h:i<aD L,(L[i]).j=g.j/\∃put,gK Ql L[i] g.x g.y=aX put/\rv M (L.take i++L.drop (i+1)) put p
def vt(M:Gd->Option Int)(L:List Am)(g:Gd)(k:Nat)(p:fD):Prop:=
 ∃i,∃h:i<aD L,i<k/\(L[i]).j=g.j/\∃put,gK Ql L[i] g.x g.y=aX put/\rv M (L.take i++L.drop (i+1)) put p
def IL(M:Gd->Option Int)(L:List Am)(g:Gd)(p:fD):vt M L g (aD L) p↔tW M L g p:=
 ⟨λ⟨i,h,_,z⟩=>⟨i,h,z⟩,λ⟨i,h,z⟩=>⟨i,h,h,z⟩⟩
def DF(C:k<aD L):vt M L g (k+1) p↔vt M L g k p\/((L[k]).j=g.j/\∃put,gK Ql L[k] g.x g.y=aX put/\rv M (L.take k++L.drop (k+1)) put p):=by
 constructor
 .rintro⟨i,h,A,z⟩;by_cases e:i=k;{grind};{exact aS ⟨i,h,by lia,z⟩}
 rintro (⟨i,h,A,z⟩|z);{exact⟨i,h,by lia,z⟩};{exact⟨k,C,by lia,z⟩}
structure wK(Bm Br Bg B nn al ac:Nat)(M:Gd->Option Int)(rel:ByteArray)(va vb:Vq)(L:List Am)(g:Gd)(W:Wq):Prop where
 j:W.heap[Bm]?=cC #[.map (aX B)] 98
 d:W.heap[Br]?=cC #[St rel,va,vb] 136
 b:W.heap[Bg]?=aX (aP g.c 111)
 f:gP W al ac vb L
 C:gH W B nn M
def wK.i{C:Nat}{rel:ByteArray}{E vb:Vq}(h:wK Bm C Bg B nn al ac M rel E vb L g W)(z:qr m W W'):wK Bm C Bg B nn al ac M rel E vb L g W':=
 ⟨z.i _ _ _ (by unfold gI;decide) h.j,z.i _ _ _ (by unfold gI;decide) h.d,z.i _ _ _ (by unfold gI;decide) h.b,h.f.o (λk c _ A=>z.i k c _ (by unfold gI;decide) A) (λk c _ A=>z.i k c _ (by unfold gI;decide) A),h.C.mk z⟩
theorem xm{n:Nat}{fn:Func}{tmps:Array Vq}{R:Ending->Wq->Prop}{X:Wq->Prop}(C:OwnFrom B (λ_:Unit=>X)):∀(ds:List Nat) (W:Wq),ds.Nodup->(∀D∈ds,B<=D/\W.heap[D]?=aX (.deferred (aX [])))->X W->
  (∀W',X W'->dJ dG n dH fn tmps R [] .returning W')->dJ dG n dH fn tmps R (nL ds) .returning W
 |[],W,_,_,hx,h=>h W hx
 |D::ds,W,hn,hd,hx,h=>by have⟨hB,hD⟩:=hd D (by simp);refine⟨by simp,aS ⟨_,_,rfl,run_takeDeferred hD,?_⟩⟩;have E:=grownBy_putObj' W D (.deferred aY);refine xm C ds _ (bF.1 hn).2 (λz A=>?_) (C () _ _ (aX D) hx E (λr e=>by cases e;exact⟨hB,_,hD,rfl⟩)) h;have G:z≠D:=λe=>(bF.1 hn).1 (e ▸ A);have⟨ip,bh⟩:=hd z (by simp[A]);exact⟨ip,(E.b z (zg bh).1 (by simpa using G)).t bh⟩
structure iR(N:Nat)(ds:List Nat)(W:Wq):Prop where
 s:ds.Nodup
 c:∀d∈ds,N<=d/\W.heap[d]?=aX (.deferred (aX []))
def iR.j(N:Nat)(W:Wq):iR N [] W:=⟨dA,by simp⟩
def iR.b(h:iR N ds W)(z:KeepsFrom m W W')(A:m<=N):iR N ds W':=
 ⟨h.s,λd hd=>⟨(h.c d hd).1,z.same d _ (by have:=(h.c d hd).1;lia) (h.c d hd).2 rfl⟩⟩
def iR.f(h:iR N ds W)(z:dD W.heap.size W W'):iR N ds W':=h.b (KeepsFrom.d (m:=0) z) zz
def iR.o{row:Option Nat}(h:iR N ds W)(A:W.grownBy W' row)(C:∀r,row=aX r->B<=r)(z:∀d∈ds,d<B):iR N ds W':=
 ⟨h.s,λd hd=>⟨(h.c d hd).1,(A.b d (zg (h.c d hd).2).1 (λe=>by have:=C d e.s;have:=z d hd;lia)).t (h.c d hd).2⟩⟩
def iR.lt(h:iR N ds W):∀d∈ds,d<W.heap.size:=λd hd=>(zg (h.c d hd).2).1
def iR.cons{D:Nat}(h:iR N ds W)(C:N<=D)(A:W.heap[D]?=aX (.deferred (aX [])))(z:D∉ds):iR N (D::ds) W:=
 ⟨bF.2 ⟨z,h.s⟩,λd hd=>by
  obtain rfl|hd:=bE.1 hd
  .grind
  .exact h.c d hd⟩
def gP.d{b:Nat}{v:Vq}{ps:List (Am×Vq)}(h:aH W b 92 2 v (aD ps) (ps.flatMap iD))(hs:∀p∈ps,Qg W ac p.2 p.1.d):gP W W.heap.size ac v (ps.map (·.1)):=by
 obtain⟨_,⟨A,O⟩|⟨g,z,E,A,hb,C,G,h2,h3,M⟩⟩:=h
 .have:ps=[]:=List.eq_nil_of_length_eq_zero O;subst this;exact⟨[],aY,0,rfl,A,⟨by simp,cR _⟩,λh=>absurd rfl h⟩
 refine⟨ps,aX ⟨g,0,aY⟩,z,rfl,by rw[A];simp,⟨hs,by simpa using G⟩,λ_=>⟨g,0,E,rfl,(zg C).1,C,by rw[List.drop_zero,<-M];simp⟩⟩
def Gc(x y:ByteArray):(x.toList == y.toList)=decide (x=y):=by grind [oT,ud]
theorem KB(ps:List (Am×Vq)):∀k,(ps.flatMap iD).take (k*2)=(ps.take k).flatMap iD:=by
 induction ps with
 |nil=>simp
 |cons p ps ih=>
  intro k;cases k with
  |zero=>simp
  |succ k=>grind [iD]
theorem Nx(ps:List (Am×Vq)):∀k,(ps.flatMap iD).drop (k*2)=(ps.drop k).flatMap iD:=by
 induction ps with
 |nil=>simp
 |cons p ps ih=>
  intro k;cases k with
  |zero=>simp
  |succ k=>grind [iD]
def Mt{C:Nat}{M:Option Addr}(h:gP W al ac (aJ M (aD L) C) L){k:Nat}(hk:k<aD L):∃(g aa:Nat) (ps:List (Am×Vq)),M=aX ⟨g,aa,aY⟩/\ps.map (·.1)=L/\(∀p∈ps,Qg W ac p.2 p.1.d)/\aD L<=C/\mY W 2 ⟨aJ (aX ⟨g,aa,aY⟩) k C,k,(ps.take k).flatMap iD⟩/\
   ∀E,(C=k+1/\E=⟨g,aa,aY⟩)\/(C≠k+1/\E=⟨g,aa+(k+1)*2,aY⟩)->mY W 2 ⟨aJ (aX E) (aD L-(k+1)) (C-(k+1)),aD L-(k+1),(ps.drop (k+1)).flatMap iD⟩:=by
 have⟨ps,a,cap,e1,e2,⟨e3,e5⟩,e4⟩:=h;cases e2;have⟨g,aa,el,k1,k2,k3,k4⟩:=e4 (λe=>by rw[e] at hk;simp at hk);have a7:aD ps=aD L:=by grind
 have G:∀j u,(ps.flatMap iD)[j]?=aX u->aE W (Ad g (aa+j))=aX u:=by intro j u z;rw[<-k4,cJ] at z;split at z;{rw[cL] at z;simp only[aE,k3];simpa using z};{cases z}
 have O:∀u∈ps.flatMap iD,u.oneCell'=true:=by intro u A;have⟨p,hp,A⟩:=List.mem_flatMap.1 A;have⟨ta,tc,hf⟩:=(e3 p hp).c;unfold iD at A;simp only[bE,cS,or_false] at A;obtain rfl|rfl:=A;{rfl};rw[hf];rfl
 have ew:=(zg k3).1;refine⟨g,aa,ps,k1,e1,e3,e5,aU ⟨_,_,rfl,by rw[EN,List.length_take];show min k (aD ps)*2=k*2;rw[Nat.min_eq_left (by lia)],λj u z=>?_,λ_=>ew,λu A=>O u ?_⟩,λE dh=>?_⟩
 .refine (congrArg (aE W) (show (⟨g,aa,aY⟩:Addr).add j=⟨g,aa+j,aY⟩ by simp[Addr.add])).t (G j u ?_);rw[<-KB] at z;rw[cJ] at z;split at z;{exact z};{cases z}
 .grind
 refine aU ⟨_,_,rfl,by rw[EN,List.length_drop];show (aD ps-(k+1))*2=(aD L-(k+1))*2;rw[a7],λj u z=>?_,λ_=>?_,λu A=>O u ?_⟩
 .obtain⟨hb,rfl⟩|⟨hb,rfl⟩:=dh;{grind};have:=G ((k+1)*2+j) u (by rwa[<-Nx,cL] at z);refine (congrArg (aE W) (show (⟨g,aa+(k+1)*2,aY⟩:Addr).add j=⟨g,aa+((k+1)*2+j),aY⟩ from ?_)).t this;simp[Addr.add,Nat.add_assoc]
 .grind
 grind
def EB(k:Nat):(Ql.f k).size<=maxLen:=by
 have:(Ql.f k)=⟨#[]⟩:=by unfold Ql fD.f;split<;>rfl
 rw[this];exact zz
def Jw(a:Am):Prop:=aD a.d<=2/\∀t∈a.d,t.d<6
def KD(n0 Bm Br Bg B nn al ac:Nat)(M:Gd->Option Int)(rel:ByteArray)(va vb:Vq)(L:List Am)(g:Gd)(w:Wq)(cf:wK Bm Br Bg B nn al ac M rel va vb L g w)(ce:A2 L)(h3:aD L<=3)(hg:lZ g)(m:Nat):iW m n0 229 #[Pt Br,Pt Bg,Pt Bm] (λp:wz=>#[p.1.v]) (qr m)
   (λys=>(∀p,p∈ys.map (·.1)↔tW M L g p)/\aD ys<=aD L*nn ^ (aD L-1)) (λ_=>True) (aD L*nn ^ (aD L-1)) w:=by
 obtain⟨n,hn⟩:∃n,12<=n:=⟨12,cR _⟩;refine iW.c (n:=n) ?_ n0;have n1:1<=n:=by lia
 have n3:1<=n-1-1:=by lia
 intro l J Jx W hW c8 hJ cp hY h0;have bb:=cf.i (qr.d (m:=m) hW);clear cf hW;have⟨ba,E,d9⟩:=bb.f.c;subst d9;have av:=aA bb;have HY:=aA hY;have HJ:=aA hJ;have HJx:=aA cp;have H0:=aA h0;have ag:=λO=>(bD _ W).l zl O;have e1:∀O,aE (W.alloc O) (Ad Br 2)=aX (aJ ba (aD L) E):=λO=>dF (ag O) (by have:=bb.d;simp[aE,this]);clear hY hJ cp h0 bb ag;refine dL Tryz.func229 rfl trivial ?_ rfl;simp only[Tryz.ntmps229,cO,bX,cU,dB,dC,cD,cE,cP,cH,cW,cT];gi_wp2;obtain⟨N,hN⟩:=aC W.heap.size;obtain⟨W1,ax⟩:=aC (W.alloc (aP #[.func (.yield l) #[] #[]] 274));have b5:dD W.heap.size W W1:=ax▸(bD _ W).alloc zl _
 have ib:W1.heap.size=N+1:=by rw[<-ax,<-hN];simp
 have bY:W1.heap[N]?=cC #[.func (.yield l) #[] #[]] 274:=by rw[<-ax,<-hN];exact zn W _
 have cl:=(av.o).i (qr.d (m:=m) b5);have co:=HJ.o _ _ _ aY H0.o (qi b5) (λr e=>by cases e);have iq:m<=N:=by lia
 rw[hN] at HJ HJx;simp only[hN];rw[ax];clear ax e1 av H0 b5 hN c8;have av:=aA cl;have dr:=aA bY;clear cl bY;refine wpIn_loop (λA V=>∃(k:Nat)(ds:List Nat)(ys:List wz)(u5 u6 u7 u8 u9 cj ca ck cc eu ez f5 es eo fm ej f0 f1 f8 ek f6 fk gk fg b8 fs f2 fh fp fi ft fq fb fv fr d3 dx c6 df c1:Vq),A={tmps:=#[.func (.yield l) #[] #[],Pt Br,Pt Bg,Pt Bm,Pt N,u5,u6,u7,u8,u9,aZ,.pointer (aX ⟨Br,2,aY⟩),aJ ba (aD L) E,Ii (aD L),Ii k,cj,ca,ck,cc,eu,ez,f5,es,eo,fm,ej,f0,f1,f8,ek,f6,fk,gk,fg,b8,fs,f2,fh,fp,fi,ft,fq,fb,fv,fr,d3,dx,c6,df,aZ,aZ,aZ,aZ,aZ,c1],defers:=nL ds}/\k<=aD L/\J ys V/\iR (N+1) ds V/\qr m W1 V/\Hid ((∀p,p∈ys.map (·.1)↔vt M L g k p)/\aD ys<=k*nn ^ (aD L-1))) (λA _=>aD L-(intOf (A.tmps.getD 14 aZ)).toNat) ⟨0,[],[],_,_,_,_,_,_,_,_,_,_,_,_,_,_,_,_,_,_,_,_,_,_,_,_,_,_,_,_,_,_,_,_,_,_,_,_,_,_,_,_,rfl,zz,co,iR.j _ _,qr.d zr,⟨λp=>by simp[vt],by simp⟩⟩ ?_;rintro A V ⟨k,ds,ys,u5,u6,u7,u8,u9,cj,ca,ck,cc,eu,ez,f5,es,eo,fm,ej,f0,f1,f8,ek,f6,fk,gk,fg,b8,fs,f2,fh,fp,fi,ft,fq,fb,fv,fr,d3,dx,c6,df,c1,rfl,hk,bk,aw,bd,ad⟩;clear co;have ap:=(av.o).i bd;by_cases aq:k<aD L
 .obtain⟨G,aa,ps,rfl,du,e8,gp,cb,ch⟩:=Mt ap.f aq;have⟨g',gm,c',vk,io,x0,x1,ef,ew⟩:=xp ap.f aq;cases io;have⟨fa,fc,gl⟩:=ef.c;subst gl;have i1:(k:Int)<(aD L:Int):=by{lia};have ag:=λO=>(bD _ V).l zl O;have ay:=ap.b;unfold Gd.c at ay;have z0:∀O,aE (V.alloc O) (Ad Bg 0)=aX (St g.j):=λO=>dF (ag O) (by simp[aE,ay]);have z1:∀O,aE (V.alloc O) (Ad Bg 1)=aX (St g.x):=λO=>dF (ag O) (by simp[aE,ay]);have z2:∀O,aE (V.alloc O) (Ad Bg 2)=aX (St g.y):=λO=>dF (ag O) (by simp[aE,ay]);have Qao:Hid (gK Ql L[k] g.x g.y=aY\/(L[k]).j≠g.j->(∀p,p∈ys.map (·.1)↔vt M L g (k+1) p)/\aD ys<=(k+1)*nn ^ (aD L-1)):=by{intro h;refine⟨λp=>?_,Nat.le_trans ad.o.2 (bO _ (by lia))⟩;rw[ad.o.1,DF aq];constructor;{exact aS};rintro (h'|⟨h1,put,h2,_⟩);{exact h'};obtain h|h:=h;{rw[h] at h2;cases h2};exact absurd h1 h};have Qd5:Hid (∀put,gK Ql L[k] g.x g.y=aX put->(L[k]).j=g.j->∀xs:List wz,(∀p,p∈xs.map (·.1)↔rv M (L.take k++L.drop (k+1)) put p)->aD xs<=nn ^ aD (L.take k++L.drop (k+1))->(∀p,p∈(ys++xs).map (·.1)↔vt M L g (k+1) p)/\aD (ys++xs)<=(k+1)*nn ^ (aD L-1)):=by{intro put fe hr xs hx hl;refine⟨λp=>?_,?_⟩;{rw[bI,bJ,ad.o.1,hx,DF aq];constructor;{rintro (h'|h');{exact aS h'};{exact aU ⟨hr,put,fe,h'⟩}};rintro (h'|⟨_,gw,h1,h2⟩);{exact aS h'};{rw[fe] at h1;cases h1;exact aU h2}};have e1:aD (L.take k++L.drop (k+1))=aD L-1:=by{simp;lia};rw[e1] at hl;have:=ad.o.2;rw[bG,bT,bU];lia};have d4:Hid (Jw L[k]):=⟨ce.d _ (zm aq),ce.f _ (zm aq)⟩;generalize hLk:L[k]=ak at *;clear ay;by_cases hrel:ak.j=g.j
  .have ep:(ak.j.toList == g.j.toList)=true:=by{rw[Gc];simpa using hrel};have bv:=aA λO=>DV Ql ak _ ac g.x g.y _ (Qg.mk ef (qr.d (m:=m) (ag O))) d4.o.1 d4.o.2;have cx:=aA ap;have ei:=aA cb;have e7:=aA ch;have f4:=aA e8;have i8:N+1<=V.heap.size:=by{have:=bd.f.size;lia};have gv:=aA hrel;clear ag cb ch e8 ef ap hrel;cases hm1:gK Ql ak g.x g.y with
   |none=>rw[hm1] at bv;unfold uV fD.v Ql fD.c at bv;have HN:=Qao.o (aS hm1);have it:=aA HN;clear HN Qao Qd5;have af:Hid (∀O W2 O',dD (V.alloc O).heap.size (V.alloc O) W2->dD V.heap.size V (W2.alloc O')):=λO W2 O' hb=>(((bD _ V).l zl O).t (hb.m (by simp))).l (by have:=hb.s;simp at this;lia) _;gi_wp2_with (refine⟨trivial,?_⟩;gi_at_call 157;refine (dE.2 (bv.o _)).mono ?_;rintro e W2 ⟨rfl,cg⟩);have bn:=af.o _ W2 (aP #[St ⟨#[]⟩,St ⟨#[]⟩,St ⟨#[]⟩,St ⟨#[]⟩,St ⟨#[]⟩,St ⟨#[]⟩] 176) cg;refine⟨⟨k+1,ds,ys,_,_,_,_,_,_,_,_,_,_,_,_,_,_,_,_,_,_,_,_,_,_,_,_,_,_,_,_,_,_,_,_,_,_,_,_,_,_,_,_,rfl,by lia,HJ.o _ _ _ aY bk (qi bn) (λr e=>by cases e),aw.f bn,bd.g (qr.d bn),it.o⟩,?_⟩;simp[intOf];lia
   |some put=>
    rw[hm1] at bv;unfold uV fD.v fD.c at bv;have HP:=Qd5.o put hm1 gv.o;have fx:=aA HP;clear HP Qao Qd5;have af:Hid (∀O W2 O',dD (V.alloc O).heap.size (V.alloc O) W2->dD V.heap.size V (W2.alloc O')):=λO W2 O' hb=>(((bD _ V).l zl O).t (hb.m (by simp))).l (by have:=hb.s;simp at this;lia) _;have e6:=Cu _ _ _ (λk=>EB k) (λq hq=>⟨d4.o.2 _ (cX hq).1,by
      have:=(cX hq).2;simp at this;obtain h|h:=this<;>rw[h]
      .exact hg.x
      .exact hg.y⟩) hm1
    have Qm7:=aA e6;clear e6;gi_wp2_with (refine⟨trivial,?_⟩;gi_at_call 157;refine (dE.2 (bv.o _)).mono ?_;rintro e W2 ⟨rfl,cg⟩);obtain⟨PB,cr⟩:=aC W2.heap.size;obtain⟨W3,cn⟩:=aC (W2.alloc (aP #[St put.g,St put.h,St put.i,St put.j,St put.o,St put.q] 176));have ah:=af.o _ W2 (aP #[St put.g,St put.h,St put.i,St put.j,St put.o,St put.q] 176) cg;have c3:W3.heap.size=PB+1:=by{rw[<-cn,<-cr];simp};have h5:W3.heap[PB]?=aX (aP put.c 176):=by{rw[<-cn,<-cr];exact zn W2 _};have iu:V.heap.size<=PB:=by{have:=cg.s;simp at this;lia};rw[cn] at ah;simp only[cr];rw[cn];have dt:=(cx.o).i (qr.d (m:=m) ah);clear cn cr cg bv af z0 z1 z2 x0 x1 ep;have c2:aE W3 (Ad Br 2)=aX (aJ (aX ⟨G,aa,aY⟩) (aD L) E):=by{have:=dt.d;simp[aE,this]};have i2:(k:Int)<=(E:Int):=by{lia};have i3:(k:Int)+1<=(aD L:Int):=by{lia};have i4:(aD L:Int)<=(E:Int):=by{lia};have i5:(0:Int)<=(k:Int):=by{lia};have i6:(0:Int)<=(k:Int)+1:=by{lia};have Qjn:=aA dt;clear dt;have Qkv:Hid (∀tb,(E=k+1/\tb=⟨G,aa,aY⟩)\/(E≠k+1/\tb=⟨G,aa+(k+1)*2,aY⟩)->Cs 230 #[Sc W3.heap.size 2 2] (W3.alloc (aP #[aJ (aX ⟨G,aa,aY⟩) k E,aJ (aX tb) (aD L-(k+1)) (E-(k+1))] 134)).drew λe w'=>∃z C,e=aQ (aJ z (aD L-1) C)/\dD W3.heap.size W3 w'/\gP w' w'.heap.size ac (aJ z (aD L-1) C) (L.take k++L.drop (k+1))):=by
     intro tb dh;have il:=mY.d (s:=⟨aJ (aX ⟨G,aa,aY⟩) k E,k,(ps.take k).flatMap iD⟩) (size:=2) ei.o ah;have ia:=(e7.o tb dh).d ah;have dm:dD W3.heap.size W3 (W3.alloc (aP #[aJ (aX ⟨G,aa,aY⟩) k E,aJ (aX tb) (aD L-(k+1)) (E-(k+1))] 134)).drew:=((bD _ W3).l zl _).drew;have hc:=Oq W3.heap.size [⟨aJ (aX ⟨G,aa,aY⟩) k E,k,(ps.take k).flatMap iD⟩,⟨aJ (aX tb) (aD L-(k+1)) (E-(k+1)),aD L-(k+1),(ps.drop (k+1)).flatMap iD⟩] (W3.alloc (aP #[aJ (aX ⟨G,aa,aY⟩) k E,aJ (aX tb) (aD L-(k+1)) (E-(k+1))] 134)).drew (zn W3 _) (by
       intro s hs;simp only[bE,cS,or_false] at hs;obtain rfl|rfl:=hs
       .exact il.d dm
       .exact ia.d dm) (by unfold gL;simp;lia) (by simp)
     refine hc.m ?_;rintro e w' ⟨v,rfl,ho,hb⟩;have id:gL [⟨aJ (aX ⟨G,aa,aY⟩) k E,k,(ps.take k).flatMap iD⟩,⟨aJ (aX tb) (aD L-(k+1)) (E-(k+1)),aD L-(k+1),(ps.drop (k+1)).flatMap iD⟩]=aD (ps.take k++ps.drop (k+1)):=by{have:aD ps=aD L:=by{rw[<-du];simp};unfold gL;simp;lia};rw[id] at ho;have b9:(ps.take k++ps.drop (k+1)).flatMap iD=[⟨aJ (aX ⟨G,aa,aY⟩) k E,k,(ps.take k).flatMap iD⟩,⟨aJ (aX tb) (aD L-(k+1)) (E-(k+1)),aD L-(k+1),(ps.drop (k+1)).flatMap iD⟩].flatMap Sl.c:=by{simp};rw[<-b9] at ho;have ge:=dm.t (hb.m (by simp));have⟨z,C,cz⟩:=qd ho;have a7:aD (ps.take k++ps.drop (k+1))=aD L-1:=by{have:aD ps=aD L:=by{rw[<-du];simp};simp;lia};have gs:=ah.t (ge.m ah.s);have ea:=gP.d ho (λp hp=>Qg.mk (f4.o p (by
      obtain h|h:=bJ.1 hp
      .exact cF h
      .exact cG h)) (qr.d (m:=m) gs))
     rw[cz,a7] at ea;refine⟨z,C,by rw[cz,a7],ge,?_⟩;have:(ps.take k++ps.drop (k+1)).map (·.1)=L.take k++L.drop (k+1):=by{rw[bI,List.map_take,List.map_drop,du]};rwa[this] at ea
    obtain⟨Pd,cw⟩:=aB (λz C w'=>dD W3.heap.size W3 w'/\gP w' w'.heap.size ac (aJ z (aD L-1) C) (L.take k++L.drop (k+1)));have Qnm:Hid (∀z C w',Pd z C w'->Pd z C w'.drew):=by{intro z C w' h;rw[cw] at h ⊢;exact⟨h.1.drew,gP.o h.2 (λk c _ hc=>hc) (λk c _ hc=>hc)⟩};have ao:Hid (∀(tb:Addr)(k' n' c':Nat),k'=k->n'=aD L-(k+1)->c'=E-(k+1)->((E=k+1/\tb=⟨G,aa,aY⟩)\/(E≠k+1/\tb=⟨G,aa+(k+1)*2,aY⟩))->Cs 230 #[Sc W3.heap.size 2 2] (W3.alloc (aP #[aJ (aX ⟨G,aa,aY⟩) k' E,aJ (aX tb) n' c'] 134)).drew λe w'=>∃z C,e=aQ (aJ z (aD L-1) C)/\Pd z C w'):=by{rintro tb k' n' c' rfl rfl rfl h;refine (Qkv.o tb h).m ?_;rintro e w' ⟨z,C,h1,h2,h3⟩;exact⟨z,C,h1,cw▸⟨h2,h3⟩⟩};have HPd:=aA cw;clear Qkv cw;refine wpIn_mono (Q:=λe a' w'=>match e with|Exit.normal=>∃z C dp dc ee v37 d7 v39 di dj ec dq dw,a'={tmps:=#[.func (.yield l) #[] #[],Pt Br,Pt Bg,Pt Bm,Pt N,Ii k,Pt V.heap.size,Pt PB,aM true,aJ z (aD L-1) C,aZ,.pointer (aX ⟨Br,2,aY⟩),aJ (aX ⟨G,aa,aY⟩) (aD L) E,Ii (aD L),Ii k,aM true,Ii k,.pointer (aX ⟨G,aa+k*2,aY⟩),aL #[St ak.j,aJ fa (aD ak.d) fc],Pt V.heap.size,St ak.j,Pt Bg,St g.j,aM false,aN #[aL #[St put.g,St put.h,St put.i,St put.j,St put.o,St put.q],aM true],aL #[St ⟨#[]⟩,St ⟨#[]⟩,St ⟨#[]⟩,St ⟨#[]⟩,St ⟨#[]⟩,St ⟨#[]⟩],aL #[St ak.j,aJ fa (aD ak.d) fc],.pointer (aX ⟨Bg,1,aY⟩),aL #[St g.x,St g.y],aN #[aL #[St put.g,St put.h,St put.i,St put.j,St put.o,St put.q],aM true],aL #[St put.g,St put.h,St put.i,St put.j,St put.o,St put.q],aM true,aM true,aM false,dp,dc,ee,v37,d7,v39,di,dj,ec,dq,dw,d3,dx,c6,df,aZ,aZ,aZ,aZ,aZ,c1],defers:=nL ds}/\Pd z C w'|_=>False) ?reg ?rest
    case reg=>clear hLk ad HY fx ei e7 f4 cx av Qjn HPd c3;generalize (aD L)=len at *;have iw:aR.wrap 1=1:=by{decide};have iv:aR.wrap 2=2:=by{decide};have i7:aR.wrap 3=3:=by{decide};by_cases b7:E=k+1;{have i9:len=E:=by{lia};have d5:k=0\/k=1\/k=2:=by{lia};obtain rfl|rfl|rfl:=d5;{obtain rfl:E=1:=by{lia};obtain rfl:len=1:=by{lia};have az:Hid _:=ao.o ⟨G,aa,aY⟩ 0 0 0 rfl rfl rfl (aS ⟨rfl,rfl⟩);clear i1 i2 i3 i4 i5 i6 b7 ao;(first|(gi_region_with (refine⟨trivial,?_⟩;(try refine⟨λh=>(by cases h),?_⟩);refine (dE.2 (az.o)).mono ?_;rintro e w' ⟨z,C,rfl,am⟩))|fail);all_goals exact⟨z,C,_,_,_,_,_,_,_,_,_,_,_,rfl,am⟩};{obtain rfl:E=2:=by{lia};obtain rfl:len=2:=by{lia};have az:Hid _:=ao.o ⟨G,aa,aY⟩ 1 0 0 rfl rfl rfl (aS ⟨rfl,rfl⟩);clear i1 i2 i3 i4 i5 i6 b7 ao;(first|(gi_region_with (refine⟨trivial,?_⟩;(try refine⟨λh=>(by cases h),?_⟩);refine (dE.2 (az.o)).mono ?_;rintro e w' ⟨z,C,rfl,am⟩))|fail);all_goals exact⟨z,C,_,_,_,_,_,_,_,_,_,_,_,rfl,am⟩};obtain rfl:E=3:=by{lia};obtain rfl:len=3:=by{lia};have az:Hid _:=ao.o ⟨G,aa,aY⟩ 2 0 0 rfl rfl rfl (aS ⟨rfl,rfl⟩);clear i1 i2 i3 i4 i5 i6 b7 ao;(first|(gi_region_with (refine⟨trivial,?_⟩;(try refine⟨λh=>(by cases h),?_⟩);refine (dE.2 (az.o)).mono ?_;rintro e w' ⟨z,C,rfl,am⟩))|fail);all_goals exact⟨z,C,_,_,_,_,_,_,_,_,_,_,_,rfl,am⟩};have d5:k=0\/k=1\/k=2:=by{lia};obtain rfl|rfl|rfl:=d5;{obtain⟨q,rfl⟩:∃q,len=q+1:=⟨len-1,by lia⟩;have az:Hid _:=ao.o ⟨G,aa+2,aY⟩ 0 q (E-1) rfl (by lia) rfl (aU ⟨by lia,rfl⟩);have j2:¬E=1:=by{lia};have j4:(1:Int)<=(q:Int)+1:=by{lia};have j5:(0:Int)<=(E:Int):=by{lia};clear i1 i2 i3 i4 i5 i6 b7 ao;(first|(gi_region_with (refine⟨trivial,?_⟩;(try refine⟨λh=>(by cases h),?_⟩);refine (dE.2 (az.o)).mono ?_;rintro e w' ⟨z,C,rfl,am⟩))|fail);all_goals exact⟨z,C,_,_,_,_,_,_,_,_,_,_,_,rfl,am⟩};{obtain⟨q,rfl⟩:∃q,len=q+2:=⟨len-2,by lia⟩;have az:Hid _:=ao.o ⟨G,aa+4,aY⟩ 1 q (E-2) rfl (by lia) rfl (aU ⟨by lia,rfl⟩);have j2:¬E=2:=by{lia};have j4:(2:Int)<=(q:Int)+2:=by{lia};have j6:(1:Int)<=(E:Int):=by{lia};clear i1 i2 i3 i4 i5 i6 b7 ao;(first|(gi_region_with (refine⟨trivial,?_⟩;(try refine⟨λh=>(by cases h),?_⟩);refine (dE.2 (az.o)).mono ?_;rintro e w' ⟨z,C,rfl,am⟩))|fail);all_goals exact⟨z,C,_,_,_,_,_,_,_,_,_,_,_,rfl,am⟩};obtain rfl:len=3:=by{lia};have az:Hid _:=ao.o ⟨G,aa+6,aY⟩ 2 0 (E-3) rfl (by lia) rfl (aU ⟨by lia,rfl⟩);have j2:¬E=3:=by{lia};have j6:(2:Int)<=(E:Int):=by{lia};clear i1 i2 i3 i4 i5 i6 b7 ao;(first|(gi_region_with (refine⟨trivial,?_⟩;(try refine⟨λh=>(by cases h),?_⟩);refine (dE.2 (az.o)).mono ?_;rintro e w' ⟨z,C,rfl,am⟩))|fail);all_goals exact⟨z,C,_,_,_,_,_,_,_,_,_,_,_,rfl,am⟩
    rintro e a' W4 hq;cases e with
    |normal=>
     obtain⟨z,C,dp,dc,ee,v37,d7,v39,di,dj,ec,dq,dw,rfl,am⟩:=hq;rw[HPd.o] at am;have⟨cv,fw⟩:=am;clear ao Qnm HPd;have dn:=(Qjn.o).i (qr.d (m:=m) cv);have cm:aE W4 (Ad Bm 0)=aX (.map (aX B)):=by{have:=dn.j;simp[aE,this]};have ic:=(cv.b PB (by lia)).t h5;have da:=ic;unfold fD.c at da;have d0:∀j,aE W4 (Ad PB j)=([St put.g,St put.h,St put.i,St put.j,St put.o,St put.q]:List Vq)[j]?:=λj=>by{simp[aE,da]};have h7:Hid (∀W,Cs 231 #[.map (aX B),aJ z (aD L-1) C,aL #[St put.g,St put.h,St put.i,St put.j,St put.o,St put.q]] W λe w'=>e=aQ (.func (.func 260) #[] #[Pt (W.heap.size+1),Pt (W.heap.size+2),Pt W.heap.size])/\w'=((W.alloc (aP #[.map (aX B)] 98)).alloc (aP #[aJ z (aD L-1) C] 134)).alloc (aP #[St put.g,St put.h,St put.i,St put.j,St put.o,St put.q] 176)):=λW=>B4 B _ put W _ _ _ rfl;have ir:=aA fw;have Qnb:=aA dn;have gh:=aA cv;clear dn da fw cv;gi_wp2_with (refine⟨trivial,?_⟩;gi_at_call 231;refine (dE.2 (h7.o _)).mono ?_;rintro e w' ⟨rfl,rfl⟩);obtain⟨VN,au⟩:=aC W4.heap.size;obtain⟨W5,aj⟩:=aC (((W4.alloc (aP #[.map (aX B)] 98)).alloc (aP #[aJ z (aD L-1) C] 134)).alloc (aP #[St put.g,St put.h,St put.i,St put.j,St put.o,St put.q] 176));have b0:dD W4.heap.size W4 W5:=aj▸(((bD _ W4).alloc zl _).alloc (by simp) _).alloc (by simp;omega) _;have gu:W5.heap.size=VN+3:=by{rw[<-aj,<-au];simp};have eM:W5.heap[VN]?=cC #[.map (aX B)] 98:=by{rw[<-aj,<-au];exact (bB _ _ _ (by simp;lia)).t ((bB _ _ _ (by simp)).t (zn W4 _))};have eS:W5.heap[VN+1]?=cC #[aJ z (aD L-1) C] 134:=by{rw[<-aj,<-au];refine (bB _ _ _ (by simp)).t ?_;have:=zn (W4.alloc (aP #[.map (aX B)] 98)) (aP #[aJ z (aD L-1) C] 134);rwa[bC] at this};have eP:W5.heap[VN+2]?=aX (aP put.c 176):=by{rw[<-aj,<-au];have:=zn ((W4.alloc (aP #[.map (aX B)] 98)).alloc (aP #[aJ z (aD L-1) C] 134)) (aP #[St put.g,St put.h,St put.i,St put.j,St put.o,St put.q] 176);rwa[bC,bC] at this};have be:∀m',qr m' W4 W5:=λm'=>qr.d b0;have Qlg:aD (L.take k++L.drop (k+1))=aD L-1:=by{simp;lia};have g4:=gP.o ir.o (λk c _ hc=>(be 0).i k c _ (by unfold gI;decide) hc) (λk c _ hc=>(be 0).i k c _ (by unfold gI;decide) hc);have g8:wi VN (VN+1) (VN+2) B nn W4.heap.size ac M (L.take k++L.drop (k+1)) (aJ z (aD L-1) C) put W5:=⟨eM,eS,eP,g4,(Qnb.o).C.mk (be 0)⟩;have Qhd:=ah.t ((gh.o.t (b0.m gh.o.s)).m ah.s);have bu:∀a,a∈L.take k++L.drop (k+1)->a∈L:=λa ha=>by{obtain h|h:=bJ.1 ha;{exact cF h};exact cG h};have eb:J (ys++[]) W5:=by{rw[cZ];exact HJ.o _ _ _ aY bk (qi Qhd) (λr e=>by cases e)};have ih:=Dd (L.take k++L.drop (k+1)) (n-1) VN (VN+1) (VN+2) B nn W4.heap.size ac M (aJ z (aD L-1) C) put W5 g8 ⟨λb hb=>ce.d b (bu b hb),λb hb=>ce.f b (bu b hb),λb hb=>ce.c b (bu b hb)⟩ (by lia) Qm7.o (W5.heap.size+2);have cq:=bd.g (qr.d Qhd);have cd:=aw.f Qhd;have a8:=cd.lt;have gq:N+1<=W5.heap.size:=by{have:=cq.f.size;lia};simp only[au];rw[aj];clear aj;refine ui (n:=n) (gf:=260) (lb:=#[Pt (VN+1),Pt (VN+2),Pt VN]) rfl (enters_of Tryz.func260 (by kernel_rfl) rfl)
      ih qr.g (λV' im o' ho=>qr.H V' _ _ o' (by lia) ho rfl (λ_ _ h=>by cases h)) (λ_=>rfl)
      (λab V2=>J (ys++ab) V2/\qr m W1 V2/\iR (N+1) ds V2)
      (λc ab V2=>c=.ret/\(∃zs,Jx zs V2)/\iR (N+1) ds V2)
      ?hI2 ?hIx2 ⟨eb,cq,cd⟩
      (λx2 a' V2=>∃Bx,V2.heap[Bx]?=aX (aP x2.1.c 176)/\a'={tmps:=#[.func (.yield l) #[] #[],Pt Br,Pt Bg,Pt Bm,Pt N,Ii k,Pt V.heap.size,Pt PB,aM true,aJ z (aD L-1) C,Pt Bx,.pointer (aX ⟨Br,2,aY⟩),aJ (aX ⟨G,aa,aY⟩) (aD L) E,Ii (aD L),Ii k,aM true,Ii k,.pointer (aX ⟨G,aa+k*2,aY⟩),aL #[St ak.j,aJ fa (aD ak.d) fc],Pt V.heap.size,St ak.j,Pt Bg,St g.j,aM false,aN #[aL #[St put.g,St put.h,St put.i,St put.j,St put.o,St put.q],aM true],aL #[St ⟨#[]⟩,St ⟨#[]⟩,St ⟨#[]⟩,St ⟨#[]⟩,St ⟨#[]⟩,St ⟨#[]⟩],aL #[St ak.j,aJ fa (aD ak.d) fc],.pointer (aX ⟨Bg,1,aY⟩),aL #[St g.x,St g.y],aN #[aL #[St put.g,St put.h,St put.i,St put.j,St put.o,St put.q],aM true],aL #[St put.g,St put.h,St put.i,St put.j,St put.o,St put.q],aM true,aM true,aM false,dp,dc,ee,v37,d7,v39,di,dj,ec,dq,dw,.map (aX B),aJ z (aD L-1) C,aL #[St put.g,St put.h,St put.i,St put.j,St put.o,St put.q],.func (.func 260) #[] #[Pt (VN+1),Pt (VN+2),Pt VN],aL #[St x2.1.g,St x2.1.h,St x2.1.i,St x2.1.j,St x2.1.o,St x2.1.q],aZ,aZ,aZ,aZ,c1],defers:=[]})
      ?hAx2 ?assign2 ?body2 ?done2 ?stop2
     case hI2=>rintro ab X X' row ⟨j1,j2,j3⟩ hg hr;exact⟨HJ.o _ _ _ row j1 hg (λr e=>⟨by have:=(hr r e).1;lia,(hr r e).2⟩),j2.z hg (λr e=>by have:=(hr r e).1;lia),j3.o hg (λr e=>(hr r e).1) a8⟩
     case hIx2=>rintro c ab X X' row ⟨rfl,⟨zs,j1⟩,j3⟩ hg hr;exact⟨rfl,⟨zs,HJx.o _ _ _ row j1 hg (λr e=>⟨by have:=(hr r e).1;lia,(hr r e).2⟩)⟩,j3.o hg (λr e=>(hr r e).1) a8⟩
     case hAx2=>rintro x2 a' _ X X' row ⟨Bx,q2,q3⟩ hg hr;exact⟨Bx,qn hg (λr e=>(hr r e).2) _ _ _ _ q2,q3⟩
     case assign2=>rintro l2 ab x2 X K d1 c5 ⟨j1,j2,j3⟩ hK;have HK:=aA hK;clear hK;unfold fD.v fD.c;gi_wp2;have af:dD X.heap.size X (X.alloc (aP #[St x2.1.g,St x2.1.h,St x2.1.i,St x2.1.j,St x2.1.o,St x2.1.q] 176)):=(bD _ X).l zl _;exact HK.o _ _ (KeepsFrom.d af) (qr.d af) ⟨HJ.o _ _ _ aY j1 (qi af) (λr e=>by cases e),j2.g (qr.d af),j3.f af⟩ ⟨X.heap.size,zn X _,rfl⟩
     case done2=>rintro D xs X hD ⟨s1,s2⟩ ⟨j1,j2,j3⟩ hK;have d6:Hid _:=fx.o xs s1 s2;have bi:D∉ds:=λh=>by{have:=a8 D h;lia};have a6:Hid _:=j3.cons (D:=D) (by lia) hK bi;clear ad s1 s2;gi_wp2;refine⟨⟨k+1,D::ds,ys++xs,_,_,_,_,_,_,_,_,_,_,_,_,_,_,_,_,_,_,_,_,_,_,_,_,_,_,_,_,_,_,_,_,_,_,_,_,_,_,_,_,rfl,by lia,j1,a6.o,j2,d6.o⟩,?_⟩;simp[intOf];lia
     case stop2=>rintro D c pre X hD _ ⟨rfl,hz,j3⟩ hK;have bi:D∉ds:=λh=>by{have:=a8 D h;lia};have a6:Hid _:=j3.cons (D:=D) (by lia) hK bi;have HZ:=aA hz;clear ad hz;gi_wp2;show dJ dG n dH _ _ _ (nL (D::ds)) .returning X;refine xm (X:=λV=>∃zs,Jx zs V) (B:=N) (λ_ A B row hs hg hr=>by have⟨zs,hz⟩:=hs;exact⟨zs,HJx.o zs A B row hz hg hr⟩) (D::ds) X a6.o.s (λD' bh=>⟨by have:=(a6.o.c D' bh).1;lia,(a6.o.c D' bh).2⟩) HZ.o (λW' hx=>?_);have⟨zs,hz⟩:=hx;exact⟨_,dK rfl _ _ _,⟨_,rfl⟩,aU ⟨zs,trivial,hz⟩⟩
     rintro l2 ab x2 a' X d1 ⟨gt,c7⟩ ⟨j1,j2,j3⟩ ⟨By,g5,rfl⟩ fz;have ci:aD (ys++ab)<aD L*nn ^ (aD L-1):=by{rw[bG];have e1:=ad.o.2;rw[Qlg] at fz;have e2:(k+1)*nn ^ (aD L-1)<=aD L*nn ^ (aD L-1):=bO _ (by lia);rw[bT,bU] at e2;lia};have⟨fn,tmps,assign,body,hy,hR⟩:=HY.o (ys++ab) x2 X j1 ci;unfold fD.v fD.c at hy;have Qau:=j2.i _ _ _ (by unfold gI;decide) dr.o;have cy:aE X (Ad N 0)=aX (.func (.yield l) #[] #[]):=zc Qau;have dd:=g5;unfold fD.c at dd;have r0:∀j,aE X (Ad By j)=([St x2.1.g,St x2.1.h,St x2.1.i,St x2.1.j,St x2.1.o,St x2.1.q]:List Vq)[j]?:=λj=>by{simp[aE,dd]};clear dd Qau ad;gi_wp2;refine (vF hR).mono ?_;rintro e X' (⟨rfl,dy,ai⟩|⟨rfl,bq,ai⟩);{clear hy hR;gi_wp2;exact⟨KeepsFrom.h ai.f (by lia),ai.h (by lia),by rw[<-cQ];exact dy,j2.g ai,j3.b ai.f (by lia)⟩};clear hy hR;gi_wp2;exact⟨KeepsFrom.h ai (by lia),rfl,⟨_,bq⟩,j3.b ai (by lia)⟩
    |_=>exact False.elim hq
  have ep:(ak.j.toList == g.j.toList)=false:=by{rw[Gc];simpa using hrel};have HN:Hid _:=Qao.o (aU hrel);have af:=ag (aP #[St ak.j,aJ fa (aD ak.d) fc] 92);have bn:=aA af;clear Qao Qd5 ag af;gi_wp2;refine⟨⟨k+1,ds,ys,_,_,_,_,_,_,_,_,_,_,_,_,_,_,_,_,_,_,_,_,_,_,_,_,_,_,_,_,_,_,_,_,_,_,_,_,_,_,_,_,rfl,by lia,HJ.o _ _ _ aY bk (qi bn.o) (λr e=>by cases e),aw.f bn.o,bd.g (qr.d bn.o),HN.o⟩,?_⟩;simp[intOf];lia
 have d8:k=aD L:=by{lia};subst d8;have Qd:Hid ((∀p,p∈ys.map (·.1)↔tW M L g p)/\aD ys<=aD L*nn ^ (aD L-1)):=⟨λp=>(ad.o.1 p).trans (IL M L g p),ad.o.2⟩;clear ad ap;gi_wp2;show dJ dG n dH _ _ _ (nL ds) .returning V;refine xm (X:=J ys) (B:=N) (λ_ A B row hs hg hr=>HJ.o ys A B row hs hg hr) ds V aw.s (λD hD=>⟨by have:=(aw.c D hD).1;lia,(aw.c D hD).2⟩) bk (λW' hx=>?_);exact⟨_,dK rfl _ _ _,⟨_,rfl⟩,aS ⟨ys,Qd.o,hx⟩⟩
def eB:ByteArray:=⟨#[]⟩
theorem lN(x:ByteArray):x.toList.isEmpty=true↔x=eB:=by
 rw[oT,List.isEmpty_iff];constructor
 .intro h;exact ud h
 rintro rfl;rfl
theorem JR{y:ByteArray}(h:x.toList=y.toList):x=y:=by grind [oT,ud]
def jQ(n m:fD):Prop:=∀k,n.f k≠eB->m.f k=n.f k
theorem jQ.j(n:fD):jQ n n:=λ_ _=>rfl
def jQ.trans{a b c:fD}(h:jQ a b)(k:jQ b c):jQ a c:=λi A=>by have z:=h i A;rw[k i (by grind),z]
def Lx(p:fD):jQ Ql p:=λk z=>absurd (by unfold Ql fD.f;split<;>rfl) z
theorem uv(h:t.c=eB)(n:fD):fH n t=n.f t.d:=by grind [fH,lN]
theorem sJ(h:t.c≠eB)(n:fD):fH n t=t.c:=by grind [fH,lN]
theorem AQ{n m:fD}(h:jQ n m)(A:fH n t≠eB):fH m t=fH n t:=by
 by_cases z:t.c=eB
 .rw[uv z] at A;rw[uv z,uv z,h _ A]
 grind [sJ]
theorem Hw{n:fD}(z:t.d<6):jQ n (oN n t x):=by
 intro k A;unfold oN;split
 .grind [fD.s,lN]
 rfl
def O0{n m:fD}(z:t.d<6)(h:kZ n t x=aX m):jQ n m/\fH m t=x:=by grind [kZ,Hw,JR]
def OL{n:fD}(C:t.d<6)(hx:x≠eB)(A:jQ n p)(G:fH p t=x):∃m,kZ n t x=aX m/\jQ m p:=by
 have O:fH (oN n t x) t=x:=by by_cases M:t.c=eB;{rw[uv M] at G;rw[uv M];unfold oN;by_cases E:n.f t.d=eB;{grind [lN,fD.s]};{rw[if_neg (λh=>E ((lN _).1 h.2)),<-A _ E,G]}};grind [sJ]
 refine⟨oN n t x,by unfold kZ;rw[if_pos (by rw[O])],?_⟩;intro k z;unfold oN at z ⊢;split
 .rename_i h;rw[if_pos h,fD.s _ _ _ _ C] at z;rw[fD.s _ _ _ _ C];split;{grind [uv,lN]};{rename_i e;rw[if_neg e] at z;exact A _ z}
 rename_i h;rw[if_neg h] at z;exact A _ z
theorem AL:∀(l:List (Tm×ByteArray)) (n m:fD),(∀q∈l,q.1.d<6/\q.2≠eB)->jC n l=aX m->jQ n m/\∀q∈l,fH m q.1=q.2
 |[],n,m,_,h=>by grind [jC,jQ.j]
 |q::l,n,m,hl,h=>by
  simp only[jC] at h
  cases hq:kZ n q.1 q.2 with
  |none=>rw[hq] at h;cases h
  |some m'=>
   rw[hq] at h;have⟨h1,h2⟩:=O0 (hl q (by simp)).1 hq;have⟨h3,h4⟩:=AL l m' m (λr z=>hl r (by simp[z])) h;refine⟨h1.trans h3,λr z=>?_⟩;obtain rfl|z:=bE.1 z
   .grind [AQ]
   .exact h4 r z
theorem A0:∀(l:List (Tm×ByteArray)) (n p:fD),(∀q∈l,q.1.d<6/\q.2≠eB)->jQ n p->(∀q∈l,fH p q.1=q.2)->∃m,jC n l=aX m/\jQ m p
 |[],n,p,_,he,_=>⟨n,rfl,he⟩
 |q::l,n,p,hl,he,hp=>by have⟨m,h1,h2⟩:=OL (hl q (by simp)).1 (hl q (by simp)).2 he (hp q (by simp));have⟨m',h3,h4⟩:=A0 l m p (λr z=>hl r (by simp[z])) h2 (λr z=>hp r (by simp[z]));exact⟨m',by simp only[jC,h1];exact h3,h4⟩
def gN(ar:ByteArray->Nat)(g:Gd):Prop:=g.x≠eB/\((ar g.j=1/\g.y=eB)\/(ar g.j=2/\g.y≠eB))
def oF(ar:ByteArray->Nat)(a:Am):Prop:=aD a.d=ar a.j/\∀t∈a.d,t.d<6
theorem xJ(E:oF ar a){x y:ByteArray}(M:gN ar ⟨a.j,x,y⟩):(∃t,a.d=[t]/\y=eB/\x≠eB)\/∃t u,a.d=[t,u]/\x≠eB/\y≠eB:=by
 obtain⟨G,⟨z,A⟩|⟨z,A⟩⟩:=M
 .have C:=E.1.t z;match ha':a.d,C with
  |[t],_=>exact aS ⟨t,rfl,A,G⟩
 have C:=E.1.t z;match ha':a.d,C with
 |[t,u],_=>exact aU ⟨t,u,rfl,G,A⟩
def yu(C:oF ar a){x y:ByteArray}(M:gN ar ⟨a.j,x,y⟩){n m:fD}(h:gK n a x y=aX m):jQ n m/\qb m a=⟨a.j,x,y⟩:=by
 unfold gK at h;obtain⟨t,z,E,G⟩|⟨t,u,z,E,G⟩:=xJ C M
 .rw[z] at h;have⟨h1,h2⟩:=AL _ _ _ (by
   intro q A;simp at A;subst A
   exact⟨C.2 t (by rw[z];simp),G⟩) h
  refine⟨h1,?_⟩;unfold qb iM iJ;rw[z];simp only;rw[h2 (t,x) (by simp),E];rfl
 rw[z] at h;have⟨h1,h2⟩:=AL _ _ _ (by
  intro q A;simp at A;obtain rfl|rfl:=A
  .exact⟨C.2 t (by rw[z];simp),E⟩
  .exact⟨C.2 u (by rw[z];simp),G⟩) h
 refine⟨h1,?_⟩;unfold qb iM iJ;rw[z];simp only;rw[h2 (t,x) (by simp),h2 (u,y) (by simp)]
def Ak(C:oF ar a){n p:fD}(O:gN ar (qb p a))(M:jQ n p):∃m,gK n a (qb p a).x (qb p a).y=aX m/\jQ m p:=by
 unfold gK;obtain⟨t,A,G,E⟩|⟨t,u,A,G,E⟩:=xJ C (x:=(qb p a).x) (y:=(qb p a).y) O
 .refine A0 _ _ _ (λq z=>?_) M (λq z=>?_);{rw[A] at z;simp at z;subst z;exact⟨C.2 t (by rw[A];simp),E⟩};{rw[A] at z;simp at z;subst z;simp[qb,A,iM]}
 refine A0 _ _ _ (λq z=>?_) M (λq z=>?_)
 .rw[A] at z;simp at z;obtain rfl|rfl:=z;{exact⟨C.2 t (by rw[A];simp),G⟩};exact⟨C.2 u (by rw[A];simp),E⟩
 rw[A] at z;simp at z;obtain rfl|rfl:=z
 .simp[qb,A,iM]
 simp[qb,A,iJ]
def Fg(z:oF ar a){n p:fD}(C:gN ar (qb n a))(A:jQ n p):qb p a=qb n a:=by grind [xJ,qb,iM,iJ,AQ]
def vE(ar:ByteArray->Nat)(M:Gd->Option Int):Prop:=∀g,(M g).isSome=true->gN ar g/\lZ g
theorem Gb(A:vE ar M):∀(L:List Am) (n p:fD),(∀a∈L,oF ar a)->rv M L n p->jQ n p/\∀a∈L,(M (qb p a)).isSome=true
 |[],n,p,_,h=>by have C:p=n:=h;subst C;exact⟨jQ.j _,by simp⟩
 |a::L,n,p,hL,h=>by
  have⟨x,y,q,_,_,h1,h2,h3⟩:=h;have⟨k1,k2⟩:=yu (hL a (by simp)) (A _ h1).1 h2;have⟨k3,k4⟩:=Gb A L q p (λb z=>hL b (by simp[z])) h3;refine⟨k1.trans k3,λb z=>?_⟩;obtain rfl|z:=bE.1 z
  .rw[Fg (hL b (by simp)) (k2▸(A _ h1).1) k3,k2];exact h1
  .exact k4 b z
theorem FO(A:vE ar M):∀(L:List Am) (n p:fD),(∀a∈L,oF ar a)->jQ n p->(∀a∈L,(M (qb p a)).isSome=true)->∃q,rv M L n q/\jQ q p
 |[],n,p,_,he,_=>⟨n,rfl,he⟩
 |a::L,n,p,hL,he,h=>by have z:=h a (by simp);have⟨m,k1,k2⟩:=Ak (hL a (by simp)) (A _ z).1 he;have⟨q,k3,k4⟩:=FO A L m p (λb C=>hL b (by simp[C])) k2 (λb C=>h b (by simp[C]));exact⟨q,⟨_,_,m,(A _ z).2.x,(A _ z).2.y,z,k1,k3⟩,k4⟩
def yn{i:Nat}(h:i<aD L){a:Am}:a∈L↔a=L[i]\/a∈L.take i++L.drop (i+1):=by grind [List.take_append_drop,List.drop_eq_getElem_cons]
def Fw(C:vE ar M){L:List Am}(A:∀a∈L,oF ar a){g:Gd}(G:(M g).isSome=true){p:fD}(h:tW M L g p):L≠[]/\∀a∈L,(M (qb p a)).isSome=true:=by
 have⟨i,hi,h1,put,h2,h3⟩:=h;have z:(⟨(L[i]).j,g.x,g.y⟩:Gd)=g:=by rw[h1]
 have⟨k1,k2⟩:=yu (A _ (zm hi)) (z▸(C _ G).1) h2;have⟨k3,k4⟩:=Gb C _ _ _ (λb O=>A b ((yn hi).2 (aU O))) h3;refine⟨λe=>by rw[e] at hi;simp at hi,λa E=>?_⟩;rcases (yn hi).1 E with rfl|E
 .rwa[Fg (A _ (zm hi)) (by rw[k2,z];exact (C _ G).1) k3,k2,z]
 exact k4 a E
def Ik(G:vE ar M){L:List Am}(E:∀a∈L,oF ar a){p:fD}{a:Am}(z:a∈L)(h:∀a∈L,(M (qb p a)).isSome=true):∃q,tW M L (qb p a) q/\jQ q p:=by obtain⟨i,C,rfl⟩:=cI z;have⟨m,k1,k2⟩:=Ak (E _ z) (G _ (h _ z)).1 (Lx p);have⟨q,k3,k4⟩:=FO G (L.take i++L.drop (i+1)) m p (λb A=>E b ((yn C).2 (aU A))) k2 (λb A=>h b ((yn C).2 (aU A)));exact⟨q,⟨i,C,rfl,m,k1,k3⟩,k4⟩
structure uS(ar:ByteArray->Nat)(r:Rl):Prop where
 d:oF ar r.d
 n:∀a∈r.n,oF ar a
 j:∀t∈r.d.d,t.c=eB->∃a∈r.n,∃u∈a.d,u.c=eB/\u.d=t.d
def Iv(z:oF ar a){p:fD}(A:gN ar (qb p a)){u:Tm}(C:u∈a.d):fH p u≠eB/\(fH p u=(qb p a).x\/fH p u=(qb p a).y):=by grind [xJ,qb,fH,iM,iJ]
def wR(z:uS ar r){p:fD}(A:∀a∈r.n,gN ar (qb p a)){t:Tm}(E:t∈r.d.d):fH p t≠eB/\((t.c≠eB/\fH p t=t.c)\/∃a∈r.n,fH p t=(qb p a).x\/fH p t=(qb p a).y):=by
 by_cases h:t.c=eB
 .have⟨a,ha,u,hu,e1,e2⟩:=z.j t E h;have⟨k1,k2⟩:=Iv (z.n a ha) (A a ha) hu;have C:fH p t=fH p u:=by{grind [uv]};rw[C];exact⟨k1,aU ⟨a,ha,k2⟩⟩
 grind [sJ]
theorem Ai(E:∀r,ar r=1\/ar r=2\/ar r=0){r:Rl}(A:uS ar r)(h0:r.d.d≠[]){p:fD}(C:∀a∈r.n,gN ar (qb p a)):gN ar (qb p r.d):=by
 have z:=A.d.1;match ha:r.d.d,z with
 |[],_=>exact absurd ha h0
 |[t],z=>refine⟨?_,aS ⟨by show ar r.d.j=1;rw[<-z];rfl,by show iJ p r.d.d=eB;rw[ha];rfl⟩⟩;show iM p r.d.d≠eB;rw[ha];exact (wR A C (t:=t) (by rw[ha];simp)).1
 |[t,u],z=>refine⟨?_,aU ⟨by show ar r.d.j=2;rw[<-z];rfl,?_⟩⟩;{show iM p r.d.d≠eB;rw[ha];exact (wR A C (t:=t) (by rw[ha];simp)).1};{show iJ p r.d.d≠eB;rw[ha];exact (wR A C (t:=u) (by rw[ha];simp)).1}
 |t::u::v::l,z=>grind
def JU(C:uS ar r){q p:fD}(A:jQ q p)(z:∀a∈r.n,gN ar (qb q a)):qb p r.d=qb q r.d:=by
 have h:∀t∈r.d.d,fH p t=fH q t:=λt E=>AQ A (wR C z E).1;unfold qb;have G:iM p r.d.d=iM q r.d.d:=by unfold iM;split;{rfl};{grind}
 have M:iJ p r.d.d=iJ q r.d.d:=by unfold iJ;split;{grind};{rfl}
 rw[G,M]
def iZ(R:List Rl)(F:List (Gd×Int))(e:Int)(g:Gd):Prop:=
 ∀S:Gd->Prop,(∀x∈F,e<x.2->S x.1)->(∀r∈R,r.n≠[]->∀p:fD,(∀a∈r.n,S (qb p a))->S (qb p r.d))->S g
def iZ.f{R:List Rl}{x:Gd×Int}(C:x∈F)(A:e<x.2):iZ R F e x.1:=λS z _=>z x C A
theorem iZ.b{R:List Rl}(E:r∈R)(h0:r.n≠[]){p:fD}(h:∀a∈r.n,iZ R F e (qb p a)):iZ R F e (qb p r.d):=λS A z=>z r E h0 p (λa C=>h a C S A z)
structure rA(ar:ByteArray->Nat)(R:List Rl)(F:List (Gd×Int))(U:List Gd)(M:Gd->Option Int)(q:List (Gd×Int)):Prop where
 c:q.Pairwise (λa b=>a.2<=b.2)
 w:∀x∈q,∀g t,M g=aX t->x.2<=t
 y:vE ar M
 s:∀x∈q,gN ar x.1/\lZ x.1
 d:∀g t,M g=aX t->∀e,e<t->iZ R F e g
 f:∀x∈q,∀e,e<x.2->iZ R F e x.1
 v:∀x∈F,x∈q\/∃t,M x.1=aX t/\x.2<=t
 closed:∀r∈R,r.n≠[]->∀(p:fD) (e:Int),(∀a∈r.n,∃t,M (qb p a)=aX t/\e<t)->(∃t,M (qb p r.d)=aX t/\e<t)\/∃x∈q,x.1=qb p r.d/\e<x.2
 u:∃ks:List Gd,ks.Nodup/\(∀g,(M g).isSome=true↔g∈ks)/\∀g∈ks,g∈U
 j:∀x∈q,x.1∈U
def rA.i{R:List Rl}{U:List Gd}(hs:q.Pairwise (λa b=>a.2<=b.2))(A:∀x,x∈q↔x∈F)(C:∀x∈F,gN ar x.1/\lZ x.1)(E:∀x∈F,x.1∈U):rA ar R F U (λ_=>aY) q:=
 ⟨hs,λ_ _ _ _ h=>(by cases h),λ_ h=>(by cases h),λx z=>C x ((A x).1 z),λ_ _ h=>(by cases h),λx z e G=>iZ.f ((A x).1 z) G,λx z=>aS ((A x).2 z),λr _ h0 p e h=>(by
  have⟨a,ha⟩:=List.exists_mem_of_ne_nil _ h0;have⟨t,ht,_⟩:=h a ha
  cases ht),⟨[],dA,λg=>by simp,by simp⟩,λx z=>E x ((A x).1 z)⟩
def rA.o{R:List Rl}{U:List Gd}{x:Gd×Int}(h:rA ar R F U M (q++[x]))(G:(M x.1).isSome=true):rA ar R F U M q:=by
 have⟨t,ht⟩:=bL.1 G;have iz:=h.w x (by simp) _ _ ht;refine⟨(bH.1 h.c).1,λy z=>h.w y (by simp[z]),h.y,λy z=>h.s y (by simp[z]),h.d,λy z=>h.f y (by simp[z]),λy z=>?_,λr E h0 p e C=>?_,h.u,λy z=>h.j y (by simp[z])⟩
 .obtain A|A:=h.v y z;{grind};exact aU A
 obtain A|⟨y,z,A,O⟩:=h.closed r E h0 p e C
 .exact aS A
 grind
theorem Fc(z:h.j=g.j/\h.x=g.x/\h.y=g.y):h=g:=by cases g;cases h;simp at z ⊢;exact z
theorem vG(M:Gd->Option Int)(g:Gd)(e:Int):iK M g e g=aX e:=by grind [iK]
theorem w9(z:h≠g):iK M g e h=M h:=by grind [iK,Fc]
def Ao{t:Int}(z:iK M g e h=aX t):(h=g/\t=e)\/M h=aX t:=by grind [iK,Fc]
def yB(R:List Rl)(M:Gd->Option Int)(g:Gd)(h:Gd):Prop:=∃r∈R,∃p,tW M r.n g p/\h=qb p r.d/\M h=aY
def rA.l(eh:∀r,ar r=1\/ar r=2\/ar r=0){R:List Rl}(hR:∀r∈R,uS ar r/\r.d.d≠[]){F q:List (Gd×Int)}{U:List Gd}(hU:∀r∈R,r.n≠[]->∀p:fD,(∀a∈r.n,qb p a∈U/\gN ar (qb p a))->qb p r.d∈U)(ja:∀g∈U,lZ g){M:Gd->Option Int}{x:Gd×Int}(h:rA ar R F U M (q++[x]))(hx:M x.1=aY){hs:List Gd}(ev:∀g,g∈hs↔yB R (iK M x.1 x.2) x.1 g):rA ar R F U (iK M x.1 x.2) (q++hs.map (λg=>(g,x.2))):=by
 have Qqd:=λy z=>(bH.1 h.c).2.2 y z x (by simp);have Qoy:=h.s x (by simp);have Qmb:∀g t,iK M x.1 x.2 g=aX t->x.2<=t:=by intro g t C;obtain⟨_,rfl⟩|C:=Ao C;{grind};exact h.w x (by simp) _ _ C
 have O:vE ar (iK M x.1 x.2):=by intro g G;have⟨t,ht⟩:=bL.1 G;obtain⟨rfl,_⟩|C:=Ao ht;{exact Qoy};exact h.y g (by rw[C];rfl)
 have Qlc:∃ks:List Gd,ks.Nodup/\(∀g,(iK M x.1 x.2 g).isSome=true↔g∈ks)/\∀g∈ks,g∈U:=by have⟨ks,k1,k2,k3⟩:=h.u;refine⟨x.1::ks,bF.2 ⟨λhm=>(by grind),k1⟩,λg=>?_,λg G=>?_⟩;{by_cases e:g=x.1;{grind [vG]};{grind [w9]}};obtain rfl|G:=bE.1 G;{exact h.j x (by simp)};exact k3 g G
 have Qok:∀g,(iK M x.1 x.2 g).isSome=true->g∈U:=λg G=>by grind
 have em:∀g t,iK M x.1 x.2 g=aX t->∀e,e<t->iZ R F e g:=by intro g t C e he;obtain⟨rfl,rfl⟩|C:=Ao C;{exact h.f x (by simp) e he};exact h.d g t C e he
 have et:(iK M x.1 x.2 x.1).isSome=true:=by rw[vG];rfl
 have Qoi:∀g∈hs,gN ar g/\g∈U/\∀e,e<x.2->iZ R F e g:=by intro g G;obtain⟨r,E,p,h1,rfl,h2⟩:=(ev g).1 G;have⟨u1,u2⟩:=Fw O (hR r E).1.n et h1;refine⟨Ai eh (hR r E).1 (hR r E).2 (λa A=>(O _ (u2 a A)).1),hU r E u1 p (λa A=>⟨Qok _ (u2 a A),(O _ (u2 a A)).1⟩),λe he=>iZ.b E u1 (λa A=>?_)⟩;have⟨t,ht⟩:=bL.1 (u2 a A);exact em _ _ ht e (cM he (Qmb _ _ ht))
 have bu:∀y,y∈q++hs.map (λg=>(g,x.2))->y∈q\/(y.1∈hs/\y.2=x.2):=by grind
 refine⟨?_,?_,O,?_,em,?_,?_,?_,Qlc,?_⟩
 .refine bH.2 ⟨(bH.1 h.c).1,?_,λa A b hb=>?_⟩;{rw[List.pairwise_map];exact List.pairwise_of_forall (λ_ _=>Int.le_refl _)};{grind}
 .grind
 .intro y z;obtain z|⟨z,_⟩:=bu y z;{exact h.s y (by simp[z])};grind
 .intro y z e he;obtain z|⟨z,h2⟩:=bu y z;{exact h.f y (by simp[z]) e he};grind
 .intro y z;obtain h1|⟨t,h1,h2⟩:=h.v y z;{grind [vG]};grind [w9]
 .intro r E h0 p e hb;by_cases gg:∃a∈r.n,qb p a=x.1
  .have⟨a,A,g9⟩:=gg;have g3:∀a∈r.n,(iK M x.1 x.2 (qb p a)).isSome=true:=λa A=>by{grind};have gj:e<x.2:=by{grind [vG]};have⟨pq,C,Qn8⟩:=Ik O (hR r E).1.n A g3;rw[g9] at C;have⟨_,u2⟩:=Fw O (hR r E).1.n et C;have ij:=JU (hR r E).1 Qn8 (λa A=>(O _ (u2 a A)).1);cases hM:iK M x.1 x.2 (qb p r.d) with
   |some t=>exact aS ⟨t,rfl,cM gj (Qmb _ _ hM)⟩
   |none=>refine aU ⟨(qb p r.d,x.2),List.mem_append_right _ (bZ.2 ⟨_,(ev _).2 ⟨r,E,pq,C,ij,hM⟩,rfl⟩),rfl,gj⟩
  have g7:∀a∈r.n,∃t,M (qb p a)=aX t/\e<t:=λa A=>by{have⟨t,ht,aq⟩:=hb a A;rw[w9 (λe=>gg ⟨a,A,e⟩)] at ht;exact⟨t,ht,aq⟩};obtain⟨t,h1,h2⟩|⟨y,z,h1,h2⟩:=h.closed r E h0 p e g7;{grind [qb,w9]};grind [vG]
 intro y z;obtain z|⟨z,_⟩:=bu y z
 .exact h.j y (by simp[z])
 grind
structure kD(R:List Rl)(F:List (Gd×Int))(M:Gd->Option Int):Prop where
 c:∀g t,M g=aX t->∀e,e<t->iZ R F e g
 b:∀e g,iZ R F e g->∃t,M g=aX t/\e<t
def rA.n{R:List Rl}{U:List Gd}(h:rA ar R F U M []):kD R F M:=by
 refine⟨h.d,λe g hd=>?_⟩;refine hd (λg=>∃t,M g=aX t/\e<t) (λx E he=>?_) (λr C h0 p A=>?_)
 .obtain z|⟨t,z,O⟩:=h.v x E;{cases z};grind
 obtain z|⟨y,G,_⟩:=h.closed r C h0 p e A
 .exact z
 cases G
theorem kD.j{R:List Rl}{z:Gd->Option Int}(h:kD R F M)(C:kD R F' z)(E:∀e g,iZ R F e g↔iZ R F' e g):M=z:=by
 funext g;have O:∀{F F':List (Gd×Int)}{M z:Gd->Option Int},kD R F M->kD R F' z->(∀e g,iZ R F e g↔iZ R F' e g)->∀t,M g=aX t->∃A,z g=aX A/\t<=A:=by intro F F' M z h C E t G;have⟨A,h1,h2⟩:=C.b (t-1) g ((E _ _).1 (h.c g t G (t-1) (by lia)));exact⟨A,h1,by lia⟩
 cases hm:M g with
 |none=>
  cases hm':z g with
  |none=>rfl
  |some A=>grind
 |some t=>grind
theorem Cf:∀(ks U:List α),ks.Nodup->(∀g∈ks,g∈U)->aD ks<=aD U
 |[],U,_,_=>zz
 |k::ks,U,h,hs=>by
  obtain⟨A,B,rfl⟩:=List.append_of_mem (hs k (by simp))
  have:=Cf ks (A++B) (bF.1 h).2 (λg C=>by
   have z:=hs g (by simp[C]);have E:g≠k:=λe=>(bF.1 h).1 (e ▸ C);simp only[bJ,bE] at z ⊢;obtain z|z|z:=z
   .exact aS z
   .grind
   .exact aU z)
  simp at this ⊢;lia
def jG(rels NS:List ByteArray):List Gd:=rels.flatMap λr=>NS.flatMap λx=>(eB::NS).map λy=>⟨r,x,y⟩
def qY:g∈jG rels NS↔g.j∈rels/\g.x∈NS/\(g.y=eB\/g.y∈NS):=by grind [jG]
theorem Gk{β:Type}(f:α->List β)(k:Nat):∀l:List α,(∀a∈l,aD (f a)=k)->aD (l.flatMap f)=aD l*k
 |[],_=>by simp
 |a::l,h=>by rw[List.flatMap_cons,bG,h a (by simp),Gk f k l (λb z=>h b (by simp[z])),bX,bT,bU,Nat.add_comm]
def ML(rels NS:List ByteArray):aD (jG rels NS)=aD rels*(aD NS*(aD NS+1)):=by grind [jG,Gk]
def E9{R:List Rl}(G:∀r∈R,uS ar r/\r.d.d≠[])(hrel:∀r∈R,r.d.j∈rels)(ix:∀r∈R,∀t∈r.d.d,t.c≠eB->t.c∈NS):∀r∈R,r.n≠[]->∀p:fD,(∀a∈r.n,qb p a∈jG rels NS/\gN ar (qb p a))->qb p r.d∈jG rels NS:=by
 intro r E _ p M;have z:∀t∈r.d.d,fH p t∈NS:=by intro t O;obtain⟨h1,⟨A,h3⟩|⟨a,C,A⟩⟩:=wR (G r E).1 (λa C=>(M a C).2) O;{grind};have⟨k1,k2,k3⟩:=qY.1 (M a C).1;obtain A|A:=A;{grind};grind
 rw[qY];refine⟨hrel r E,?_,?_⟩
 .show iM p r.d.d∈NS;have h0:=(G r E).2;revert z h0;cases r.d.d with
  |nil=>intro _ h;exact absurd rfl h
  |cons t l=>intro h _;exact h t (by simp)
 show iJ p r.d.d=eB\/iJ p r.d.d∈NS;revert z;cases r.d.d with
 |nil=>intro _;exact aS rfl
 |cons t l=>
  intro h;cases l with
  |nil=>exact aS rfl
  |cons u l=>exact aU (h u (by simp))
def JM(A:∀r∈rels,r.size<=maxLen)(C:∀x∈NS,x.size<=maxLen):∀g∈jG rels NS,lZ g:=by
 intro g E;have⟨k1,k2,z⟩:=qY.1 E;refine⟨A _ k1,C _ k2,?_⟩;obtain z|z:=z
 .rw[z];exact zz
 grind
def iZ.d{R:List Rl}(h:∀x,e<x.2->(x∈F↔x∈F'))(g:Gd):iZ R F e g↔iZ R F' e g:=
 ⟨λhd S A C=>hd S (λx E z=>A x ((h x z).1 E) z) C,λhd S A C=>hd S (λx E z=>A x ((h x z).2 E) z) C⟩
def kD.d{R:List Rl}(h:kD R F M){g:Gd}{t:Int}(C:M g=aX t):∃x∈F,x.2=t:=by
 refine Classical.byContradiction λG=>?_
 have hd:iZ R F t g:=(iZ.d (R:=R) (F:=F) (F':=F) (e:=t) (λx _=>Iff.rfl) g).1 (λS z A=>h.c g t C (t-1) (by omega) S (λx E O=>z x E (by
  have:x.2≠t:=λe=>G ⟨x,E,e⟩
  omega)) A)
 have⟨t',z,A⟩:=h.b t g hd;rw[C] at z;cases z;omega
attribute [local go_sem] Oper.semAt_some
def IP(B:Nat)(v:Vq)(g:Gd)(w:Wq)(A:Option Addr)(E C:Nat)(z:v=aJ A E C):Cs 138 #[.map (aX B),v,g.v] w λe w'=>e=aQ (.func (.func 189) #[] #[Pt (w.heap.size+1),Pt w.heap.size,Pt (w.heap.size+2)])/\
   w'=((w.alloc (aP #[.map (aX B)] 98)).alloc (aP #[v] 75)).alloc (aP g.c 111):=by subst z;unfold Gd.v Gd.c;go_enter Tryz.func138,Tryz.ntmps138;go_wp2;go_ret;exact⟨rfl,rfl⟩
def vU(R:List Rl)(M:Gd->Option Int)(g:Gd)(k:Nat)(h:Gd):Prop:=∃i,∃hi:i<aD R,i<k/\∃p,tW M (R[i]).n g p/\h=qb p (R[i]).d/\M h=aY
def Jb(R:List Rl)(M:Gd->Option Int)(g h:Gd):vU R M g (aD R) h↔yB R M g h:=by
 constructor
 .rintro⟨i,z,_,p,A⟩;exact⟨_,List.getElem_mem z,p,A⟩
 rintro⟨r,C,p,A⟩;obtain⟨i,z,rfl⟩:=cI C;exact⟨i,z,z,p,A⟩
def L4{R:List Rl}(E:k<aD R):vU R M g (k+1) h↔vU R M g k h\/∃p,tW M (R[k]).n g p/\h=qb p (R[k]).d/\M h=none:=by
 constructor
 .rintro⟨i,A,C,z⟩;by_cases e:i=k;{grind};{exact aS ⟨i,A,by lia,z⟩}
 rintro (⟨i,A,C,z⟩|z);{exact⟨i,A,by lia,z⟩};{exact⟨k,E,by lia,z⟩}
structure xX(Bl Bm Bg B nn rb al ac:Nat)(M:Gd->Option Int)(v:Vq)(R:List Rl)(g:Gd)(W:Wq):Prop where
 d:W.heap[Bl]?=cC #[v] 75
 j:W.heap[Bm]?=cC #[.map (aX B)] 98
 b:W.heap[Bg]?=aX (aP g.c 111)
 u:Qq W rb al ac v R
 C:gH W B nn M
def xX.i{A C:Nat}{v:Vq}{R:List Rl}(h:xX A Bm Bg B nn C al ac M v R g W)(z:qr m W W'):xX A Bm Bg B nn C al ac M v R g W':=
 ⟨z.i _ _ _ (by grind [gI]) h.d,z.i _ _ _ (by grind [gI]) h.j,z.i _ _ _ (by grind [gI]) h.b,h.u.E (λk c t G E=>z.i k c t (by grind [gI]) E),h.C.mk z⟩
structure Cq(r:Rl):Prop where
 n:A2 r.n
 I:aD r.n<=3
 d:aD r.d.d<=2
 f:∀t∈r.d.d,t.d<6
 j:r.d.j.size<=maxLen
 c:∀t∈r.d.d,t.c.size<=maxLen
def nH(nn:Nat):Nat:=3*(nn+1) ^ 2
def JX(A:aD L<=3)(nn:Nat):aD L*nn ^ (aD L-1)<=nH nn:=by
 unfold nH;have z:aD L=0\/aD L=1\/aD L=2\/aD L=3:=by lia
 obtain h|h|h|h:=z<;>rw[h]
 .simp
 .grind
 .grind
 grind
def Le(n0 Bl Bm Bg B nn rb al ac:Nat)(M:Gd->Option Int)(v:Vq)(R:List Rl)(g:Gd)(w:Wq)(cf:xX Bl Bm Bg B nn rb al ac M v R g w)(db:∀r∈R,Cq r)(h8:aD R<=8)(G:lZ g)(m:Nat):iW m n0 189 #[Pt Bl,Pt Bm,Pt Bg] (λx:zB=>#[x.1.v]) (qr m)
   (λhs=>(∀h,h∈hs.map (·.1)↔yB R M g h)/\aD hs<=aD R*nH nn) (λ_=>True) (aD R*nH nn) w:=by
 obtain⟨n,hn⟩:∃n,12<=n:=⟨12,cR _⟩;refine iW.c (n:=n) ?_ n0;have n1:1<=n:=by lia
 have n3:1<=n-1-1:=by lia
 intro l J Jx W hW c8 hJ cp hY h0;have bb:=cf.i (qr.d (m:=m) hW);clear cf hW;have⟨va,vc,hv⟩:=bb.u.c;subst hv;have av:=aA bb;have HY:=aA hY;have HJ:=aA hJ;have HJx:=aA cp;have H0:=aA h0;have ag:=λO=>(bD _ W).l zl O;have e1:∀O,aE (W.alloc O) (Ad Bl 0)=aX (aJ va (aD R) vc):=λO=>dF (ag O) (by have:=bb.d;simp[aE,this]);clear hY hJ cp h0 bb ag;refine dL Tryz.func189 rfl trivial ?_ rfl;simp only[Tryz.ntmps189,cO,bX,cU,dB,dC,cD,cE,cP,cH,cW,cT];gi_wp2;obtain⟨N,hN⟩:=aC W.heap.size;obtain⟨W1,ax⟩:=aC (W.alloc (aP #[.func (.yield l) #[] #[]] 181));have b5:dD W.heap.size W W1:=ax▸(bD _ W).alloc zl _
 have ib:W1.heap.size=N+1:=by rw[<-ax,<-hN];simp
 have bY:W1.heap[N]?=cC #[.func (.yield l) #[] #[]] 181:=by rw[<-ax,<-hN];exact zn W _
 have cl:=(av.o).i (qr.d (m:=m) b5);have co:=HJ.o _ _ _ aY H0.o (qi b5) (λr e=>by cases e);have iq:m<=N:=by lia
 rw[hN] at HJ HJx;simp only[hN];rw[ax];clear ax e1 av H0 b5 hN c8;have av:=aA cl;have dr:=aA bY;clear cl bY;refine wpIn_loop (λA V=>∃(k:Nat)(ds:List Nat)(E:List zB)(u6 ey fj fy cj ca ck cc b8:Vq),A={tmps:=#[.func (.yield l) #[] #[],Pt Bl,Pt Bm,Pt Bg,Pt N,aZ,u6,aZ,aZ,aJ va (aD R) vc,Ii (aD R),Ii k,ey,fj,fy,cj,ca,ck,cc,aZ,aZ,aZ,aZ,aZ,aZ,aZ,aZ,aZ,aZ,aZ,aZ,aZ,aZ,aZ,b8],defers:=nL ds}/\k<=aD R/\J E V/\iR (N+1) ds V/\qr m W1 V/\Hid ((∀h,h∈E.map (·.1)↔vU R M g k h)/\aD E<=k*nH nn)) (λA _=>aD R-(intOf (A.tmps.getD 11 aZ)).toNat) ⟨0,[],[],_,_,_,_,_,_,_,_,_,rfl,zz,co,iR.j _ _,qr.d zr,⟨λh=>by simp[vU],by simp⟩⟩ ?_;rintro A V ⟨k,ds,E,u6,ey,fj,fy,cj,ca,ck,cc,b8,rfl,hk,bk,aw,bd,ad⟩;clear co;have ap:=(av.o).i bd;by_cases aq:k<aD R
 .have⟨gb,c,v0,vb,e0,x0,x1,x2,dl,dz⟩:=sY ap.u aq;cases e0;have⟨fa,fc,ik⟩:=dl.c;have⟨ga,gc,ii⟩:=gP.c dz;subst ik ii;have eg:=db _ (zm aq);have Qf9:=λh=>L4 (M:=M) (g:=g) (h:=h) aq;generalize hxk:R[k]=rk at *;have ag:=λO=>(bD _ V).l zl O;have ay:=ap.b;unfold Gd.c at ay;have z0:∀O,aE (V.alloc O) (Ad Bg 0)=aX (St g.j):=λO=>dF (ag O) (by simp[aE,ay]);have z1:∀O,aE (V.alloc O) (Ad Bg 1)=aX (St g.x):=λO=>dF (ag O) (by simp[aE,ay]);have z2:∀O,aE (V.alloc O) (Ad Bg 2)=aX (St g.y):=λO=>dF (ag O) (by simp[aE,ay]);have zm:∀O,aE (V.alloc O) (Ad Bm 0)=aX (.map (aX B)):=λO=>dF (ag O) (by have:=ap.j;simp[aE,this]);have f9:Hid (∀W,Cs 190 #[.map (aX B),aL #[St rk.d.j,aJ fa (aD rk.d.d) fc,aJ ga (aD rk.n) gc],aL #[St g.j,St g.x,St g.y]] W λe w'=>e=aQ (.func (.func 229) #[] #[Pt (W.heap.size+1),Pt (W.heap.size+2),Pt W.heap.size])/\w'=((W.alloc (aP #[.map (aX B)] 98)).alloc (aP #[St rk.d.j,aJ fa (aD rk.d.d) fc,aJ ga (aD rk.n) gc] 136)).alloc (aP #[St g.j,St g.x,St g.y] 111)):=λW=>Mb B _ _ _ g W _ _ _ rfl _ _ _ rfl;have cx:=aA ap;have ie:=aA dl;have hw:=aA dz;have g6:=aA Qf9;have b3:=aA eg;clear ag ay ap dl dz Qf9 eg hxk;gi_wp2_with (refine⟨trivial,?_⟩;gi_at_call 190;refine (dE.2 (f9.o _)).mono ?_;rintro e w' ⟨rfl,rfl⟩);obtain⟨C,au⟩:=aC V.heap.size;obtain⟨W5,aj⟩:=aC ((((V.alloc (aP #[St rk.d.j,aJ fa (aD rk.d.d) fc,aJ ga (aD rk.n) gc] 136)).alloc (aP #[.map (aX B)] 98)).alloc (aP #[St rk.d.j,aJ fa (aD rk.d.d) fc,aJ ga (aD rk.n) gc] 136)).alloc (aP #[St g.j,St g.x,St g.y] 111));have b0:dD V.heap.size V W5:=aj▸((((bD _ V).alloc zl _).alloc (by simp) _).alloc (by simp;omega) _).alloc (by simp;omega) _;have gu:W5.heap.size=C+4:=by{rw[<-aj,<-au];simp};have eR:W5.heap[C]?=cC #[St rk.d.j,aJ fa (aD rk.d.d) fc,aJ ga (aD rk.n) gc] 136:=by{rw[<-aj,<-au];exact (bB _ _ _ (by simp;lia)).t ((bB _ _ _ (by simp;lia)).t ((bB _ _ _ (by simp)).t (zn V _)))};have eM:W5.heap[C+1]?=cC #[.map (aX B)] 98:=by{rw[<-aj,<-au];refine (bB _ _ _ (by simp)).t ((bB _ _ _ (by simp)).t ?_);have:=zn (V.alloc (aP #[St rk.d.j,aJ fa (aD rk.d.d) fc,aJ ga (aD rk.n) gc] 136)) (aP #[.map (aX B)] 98);rwa[bC] at this};have eS:W5.heap[C+1+1]?=cC #[St rk.d.j,aJ fa (aD rk.d.d) fc,aJ ga (aD rk.n) gc] 136:=by{rw[<-aj,<-au];refine (bB _ _ _ (by simp)).t ?_;have:=zn ((V.alloc (aP #[St rk.d.j,aJ fa (aD rk.d.d) fc,aJ ga (aD rk.n) gc] 136)).alloc (aP #[.map (aX B)] 98)) (aP #[St rk.d.j,aJ fa (aD rk.d.d) fc,aJ ga (aD rk.n) gc] 136);rwa[bC,bC] at this};have eG:W5.heap[C+1+2]?=aX (aP g.c 111):=by{rw[<-aj,<-au];have:=zn (((V.alloc (aP #[St rk.d.j,aJ fa (aD rk.d.d) fc,aJ ga (aD rk.n) gc] 136)).alloc (aP #[.map (aX B)] 98)).alloc (aP #[St rk.d.j,aJ fa (aD rk.d.d) fc,aJ ga (aD rk.n) gc] 136)) (aP #[St g.j,St g.x,St g.y] 111);rwa[bC,bC,bC] at this};have be:∀m',qr m' V W5:=λm'=>qr.d b0;have h9:=(cx.o).i (be m);have ig:wK (C+1) (C+1+1) (C+1+2) B nn al ac M rk.d.j (aJ fa (aD rk.d.d) fc) (aJ ga (aD rk.n) gc) rk.n g W5:=⟨eM,eS,eG,gP.o hw.o (λk c _ hc=>(be 0).i k c _ (by unfold gI;decide) hc) (λk c _ hc=>(be 0).i k c _ (by unfold gI;decide) hc),h9.C⟩;have Qno:=Qg.mk ie.o (be 0);have eb:J (E++[]) W5:=by{rw[cZ];exact HJ.o _ _ _ aY bk (qi b0) (λr e=>by cases e)};have ih:=KD (n-1) (C+1) (C+1+1) (C+1+2) B nn al ac M rk.d.j (aJ fa (aD rk.d.d) fc) (aJ ga (aD rk.n) gc) rk.n g W5 ig b3.o.n b3.o.I G (W5.heap.size+2);have cq:=bd.g (qr.d b0);have cd:=aw.f b0;have a8:=cd.lt;have gq:N+1<=W5.heap.size:=by{have:=cq.f.size;lia};have Qd7:=JX b3.o.I nn;simp only[au];rw[aj];clear aj f9 z0 z1 z2 zm x0 x1 x2;refine ui (n:=n) (gf:=229) (lb:=#[Pt (C+1+1),Pt (C+1+2),Pt (C+1)]) rfl (enters_of Tryz.func229 (by kernel_rfl) rfl)
   ih qr.g (λV' im o' ho=>qr.H V' _ _ o' (by lia) ho rfl (λ_ _ h=>by cases h)) (λ_=>rfl)
   (λpre V2=>∃ae:List zB,J (E++ae) V2/\ae.map (·.1)=(pre.map (λp=>qb p.1 rk.d)).filter (λh=>(M h).isNone)/\qr m W1 V2/\iR (N+1) ds V2/\qr (W5.heap.size+2) W5 V2)
   (λc pre V2=>c=.ret/\(∃zs,Jx zs V2)/\iR (N+1) ds V2)
   ?hI2 ?hIx2 ⟨[],eb,rfl,cq,cd,qr.d zr⟩
   (λx a' V2=>∃Bx,V2.heap[Bx]?=aX (aP x.1.c 176)/\a'={tmps:=#[.func (.yield l) #[] #[],Pt Bl,Pt Bm,Pt Bg,Pt N,aZ,Pt C,Pt Bx,aZ,Sc gb (aD R) vc,Ii (aD R),Ii k,aM true,.pointer (aX ⟨gb,k*3,aY⟩),aL #[St rk.d.j,aJ fa (aD rk.d.d) fc,aJ ga (aD rk.n) gc],.map (aX B),aL #[St rk.d.j,aJ fa (aD rk.d.d) fc,aJ ga (aD rk.n) gc],aL #[St g.j,St g.x,St g.y],.func (.func 229) #[] #[Pt (C+1+1),Pt (C+1+2),Pt (C+1)],aL #[St x.1.g,St x.1.h,St x.1.i,St x.1.j,St x.1.o,St x.1.q],aZ,aZ,aZ,aZ,aZ,aZ,aZ,aZ,aZ,aZ,aZ,aZ,aZ,aZ,b8],defers:=[]})
   ?hAx2 ?assign2 ?body2 ?done2 ?stop2
  case hI2=>rintro ab X X' row ⟨ae,j1,j0,j2,j3,j4⟩ G hr;exact⟨ae,HJ.o _ _ _ row j1 G (λr e=>⟨by have:=(hr r e).1;lia,(hr r e).2⟩),j0,j2.z G (λr e=>by have:=(hr r e).1;lia),j3.o G (λr e=>(hr r e).1) a8,j4.z G (λr e=>(hr r e).1)⟩
  case hIx2=>rintro c ab X X' row ⟨rfl,⟨zs,j1⟩,j3⟩ G hr;exact⟨rfl,⟨zs,HJx.o _ _ _ row j1 G (λr e=>⟨by have:=(hr r e).1;lia,(hr r e).2⟩)⟩,j3.o G (λr e=>(hr r e).1) a8⟩
  case hAx2=>rintro x2 a' _ X X' row ⟨Bx,q2,q3⟩ G hr;exact⟨Bx,qn G (λr e=>(hr r e).2) _ _ _ _ q2,q3⟩
  case assign2=>rintro l2 ab x2 X K d1 c5 ⟨ae,j1,j0,j2,j3,j4⟩ hK;have HK:=aA hK;clear hK;unfold fD.v fD.c;gi_wp2;have af:dD X.heap.size X (X.alloc (aP #[St x2.1.g,St x2.1.h,St x2.1.i,St x2.1.j,St x2.1.o,St x2.1.q] 176)):=(bD _ X).l zl _;exact HK.o _ _ (KeepsFrom.d af) (qr.d af) ⟨ae,HJ.o _ _ _ aY j1 (qi af) (λr e=>by cases e),j0,j2.g (qr.d af),j3.f af,j4.g (qr.d af)⟩ ⟨X.heap.size,zn X _,rfl⟩
  case done2=>rintro D xs X hD ⟨s1,s2⟩ ⟨ae,j1,j0,j2,j3,j4⟩ hK;have d6:Hid ((∀h,h∈(E++ae).map (·.1)↔vU R M g (k+1) h)/\aD (E++ae)<=(k+1)*nH nn):=by{refine⟨λh=>?_,?_⟩;{rw[bI,bJ,ad.o.1,g6.o,j0,List.mem_filter,bZ];constructor;{rintro (h1|⟨⟨p,hp,rfl⟩,h2⟩);{exact aS h1};{exact aU ⟨p.1,(s1 p.1).1 (bZ.2 ⟨p,hp,rfl⟩),rfl,by simpa using h2⟩}};rintro (h1|⟨p,h1,rfl,h2⟩);{exact aS h1};{obtain⟨q,hq,rfl⟩:=bZ.1 ((s1 p).2 h1);exact aU ⟨⟨q,hq,rfl⟩,by simpa using h2⟩}};have e1:=congrArg aD j0;rw[bQ] at e1;have e2:=cA (λh=>(M h).isNone) (xs.map (λp=>qb p.1 rk.d));rw[bQ] at e2;have e3:=ad.o.2;rw[bG,bT,bU];lia};have bi:D∉ds:=λh=>by{have:=a8 D h;lia};have a6:Hid _:=j3.cons (D:=D) (by lia) hK bi;clear ad s1 s2 j0;gi_wp2;refine⟨⟨k+1,D::ds,E++ae,_,_,_,_,_,_,_,_,_,rfl,by lia,j1,a6.o,j2,d6.o⟩,?_⟩;simp[intOf];lia
  case stop2=>rintro D c pre X hD _ ⟨rfl,hz,j3⟩ hK;have bi:D∉ds:=λh=>by{have:=a8 D h;lia};have a6:Hid _:=j3.cons (D:=D) (by lia) hK bi;have HZ:=aA hz;clear ad hz;gi_wp2;show dJ dG n dH _ _ _ (nL (D::ds)) .returning X;refine xm (X:=λV=>∃zs,Jx zs V) (B:=N) (λ_ A B row hs G hr=>by have⟨zs,hz⟩:=hs;exact⟨zs,HJx.o zs A B row hz G hr⟩) (D::ds) X a6.o.s (λD' bh=>⟨by have:=(a6.o.c D' bh).1;omega,(a6.o.c D' bh).2⟩) HZ.o (λW' hx=>?_);have⟨zs,hz⟩:=hx;exact⟨_,dK rfl _ _ _,⟨_,rfl⟩,aU ⟨zs,trivial,hz⟩⟩
  rintro l2 ab x a' X d1 ⟨gt,c7⟩ ⟨ae,j1,j0,j2,j3,j4⟩ ⟨Bx,gz,rfl⟩ fz;have c0:=j4.i _ _ _ (by unfold gI;decide) eR;have dg:=(av.o.i j2).j;have Qhw:=(av.o.i j2).C;have c4:=j2.i _ _ _ (by unfold gI;decide) dr.o;have de:Qg X ac (aJ fa (aD rk.d.d) fc) rk.d.d:=Qg.mk Qno j4;have jb:aE X (Ad C 0)=aX (St rk.d.j):=zc c0;have i0:aE X (Ad C 1)=aX (aJ fa (aD rk.d.d) fc):=zc c0;have a9:=gz;unfold fD.c at a9;have q0:aE X (Ad Bx 0)=aX (St x.1.g):=zc a9;have q1:aE X (Ad Bx 1)=aX (St x.1.h):=zc a9;have q2:aE X (Ad Bx 2)=aX (St x.1.i):=zc a9;have q3:aE X (Ad Bx 3)=aX (St x.1.j):=zc a9;have q4:aE X (Ad Bx 4)=aX (St x.1.o):=zc a9;have q5:aE X (Ad Bx 5)=aX (St x.1.q):=zc a9;have bf:lZ (qb x.1 rk.d):=CW x.2 b3.o.j b3.o.c;have gi:Hid (Cs 89 #[aL #[St x.1.g,St x.1.h,St x.1.i,St x.1.j,St x.1.o,St x.1.q],aL #[St rk.d.j,aJ fa (aD rk.d.d) fc]] X λe w'=>e=aQ (aL #[St (qb x.1 rk.d).j,St (qb x.1 rk.d).x,St (qb x.1 rk.d).y])/\dD X.heap.size X w'):=A3 x.1 rk.d _ ac X de b3.o.d b3.o.f;have c9:Hid (∀(z:Wq) (O:Obj),dD X.heap.size X z->dD X.heap.size X (z.alloc O)):=λz O hb=>hb.l hb.s O;have fo:Hid (∀z O,dD X.heap.size X z->aE (z.alloc O) (Ad Bm 0)=aX (.map (aX B))):=λz O hb=>dF (c9.o z O hb) (by simp[aE,dg]);have ct:Hid (∀z O,dD X.heap.size X z->Cs 136 #[.map (aX B),aL #[St (qb x.1 rk.d).j,St (qb x.1 rk.d).x,St (qb x.1 rk.d).y]] (z.alloc O) λe w'=>e=aQ (aM (M (qb x.1 rk.d)).isSome)/\dD (z.alloc O).heap.size (z.alloc O) w'):=λz O hb=>BX B nn M (qb x.1 rk.d) bf (z.alloc O) (Qhw.mk (qr.d (m:=m) (c9.o z O hb)));have ci:aD (E++ae)<aD R*nH nn:=by{have e1:=congrArg aD j0;rw[bQ] at e1;have e2:=cA (λh=>(M h).isNone) (ab.map (λp=>qb p.1 rk.d));rw[bQ] at e2;have e3:=ad.o.2;have e4:(k+1)*nH nn<=aD R*nH nn:=bO _ (by omega);rw[bT,bU] at e4;rw[bG];omega};have ed:Hid (∀X3,dD X.heap.size X X3->YieldAt dG (n-1) dH l #[aL #[St (qb x.1 rk.d).j,St (qb x.1 rk.d).x,St (qb x.1 rk.d).y]] X3 λe W'=>∃b:Bool,e=aQ (aM b)/\((b=true/\J ((E++ae)++[uB (qb x.1 rk.d) bf]) W'/\qr m X W')\/(b=false/\Jx ((E++ae)++[uB (qb x.1 rk.d) bf]) W'/\KeepsFrom m X W'))):=by{intro X3 hb;have⟨fn,tmps,assign,body,hy,hR⟩:=HY.o (E++ae) (uB (qb x.1 rk.d) bf) X3 (HJ.o _ _ _ aY j1 (qi hb) (λr e=>by cases e)) ci;refine⟨fn,tmps,assign,body,hy,hR.mono ?_⟩;rintro e W' (⟨rfl,k1,k2⟩|⟨rfl,k1,k2⟩);{exact⟨true,rfl,aS ⟨rfl,k1,(qr.d hb).g k2⟩⟩};{exact⟨false,rfl,aU ⟨rfl,k1,KeepsFrom.g (KeepsFrom.d hb) k2⟩⟩}};have b9:Hid (((ab++[x]).map (λp=>qb p.1 rk.d)).filter (λh=>(M h).isNone)=ae.map (·.1)++(if (M (qb x.1 rk.d)).isNone=true then [qb x.1 rk.d] else [])):=by{show _=_;rw[bI,List.filter_append,j0];congr 1;show List.filter _ [qb x.1 rk.d]=_;rw[List.filter_cons,List.filter_nil]};have e9:Hid (∀X3,dD X.heap.size X X3->aE X3 (Ad N 0)=aX (.func (.yield l) #[] #[])):=λX3 hb=>dF hb (by simp[aE,c4]);have en:Hid (∀(z X3:Wq),dD (z.alloc (aP #[St (qb x.1 rk.d).j,St (qb x.1 rk.d).x,St (qb x.1 rk.d).y] 111)).heap.size (z.alloc (aP #[St (qb x.1 rk.d).j,St (qb x.1 rk.d).x,St (qb x.1 rk.d).y] 111)) X3->aE X3 (Ad z.heap.size 0)=aX (St (qb x.1 rk.d).j)/\aE X3 (Ad z.heap.size 1)=aX (St (qb x.1 rk.d).x)/\aE X3 (Ad z.heap.size 2)=aX (St (qb x.1 rk.d).y)):=by{intro z X3 hb;have hh:=(hb.b z.heap.size (by simp)).t (zn z _);refine⟨?_,?_,?_⟩<;>simp[aE,hh]};have fl:Hid (∀(z:Wq) (O:Obj) (X3:Wq),dD X.heap.size X z->dD (z.alloc O).heap.size (z.alloc O) X3->dD X.heap.size X X3):=λz O X3 h1 h2=>(c9.o z O h1).t (h2.m (by have:=h1.s;simp;omega));cases hMh:M (qb x.1 rk.d) with
  |some t=>have dv:Hid (((ab++[x]).map (λp=>qb p.1 rk.d)).filter (λh=>(M h).isNone)=ae.map (·.1)):=by{show _=_;rw[b9.o,hMh];simp};rw[hMh] at ct;clear hMh b9 ed e9 en ci a9 c0 dg Qhw c4 de j0 ad;generalize hGr:(qb x.1 rk.d).j=gr at *;generalize hGx:(qb x.1 rk.d).x=gx at *;generalize hGy:(qb x.1 rk.d).y=gy at *;clear hGr hGx hGy;gi_wp2_with (first|(refine⟨trivial,?_⟩;gi_at_call 89;refine (dI l2 (dE.2 gi.o)).mono ?_;rintro e z ⟨rfl,b4⟩;have km:=λO=>fo.o z O b4)|(refine⟨trivial,?_⟩;gi_at_call 136;refine (dI l2 (dE.2 (ct.o z _ b4))).mono ?_;rintro e X3 ⟨rfl,cu⟩));refine⟨λf h=>(by cases h),?_⟩;gi_wp2;have ah:=fl.o z _ X3 b4 cu;exact⟨KeepsFrom.d ah,qr.d ah,ae,HJ.o _ _ _ aY j1 (qi ah) (λr e=>by cases e),dv.o.s,j2.g (qr.d ah),j3.f ah,j4.g (qr.d ah)⟩
  |none=>have dv:Hid (((ab++[x]).map (λp=>qb p.1 rk.d)).filter (λh=>(M h).isNone)=(ae++[uB (qb x.1 rk.d) bf]).map (·.1)):=by{show _=_;rw[b9.o,hMh,bI];rfl};rw[hMh] at ct;have Qpj:Hid (∀X3,dD X.heap.size X X3->YieldAt dG (n-1) dH l #[aL #[St (qb x.1 rk.d).j,St (qb x.1 rk.d).x,St (qb x.1 rk.d).y]] X3 λe W'=>∃b:Bool,e=aQ (aM b)/\((b=true/\J (E++(ae++[uB (qb x.1 rk.d) bf])) W'/\qr m X W')\/(b=false/\Jx (E++(ae++[uB (qb x.1 rk.d) bf])) W'/\KeepsFrom m X W'))):=by{have:=ed.o;rw[cQ] at this;exact this};generalize ae++[uB (qb x.1 rk.d) bf]=c3 at *;clear hMh b9 ed ci a9 c0 dg Qhw c4 de j0 ad;generalize hGr:(qb x.1 rk.d).j=gr at *;generalize hGx:(qb x.1 rk.d).x=gx at *;generalize hGy:(qb x.1 rk.d).y=gy at *;clear hGr hGx hGy;gi_wp2_with (first|(refine⟨trivial,?_⟩;gi_at_call 89;refine (dI l2 (dE.2 gi.o)).mono ?_;rintro e z ⟨rfl,b4⟩;have km:=λO=>fo.o z O b4)|(refine⟨trivial,?_⟩;gi_at_call 136;refine (dI l2 (dE.2 (ct.o z _ b4))).mono ?_;rintro e X3 ⟨rfl,cu⟩;have ah:=fl.o z _ X3 b4 cu;have iy:=e9.o X3 ah;have⟨g0,g1,g2⟩:=en.o z X3 cu;have⟨fn,tmps,assign,body,hy,hR⟩:=Qpj.o X3 ah));refine (vF hR).mono ?_;rintro e X' ⟨b,rfl,⟨rfl,dy,ai⟩|⟨rfl,bq,ai⟩⟩;{clear hy hR;gi_wp2;exact⟨KeepsFrom.h ai.f (by lia),ai.h (by lia),c3,dy,dv.o.s,j2.g ai,j3.b ai.f (by lia),j4.g (ai.h (by lia))⟩};clear hy hR;gi_wp2;exact⟨KeepsFrom.h ai (by lia),rfl,⟨_,bq⟩,j3.b ai (by lia)⟩
 have d8:k=aD R:=by{lia};subst d8;have Qd:Hid ((∀h,h∈E.map (·.1)↔yB R M g h)/\aD E<=aD R*nH nn):=⟨λh=>(ad.o.1 h).trans (Jb R M g h),ad.o.2⟩;clear ad ap;gi_wp2;show dJ dG n dH _ _ _ (nL ds) .returning V;refine xm (X:=J E) (B:=N) (λ_ A B row hs G hr=>HJ.o E A B row hs G hr) ds V aw.s (λD hD=>⟨by have:=(aw.c D hD).1;lia,(aw.c D hD).2⟩) bk (λW' hx=>?_);exact⟨_,dK rfl _ _ _,⟨_,rfl⟩,aS ⟨E,Qd.o,hx⟩⟩
