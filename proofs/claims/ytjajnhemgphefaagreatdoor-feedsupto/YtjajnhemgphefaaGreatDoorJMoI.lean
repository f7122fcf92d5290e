/- A part -/
import Derived.Test.YtjajnhemgphefaaGreatDoorJDel
set_option linter.all false
set_option maxRecDepth 100000
set_option maxHeartbeats 16000000
open List renaming length->aB,nodup_cons->bB,mem_append->bC,mem_of_mem_take->bE,mem_of_mem_drop->bF,mem_cons->bG,getElem?_take->bH,getElem?_drop->bI,length_append->bJ,not_mem_nil->bL,map_append->bO,of_mem_zip->bQ
open Go.World renaming cell?->aC,ownsRow->aE,size_alloc->aZ
open Go.Value renaming slice->aH,agg->aJ,bool->aK,tuple->aL
open Go.Obj renaming cells->aN
open Go.Ending renaming returned->aO
open Go.IntKind renaming i64->aP
open Or renaming inl->aQ,inr->aR
open Option renaming some->aV,none->aW
open Go.RowKit.Below renaming refl->aX,heap_alloc->aY
open Nat renaming mul_le_mul_right->bD,le_refl->bT,add_mul->bU,one_mul->bX
open Go renaming callsIn_wide->bZ,cell_later->cD,LeavesInM->cE
open Go.RowKit renaming Below->cA
namespace Go.Proofs.YtjajnhemgphefaaGreatDoor
open Go renaming World->Wq,Value->Vq
open Go.RowKit Go.Shelf Go.Maps
attribute [local go_sem] Oper.semAt_some
variable {M:Gd->Option Int} {L:List Am} {g:Gd} {m B am ac N:Nat} {W W':Wq} {ds:List Nat}
theorem Cw(B:Nat)(rel:ByteArray)(d vb:Vq)(g:Gd)(w:Wq)(G:Option Addr)(O M:Nat)(A:d=aH G O M)(C:Option Addr)(E sc:Nat)(z:vb=aH C E sc):Cs 190 #[.map (aV B),aJ #[St rel,d,vb],g.v] w λe w'=>e=aO (.func (.func 229) #[] #[Pt (w.heap.size+1),Pt (w.heap.size+2),Pt w.heap.size])/\
   w'=((w.alloc (aN #[.map (aV B)] 98)).alloc (aN #[St rel,d,vb] 136)).alloc (aN g.c 111):=by
 subst A z;unfold Gd.v Gd.c;go_enter Tryz.func190,Tryz.ntmps190;go_wp2;go_ret;exact⟨rfl,rfl⟩
def ob(M:Gd->Option Int)(L:List Am)(g:Gd)(p:dF):Prop:=
 ∃i,∃h:i<aB L,(L[i]).rel=g.rel/\∃put,Q6 Qs L[i] g.x g.y=aV put/\lE M (L.take i++L.drop (i+1)) put p
def oK(M:Gd->Option Int)(L:List Am)(g:Gd)(k:Nat)(p:dF):Prop:=
 ∃i,∃h:i<aB L,i<k/\(L[i]).rel=g.rel/\∃put,Q6 Qs L[i] g.x g.y=aV put/\lE M (L.take i++L.drop (i+1)) put p
theorem CE(M:Gd->Option Int)(L:List Am)(g:Gd)(p:dF):oK M L g (aB L) p↔ob M L g p:=
 ⟨λ⟨i,h,_,d⟩=>⟨i,h,d⟩,λ⟨i,h,d⟩=>⟨i,h,h,d⟩⟩
theorem BW{k:Nat}{p:dF}(A:k<aB L):oK M L g (k+1) p↔oK M L g k p\/((L[k]).rel=g.rel/\∃put,Q6 Qs L[k] g.x g.y=aV put/\lE M (L.take k++L.drop (k+1)) put p):=by
 constructor
 .rintro⟨i,h,z,d⟩;by_cases e:i=k;{grind};{exact aQ ⟨i,h,by omega,d⟩}
 .rintro (⟨i,h,z,d⟩|d);{exact⟨i,h,by omega,d⟩};{exact⟨k,A,by omega,d⟩}
structure rh(Bm Br Bg B nn am ac:Nat)(M:Gd->Option Int)(rel:ByteArray)(va vb:Vq)(L:List Am)(g:Gd)(W:Wq):Prop where
 bm:W.heap[Bm]?=cC #[.map (aV B)] 98
 br:W.heap[Br]?=cC #[St rel,va,vb] 136
 bg:W.heap[Bg]?=aV (aN g.c 111)
 atoms:eW W am ac vb L
 md:eT W B nn M
theorem rh.mk'{C E A G:Nat}{rel:ByteArray}{O vb:Vq}(h:rh C E A B G am ac M rel O vb L g W)(d:qr m W W'):rh C E A B G am ac M rel O vb L g W':=
 ⟨d.cells _ _ _ (by unfold eF;decide) h.bm,d.cells _ _ _ (by unfold eF;decide) h.br,d.cells _ _ _ (by unfold eF;decide) h.bg,h.atoms.kept (λk c _ z=>d.cells k c _ (by unfold eF;decide) z) (λk c _ z=>d.cells k c _ (by unfold eF;decide) z),h.md.mk d⟩
theorem rH{n:Nat}{fn:Func}{tmps:Array Vq}{R:Ending->Wq->Prop}{X:Wq->Prop}(A:OwnFrom B (λ_:Unit=>X)):∀(ds:List Nat) (W:Wq),ds.Nodup->(∀D∈ds,B<=D/\W.heap[D]?=aV (.deferred (aV [])))->X W->
  (∀W',X W'->cE Fence.wide n Tryz.prog fn tmps R [] .returning W')->cE Fence.wide n Tryz.prog fn tmps R (jr ds) .returning W
 |[],W,_,_,hx,h=>h W hx
 |D::ds,W,hn,hd,hx,h=>by have⟨hB,hD⟩:=hd D (by simp);refine⟨by simp,aQ ⟨_,_,rfl,run_takeDeferred hD,?_⟩⟩;have C:=grownBy_putObj' W D (.deferred aW);refine rH A ds _ (bB.1 hn).2 (λd z=>?_) (A () _ _ (aV D) hx C (λr e=>by cases e;exact⟨hB,_,hD,rfl⟩)) h;have en:d≠D:=λe=>(bB.1 hn).1 (e ▸ z);have⟨ft,bi⟩:=hd d (by simp[z]);exact⟨ft,(C.block d (zg bi).1 (by simpa using en)).trans bi⟩
structure fV(N:Nat)(ds:List Nat)(W:Wq):Prop where
 nodup:ds.Nodup
 at':∀d∈ds,N<=d/\W.heap[d]?=aV (.deferred (aV []))
theorem fV.nil(N:Nat)(W:Wq):fV N [] W:=⟨List.nodup_nil,by simp⟩
theorem fV.keeps(h:fV N ds W)(z:KeepsFrom m W W')(A:m<=N):fV N ds W':=
 ⟨h.nodup,λd hd=>⟨(h.at' d hd).1,z.same d _ (by have:=(h.at' d hd).1;omega) (h.at' d hd).2 rfl⟩⟩
theorem fV.below(h:fV N ds W)(d:cA W.heap.size W W'):fV N ds W':=h.keeps (KeepsFrom.ofBelow (m:=0) d) zz
theorem fV.grown{row:Option Nat}(h:fV N ds W)(A:W.grownBy W' row)(C:∀r,row=aV r->B<=r)(z:∀d∈ds,d<B):fV N ds W':=
 ⟨h.nodup,λd hd=>⟨(h.at' d hd).1,(A.block d (zg (h.at' d hd).2).1 (λe=>by have:=C d e.symm;have:=z d hd;omega)).trans (h.at' d hd).2⟩⟩
theorem fV.lt(h:fV N ds W):∀d∈ds,d<W.heap.size:=λd hd=>(zg (h.at' d hd).2).1
theorem fV.cons{D:Nat}(h:fV N ds W)(C:N<=D)(A:W.heap[D]?=aV (.deferred (aV [])))(z:D∉ds):fV N (D::ds) W:=
 ⟨bB.2 ⟨z,h.nodup⟩,λd hd=>by
  rcases bG.1 hd with rfl|hd
  .grind
  .exact h.at' d hd⟩
theorem eW.ofOwns{b:Nat}{v:Vq}{ps:List (Am×Vq)}(h:aE W b 92 2 v (aB ps) (ps.flatMap fF))(hs:∀p∈ps,Qh W ac p.2 p.1.args):eW W W.heap.size ac v (ps.map (·.1)):=by
 obtain⟨_,⟨z,M⟩|⟨g,d,C,z,hb,A,E,O,Z,G⟩⟩:=h
 .have:ps=[]:=List.eq_nil_of_length_eq_zero M;subst this;exact⟨[],aW,0,rfl,z,⟨by simp,bT _⟩,λh=>absurd rfl h⟩
 .refine⟨ps,aV ⟨g,0,aW⟩,d,rfl,by rw[z];simp,⟨hs,by simpa using E⟩,λ_=>⟨g,0,C,rfl,(zg A).1,A,by rw[List.drop_zero,<-G];simp⟩⟩
theorem Al(x y:ByteArray):(x.toList == y.toList)=decide (x=y):=by grind [jQ,nJ]
theorem Hu(ps:List (Am×Vq)):∀k,(ps.flatMap fF).take (k*2)=(ps.take k).flatMap fF:=by
 induction ps with
 |nil=>simp
 |cons p ps ih=>
  intro k
  cases k with
  |zero=>simp
  |succ k=>grind [fF]
theorem Gk(ps:List (Am×Vq)):∀k,(ps.flatMap fF).drop (k*2)=(ps.drop k).flatMap fF:=by
 induction ps with
 |nil=>simp
 |cons p ps ih=>
  intro k
  cases k with
  |zero=>simp
  |succ k=>grind [fF]
theorem FG{A:Nat}{G:Option Addr}(h:eW W am ac (aH G (aB L) A) L){k:Nat}(O:k<aB L):∃(g aa:Nat) (ps:List (Am×Vq)),G=aV ⟨g,aa,aW⟩/\ps.map (·.1)=L/\(∀p∈ps,Qh W ac p.2 p.1.args)/\aB L<=A/\jn W 2 ⟨aH (aV ⟨g,aa,aW⟩) k A,k,(ps.take k).flatMap fF⟩/\
   ∀C,(A=k+1/\C=⟨g,aa,aW⟩)\/(A≠k+1/\C=⟨g,aa+(k+1)*2,aW⟩)->jn W 2 ⟨aH (aV C) (aB L-(k+1)) (A-(k+1)),aB L-(k+1),(ps.drop (k+1)).flatMap fF⟩:=by
 have⟨ps,a,cap,e1,e2,⟨e3,e5⟩,e4⟩:=h;cases e2;have⟨g,aa,c5,k1,k2,k3,k4⟩:=e4 (λe=>by rw[e] at O;simp at O);have Z:aB ps=aB L:=by grind
 have E:∀j u,(ps.flatMap fF)[j]?=aV u->aC W (Ad g (aa+j))=aV u:=by
  intro j u d;rw[<-k4,bH] at d;split at d;{rw[bI] at d;simp only[aC,k3];simpa using d};{cases d}
 have M:∀u∈ps.flatMap fF,u.oneCell'=true:=by
  intro u z;have⟨p,hp,z⟩:=List.mem_flatMap.1 z;have⟨ta,tc,hf⟩:=(e3 p hp).form;unfold fF at z;simp only[bG,bL,or_false] at z;rcases z with rfl|rfl
  .rfl
  .rw[hf];rfl
 have dc:g<W.heap.size:=(zg k3).1;refine⟨g,aa,ps,k1,e1,e3,e5,aR ⟨_,_,rfl,by rw[Cd,List.length_take];show min k (aB ps)*2=k*2;rw[Nat.min_eq_left (by omega)],λj u d=>?_,λ_=>dc,λu z=>M u ?_⟩,λC ca=>?_⟩
 .refine (congrArg (aC W) (show (⟨g,aa,aW⟩:Addr).add j=⟨g,aa+j,aW⟩ by simp[Addr.add])).trans (E j u ?_);rw[<-Hu] at d;rw[bH] at d;split at d;{exact d};{cases d}
 .grind
 .refine aR ⟨_,_,rfl,by rw[Cd,List.length_drop];show (aB ps-(k+1))*2=(aB L-(k+1))*2;rw[Z],λj u d=>?_,λ_=>?_,λu z=>M u ?_⟩
  .rcases ca with⟨hb,rfl⟩|⟨hb,rfl⟩
   .grind
   .have:=E ((k+1)*2+j) u (by rw[<-Gk,bI] at d;exact d);refine (congrArg (aC W) (show (⟨g,aa+(k+1)*2,aW⟩:Addr).add j=⟨g,aa+((k+1)*2+j),aW⟩ from ?_)).trans this;simp[Addr.add,Nat.add_assoc]
  .grind
  .grind
theorem Fo(k:Nat):(Qs.get k).size<=maxLen:=by
 have:(Qs.get k)=⟨#[]⟩:=by unfold Qs dF.get;split<;>rfl
 rw[this];exact zz
def I5(a:Am):Prop:=aB a.args<=2/\∀t∈a.args,t.num<6
theorem H7(n0 Bm Br Bg B nn am ac:Nat)(M:Gd->Option Int)(rel:ByteArray)(va vb:Vq)(L:List Am)(g:Gd)(w:Wq)(di:rh Bm Br Bg B nn am ac M rel va vb L g w)(az:vM L)(h3:aB L<=3)(hg:jl g)(m:Nat):fW m n0 229 #[Pt Br,Pt Bg,Pt Bm] (λp:qO=>#[p.1.v]) (qr m)
   (λys=>(∀p,p∈ys.map (·.1)↔ob M L g p)/\aB ys<=aB L*nn ^ (aB L-1)) (λ_=>True) (aB L*nn ^ (aB L-1)) w:=by
 obtain⟨n,hn⟩:∃n,12<=n:=⟨12,bT _⟩;refine fW.any (n:=n) ?_ n0;have n1:1<=n:=by omega
 have n2:1<=n-1:=by omega
 have n3:1<=n-1-1:=by omega
 intro l J Jx W hW ev hJ ej hY h0;have bq:=di.mk' (qr.ofBelow (m:=m) hW);clear di hW;have⟨ba,z,ct⟩:=bq.atoms.form;subst ct;have bh:=aA bq;have HY:=aA hY;have HJ:=aA hJ;have HJx:=aA ej;have H0:=aA h0;have ah:∀O,cA W.heap.size W (W.alloc O):=λO=>(aX _ W).alloc zl O;have e1:∀O,aC (W.alloc O) (Ad Br 2)=aV (aH ba (aB L) z):=λO=>cD (ah O) (by have:=bq.br;simp[aC,this]);clear hY hJ ej h0 bq ah;refine callsIn_of_wp_marks Tryz.func229 rfl trivial ?_ rfl;simp only[Tryz.ntmps229,List.size_toArray,List.length_cons,List.length_nil,Nat.reduceAdd,Nat.reduceSub,Array.replicate_succ,Array.replicate_zero,List.push_toArray,List.append_toArray,List.nil_append,List.cons_append]
 gi_wp2
 obtain⟨N,hN⟩:∃N,W.heap.size=N:=⟨_,rfl⟩;obtain⟨W1,a9⟩:∃W1,W.alloc (aN #[.func (.yield l) #[] #[]] 274)=W1:=⟨_,rfl⟩;have cw:cA W.heap.size W W1:=by rw[<-a9];exact (aX _ W).alloc zl _
 have f8:W1.heap.size=N+1:=by rw[<-a9,<-hN];simp
 have bY:W1.heap[N]?=cC #[.func (.yield l) #[] #[]] 274:=by rw[<-a9,<-hN];exact zn W _
 have c0:=(bh.o).mk' (qr.ofBelow (m:=m) cw);have eb:J [] W1:=HJ.o _ _ _ aW H0.o (qg cw) (λr e=>by cases e);have gb:m<=N:=by omega
 rw[hN] at HJ HJx;simp only[hN];rw[a9];clear a9 e1 bh H0 cw hN ev;have bh:=aA c0;have e8:=aA bY;clear c0 bY;refine wpIn_loop (λA V=>∃(k:Nat) (ds:List Nat) (ys:List qO) (u5 u6 u7 u8 u9 du c6 dz c7 db dd ee da c8 dt c3 d8 d9 eg c4 ef dr el dm de d1 ec dn dw dq d3 dx dl d4 dy cn cj b5 b9 b0:Vq),A={tmps:=#[.func (.yield l) #[] #[],Pt Br,Pt Bg,Pt Bm,Pt N,u5,u6,u7,u8,u9,undef,.pointer (aV ⟨Br,2,aW⟩),aH ba (aB L) z,Ii (aB L),Ii k,du,c6,dz,c7,db,dd,ee,da,c8,dt,c3,d8,d9,eg,c4,ef,dr,el,dm,de,d1,ec,dn,dw,dq,d3,dx,dl,d4,dy,cn,cj,b5,b9,undef,undef,undef,undef,undef,b0],defers:=jr ds}/\k<=aB L/\J ys V/\fV (N+1) ds V/\qr m W1 V/\Hid ((∀p,p∈ys.map (·.1)↔oK M L g k p)/\aB ys<=k*nn ^ (aB L-1))) (λA _=>aB L-(intOf (A.tmps.getD 14 undef)).toNat) ⟨0,[],[],_,_,_,_,_,_,_,_,_,_,_,_,_,_,_,_,_,_,_,_,_,_,_,_,_,_,_,_,_,_,_,_,_,_,_,_,_,_,_,_,rfl,zz,eb,fV.nil _ _,qr.ofBelow zr,⟨λp=>by simp[oK],by simp⟩⟩ ?_;rintro A V ⟨k,ds,ys,u5,u6,u7,u8,u9,du,c6,dz,c7,db,dd,ee,da,c8,dt,c3,d8,d9,eg,c4,ef,dr,el,dm,de,d1,ec,dn,dw,dq,d3,dx,dl,d4,dy,cn,cj,b5,b9,b0,rfl,hk,bk,av,bb,Q9⟩;clear eb;have aw:=(bh.o).mk' bb;by_cases au:k<aB L
 .obtain⟨G,aa,ps,rfl,ch,dk,eu,ax,a7⟩:=FG aw.atoms au;have⟨g',ep,c',vk,fs,x0,x1,cz,dc⟩:=wJ aw.atoms au;cases fs;have⟨fa,fc,em⟩:=cz.form;subst em;have i1:(k:Int)<(aB L:Int):=by{omega};have ah:∀O,cA V.heap.size V (V.alloc O):=λO=>(aX _ V).alloc zl O;have bd:=aw.bg;unfold Gd.c at bd;have z0:∀O,aC (V.alloc O) (Ad Bg 0)=aV (St g.rel):=λO=>cD (ah O) (by simp[aC,bd]);have z1:∀O,aC (V.alloc O) (Ad Bg 1)=aV (St g.x):=λO=>cD (ah O) (by simp[aC,bd]);have z2:∀O,aC (V.alloc O) (Ad Bg 2)=aV (St g.y):=λO=>cD (ah O) (by simp[aC,bd])
  have ay:Hid (Q6 Qs L[k] g.x g.y=aW\/(L[k]).rel≠g.rel->(∀p,p∈ys.map (·.1)↔oK M L g (k+1) p)/\aB ys<=(k+1)*nn ^ (aB L-1)):=by
   intro h;refine⟨λp=>?_,Nat.le_trans Q9.o.2 (bD _ (by omega))⟩;rw[Q9.o.1,BW au];constructor;{exact aQ}
   .rintro (h'|⟨h1,put,h2,_⟩);{exact h'}
    .rcases h with h|h
     .rw[h] at h2;cases h2
     .exact absurd h1 h
  have Qar:Hid (∀put,Q6 Qs L[k] g.x g.y=aV put->(L[k]).rel=g.rel->∀xs:List qO,(∀p,p∈xs.map (·.1)↔lE M (L.take k++L.drop (k+1)) put p)->aB xs<=nn ^ aB (L.take k++L.drop (k+1))->(∀p,p∈(ys++xs).map (·.1)↔oK M L g (k+1) p)/\aB (ys++xs)<=(k+1)*nn ^ (aB L-1)):=by
   intro put dg hr xs hx hl;refine⟨λp=>?_,?_⟩
   .rw[bO,bC,Q9.o.1,hx,BW au];constructor
    .rintro (h'|h');{exact aQ h'};{exact aR ⟨hr,put,dg,h'⟩}
    .rintro (h'|⟨_,e0,h1,h2⟩);{exact aQ h'};{rw[dg] at h1;cases h1;exact aR h2}
   .have e1:aB (L.take k++L.drop (k+1))=aB L-1:=by{simp;omega};rw[e1] at hl;have:=Q9.o.2;rw[bJ,bU,bX];omega
  have co:Hid (I5 L[k]):=⟨az.args _ (zm au),az.nums _ (zm au)⟩;generalize hLk:L[k]=ak at *;clear bd;by_cases hrel:ak.rel=g.rel
  .have c9:(ak.rel.toList == g.rel.toList)=true:=by{rw[Al];simpa using hrel};have ap:Hid (∀O,Cs 157 #[aJ #[St ⟨#[]⟩,St ⟨#[]⟩,St ⟨#[]⟩,St ⟨#[]⟩,St ⟨#[]⟩,St ⟨#[]⟩],aJ #[St ak.rel,aH fa (aB ak.args) fc],aJ #[St g.x,St g.y]] (V.alloc O) λe W1=>e=aO (oz (Q6 Qs ak g.x g.y))/\cA (V.alloc O).heap.size (V.alloc O) W1):=λO=>BA Qs ak _ ac g.x g.y _ (Qh.mk cz (qr.ofBelow (m:=m) (ah O))) co.o.1 co.o.2;have d2:=aA aw;have c1:=aA ax;have dj:=aA a7;have ed:=aA dk;have f5:N+1<=V.heap.size:=by{have:=bb.from'.size;omega};have ez:=aA hrel;clear ah ax a7 dk cz aw hrel
   cases hm1:Q6 Qs ak g.x g.y with
   |none=>
    rw[hm1] at ap;unfold oz dF.v Qs dF.c at ap;have HN:=ay.o (aQ hm1);have fw:=aA HN;clear HN ay Qar;have af:Hid (∀O W2 O',cA (V.alloc O).heap.size (V.alloc O) W2->cA V.heap.size V (W2.alloc O')):=λO W2 O' hb=>(((aX _ V).alloc zl O).trans (hb.mono (by simp))).alloc (by have:=hb.size;simp at this;omega) _
    gi_wp2_with (refine⟨trivial,?_⟩;gi_at_call 157;refine (bZ.2 (ap.o _)).mono ?_;rintro e W2 ⟨rfl,a6⟩)
    have an:=af.o _ W2 (aN #[St ⟨#[]⟩,St ⟨#[]⟩,St ⟨#[]⟩,St ⟨#[]⟩,St ⟨#[]⟩,St ⟨#[]⟩] 176) a6;refine⟨⟨k+1,ds,ys,_,_,_,_,_,_,_,_,_,_,_,_,_,_,_,_,_,_,_,_,_,_,_,_,_,_,_,_,_,_,_,_,_,_,_,_,_,_,_,_,rfl,by omega,HJ.o _ _ _ aW bk (qg an) (λr e=>by cases e),av.below an,bb.tr (qr.ofBelow an),fw.o⟩,?_⟩;simp[intOf];omega
   |some put=>
    rw[hm1] at ap;unfold oz dF.v dF.c at ap;have HP:=Qar.o put hm1 ez.o;have d6:=aA HP;clear HP ay Qar;have af:Hid (∀O W2 O',cA (V.alloc O).heap.size (V.alloc O) W2->cA V.heap.size V (W2.alloc O')):=λO W2 O' hb=>(((aX _ V).alloc zl O).trans (hb.mono (by simp))).alloc (by have:=hb.size;simp at this;omega) _
    have df:=vz _ _ _ (λk=>Fo k) (λq hq=>⟨co.o.2 _ (bQ hq).1,by
      have:=(bQ hq).2;simp at this;rcases this with h|h<;>rw[h]
      .exact hg.x
      .exact hg.y⟩) hm1
    have Qjh:=aA df;clear df
    gi_wp2_with (refine⟨trivial,?_⟩;gi_at_call 157;refine (bZ.2 (ap.o _)).mono ?_;rintro e W2 ⟨rfl,a6⟩)
    obtain⟨PB,bj⟩:∃PB,W2.heap.size=PB:=⟨_,rfl⟩;obtain⟨W3,be⟩:∃W3,W2.alloc (aN #[St put.a0,St put.a1,St put.a2,St put.a3,St put.a4,St put.a5] 176)=W3:=⟨_,rfl⟩;have aj:=af.o _ W2 (aN #[St put.a0,St put.a1,St put.a2,St put.a3,St put.a4,St put.a5] 176) a6;have eo:W3.heap.size=PB+1:=by{rw[<-be,<-bj];simp};have fj:W3.heap[PB]?=aV (aN put.c 176):=by{rw[<-be,<-bj];exact zn W2 _};have fx:V.heap.size<=PB:=by{have:=a6.size;simp at this;omega};rw[be] at aj;simp only[bj];rw[be];have cq:=(d2.o).mk' (qr.ofBelow (m:=m) aj);clear be bj a6 ap af z0 z1 z2 x0 x1 c9;have c2:aC W3 (Ad Br 2)=aV (aH (aV ⟨G,aa,aW⟩) (aB L) z):=by{have:=cq.br;simp[aC,this]};have i2:(k:Int)<=(z:Int):=by{omega};have i3:(k:Int)+1<=(aB L:Int):=by{omega};have i4:(aB L:Int)<=(z:Int):=by{omega};have i5:(0:Int)<=(k:Int):=by{omega};have i6:(0:Int)<=(k:Int)+1:=by{omega};have Qf2:=aA cq;clear cq
    have Qg6:Hid (∀tb,(z=k+1/\tb=⟨G,aa,aW⟩)\/(z≠k+1/\tb=⟨G,aa+(k+1)*2,aW⟩)->Cs 230 #[Sc W3.heap.size 2 2] (W3.alloc (aN #[aH (aV ⟨G,aa,aW⟩) k z,aH (aV tb) (aB L-(k+1)) (z-(k+1))] 134)).drew λe w'=>∃C E,e=aO (aH C (aB L-1) E)/\cA W3.heap.size W3 w'/\eW w' w'.heap.size ac (aH C (aB L-1) E) (L.take k++L.drop (k+1))):=by
     intro tb ca;have fr:=jn.later (s:=⟨aH (aV ⟨G,aa,aW⟩) k z,k,(ps.take k).flatMap fF⟩) (size:=2) c1.o aj;have fl:=(dj.o tb ca).later aj;have cd:cA W3.heap.size W3 (W3.alloc (aN #[aH (aV ⟨G,aa,aW⟩) k z,aH (aV tb) (aB L-(k+1)) (z-(k+1))] 134)).drew:=((aX _ W3).alloc zl _).drew
     have hc:=G3 W3.heap.size [⟨aH (aV ⟨G,aa,aW⟩) k z,k,(ps.take k).flatMap fF⟩,⟨aH (aV tb) (aB L-(k+1)) (z-(k+1)),aB L-(k+1),(ps.drop (k+1)).flatMap fF⟩] (W3.alloc (aN #[aH (aV ⟨G,aa,aW⟩) k z,aH (aV tb) (aB L-(k+1)) (z-(k+1))] 134)).drew (zn W3 _) (by
       intro s hs;simp only[bG,bL,or_false] at hs;rcases hs with rfl|rfl
       .exact fr.later cd
       .exact fl.later cd) (by unfold eK;simp;omega) (by simp)
     refine hc.mono ?_;rintro e w' ⟨v,rfl,ho,hb⟩
     have fe:eK [⟨aH (aV ⟨G,aa,aW⟩) k z,k,(ps.take k).flatMap fF⟩,⟨aH (aV tb) (aB L-(k+1)) (z-(k+1)),aB L-(k+1),(ps.drop (k+1)).flatMap fF⟩]=aB (ps.take k++ps.drop (k+1)):=by
      have:aB ps=aB L:=by{rw[<-ch];simp};unfold eK;simp;omega
     rw[fe] at ho;have e7:(ps.take k++ps.drop (k+1)).flatMap fF=[⟨aH (aV ⟨G,aa,aW⟩) k z,k,(ps.take k).flatMap fF⟩,⟨aH (aV tb) (aB L-(k+1)) (z-(k+1)),aB L-(k+1),(ps.drop (k+1)).flatMap fF⟩].flatMap Sl.xs:=by{simp};rw[<-e7] at ho;have eh:cA W3.heap.size W3 w':=cd.trans (hb.mono (by simp));have⟨C,E,d7⟩:=qe ho
     have ai:aB (ps.take k++ps.drop (k+1))=aB L-1:=by
      have:aB ps=aB L:=by{rw[<-ch];simp};simp;omega
     have ew:cA V.heap.size V w':=aj.trans (eh.mono aj.size)
     have cu:=eW.ofOwns ho (λp hp=>Qh.mk (ed.o p (by
      rcases bC.1 hp with h|h
      .exact bE h
      .exact bF h)) (qr.ofBelow (m:=m) ew))
     rw[d7,ai] at cu;refine⟨C,E,by rw[d7,ai],eh,?_⟩;have:(ps.take k++ps.drop (k+1)).map (·.1)=L.take k++L.drop (k+1):=by{rw[bO,List.map_take,List.map_drop,ch]};rw[this] at cu;exact cu
    obtain⟨Pd,bv⟩:∃Pd:Option Addr->Nat->Wq->Prop,Pd=λC E w'=>cA W3.heap.size W3 w'/\eW w' w'.heap.size ac (aH C (aB L-1) E) (L.take k++L.drop (k+1)):=⟨_,rfl⟩;have Qjx:Hid (∀C E w',Pd C E w'->Pd C E w'.drew):=by{intro C E w' h;rw[bv] at h ⊢;exact⟨h.1.drew,eW.kept h.2 (λk c _ hc=>hc) (λk c _ hc=>hc)⟩};have ae:Hid (∀(tb:Addr) (k' n' c':Nat),k'=k->n'=aB L-(k+1)->c'=z-(k+1)->((z=k+1/\tb=⟨G,aa,aW⟩)\/(z≠k+1/\tb=⟨G,aa+(k+1)*2,aW⟩))->Cs 230 #[Sc W3.heap.size 2 2] (W3.alloc (aN #[aH (aV ⟨G,aa,aW⟩) k' z,aH (aV tb) n' c'] 134)).drew λe w'=>∃C E,e=aO (aH C (aB L-1) E)/\Pd C E w'):=by{rintro tb k' n' c' rfl rfl rfl h;refine (Qg6.o tb h).mono ?_;rintro e w' ⟨C,E,h1,h2,h3⟩;exact⟨C,E,h1,by rw[bv];exact⟨h2,h3⟩⟩};have HPd:=aA bv;clear Qg6 bv;refine wpIn_mono (Q:=λe a' w'=>match e with|Exit.normal=>∃C E cf b7 cx v37 cr v39 cb cc cv cg ci,a'={tmps:=#[.func (.yield l) #[] #[],Pt Br,Pt Bg,Pt Bm,Pt N,Ii k,Pt V.heap.size,Pt PB,aK true,aH C (aB L-1) E,undef,.pointer (aV ⟨Br,2,aW⟩),aH (aV ⟨G,aa,aW⟩) (aB L) z,Ii (aB L),Ii k,aK true,Ii k,.pointer (aV ⟨G,aa+k*2,aW⟩),aJ #[St ak.rel,aH fa (aB ak.args) fc],Pt V.heap.size,St ak.rel,Pt Bg,St g.rel,aK false,aL #[aJ #[St put.a0,St put.a1,St put.a2,St put.a3,St put.a4,St put.a5],aK true],aJ #[St ⟨#[]⟩,St ⟨#[]⟩,St ⟨#[]⟩,St ⟨#[]⟩,St ⟨#[]⟩,St ⟨#[]⟩],aJ #[St ak.rel,aH fa (aB ak.args) fc],.pointer (aV ⟨Bg,1,aW⟩),aJ #[St g.x,St g.y],aL #[aJ #[St put.a0,St put.a1,St put.a2,St put.a3,St put.a4,St put.a5],aK true],aJ #[St put.a0,St put.a1,St put.a2,St put.a3,St put.a4,St put.a5],aK true,aK true,aK false,cf,b7,cx,v37,cr,v39,cb,cc,cv,cg,ci,cn,cj,b5,b9,undef,undef,undef,undef,undef,b0],defers:=jr ds}/\Pd C E w'|_=>False) ?reg ?rest
    case reg=>
     clear hLk Q9 HY d6 c1 dj ed d2 bh Qf2 HPd eo;generalize (aB L)=len at *;have f0:aP.wrap 1=1:=by{decide};have fy:aP.wrap 2=2:=by{decide};have f4:aP.wrap 3=3:=by{decide};by_cases aq:z=k+1
     .have f7:len=z:=by{omega};have cp:k=0\/k=1\/k=2:=by omega
      rcases cp with rfl|rfl|rfl
      .obtain rfl:z=1:=by{omega};obtain rfl:len=1:=by{omega};have ag:Hid _:=ae.o ⟨G,aa,aW⟩ 0 0 0 rfl rfl rfl (aQ ⟨rfl,rfl⟩);clear i1 i2 i3 i4 i5 i6 aq ae
       first|(gi_region_with (refine⟨trivial,?_⟩;(try refine⟨λh=>(by cases h),?_⟩);refine (bZ.2 (ag.o)).mono ?_;rintro e w' ⟨C,E,rfl,ad⟩))|fail
       all_goals exact⟨C,E,_,_,_,_,_,_,_,_,_,_,_,rfl,ad⟩
      .obtain rfl:z=2:=by{omega};obtain rfl:len=2:=by{omega};have ag:Hid _:=ae.o ⟨G,aa,aW⟩ 1 0 0 rfl rfl rfl (aQ ⟨rfl,rfl⟩);clear i1 i2 i3 i4 i5 i6 aq ae
       first|(gi_region_with (refine⟨trivial,?_⟩;(try refine⟨λh=>(by cases h),?_⟩);refine (bZ.2 (ag.o)).mono ?_;rintro e w' ⟨C,E,rfl,ad⟩))|fail
       all_goals exact⟨C,E,_,_,_,_,_,_,_,_,_,_,_,rfl,ad⟩
      .obtain rfl:z=3:=by{omega};obtain rfl:len=3:=by{omega};have ag:Hid _:=ae.o ⟨G,aa,aW⟩ 2 0 0 rfl rfl rfl (aQ ⟨rfl,rfl⟩);clear i1 i2 i3 i4 i5 i6 aq ae
       first|(gi_region_with (refine⟨trivial,?_⟩;(try refine⟨λh=>(by cases h),?_⟩);refine (bZ.2 (ag.o)).mono ?_;rintro e w' ⟨C,E,rfl,ad⟩))|fail
       all_goals exact⟨C,E,_,_,_,_,_,_,_,_,_,_,_,rfl,ad⟩
     .have cp:k=0\/k=1\/k=2:=by omega
      rcases cp with rfl|rfl|rfl
      .obtain⟨q,rfl⟩:∃q,len=q+1:=⟨len-1,by omega⟩;have ag:Hid _:=ae.o ⟨G,aa+2,aW⟩ 0 q (z-1) rfl (by omega) rfl (aR ⟨by omega,rfl⟩);have j2:¬z=1:=by{omega};have j3:((q:Int)+1)<=(z:Int):=by{omega};have j4:(1:Int)<=(q:Int)+1:=by{omega};have j5:(0:Int)<=(z:Int):=by{omega};have j6:(0:Int)<=(z:Int):=by{omega};clear i1 i2 i3 i4 i5 i6 aq ae
       first|(gi_region_with (refine⟨trivial,?_⟩;(try refine⟨λh=>(by cases h),?_⟩);refine (bZ.2 (ag.o)).mono ?_;rintro e w' ⟨C,E,rfl,ad⟩))|fail
       all_goals exact⟨C,E,_,_,_,_,_,_,_,_,_,_,_,rfl,ad⟩
      .obtain⟨q,rfl⟩:∃q,len=q+2:=⟨len-2,by omega⟩;have ag:Hid _:=ae.o ⟨G,aa+4,aW⟩ 1 q (z-2) rfl (by omega) rfl (aR ⟨by omega,rfl⟩);have j2:¬z=2:=by{omega};have j3:((q:Int)+2)<=(z:Int):=by{omega};have j4:(2:Int)<=(q:Int)+2:=by{omega};have j5:(0:Int)<=(z:Int):=by{omega};have j6:(1:Int)<=(z:Int):=by{omega};clear i1 i2 i3 i4 i5 i6 aq ae
       first|(gi_region_with (refine⟨trivial,?_⟩;(try refine⟨λh=>(by cases h),?_⟩);refine (bZ.2 (ag.o)).mono ?_;rintro e w' ⟨C,E,rfl,ad⟩))|fail
       all_goals exact⟨C,E,_,_,_,_,_,_,_,_,_,_,_,rfl,ad⟩
      .obtain rfl:len=3:=by{omega};have ag:Hid _:=ae.o ⟨G,aa+6,aW⟩ 2 0 (z-3) rfl (by omega) rfl (aR ⟨by omega,rfl⟩);have j2:¬z=3:=by{omega};have j3:(3:Int)<=(z:Int):=by{omega};have j5:(0:Int)<=(z:Int):=by{omega};have j6:(2:Int)<=(z:Int):=by{omega};clear i1 i2 i3 i4 i5 i6 aq ae
       first|(gi_region_with (refine⟨trivial,?_⟩;(try refine⟨λh=>(by cases h),?_⟩);refine (bZ.2 (ag.o)).mono ?_;rintro e w' ⟨C,E,rfl,ad⟩))|fail
       all_goals exact⟨C,E,_,_,_,_,_,_,_,_,_,_,_,rfl,ad⟩
    case rest=>
     rintro e a' W4 hq
     cases e with
     |normal=>
      obtain⟨C,E,cf,b7,cx,v37,cr,v39,cb,cc,cv,cg,ci,rfl,ad⟩:=hq;rw[HPd.o] at ad;have⟨bu,d5⟩:=ad;clear ae Qjx HPd;have ce:=(Qf2.o).mk' (qr.ofBelow (m:=m) bu);have cm:aC W4 (Ad Bm 0)=aV (.map (aV B)):=by{have:=ce.bm;simp[aC,this]};have fm:W4.heap[PB]?=aV (aN put.c 176):=(bu.block PB (by omega)).trans fj;have b6:=fm;unfold dF.c at b6;have d0:∀j,aC W4 (Ad PB j)=([St put.a0,St put.a1,St put.a2,St put.a3,St put.a4,St put.a5]:List Vq)[j]?:=λj=>by simp[aC,b6]
      have fk:Hid (∀W,Cs 231 #[.map (aV B),aH C (aB L-1) E,aJ #[St put.a0,St put.a1,St put.a2,St put.a3,St put.a4,St put.a5]] W λe w'=>e=aO (.func (.func 260) #[] #[Pt (W.heap.size+1),Pt (W.heap.size+2),Pt W.heap.size])/\
        w'=((W.alloc (aN #[.map (aV B)] 98)).alloc (aN #[aH C (aB L-1) E] 134)).alloc (aN #[St put.a0,St put.a1,St put.a2,St put.a3,St put.a4,St put.a5] 176)):=λW=>wk B _ put W _ _ _ rfl
      have fv:=aA d5;have Qjl:=aA ce;have ek:=aA bu;clear ce b6 d5 bu
      gi_wp2_with (refine⟨trivial,?_⟩;gi_at_call 231;refine (bZ.2 (fk.o _)).mono ?_;rintro e w' ⟨rfl,rfl⟩)
      obtain⟨VN,a8⟩:∃VN,W4.heap.size=VN:=⟨_,rfl⟩;obtain⟨W5,ao⟩:∃W5,((W4.alloc (aN #[.map (aV B)] 98)).alloc (aN #[aH C (aB L-1) E] 134)).alloc (aN #[St put.a0,St put.a1,St put.a2,St put.a3,St put.a4,St put.a5] 176)=W5:=⟨_,rfl⟩;have ei:cA W4.heap.size W4 W5:=by{rw[<-ao];exact (((aX _ W4).alloc zl _).alloc (by simp) _).alloc (by simp;omega) _};have f2:W5.heap.size=VN+3:=by{rw[<-ao,<-a8];simp};have eM:W5.heap[VN]?=cC #[.map (aV B)] 98:=by{rw[<-ao,<-a8];exact (aY _ _ _ (by simp;omega)).trans ((aY _ _ _ (by simp)).trans (zn W4 _))};have eS:W5.heap[VN+1]?=cC #[aH C (aB L-1) E] 134:=by{rw[<-ao,<-a8];refine (aY _ _ _ (by simp)).trans ?_;have:=zn (W4.alloc (aN #[.map (aV B)] 98)) (aN #[aH C (aB L-1) E] 134);rw[aZ] at this;exact this};have eP:W5.heap[VN+2]?=aV (aN put.c 176):=by{rw[<-ao,<-a8];have:=zn ((W4.alloc (aN #[.map (aV B)] 98)).alloc (aN #[aH C (aB L-1) E] 134)) (aN #[St put.a0,St put.a1,St put.a2,St put.a3,St put.a4,St put.a5] 176);rw[aZ,aZ] at this;exact this};have cl:∀m',qr m' W4 W5:=λm'=>qr.ofBelow ei;have Qhq:aB (L.take k++L.drop (k+1))=aB L-1:=by{simp;omega};have fb:eW W5 W4.heap.size ac (aH C (aB L-1) E) (L.take k++L.drop (k+1)):=eW.kept fv.o (λk c _ hc=>(cl 0).cells k c _ (by unfold eF;decide) hc) (λk c _ hc=>(cl 0).cells k c _ (by unfold eF;decide) hc);have e9:pz VN (VN+1) (VN+2) B nn W4.heap.size ac M (L.take k++L.drop (k+1)) (aH C (aB L-1) E) put W5:=⟨eM,eS,eP,fb,(Qjl.o).md.mk (cl 0)⟩;have Qdv:cA V.heap.size V W5:=aj.trans ((ek.o.trans (ei.mono ek.o.size)).mono aj.size)
      have b8:∀a,a∈L.take k++L.drop (k+1)->a∈L:=λa ha=>by
       rcases bC.1 ha with h|h
       .exact bE h
       .exact bF h
      have fq:J (ys++[]) W5:=by{rw[List.append_nil];exact HJ.o _ _ _ aW bk (qg Qdv) (λr e=>by cases e)};have ih:=BU (L.take k++L.drop (k+1)) (n-1) VN (VN+1) (VN+2) B nn W4.heap.size ac M (aH C (aB L-1) E) put W5 e9 ⟨λb hb=>az.args b (b8 b hb),λb hb=>az.nums b (b8 b hb),λb hb=>az.rels b (b8 b hb)⟩ (by omega) Qjh.o (W5.heap.size+2);have ea:qr m W1 W5:=bb.tr (qr.ofBelow Qdv);have dh:fV (N+1) ds W5:=av.below Qdv;have bn:∀d∈ds,d<W5.heap.size:=dh.lt;have fz:N+1<=W5.heap.size:=by{have:=ea.from'.size;omega};simp only[a8];rw[ao];clear ao
      refine nz (n:=n) (gf:=260) (lb:=#[Pt (VN+1),Pt (VN+2),Pt VN]) rfl (enters_of Tryz.func260 (by kernel_rfl) rfl)
       ih qr.tr (λV' f9 o' ho=>qr.put V' _ _ o' (by omega) ho rfl (λ_ _ h=>by cases h)) (λ_=>rfl)
       (λab V2=>J (ys++ab) V2/\qr m W1 V2/\fV (N+1) ds V2)
       (λc ab V2=>c=.ret/\(∃zs,Jx zs V2)/\fV (N+1) ds V2)
       ?hI2 ?hIx2 ⟨fq,ea,dh⟩
       (λZ a' V2=>∃Bx,V2.heap[Bx]?=aV (aN Z.1.c 176)/\a'={tmps:=#[.func (.yield l) #[] #[],Pt Br,Pt Bg,Pt Bm,Pt N,Ii k,Pt V.heap.size,Pt PB,aK true,aH C (aB L-1) E,Pt Bx,.pointer (aV ⟨Br,2,aW⟩),aH (aV ⟨G,aa,aW⟩) (aB L) z,Ii (aB L),Ii k,aK true,Ii k,.pointer (aV ⟨G,aa+k*2,aW⟩),aJ #[St ak.rel,aH fa (aB ak.args) fc],Pt V.heap.size,St ak.rel,Pt Bg,St g.rel,aK false,aL #[aJ #[St put.a0,St put.a1,St put.a2,St put.a3,St put.a4,St put.a5],aK true],aJ #[St ⟨#[]⟩,St ⟨#[]⟩,St ⟨#[]⟩,St ⟨#[]⟩,St ⟨#[]⟩,St ⟨#[]⟩],aJ #[St ak.rel,aH fa (aB ak.args) fc],.pointer (aV ⟨Bg,1,aW⟩),aJ #[St g.x,St g.y],aL #[aJ #[St put.a0,St put.a1,St put.a2,St put.a3,St put.a4,St put.a5],aK true],aJ #[St put.a0,St put.a1,St put.a2,St put.a3,St put.a4,St put.a5],aK true,aK true,aK false,cf,b7,cx,v37,cr,v39,cb,cc,cv,cg,ci,.map (aV B),aH C (aB L-1) E,aJ #[St put.a0,St put.a1,St put.a2,St put.a3,St put.a4,St put.a5],.func (.func 260) #[] #[Pt (VN+1),Pt (VN+2),Pt VN],aJ #[St Z.1.a0,St Z.1.a1,St Z.1.a2,St Z.1.a3,St Z.1.a4,St Z.1.a5],undef,undef,undef,undef,b0],defers:=[]})
       ?hAx2 ?assign2 ?body2 ?done2 ?stop2
      case hI2=>rintro ab X X' row ⟨j1,j2,j3⟩ hg hr;exact⟨HJ.o _ _ _ row j1 hg (λr e=>⟨by have:=(hr r e).1;omega,(hr r e).2⟩),j2.own hg (λr e=>by have:=(hr r e).1;omega),j3.grown hg (λr e=>(hr r e).1) bn⟩
      case hIx2=>rintro c ab X X' row ⟨rfl,⟨zs,j1⟩,j3⟩ hg hr;exact⟨rfl,⟨zs,HJx.o _ _ _ row j1 hg (λr e=>⟨by have:=(hr r e).1;omega,(hr r e).2⟩)⟩,j3.grown hg (λr e=>(hr r e).1) bn⟩
      case hAx2=>rintro Z a' _ X X' row ⟨Bx,q2,q3⟩ hg hr;exact⟨Bx,qm hg (λr e=>(hr r e).2) _ _ _ _ q2,q3⟩
      case assign2=>
       rintro l2 ab Z X K fh es ⟨j1,j2,j3⟩ hK;have HK:=aA hK;clear hK;unfold dF.v dF.c
       gi_wp2
       have af:cA X.heap.size X (X.alloc (aN #[St Z.1.a0,St Z.1.a1,St Z.1.a2,St Z.1.a3,St Z.1.a4,St Z.1.a5] 176)):=(aX _ X).alloc zl _;exact HK.o _ _ (KeepsFrom.ofBelow af) (qr.ofBelow af) ⟨HJ.o _ _ _ aW j1 (qg af) (λr e=>by cases e),j2.tr (qr.ofBelow af),j3.below af⟩ ⟨X.heap.size,zn X _,rfl⟩
      case done2=>
       rintro D xs X hD ⟨s1,s2⟩ ⟨j1,j2,j3⟩ hK;have fo:Hid _:=d6.o xs s1 s2;have b4:D∉ds:=λh=>by{have:=bn D h;omega};have bf:Hid _:=j3.cons (D:=D) (by omega) hK b4;clear Q9 s1 s2
       gi_wp2
       refine⟨⟨k+1,D::ds,ys++xs,_,_,_,_,_,_,_,_,_,_,_,_,_,_,_,_,_,_,_,_,_,_,_,_,_,_,_,_,_,_,_,_,_,_,_,_,_,_,_,_,rfl,by omega,j1,bf.o,j2,fo.o⟩,?_⟩;simp[intOf];omega
      case stop2=>
       rintro D c pre X hD _ ⟨rfl,hz,j3⟩ hK;have b4:D∉ds:=λh=>by{have:=bn D h;omega};have bf:Hid _:=j3.cons (D:=D) (by omega) hK b4;have HZ:=aA hz;clear Q9 hz
       gi_wp2
       show cE Fence.wide n Tryz.prog _ _ _ (jr (D::ds)) .returning X;refine rH (X:=λV=>∃zs,Jx zs V) (B:=N) (λ_ A B row hs hg hr=>by have⟨zs,hz⟩:=hs;exact⟨zs,HJx.o zs A B row hz hg hr⟩) (D::ds) X bf.o.nodup (λD' bi=>⟨by have:=(bf.o.at' D' bi).1;omega,(bf.o.at' D' bi).2⟩) HZ.o (λW' hx=>?_);have⟨zs,hz⟩:=hx;exact⟨_,results_none rfl _ _ _,⟨_,rfl⟩,aR ⟨zs,trivial,hz⟩⟩
      case body2=>
       rintro l2 ab Z a' X fh ⟨f1,et⟩ ⟨j1,j2,j3⟩ ⟨By,e6,rfl⟩ ff;have ey:aB (ys++ab)<aB L*nn ^ (aB L-1):=by{rw[bJ];have e1:=Q9.o.2;rw[Qhq] at ff;have e2:(k+1)*nn ^ (aB L-1)<=aB L*nn ^ (aB L-1):=bD _ (by omega);rw[bU,bX] at e2;omega};have⟨fn,tmps,assign,body,hy,hR⟩:=HY.o (ys++ab) Z X j1 ey;unfold dF.v dF.c at hy;have dv:=j2.cells _ _ _ (by unfold eF;decide) e8.o;have cy:aC X (Ad N 0)=aV (.func (.yield l) #[] #[]):=zc dv;have b3:=e6;unfold dF.c at b3;have r0:∀j,aC X (Ad By j)=([St Z.1.a0,St Z.1.a1,St Z.1.a2,St Z.1.a3,St Z.1.a4,St Z.1.a5]:List Vq)[j]?:=λj=>by{simp[aC,b3]};clear b3 dv Q9
       gi_wp2
       refine (qK hR).mono ?_;rintro e X' (⟨rfl,fg,al⟩|⟨rfl,ck,al⟩)
       .clear hy hR
        gi_wp2
        exact⟨KeepsFrom.up al.from' (by omega),al.up (by omega),by rw[<-List.append_assoc];exact fg,j2.tr al,j3.keeps al.from' (by omega)⟩
       .clear hy hR
        gi_wp2
        exact⟨KeepsFrom.up al (by omega),rfl,⟨_,ck⟩,j3.keeps al (by omega)⟩
     |_=>exact False.elim hq
  .have c9:(ak.rel.toList == g.rel.toList)=false:=by{rw[Al];simpa using hrel};have HN:Hid _:=ay.o (aR hrel);have af:=ah (aN #[St ak.rel,aH fa (aB ak.args) fc] 92);have an:=aA af;clear ay Qar ah af
   gi_wp2
   refine⟨⟨k+1,ds,ys,_,_,_,_,_,_,_,_,_,_,_,_,_,_,_,_,_,_,_,_,_,_,_,_,_,_,_,_,_,_,_,_,_,_,_,_,_,_,_,_,rfl,by omega,HJ.o _ _ _ aW bk (qg an.o) (λr e=>by cases e),av.below an.o,bb.tr (qr.ofBelow an.o),HN.o⟩,?_⟩;simp[intOf];omega
 .have fp:k=aB L:=by{omega};subst fp;have Qf:Hid ((∀p,p∈ys.map (·.1)↔ob M L g p)/\aB ys<=aB L*nn ^ (aB L-1)):=⟨λp=>(Q9.o.1 p).trans (CE M L g p),Q9.o.2⟩;clear Q9 aw
  gi_wp2
  show cE Fence.wide n Tryz.prog _ _ _ (jr ds) .returning V;refine rH (X:=J ys) (B:=N) (λ_ A B row hs hg hr=>HJ.o ys A B row hs hg hr) ds V av.nodup (λD hD=>⟨by have:=(av.at' D hD).1;omega,(av.at' D hD).2⟩) bk (λW' hx=>?_);exact⟨_,results_none rfl _ _ _,⟨_,rfl⟩,aQ ⟨ys,Qf.o,hx⟩⟩
