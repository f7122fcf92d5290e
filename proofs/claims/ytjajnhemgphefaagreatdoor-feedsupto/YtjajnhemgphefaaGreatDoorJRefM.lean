/- A part -/
import Derived.Test.YtjajnhemgphefaaGreatDoorJRefK
set_option linter.all false
set_option maxRecDepth 100000
set_option maxHeartbeats 8000000
open List renaming length->aB,length_drop->aY,drop_drop->bB,mem_append->bD
open Go.World renaming cell?->aC,frozen?->aD,ownsRow->aE,size_alloc->bC
open Go.Value renaming ownBlock->aF,slice->aH,string->aI,agg->aJ,tuple->aL,int->aM,oneCell'->bE
open Go.Obj renaming cells->aN
open Go.Ending renaming returned->aO
open Go.IntKind renaming i64->aP
open Or renaming inl->aQ,inr->aR
open Option renaming some->aV,none->aW
open Go.RowKit.Below renaming heap_setCell->aX,heap_alloc->aZ
namespace Go.Proofs.YtjajnhemgphefaaGreatDoor
open Go renaming World->Wq,Value->Vq
open Go.RowKit Go.Shelf
def jq:Nat->List ByteArray->List RT->Option (List Am×Nat)
 |0,_,_=>aW
 |f+1,vs,us=>
  match us with
  |[]=>aW
  |t::af=>
   if t.kind=46 then aV ([],0) else
   match af with
   |r::p::ad=>
    match eH vs ad with
    |some (l,ak,n)=>
     match jq f ak (ad.drop n) with
     |some (bs,m)=>aV (⟨r.text,l⟩::bs,3+n+m)
     |none=>aW
    |none=>aW
   |_=>aW
def ju:Nat->List RT->Option (List Rl)
 |0,_=>aW
 |f+1,us=>
  match us with
  |[]=>aW
  |t::af=>
   if t.kind=4 then aV [] else
   match af with
   |[]=>aW
   |p::ad=>
    match eH [] ad with
    |some (l,vs,n)=>
     match jq (aB ad) vs (ad.drop n) with
     |some (bs,m)=>
      match ju f ((ad.drop n).drop (m+1)) with
      |some rs=>aV (⟨⟨t.text,l⟩,bs⟩::rs)
      |none=>aW
     |none=>aW
    |none=>aW
def jH(p:Am×Vq):List Vq:=[aI p.1.rel,p.2]
def lT(q:Rl×Vq×Vq):List Vq:=[aI q.1.head.rel,q.2.1,q.2.2]
theorem zi(p:Am×Vq):aB (jH p)=2:=rfl
theorem wT(q:Rl×Vq×Vq):aB (lT q)=3:=rfl
def fI(W:Wq)(p:Am×Vq):Prop:=aE W 0 215 2 p.2 (aB p.1.args) (p.1.args.flatMap iV)
def oT(W:Wq)(S:Nat)(v:Vq)(l:List Am):Prop:=
 ∃ps:List (Am×Vq),ps.map (·.1)=l/\aE W 0 145 2 v (aB ps) (ps.flatMap jH)/\(∀g,aF v=aV g->g<S)/\∀p∈ps,fI W p
def nI(W:Wq)(S:Nat)(q:Rl×Vq×Vq):Prop:=fI W (q.1.head,q.2.1)/\oT W S q.2.2 q.1.body
structure Kp(S:Nat)(X Y:Wq):Prop where
 arg:∀(k:Nat) (c:Array Vq),X.heap[k]?=cC c 215->Y.heap[k]?=X.heap[k]?
 atom:∀(k:Nat) (c:Array Vq),k<S->X.heap[k]?=cC c 145->Y.heap[k]?=X.heap[k]?
theorem qh{W:Wq}{B T k n:Nat}{v:Vq}{xs:List Vq}(h:aE W B T k v n xs){g:Nat}(d:aF v=aV g):∃c,W.heap[g]?=cC c T:=by
 obtain⟨_,⟨z,G⟩|⟨g',A,cl,z,E,C,_⟩⟩:=h
 .rw[z] at d;cases d
 .rw[z] at d;cases d;exact⟨cl,C⟩
theorem fI.kept{S:Nat}{X Y:Wq}{p:Am×Vq}(h:fI X p)(z:Kp S X Y):fI Y p:=
 qn h (λg d _=>by have⟨c,hc⟩:=qh h d;exact z.arg g c hc)
theorem oT.kept{S:Nat}{X Y:Wq}{v:Vq}{l:List Am}(h:oT X S v l)(z:Kp S X Y):oT Y S v l:=by have⟨ps,h1,h2,h3,h4⟩:=h;exact⟨ps,h1,qn h2 (λg d _=>by have⟨c,hc⟩:=qh h2 d;exact z.atom g c (h3 g d) hc),h3,λp A=>(h4 p A).kept z⟩
theorem nI.kept{S:Nat}{X Y:Wq}{q:Rl×Vq×Vq}(h:nI X S q)(d:Kp S X Y):nI Y S q:=⟨h.1.kept d,h.2.kept d⟩
theorem oT.mono{S S':Nat}{X:Wq}{v:Vq}{l:List Am}(h:oT X S v l)(hs:S<=S'):oT X S' v l:=by have⟨ps,h1,h2,h3,h4⟩:=h;exact⟨ps,h1,h2,λg d=>by have:=h3 g d;omega,h4⟩
theorem nI.mono{S S':Nat}{X:Wq}{q:Rl×Vq×Vq}(h:nI X S q)(hs:S<=S'):nI X S' q:=⟨h.1,h.2.mono hs⟩
theorem Kp.ofStr{B S:Nat}{X Y:Wq}(h:Qa B X Y):Kp S X Y:=
 ⟨λk c d=>h.block k (zg d).1 (aR λc' z e=>by rw[d] at e;cases e),
  λk c _ d=>h.block k (zg d).1 (aR λc' z e=>by rw[d] at e;cases e)⟩
theorem Kp.alloc{S:Nat}(X:Wq)(o:Obj):Kp S X (X.alloc o):=
 ⟨λk c d=>aZ _ _ _ (zg d).1,λk c _ d=>aZ _ _ _ (zg d).1⟩
theorem Kp.trans{S:Nat}{X Y Z:Wq}(h:Kp S X Y)(k:Kp S Y Z):Kp S X Z:=
 ⟨λi c z=>by have d:=h.arg i c z;rw[k.arg i c (d.trans z),d],λi c A z=>by have d:=h.atom i c A z;rw[k.atom i c A (d.trans z),d]⟩
theorem Kp.grownAtom{S B n:Nat}{X Y:Wq}{v:Vq}{xs:List Vq}(A:aE X B 145 2 v n xs)(C:S<=B)(z:X.grownBy Y (aF v)):Kp S X Y:=by
 refine⟨λk c d=>z.block k (zg d).1 (λe=>?_),λk c E d=>z.block k (zg d).1 (λe=>?_)⟩
 .grind [qh]
 .have:=(Qp A k e.symm).1;omega
theorem Kp.grownRule{S B n:Nat}{X Y:Wq}{v:Vq}{xs:List Vq}(C:aE X B 148 3 v n xs)(z:X.grownBy Y (aF v)):Kp S X Y:=by
 refine⟨λk c d=>z.block k (zg d).1 (λe=>?_),λk c A d=>z.block k (zg d).1 (λe=>?_)⟩
 .grind [qh]
 .grind [qh]
theorem Kp.setRule{S:Nat}{X:Wq}{b:Nat}{c:Array Vq}(z:X.heap[b]?=cC c 148)(o:Nat)(u:Vq):Kp S X (X.setCell (Ad b o) u):=by
 refine⟨λk c' d=>aX _ _ _ _ (λe=>?_),λk c' _ d=>aX _ _ _ _ (λe=>?_)⟩
 .grind
 .grind
structure jS(N S:Nat)(w X:Wq)(vl:Vq)(qs:List (Rl×Vq×Vq))(hd:Am)(va vb:Vq)(ps:List (Am×Vq))(v:Vq)(vs:List ByteArray):Prop where
 ns:N<=S
 below:Below N w X
 rows:aE X N 148 3 vl (aB qs) (qs.flatMap lT)
 vlS:∀g,aF vl=aV g->g<S
 each:∀q∈qs,nI X S q
 xb:X.heap[S+1]?=cC #[St hd.rel,va,vb] 148
 head:fI X (hd,va)
 brow:aE X (S+2) 145 2 vb (aB ps) (ps.flatMap jH)
 beach:∀p∈ps,fI X p
 vars:aE X N 9 1 v (aB vs) (vs.map aI)
variable {N S:Nat} {w X Y:Wq} {vl:Vq} {qs:List (Rl×Vq×Vq)} {hd:Am} {va vb ag:Vq} {ps:List (Am×Vq)} {v v':Vq} {vs ak:List ByteArray}
theorem jS.alloc(h:jS N S w X vl qs hd va vb ps v vs)(o:Obj):jS N S w (X.alloc o) vl qs hd va vb ps v vs:=by
 have hs:N<=X.heap.size:=by have:=(zg h.xb).1;have:=h.ns;omega
 exact⟨h.ns,h.below.alloc hs o,h.rows.alloc o,h.vlS,λq z=>(h.each q z).kept (Kp.alloc X o),(aZ _ _ _ (zg h.xb).1).trans h.xb,h.head.kept (Kp.alloc (S:=S) X o),h.brow.alloc o,λp d=>(h.beach p d).kept (Kp.alloc (S:=S) X o),h.vars.alloc o⟩
theorem vY{B:Nat}{X Y:Wq}(h:Qa B X Y)(z:B<=X.heap.size):Below B X Y:=⟨h.os,h.tape,h.output,h.size,λk d=>h.block k (by omega) (aQ d)⟩
theorem jS.atom(h:jS N S w X vl qs hd va vb ps v vs)(hs:Qa N X Y)(E:aE Y N 9 1 v' (aB ak) (ak.map aI)):jS N S w Y vl qs hd va vb ps v' ak:=by
 have d:Kp S X Y:=Kp.ofStr hs;have z:N<=X.heap.size:=by have:=(zg h.xb).1;have:=h.ns;omega
 exact⟨h.ns,h.below.trans (vY hs z),hs.own (by decide) h.rows,h.vlS,λq C=>(h.each q C).kept d,(hs.block _ (zg h.xb).1 (aR λc G e=>by rw[h.xb] at e;cases e)).trans h.xb,h.head.kept d,hs.own (by decide) h.brow,λp A=>(h.beach p A).kept d,E⟩
theorem jS.app(h:jS N S w X vl qs hd va vb ps v vs)(hw:w.heap.size=N)(p:Am×Vq)(hp:fI X p)(A:X.grownBy Y (aF vb))(M:aE Y (S+2) 145 2 ag (aB ps+1) (ps.flatMap jH++jH p)):jS N S w (Y.setCell (Ad (S+1) 2) ag) vl qs hd va ag (ps++[p]) v vs:=by
 have hN:N<=X.heap.size:=by have:=(zg h.xb).1;have:=h.ns;omega
 have c7:=h.ns;have E:∀k,aF vb=aV k->S+2<=k:=λk e=>(Qp h.brow k e).1;have k1:Kp S X Y:=Kp.grownAtom h.brow (by omega) A;have O:Y.heap[S+1]?=cC #[St hd.rel,va,vb] 148:=(A.block _ (zg h.xb).1 (λe=>by have:=E _ e.symm;omega)).trans h.xb;have k2:Kp S Y (Y.setCell (Ad (S+1) 2) ag):=Kp.setRule O 2 ag;have C:=k1.trans k2;refine⟨h.ns,(h.below.grown A hN (λk e=>by have:=E k e;omega)).setCell (by simp;omega) _,?_,h.vlS,λq d=>(h.each q d).kept C,Qo O 2 ag,h.head.kept C,?_,?_,?_⟩
 .refine qn h.rows (λg z G=>?_);have h1:=h.vlS g z;rw[aX _ _ _ _ (by simp;omega)];exact A.block g G (λe=>by have:=E g e.symm;omega)
 .have Z:aE Y (S+2) 145 2 ag (aB (ps++[p])) ((ps++[p]).flatMap jH):=by{simpa using M};exact qn Z (λg z _=>aX _ _ _ _ (λe=>by have:=(Qp M g z).1;simp at e;omega))
 .intro q d;rcases bD.1 d with d|d
  .exact (h.beach q d).kept C
  .simp at d;subst d;exact hp.kept C
 .refine qn h.vars (λg z G=>?_);rw[aX _ _ _ _ (λe=>?_)];{refine A.block g G (λe=>?_);have⟨c,hc⟩:=qh h.vars z;have⟨c',cc⟩:=qh h.brow e.symm;rw[hc] at cc;cases cc};{simp at e;subst e;have⟨c,hc⟩:=qh h.vars z;rw[h.xb] at hc;cases hc}
structure oy(N:Nat)(w X:Wq)(vl:Vq)(qs:List (Rl×Vq×Vq)):Prop where
 below:Below N w X
 size:N<=X.heap.size
 rows:aE X N 148 3 vl (aB qs) (qs.flatMap lT)
 each:∀q∈qs,nI X X.heap.size q
theorem jS.done(h:jS N S w X vl qs hd va vb ps v vs){E:Vq}{o:Obj}(C:(X.alloc o).grownBy Y (aF vl))(O:aE Y N 148 3 E (aB qs+1) (qs.flatMap lT++[St hd.rel,va,vb])):oy N w Y E (qs++[(⟨hd,ps.map (·.1)⟩,va,vb)]):=by
 have hx:=(zg h.xb).1;have c7:=h.ns;have G:=h.alloc o;have M:=C.size;have k1:Kp X.heap.size X (X.alloc o):=Kp.alloc X o;have k2:Kp X.heap.size (X.alloc o) Y:=Kp.grownRule G.rows C;have z:=k1.trans k2;simp at M;refine⟨G.below.grown C (by simp;omega) (λk e=>(Qp h.rows k e).1),by omega,by simpa [lT] using O,λq d=>?_⟩;rcases bD.1 d with d|d
 .exact (((h.each q d).mono (by omega:S<=X.heap.size)).kept z).mono (by omega)
 .simp at d;subst d;refine⟨h.head.kept z,⟨ps,rfl,?_,?_,λp Z=>(h.beach p Z).kept z⟩⟩;{refine qn (Qj h.brow zz) (λg A _=>?_);have⟨c,hc⟩:=qh h.brow A;exact z.atom g c (zg hc).1 hc};{intro g A;have:=(Qp h.brow g A).2.1;omega}
theorem rB:∀(us:List RT) (vs:List ByteArray) (l:List Tm) (aq:List ByteArray) (n:Nat),eH vs us=aV (l,aq,n)->aB aq<=aB vs+n/\n<=aB us/\2<=n/\aB l<=n
 |[],vs,l,aq,n,h=>by simp[eH] at h
 |[a],vs,l,aq,n,h=>by simp[eH] at h
 |a::b::us,vs,l,aq,n,h=>by
  have d:=sO vs a;unfold eH at h;split at h;{grind}
  .cases hr:eH (iL vs a) us with
   |none=>rw[hr] at h;simp at h
   |some r=>have⟨l',v',n'⟩:=r;rw[hr] at h;simp only[Option.some.injEq,Prod.mk.injEq] at h;obtain⟨rfl,rfl,rfl⟩:=h;have:=rB us _ _ _ _ hr;simp;omega
theorem me.below{B:Nat}{a b:Wq}{g:Nat}{ts:List RT}(h:me a g ts)(d:Below B a b)(z:g<B):me b g ts:=
 ⟨h.1.below d z,by have⟨c,hc⟩:=h.2;exact⟨c,(d.block g z).trans hc⟩⟩
theorem uy{f:Nat}{us:List RT}{rs:List Rl}(h:ju f us=aV rs):∃t d,us=t::d/\((t.kind=4/\rs=[])\/(t.kind≠4/\∃p ad l vs n A m f' z,d=p::ad/\eH [] ad=aV (l,vs,n)/\jq (aB ad) vs (ad.drop n)=aV (A,m)/\ju f' ((ad.drop n).drop (m+1))=aV z/\rs=⟨⟨t.text,l⟩,A⟩::z)):=by
 cases f with
 |zero=>simp[ju] at h
 |succ f=>
  unfold ju at h
  match us,h with
  |[],h=>simp at h
  |t::d,h=>grind
theorem vA{f:Nat}{vs:List ByteArray}{us:List RT}{z:List Am}{m:Nat}(h:jq f vs us=aV (z,m)):∃t d,us=t::d/\((t.kind=46/\z=[]/\m=0)\/(t.kind≠46/\∃r p ad l ak n f' A C,d=r::p::ad/\eH vs ad=aV (l,ak,n)/\jq f' ak (ad.drop n)=aV (A,C)/\z=⟨r.text,l⟩::A/\m=3+n+C)):=by
 cases f with
 |zero=>simp[jq] at h
 |succ f=>
  unfold jq at h
  match us,h with
  |[],h=>simp at h
  |t::d,h=>grind
theorem rx{α:Type}{ts:List α}{j:Nat}{a:α}{us:List α}(h:ts.drop j=a::us):∃d:j<aB ts,ts[j]=a/\ts.drop (j+1)=us:=by grind [aB,aY,List.length_cons,List.drop_eq_getElem_cons]
theorem Tryz.infoAm:(Tryz.prog.info? 145).map (λi=>(i.zero,i.size,i.bytes))=aV (aV (aJ #[St ⟨#[]⟩,aH aW 0 0]),2,40):=by kernel_rfl
theorem Tryz.infoRl:(Tryz.prog.info? 148).map (λi=>(i.zero,i.size,i.bytes))=aV (aV (aJ #[St ⟨#[]⟩,aH aW 0 0,aH aW 0 0]),3,64):=by kernel_rfl
theorem GJ(w:Wq)(x y z:Vq)(t:TypeId):∀j u,[x,y,z][j]?=aV u->aC (w.alloc (aN #[x,y,z] t)) ((⟨w.heap.size,0,aW⟩:Addr).add j)=aV u:=by
 intro j u d
 match j,d with
 |0,d=>simp at d;subst d;simp[Addr.add]
 |1,d=>simp at d;subst d;simp[Addr.add]
 |2,d=>simp at d;subst d;simp[Addr.add]
 |j+3,d=>simp at d
theorem oy.start{N:Nat}{w X W1:Wq}{vl:Vq}{qs:List (Rl×Vq×Vq)}(h:oy N w X vl qs)(hs:Qa N X W1){hd:Am}{va A:Vq}{vs:List ByteArray}(ax:aE W1 X.heap.size 215 2 va (aB hd.args) (hd.args.flatMap iV))(hv:aE W1 N 9 1 A (aB vs) (vs.map aI))(a:Array Vq):jS N W1.heap.size w ((W1.alloc (aN a 145)).alloc (aN #[St hd.rel,va,aH aW 0 0] 148)) vl qs hd va (aH aW 0 0) [] A vs:=by
 have b7:=hs.size;have E:=h.size;have G:Below N w W1:=h.below.trans (vY hs E);have k1:Kp W1.heap.size X W1:=Kp.ofStr hs;have z:Kp W1.heap.size W1 ((W1.alloc (aN a 145)).alloc (aN #[St hd.rel,va,aH aW 0 0] 148)):=(Kp.alloc _ _).trans (Kp.alloc _ _);have d:=hs.own (by decide) h.rows;refine⟨by omega,(G.alloc (by omega) _).alloc (by simp;omega) _,(d.alloc _).alloc _,λg M=>by have:=(Qp d g M).2.1;omega,λq Z=>(((h.each q Z).mono (by omega)).kept k1).kept z,?_,?_,zo,(λp O=>by cases O),(hv.alloc _).alloc _⟩
 .have:=zn (W1.alloc (aN a 145)) (aN #[St hd.rel,va,aH aW 0 0] 148);rw[bC] at this;exact this
 .have C:fI W1 (hd,va):=Qj ax zz;exact C.kept z
theorem EE(g z:Nat)(ts:List RT)(f:Nat)(rs:List Rl)(w:Wq)(bv:me w g ts)(hl:aB ts<=400)(cz:ju f ts=aV rs):Cs 109 #[aH (aV ⟨g,0,aW⟩) (aB ts) z] w λe w'=>∃v qs,e=aO v/\oy w.heap.size w w' v qs/\qs.map (·.1)=rs:=by
 obtain⟨i0,hi,cp,c5,cv⟩:=info_parts Tryz.infoAm;obtain⟨j0,hj,ct,c8,ck⟩:=info_parts Tryz.infoRl;obtain⟨N,hN⟩:∃N,N=w.heap.size:=⟨_,rfl⟩;have c9:=hN.symm;have b6:g<N:=by rw[hN];exact bv.1.1
 rw[<-hN];have cf:Hid (me w g ts):=bv;clear hN bv;go_enter Tryz.func109,Tryz.ntmps109;go_wp2
 go_loopw [3,4] (λp q wr=>∃(i f':Nat) (vl:Vq) (qs:List (Rl×Vq×Vq)) (rest:List Rl),vl=p/\q=aM aP i/\oy N w wr vl qs/\Hid (ju f' (ts.drop i)=aV rest/\qs.map (·.1)++rest=rs)/\aB qs<=i) (λ_ q _=>aB ts-(intOf q).toNat)
 case atStart=>exact⟨0,f,_,[],rs,rfl,rfl,⟨zr,by omega,zo,λq hq=>by cases hq⟩,⟨cz,rfl⟩,Nat.le_refl _⟩
 case round=>
  obtain⟨i,f',vl,qs,rest,rfl,rfl,hO,Z,dk⟩:=hrel;obtain⟨a9,ay⟩:=Z.o;obtain⟨t,af,ap,hc⟩:=uy a9;obtain⟨Qhi,ch,M⟩:=rx ap;have al:=cf.o.below hO.below b6;have k0:=(al.1.2 i Qhi).1;rw[ch] at k0;rcases hc with⟨hk,rfl⟩|⟨hk,p,ad,l,vs,n,bs,m,f2,a6,rfl,ha,be,ai,rfl⟩
  .rw[hk] at k0;have HO:Hid (oy N w wr vl qs):=hO;have HR:Hid _:=ay;clear a9 ay hO Z M;go_wp2;go_ret;exact⟨vl,qs,rfl,HO.o,by have:=HR.o;simpa using this⟩
  .have mk:(t.kind == 4)=false:=by simpa using hk
   have mk':(t.kind != 4)=true:=by simpa using hk
   obtain⟨da,_,Qil⟩:=rx M;have cn:=rB _ _ _ _ _ ha;have av:ts.drop (i+2)=ad:=Qil;have aw:eH [] (ts.drop (i+2))=aV (l,vs,n):=by rw[av];exact ha
   have b0:=wV g z ts i N (aH aW 0 0) [] l vs n wr al hl Qhi hO.size (by simp) zo aw;rw[ch] at b0;have HO:Hid (oy N w wr vl qs):=hO;have HR:Hid _:=ay;have dh:aB ad<=400:=by rw[<-av,aY];omega
   have au:ad.drop n=ts.drop (i+2+n):=by rw[<-av,bB]
   rw[au] at be ai;rw[bB] at ai;have cq:Hid _:=be;have cr:Hid _:=ai;have dl:i+2+n<=aB ts:=by have:=congrArg aB av;rw[aY] at this;omega
   clear a9 ay hO Z M Qil be ai ha aw av au al ap;generalize t.kind=tk at *;generalize t.text=tx at *;go_wp2_with fail;refine b0.mono ?_;rintro e W1 ⟨va,v1,rfl,ax,ca,ce⟩;have bu:jS N W1.heap.size w ((W1.alloc (aN #[aI tx,va] 145)).alloc (aN #[aI tx,va,aH aW 0 0] 148)) vl qs ⟨tx,l⟩ va (aH aW 0 0) [] v1 vs:=HO.o.start (hd:=⟨tx,l⟩) ce ax ca _;obtain⟨S,hS⟩:∃S,S=W1.heap.size:=⟨_,rfl⟩;have di:=hS.symm;rw[<-hS] at bu;obtain⟨aa,A,rfl⟩:=qe ax;have E:Hid _:=bu;clear bu hS b0 ax ca ce HO;go_wp2
   go_loopw [6,7] (λp q wr=>∃(j fb m':Nat) (vk vb:Vq) (C:List ByteArray) (ps:List (Am×Vq)) (rb:List Am),vk=q/\p=aM aP j/\jS N S w wr vl qs ⟨tx,l⟩ (aH aa (aB l) A) vb ps vk C/\Hid (jq fb C (ts.drop j)=aV (rb,m')/\ps.map (·.1)++rb=bs/\j+m'=i+2+n+m)/\aB ps<=j/\aB C<=j/\i+2<=j) (λp _ _=>aB ts-(intOf p).toNat)
   case atStart=>exact⟨i+2+n,aB ad,m,v1,_,vs,[],bs,rfl,by go_num,E.o,⟨cq.o,rfl,rfl⟩,by simp,by have:=cn.1;simp at this;omega,by omega⟩
   case round=>
    obtain⟨j,fb,m',vk,vb,C,ps,rb,rfl,rfl,hI,Z,dc,dg,db⟩:=hrel;obtain⟨b1,b2,b3⟩:=Z.o;obtain⟨t2,df,ap,hc⟩:=vA b1;obtain⟨Qhl,cw,G⟩:=rx ap;have al:=cf.o.below hI.below b6;have kj:=(al.1.2 j Qhl).1;rw[cw] at kj;rcases hc with⟨a7,rfl,rfl⟩|⟨a7,r,p,bn,d,ao,n2,cx,ci,m2,rfl,b5,bj,rfl,rfl⟩
    .rw[a7] at kj;have dj:S+2<=wr.heap.size:=(zg hI.xb).1;have x0:aC wr (Ad (S+1) 0)=aV (aI tx):=by simp[aC,hI.xb]
     have x1:aC wr (Ad (S+1) 1)=aV (aH aa (aB l) A):=by simp[aC,hI.xb]
     have x2:aC wr (Ad (S+1) 2)=aV vb:=by simp[aC,hI.xb]
     obtain⟨ba,bc,rfl⟩:=qe hI.brow;have HI:Hid (jS N S w wr vl qs ⟨tx,l⟩ (aH aa (aB l) A) (aH ba (aB ps) bc) ps vk C):=hI;have bk:aB qs+1<=maxLen:=by unfold maxLen;omega
     have bh:(aB qs+1)*64<=140737488355328:=by omega
     have b4:Hid (∀O,N<=(wr.alloc O).heap.size):=λO=>by have:=hI.ns;simp;omega
     have bq:∀u∈[aI tx,aH aa (aB l) A,aH ba (aB ps) bc],u.oneCell'=true:=by simp[bE]
     have bi:Hid _:=b2;clear hI b1 b2 Z ap G al E
     go_wp2_with (at_builtin;refine wpList_append_own _ rfl (.tmp 50) (.tmp 52) 139 rfl N 148 j0 (aJ #[aI ⟨#[]⟩,aH aW 0 0,aH aW 0 0]) 3 64 Tryz.underlying139 hj ct c8 ck rfl (by decide) _ _ _ rfl (HI.o.rows.alloc _) ⟨wr.heap.size,0,aW⟩ 1 1 [aI tx,aH aa (aB l) A,aH ba (aB ps) bc] rfl rfl (GJ _ _ _ _ _) bq bk bh (b4.o _) ?_;intro a8 w1 ae ab _)
     have hD:=HI.o.done ab ae;clear ae ab
     go_roundw
     case rel=>
      refine⟨j+1,f2,a8,_,a6,rfl,by go_num,hD,⟨?_,?_⟩,by simp;omega⟩
      .rw[<-cr.o];congr 2;omega
      .rw[<-HR.o,<-bi.o];simp
     case measure=>simp[intOf];omega
    .have de:(t2.kind == 46)=false:=by simpa using a7
     have cj:(t2.kind != 46)=true:=by simpa using a7
     obtain⟨co,c3,Qim⟩:=rx G;obtain⟨dn,_,Qin⟩:=rx Qim;have Qj2:=rB _ _ _ _ _ b5;have az:ts.drop (j+1+2)=bn:=Qin;have aw:eH C (ts.drop (j+1+2))=aV (d,ao,n2):=by rw[az];exact b5
     have c6:N<=wr.heap.size:=by have:=(zg hI.xb).1;have:=hI.ns;omega
     have bd:Cs 177 #[aH (aV ⟨g,0,aW⟩) (aB ts) z,aM aP ((j:Int)+1),vk] wr λe w'=>∃va v',e=aO (aL #[aJ #[aI ts[j+1].text,va],aM aP (j+1+2+n2:Nat),v'])/\
       aE w' wr.heap.size 215 2 va (aB d) (d.flatMap iV)/\aE w' N 9 1 v' (aB ao) (ao.map aI)/\Qa N wr w':=wV g z ts (j+1) N vk C d ao n2 wr al hl co c6 (by omega) hI.vars aw
     rw[c3] at bd;have dm:aB bn+(j+3)=aB ts:=by have:=congrArg aB az;rw[aY] at this;omega
     have au:bn.drop n2=ts.drop (j+1+2+n2):=by rw[<-az,bB]
     rw[au] at bj;have cy:Hid _:=bj;have bi:Hid _:=b2;have HI:Hid (jS N S w wr vl qs ⟨tx,l⟩ (aH aa (aB l) A) vb ps vk C):=hI;have bk:aB ps+1<=maxLen:=by unfold maxLen;omega
     have bh:(aB ps+1)*40<=140737488355328:=by omega
     clear hI b1 b2 Z ap G Qim Qin al E aw az au b5 bj;generalize t2.kind=tk2 at *;generalize r.text=tx2 at *;go_wp2_with fail;refine bd.mono ?_;rintro e w2 ⟨cu,v2,rfl,am,cd,b8⟩;have hJ:=HI.o.atom b8 cd;have cg:fI w2 (⟨tx2,d⟩,cu):=Qj am zz;obtain⟨a2,c2,rfl⟩:=qe am;have x2:aC w2 (Ad (S+1) 2)=aV vb:=by simp[aC,hJ.xb]
     have dd:S+2<=w2.heap.size:=(zg hJ.xb).1;have xq:∀O,aC (w2.alloc O) (Ad (S+1) 2)=aV vb:=λO=>(Below.cell ((Below.refl w2.heap.size w2).alloc zl O) (by simp;omega)).trans x2;have HJ:Hid (jS N S w w2 vl qs ⟨tx,l⟩ (aH aa (aB l) A) vb ps v2 ao):=hJ;have c1:Hid (fI w2 (⟨tx2,d⟩,aH a2 (aB d) c2)):=cg;have b4:Hid (∀O O',S+2<=((w2.alloc O).alloc O').heap.size):=λO O'=>by simp;omega
     have bq:∀u∈[aI tx2,aH a2 (aB d) c2],u.oneCell'=true:=by simp[bE]
     have Qk0:Hid (∀(O:Obj) (x y:Vq) (t:TypeId) (i:Nat) (q:Vq),[x,y][i]?=aV q->aC ((w2.alloc O).alloc (aN #[x,y] t)) ((⟨w2.heap.size+1,0,aW⟩:Addr).add i)=aV q):=by intro O x y t i q hq;have:=mo (w2.alloc O) x y t i q hq;rw[bC] at this;exact this
     have c4:Hid (∀(O O':Obj) (w1:Wq),((w2.alloc O).alloc O').grownBy w1 (aF vb)->aC w1 (Ad (S+1) 2)=aV vb/\(∀o,aD w1 (Ad (S+1) o)=false)):=by intro O O' w1 hg;have h2:=(HJ.o.alloc O).alloc O';have h1:w1.heap[S+1]?=_:=(hg.block (S+1) (zg h2.xb).1 (λe=>by have:=(Qp h2.brow _ e.symm).1;omega)).trans h2.xb;exact⟨zc h1,λo=>by simp[aD,h1]⟩
     clear hJ cg am cd b8 bd
     go_wp2_with (at_builtin;refine wpList_append_own _ rfl (.tmp 43) (.tmp 45) 146 rfl (S+2) 145 i0 (aJ #[aI ⟨#[]⟩,aH aW 0 0]) 2 40 Tryz.underlying146 hi cp c5 cv rfl (by decide) _ _ _ rfl ((HJ.o.brow.alloc _).alloc _) ⟨w2.heap.size+1,0,aW⟩ 1 1 [aI tx2,aH a2 (aB d) c2] rfl rfl (Qk0.o _ _ _ _) bq bk bh (b4.o _ _) ?_;intro ag w1 ae ab _;obtain⟨xc,xf⟩:=c4.o _ _ w1 ab;have HA:Hid (jS N S w (w1.setCell (Ad (S+1) 2) ag) vl qs ⟨tx,l⟩ (aH aa (aB l) A) ag (ps++[(⟨tx2,d⟩,aH a2 (aB d) c2)]) v2 ao):=((HJ.o.alloc _).alloc _).app c9 _ (((c1.o.kept (Kp.alloc (S:=S) _ _))).kept (Kp.alloc (S:=S) _ _)) ab ae;obtain⟨gb,cb,c0⟩:=ownsRow_succ ae;subst c0)
     go_roundw
     case rel=>refine⟨j+1+2+n2,cx,m2,v2,_,ao,_,ci,rfl,by go_num,HA.o,⟨cy.o,?_,by omega⟩,by simp;omega,by have:=Qj2.1;omega,by omega⟩;rw[<-bi.o];simp
     case measure=>simp[intOf];omega
