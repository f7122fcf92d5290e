/- A part -/
import Derived.Test.YtjajnhemgphefaaGreatDoorJWvF
import Derived.Test.YtjajnhemgphefaaGreatDoorJWzK
set_option linter.all false
set_option maxRecDepth 100000
set_option maxHeartbeats 4000000
open List renaming length->aB,getElem?_eq_getElem->aX,getElem?_eq_some_iff->aZ,length_map->bC,length_set->bE,getElem?_set_self->bF,getElem_of_mem->bH,mem_map->bI,length_append->bJ,not_mem_nil->bL,append_nil->bO,mem_cons->bQ
open Go.World renaming cell?->aC,frozen?->aD,ownsRow->aE,cell?_of_block->aY
open Go.Value renaming ownBlock->aF,slice->aH,agg->aJ,bool->aK,tuple->aL,int->aM
open Go.Obj renaming cells->aN
open Go.Ending renaming returned->aO
open Go.IntKind renaming i64->aP
open Or renaming inl->aQ,inr->aR
open Option renaming some->aV,none->aW
open Go.Calls renaming mono->bB
open Nat renaming le_trans->bD
open Go.RowKit.Below renaming refl->bG
open Go.RowKit renaming Below->bT
open Go.Proofs.Tryz renaming underlying196->bU,prog->bX,ntmps120->cA,func120->cD,ntmps37->cE,func37->cF
open Go.Lib renaming Utf8Tabs->bZ
namespace Go.Proofs.YtjajnhemgphefaaGreatDoor
open Go renaming World->Wq,Value->Vq
open Go.RowKit Go.Shelf
variable {l:List Rc} {P:Program} {e:Eg} {y:Er}
theorem BS{st:List Gr}(h:aB st<=2048)(rel:ByteArray):aB (iU st rel)<=2048:=by have d:=(rX ((st.filter (lJ rel)).map j8) [] List.Pairwise.nil).2;rw[bO] at d;have z:aB (iU st rel)=_:=d.length_eq;rw[z,bC];exact bD (List.length_filter_le _ _) h
theorem A0{d:Int}{l:List ByteArray}(h:aB l<=2048)(z:List ByteArray):aB (Q1 d l z)<=2048:=by grind [Q1]
theorem vE{P:Program}(w:Wq){C:Array Oper}{rest:List Oper}{o:Oper}{a:Act}{Q:Exit->Act->Wq->Prop}(M:o.guard=aW)(s x:Operand)(t:TypeId)(ho:o.op=.call {callee:=.builtin .append,args:=#[s,x],argTypes:=#[t,t]})(i:TypeInfo)(z:Vq)(Z:P.underlying t=aV (.slice 71))(h2:P.info? 71=aV i)(h3:i.zero=aV z)(h4:i.size=4)(h5:i.bytes=40)(h6:z.cells.size=4){v E:Vq}{l A:List Rc}(hs:a.eval s=v)(hv:dJ w v l)(hx:a.eval x=E)(G:Src P 4 t E (aB A) (A.flatMap Rc.c) w)(hl:aB l+aB A<=100000)(hK:∀d w',dJ w' d (l++A)->w.grownBy w' (aF v)->(aF d=aF v\/aF d=aV w.heap.size)->wpList P C Q rest (a.put o.dst d) w'):wpList P C Q (o::rest) a w:=by refine wpList_plain M λK O=>?_;have⟨d,w',e7,r1,r2,r3⟩:=Jz (P:=P) w t o.type 71 rfl i z Z h2 h3 h4 h5 h6 hv G hl;unfold Oper.wp;simp[execOp,ho,resolve,invoke,builtin,hs,hx,e7,Result.andThen];exact O _ _ (hK d w' r1 r2 r3)
structure nA(W0 w:Wq)(v:Vq)(l:List Rc):Prop where
 row:dJ w v l
 new:∀j,aF v=aV j->W0.heap.size<=j
 below:bT W0.heap.size W0 w
theorem nA.next{W0 w w':Wq}{v z:Vq}{E:List Rc}(h:nA W0 w v l){w1:Wq}(A:bT w.heap.size w w1)(Z:dJ w' z E)(d:w1.grownBy w' (aF v))(G:aF z=aF v\/aF z=aV w1.heap.size):nA W0 w' z E:=by
 have M:=h.below.size;have h2:=A.size;have O:bT W0.heap.size W0 w1:=h.below.trans (A.mono M);refine⟨Z,λj C=>?_,O.trans ⟨d.os,d.tape,d.output,d.size,λk hk=>d.block k (by omega) (λe=>?_)⟩⟩
 .rcases G with e|e
  .rw[e] at C;exact h.new j C
  .grind
 .have:=h.new k e.symm;omega
theorem dJ.form{w:Wq}{v:Vq}(h:dJ w v l):∃a c,v=aH a (aB l) c:=by
 rcases h with⟨rfl,rfl⟩|⟨g,z,d,aq,rfl,_⟩
 .simp_all
 .grind
theorem dJ.src{w:Wq}{t e':TypeId}(z:P.underlying t=aV (.slice e')){v:Vq}{l:List Rc}(h:dJ w v l):Src P 4 t v (aB l) (l.flatMap Rc.c) w:=by
 rcases h with⟨rfl,rfl⟩|⟨g,O,A,aq,rfl,C,Z,h4,h5,E⟩
 .exact Src.ofNil w z 0
 .refine Src.ofSlice w z _ _ _ _ (pP l) (λj u d=>?_) (λu M=>?_);{rw[Addr.add_lit];have G:=(aZ.1 d).1;rw[pP] at G;rw[<-E,List.getElem?_take,if_pos (by omega),List.getElem?_drop] at d;simpa [aC,C] using d}
  .have⟨r,_,hr⟩:=List.mem_flatMap.1 M;unfold Rc.c at hr;simp only[bQ,bL,or_false] at hr;rcases hr with rfl|rfl|rfl|rfl<;>rfl
theorem IA(b i:Nat)(f:Fr)(ac st:List Gr)(que m:Int)(hw:tR ac)(d6:tR st)(hq:que<=50)(eh:aB f.que<=50):wy b i f ac que m st:=by
 rintro W T y vw sw ⟨vr,vf,vn,vs,vd,qs,fs,ss,ds,h⟩ hf cv ef c7 df ch;have⟨da,dc,fm⟩:=qe h.feeds;have⟨sa,sc,fa⟩:=qe h.state.row;have⟨wa,wc,ff⟩:=qe cv.row;subst fm fa ff;have ge:aB y.feeds=aB ds:=by rw[<-h.feedsm,bC]
 have hk:i<aB ds:=by grind
 have⟨g,cap,e1,_,ga,_,hc⟩:=iI h.feeds (λ_=>rfl) (by omega);cases e1;obtain⟨p,hp⟩:∃p,ds[i]=p:=⟨_,rfl⟩;have a7:ds[i]?=aV p:=by grind
 have e6:p∈ds:=List.mem_of_getElem? a7;have dw:p.1=f:=by rw[<-h.feedsm,List.getElem?_map,a7] at hf;simpa using hf
 have⟨f',v2,v3⟩:=p;simp only at dw;subst dw;have⟨rel,bh,sn,qu,nx⟩:=f';have⟨bd,ap⟩:=h.feede _ e6;simp only at bd ap;have k0:aC W (Ad g (i*5))=aV (St rel):=by have:=hc i 0 hk _ (by decide) rfl;rw[hp] at this;exact this
 have k1:aC W (Ad g (i*5+1))=aV (aK bh):=by have:=hc i 1 hk _ (by decide) rfl;rw[hp] at this;exact this
 have k2:aC W (Ad g (i*5+2))=aV v2:=by have:=hc i 2 hk _ (by decide) rfl;rw[hp] at this;exact this
 have k3:aC W (Ad g (i*5+3))=aV v3:=by have:=hc i 3 hk _ (by decide) rfl;rw[hp] at this;exact this
 have k4:aC W (Ad g (i*5+4))=aV (Ii nx):=by have:=hc i 4 hk _ (by decide) rfl;rw[hp] at this;exact this
 obtain⟨n2,fl⟩:∃a2 c2,v2=aH a2 (aB sn) c2:=by
  rcases bd.1 with⟨rfl,rfl⟩|⟨g',az,ak,aq,rfl,_⟩
  .exact⟨_,_,rfl⟩
  .exact⟨_,_,rfl⟩
 obtain⟨c2,rfl⟩:=fl
 obtain⟨O,fo⟩:∃a3 E,v3=aH a3 (aB qu) E:=by
  rcases ap.1 with⟨rfl,rfl⟩|⟨g',az,ak,aq,rfl,_⟩
  .exact⟨_,_,rfl⟩
  .exact⟨_,_,rfl⟩
 obtain⟨E,rfl⟩:=fo;have c9:aC W (Ad b 9)=aV (Sc g (aB ds) dc):=by simp[aC,h.box]
 cases bh with
 |true=>
  have hE:Hid (∀Y,bT W.heap.size W Y->Qu T b {y with feeds:=y.feeds.set i (iZ que m ac st ⟨rel,true,sn,qu,nx⟩)} W Y/\qJ W Y):=λY hY=>by
   have fi:y.feeds.set i (iZ que m ac st ⟨rel,true,sn,qu,nx⟩)=y.feeds:=by
    have⟨G,A⟩:=aZ.1 hf;have:iZ que m ac st ⟨rel,true,sn,qu,nx⟩=y.feeds[i]:=by{rw[A];rfl};rw[this,List.set_getElem_self]
   rw[fi];exact⟨Qu.same ⟨_,_,_,_,_,_,_,_,_,h⟩ hY,λk c t _ _ hk=>hY.block k (zg hk).1⟩
  clear h hc c7 df ch;go_enter cD,cA;go_wp2;refine bodyPost_ret (v:=aL #[]) (by simp[results,Tryz.results120,go_sem]) rfl ?_;exact⟨rfl,hE.o _ ((bG _ W).alloc zl _)⟩
 |false=>
  obtain⟨N,hN⟩:∃N,W.heap.size=N:=⟨_,rfl⟩;obtain⟨W0,a6⟩:∃W0,W.alloc (aN #[St rel,aK false,aH n2 (aB sn) c2,aH O (aB qu) E,Ii nx] 246)=W0:=⟨_,rfl⟩;have ab:bT W.heap.size W W0:=by{rw[<-a6];exact (bG _ W).alloc zl _};have cw:W0.heap[N]?=cC #[St rel,aK false,aH n2 (aB sn) c2,aH O (aB qu) E,Ii nx] 246:=by{rw[<-a6,<-hN];exact zn W _};have gb:W0.heap.size=N+1:=by{rw[<-a6,<-hN];simp};have HB:Hid (∀Y,bT W0.heap.size W0 Y->bT W.heap.size W Y/\gM Y (aH wa (aB sw) wc) sw/\gM Y (aH sa (aB ss) sc) ss/\aC Y (Ad b 3)=aV (Ii que)/\aC Y (Ad b 5)=aV (Ii m)/\aC Y (Ad b 8)=aV (aH sa (aB ss) sc)/\aC Y (Ad N 0)=aV (St rel)/\Y.heap[N]?=cC #[St rel,aK false,aH n2 (aB sn) c2,aH O (aB qu) E,Ii nx] 246):=λY hY=>by{have G:bT W.heap.size W Y:=ab.trans (hY.mono ab.size);have A:=(h.below G).box;have h3:=(hY.block N (by omega)).trans cw;rw[c7,df] at A;exact⟨G,cv.below G,(h.below G).state,zc A,zc A,zc A,zc h3,h3⟩};obtain⟨t1,cj⟩:∃l,iU ac rel=l:=⟨_,rfl⟩;obtain⟨t2,ck⟩:∃l,iU st rel=l:=⟨_,rfl⟩;obtain⟨l1,b6⟩:∃l,Q1 3 t1 t2=l:=⟨_,rfl⟩;obtain⟨l2,bb⟩:∃l,Q1 2 t2 t1=l:=⟨_,rfl⟩;have e4:aB t1<=2048:=by{rw[<-cj];exact BS hw.1 rel};have fy:aB t2<=2048:=by{rw[<-ck];exact BS d6.1 rel};have gl:aB l1<=2048:=by{rw[<-b6];exact A0 e4 _};have gc:aB l2<=2048:=by{rw[<-bb];exact A0 fy _};have dp:my ac st rel m=l1++l2++[⟨4,0,⟨#[]⟩,m⟩]:=by unfold my;rw[cj,ck,b6,bb]
  have eo:Hid (Cs 127 #[aH wa (aB sw) wc,St rel] W0 λe w'=>∃ta tc,e=aO (aH ta (aB t1) tc)/\Hid (qv w' (aH ta (aB t1) tc) t1/\bT W0.heap.size W0 w')):=by
   have ax:=hw;rw[<-ef] at ax;refine (wb (aH wa (aB sw) wc) sw rel W0 (HB.o W0 zr).2.1 (by have:=ax.1;rw[bC] at this;omega) (λp hp=>ax.2 p.1 (bI.2 ⟨p,hp,rfl⟩))).mono ?_;rintro e w' ⟨z,q1,C,M⟩;have e1:jy [] (lQ (sw.map (·.1)) rel)=t1:=by{rw[ef];exact cj};rw[e1] at C;obtain⟨ta,tc,rfl⟩:=qe C;exact⟨ta,tc,q1,Qj C zz,M⟩
  have dl:Hid (∀Y ta tc,bT W0.heap.size W0 Y->qv Y (aH ta (aB t1) tc) t1->Cs 127 #[aH sa (aB ss) sc,St rel] Y λe w'=>∃ua uc,e=aO (aH ua (aB t2) uc)/\(aC w' (Ad b 8)=aV (aH sa (aB ss) sc)/\aC w' (Ad N 0)=aV (St rel))/\Hid (qv w' (aH ta (aB t1) tc) t1/\qv w' (aH ua (aB t2) uc) t2/\bT W0.heap.size W0 w')):=λY ta tc hY hS=>by
   have ax:=d6;rw[<-ch,<-h.statem] at ax;refine (wb (aH sa (aB ss) sc) ss rel Y (HB.o Y hY).2.2.1 (by have:=ax.1;rw[bC] at this;omega) (λp hp=>ax.2 p.1 (bI.2 ⟨p,hp,rfl⟩))).mono ?_;rintro e w' ⟨z,q1,C,M⟩;have e1:jy [] (lQ (ss.map (·.1)) rel)=t2:=by{rw[h.statem,ch];exact ck};rw[e1] at C;obtain⟨ua,uc,rfl⟩:=qe C;have q4:bT W0.heap.size W0 w':=hY.trans (M.mono hY.size);have⟨_,_,_,_,_,r8,r0,_⟩:=HB.o w' q4;exact⟨ua,uc,q1,⟨r8,r0⟩,qj hS M,Qj C zz,q4⟩
  have HH:=aA h;have d7:=aA bd;have c6:=aA ap;have p1:aC W0 (Ad N 1)=aV (aK false):=zc cw;have p0:aC W0 (Ad N 0)=aV (St rel):=zc cw;have em:=(h.below ab).feeds
  have b0:Hid (∀(X Z:Wq) (p':Fr×Vq×Vq),dD W0 X (λj=>aF (aH O (aB qu) E)=aV j\/j=N)->(X.setCells g (i*5) (jf p')).drew=Z->dJ X p'.2.1 p'.1.snap->dJ X p'.2.2 p'.1.que->(∀j,aF p'.2.1=aV j->aF (aH n2 (aB sn) c2)=aV j)->(∀j,aF p'.2.2=aV j->aF (aH O (aB qu) E)=aV j\/W0.heap.size<=j)->iZ que m ac st ⟨rel,false,sn,qu,nx⟩=p'.1->Qu T b {y with feeds:=y.feeds.set i (iZ que m ac st ⟨rel,false,sn,qu,nx⟩)} W Z/\qJ W Z):=λX Z p' hX hZ q1 C M q4 fv=>by
   rw[fv];have⟨f1,f2,f3,f4,f5⟩:=qG g (jf p') (i*5) X;have gj:=hX.size;have et:g<W.heap.size:=h.lt g (h.feedsT g rfl);have bf:∀j,aF (aH O (aB qu) E)=aV j->j<N:=λj d=>by{rw[<-hN];exact h.lt j (ap.2 j d)};have bb:∀j,aF (aH n2 (aB sn) c2)=aV j->j<N:=λj d=>by{rw[<-hN];exact h.lt j (bd.2 j d)};have⟨cg,b7⟩:=qh h.feeds (g:=g) rfl
   have c5:aF (aH O (aB qu) E)≠aV g:=λe=>by
    rcases ap.1 with⟨e',_⟩|⟨g',az,ak,aq,e',A,_⟩
    .rw[e'] at e;cases e
    .rw[e'] at e;have e2:g'=g:=by{simpa [aF] using e};rw[e2,b7] at A;cases A
   have ep:aE X 0 246 5 (Sc g (aB ds) dc) (aB ds) (ds.flatMap jf):=qn em (λj d a9=>by
    have e':g=j:=by{simpa [aF] using d};subst e'
    exact hX.block g a9 (λe=>e.elim c5 (λe=>by omega)))
   have fc:∃c,X.heap[g]?=cC c 246:=qh ep rfl
   have dn:∀{v:Vq} {l:List Rc},dJ X v l->dJ Z v l:=λ{v l} hr=>hr.keep (λj d=>by
    have dj:j≠g:=λe=>by
     have⟨c',fh⟩:=fc;rcases hr with⟨rfl,_⟩|⟨g',az,cap,aq,rfl,A,_⟩
     .cases d
     .cases d;have e':g'=g:=e;rw[e',fh] at A;cases A
    rw[<-hZ]
    exact f5 j dj)
   refine h.putFeed a7 (W':=Z) (p':=p') ⟨?_,?_,?_,?_,λj d hn=>?_⟩ ?_ (dn q1) (dn C) (λj d=>aQ (M j d)) (λj d=>(q4 j d).imp id (λh=>by omega)) (λj d e=>?_);{rw[<-hZ];exact f1.trans (hX.os.trans ab.os)};{rw[<-hZ];exact f2.trans (hX.tape.trans ab.tape)};{rw[<-hZ];exact f3.trans (hX.output.trans ab.output)};{rw[<-hZ];show W.heap.size<=(X.setCells g (i*5) (jf p')).heap.size;omega};{have dj:j≠g:=λe=>hn (aQ (by rw[e];rfl));rw[<-hZ];show (X.setCells g (i*5) (jf p')).heap[j]?=_;rw[f5 j dj,hX.block j (by omega) (λe=>e.elim (λe=>hn (aR e)) (λe=>by omega)),ab.block j d]};{rw[<-hZ];exact AE ep (λ_=>rfl) hk p'}
   .have A:=M j e;rcases q4 j d with G|G
    .exact (h.sepQ i i _ _ j a7 a7 G).2 A
    .have:=bb j A;omega
  have cl:Hid (∀X,dD W0 X (λj=>aF (aH O (aB qu) E)=aV j\/j=N)->aC X (Ad b 9)=aV (Sc g (aB ds) dc)/\(aC X (Ad g (i*5))=aV (St rel)/\aC X (Ad g (i*5+1))=aV (aK false)/\aC X (Ad g (i*5+2))=aV (aH n2 (aB sn) c2)/\aC X (Ad g (i*5+3))=aV (aH O (aB qu) E)/\aC X (Ad g (i*5+4))=aV (Ii nx))/\(aD X (Ad g (i*5))=false/\aD X (Ad g (i*5+1))=false/\aD X (Ad g (i*5+2))=false/\aD X (Ad g (i*5+3))=false/\aD X (Ad g (i*5+4))=false)):=λX hX=>by
   have⟨cg,b7⟩:=qh h.feeds (g:=g) rfl;have et:g<W.heap.size:=h.lt g (h.feedsT g rfl)
   have c5:∀j,(∃c t,W.heap[j]?=cC c t/\t≠71)->aF (aH O (aB qu) E)≠aV j:=λj d e=>by
    rcases ap.1 with⟨e',_⟩|⟨g',az,ak,aq,e',A,_⟩
    .rw[e'] at e;cases e
    .rw[e'] at e;have e2:g'=j:=by{simpa [aF] using e};have⟨c,t,h3,h4⟩:=d;rw[e2,h3] at A;cases A;exact h4 rfl
   have dq:∀j,j<W.heap.size->(∃c t,W.heap[j]?=cC c t/\t≠71)->X.heap[j]?=W.heap[j]?:=λj d ht=>(hX.block j (by omega) (λe=>e.elim (c5 j ht) (λe=>by omega))).trans (ab.block j d);have e1:=dq g et ⟨cg,_,b7,by decide⟩;have e2:=dq b (h.lt b h.own) ⟨_,_,h.box,by decide⟩;have hf:∀o,aD X (Ad g o)=false:=λo=>by{have:=e1.trans b7;simp[aD,this]};exact⟨(aY (w:=W) (a:=⟨b,9,aW⟩) e2).trans c9,⟨(aY (w:=W) (a:=⟨g,i*5,aW⟩) e1).trans k0,(aY (w:=W) (a:=⟨g,i*5+1,aW⟩) e1).trans k1,(aY (w:=W) (a:=⟨g,i*5+2,aW⟩) e1).trans k2,(aY (w:=W) (a:=⟨g,i*5+3,aW⟩) e1).trans k3,(aY (w:=W) (a:=⟨g,i*5+4,aW⟩) e1).trans k4⟩,⟨hf _,hf _,hf _,hf _,hf _⟩⟩
  clear h hc bd ap cv c7 df ch em;go_enter cD,cA;go_wp2_with fail;refine bB eo.o ?_;rintro e' W1 ⟨ta,tc,rfl,cp⟩;clear eo;have Qgq:=dl.o W1.drew ta tc cp.o.2.drew (qj cp.o.1 zr.drew);have⟨_,_,_,_,_,q8,q0,_⟩:=HB.o W1.drew cp.o.2.drew;go_wp2_with fail
  first|(go_region_held3 (λw'=>aC w' (Ad b 8)=aV (aH sa (aB ss) sc)/\aC w' (Ad N 0)=aV (St rel)) (first|with_reducible exact⟨q8,q0⟩|with_reducible assumption) (first|(go_at_call 127;refine bB Qgq ?_;rintro e' W2 ⟨ua,uc,rfl,fw,an⟩)|go_simp))|fail
  clear fw q8 q0 dl Qgq cp;have ey:Hid (Cs 128 #[Ii 3,aH ta (aB t1) tc,aH ua (aB t2) uc] W2 λe w'=>∃ca cc,e=aO (aH ca (aB l1) cc)/\Hid (aE w' W2.heap.size 71 4 (aH ca (aB l1) cc) (aB l1) (l1.flatMap Rc.c)/\qv w' (aH ta (aB t1) tc) t1/\qv w' (aH ua (aB t2) uc) t2/\bT W0.heap.size W0 w')):=by{refine (uJ 3 _ _ t1 t2 W2 an.o.1 an.o.2.1 (by omega) (by omega)).mono ?_;rintro e w' ⟨z,q1,C,M⟩;rw[b6] at C;obtain⟨ca,cc,rfl⟩:=qe C;exact⟨ca,cc,q1,C,qj an.o.1 M,qj an.o.2.1 M,an.o.2.2.trans (M.mono an.o.2.2.size)⟩};go_wp2_with fail;refine bB ey.o ?_;rintro e' W3 ⟨ca,cc,rfl,au⟩;clear ey;have d5:Hid (Cs 128 #[Ii 2,aH ua (aB t2) uc,aH ta (aB t1) tc] W3 λe w'=>∃ea ec,e=aO (aH ea (aB l2) ec)/\Hid (nA W0 w' (aH ca (aB l1) cc) l1/\dJ w' (aH ea (aB l2) ec) l2)):=by{refine (uJ 2 _ _ t2 t1 W3 au.o.2.2.1 au.o.2.1 (by omega) (by omega)).mono ?_;rintro e w' ⟨z,q1,C,M⟩;rw[bb] at C;obtain⟨ea,ec,rfl⟩:=qe C;have hz:=an.o.2.2.size;exact⟨ea,ec,q1,⟨(dJ.own (b:=0) (Qj (qj au.o.1 M) zz)),λj d=>bD hz (qd au.o.1 d).1,au.o.2.2.2.trans (M.mono au.o.2.2.2.size)⟩,dJ.own (b:=0) (Qj C zz)⟩};have⟨i0,ao,c4,dg,dd⟩:=info_parts Tryz.infoRec;go_wp2_with fail;refine bB d5.o ?_;rintro e' W4 ⟨ea,ec,rfl,cn⟩;have Qie:=(cn.o.2).src bU;have bq:=cn.o.1.row;have Qhn:aB l1+aB l2<=100000:=by{omega};obtain⟨ad,aj⟩:∃l,l1++l2=l:=⟨_,rfl⟩;have Qmk:aB ad<=4096:=by{rw[<-aj,bJ];omega};obtain⟨l3,bf⟩:∃l,ad++[(⟨4,0,⟨#[]⟩,m⟩:Rc)]=l:=⟨_,rfl⟩;have gk:aB l3<=4097:=by{rw[<-bf,bJ];simp;omega};have cx:my ac st rel m=l3:=by{rw[dp,aj,bf]};have Qge:Hid (∀z w',dJ w' z (l1++l2)->W4.grownBy w' (aF (aH ca (aB l1) cc))->(aF z=aF (aH ca (aB l1) cc)\/aF z=aV W4.heap.size)->∃oa oc,z=aH oa (aB ad) oc/\Hid (nA W0 w' (aH oa (aB ad) oc) ad)):=λz w' G A h3=>by rw[aj] at G;have⟨oa,oc,e⟩:=G.form;subst e;exact⟨oa,oc,rfl,cn.o.1.next zr G A h3⟩
  have Qgf:Hid (∀W5 oa oc,nA W0 W5 (aH oa (aB ad) oc) ad->aC W5 (Ad b 5)=aV (Ii m)/\dJ (W5.alloc (aN #[Ii 4,Ii 0,St ⟨#[]⟩,Ii m] 71)) (aH oa (aB ad) oc) ad/\Src bX 4 196 (Sc W5.heap.size 1 1) (aB ([(⟨4,0,⟨#[]⟩,m⟩:Rc)]:List Rc)) (([(⟨4,0,⟨#[]⟩,m⟩:Rc)]:List Rc).flatMap Rc.c) (W5.alloc (aN #[Ii 4,Ii 0,St ⟨#[]⟩,Ii m] 71))/\Hid (∀z w',dJ w' z (ad++[⟨4,0,⟨#[]⟩,m⟩])->(W5.alloc (aN #[Ii 4,Ii 0,St ⟨#[]⟩,Ii m] 71)).grownBy w' (aF (aH oa (aB ad) oc))->(aF z=aF (aH oa (aB ad) oc)\/aF z=aV (W5.alloc (aN #[Ii 4,Ii 0,St ⟨#[]⟩,Ii m] 71)).heap.size)->∃pa pc,z=aH pa (aB l3) pc/\aC w' (Ad b 3)=aV (Ii que)/\aC w' (Ad N 3)=aV (aH O (aB qu) E)/\Hid (nA W0 w' (aH pa (aB l3) pc) l3))):=λW5 oa oc h5=>by
   have hb:bT W5.heap.size W5 (W5.alloc (aN #[Ii 4,Ii 0,St ⟨#[]⟩,Ii m] 71)):=zr.alloc zl _;refine⟨(HB.o W5 h5.below).2.2.2.2.1,h5.row.keep (λj d=>?_),dJ.src bU (aR ⟨W5.heap.size,0,1,#[Ii 4,Ii 0,St ⟨#[]⟩,Ii m],rfl,zn W5 _,by simp,by unfold maxLen;decide,by simp,by simp[Rc.c]⟩),λz w' G A h3=>?_⟩;{have⟨c,u,hc,_⟩:=h5.row.ty d;exact hb.block j (zg hc).1};{rw[bf] at G;have⟨pa,pc,e⟩:=G.form;subst e;have hN:=h5.next hb G A h3;have⟨_,_,_,d3,_,_,_,f7⟩:=HB.o w' hN.below;exact⟨pa,pc,rfl,d3,zc f7,hN⟩}
  have Qho:aB ad+aB ([(⟨4,0,⟨#[]⟩,m⟩:Rc)]:List Rc)<=100000:=by{simp;omega};have Qk8:aB qu<=50:=eh;clear d5 au an eh
  go_wp2_with (first|(at_builtin;refine vE _ rfl (.tmp 33) (.tmp 36) 196 rfl i0 (aJ #[Ii 0,Ii 0,St ⟨#[]⟩,Ii 0]) bU ao c4 dg dd rfl rfl bq rfl Qie Qhn ?_;intro z W5 q1 C M;obtain⟨oa,oc,rfl,du⟩:=Qge.o z W5 q1 C M;clear q1 C M;have⟨b5,bj,Qif,Qb9⟩:=Qgf.o W5 oa oc du.o)|(at_builtin;refine vE _ rfl (.tmp 38) (.tmp 44) 196 rfl i0 (aJ #[Ii 0,Ii 0,St ⟨#[]⟩,Ii 0]) bU ao c4 dg dd rfl rfl bj rfl Qif Qho ?_;intro z W6 q1 C M;obtain⟨pa,pc,rfl,b3,a3,bu⟩:=Qb9.o z W6 q1 C M;clear q1 C M))
  have cr:Hid (∀q,nA W0 (W6.drewN q) (aH pa (aB l3) pc) l3):=λq=>⟨bu.o.row.keep (λj _=>rfl),bu.o.new,qy bu.o.below⟩;have Qmq:aP.wrap ((aB qu:Int)+(aB l3:Int))=(aB qu:Int)+(aB l3:Int):=pE _ (by omega) (by omega);have Qaq:aB qu<=50:=Qk8;have Qeh:Hid (que<(aB qu:Int)+(aB l3:Int)->iZ que m ac st ⟨rel,false,sn,qu,nx⟩=⟨rel,true,[],[],nx⟩):=λh=>by{unfold iZ;rw[cx,if_neg (by simp),if_pos (by show que<((aB qu+aB l3:Nat):Int);omega)]};have Qeg:Hid (¬que<(aB qu:Int)+(aB l3:Int)->iZ que m ac st ⟨rel,false,sn,qu,nx⟩=⟨rel,false,sn,qu++l3,nx⟩):=λh=>by{unfold iZ;rw[cx,if_neg (by simp),if_neg (by show ¬que<((aB qu+aB l3:Nat):Int);omega)]};clear cx dp cj ck b6 bb aj bf Qge Qgf Qb9 Qie Qif bq bj cn du;by_cases ed:que<(aB qu:Int)+(aB l3:Int)
  .go_quiet (fail);have af:=cr.o nq;clear cr bu b3 a3 b5;generalize W6.drewN nq=W7 at *;have⟨_,_,_,_,_,_,_,ah⟩:=HB.o W7 af.below;obtain⟨X,hX⟩:∃X,((W7.setCell (Ad N 1) (aK true)).setCell (Ad N 3) (aH aW 0 0)).setCell (Ad N 2) (aH aW 0 0)=X:=⟨_,rfl⟩;have ae:X.heap[N]?=cC #[St rel,aK true,aH aW 0 0,aH aW 0 0,Ii nx] 246:=by{rw[<-hX];exact qw (qw (qw ah 1 _) 3 _) 2 _};have al:dD W0 X (λj=>aF (aH O (aB qu) E)=aV j\/j=N):=by{rw[<-hX];exact (((dD.ofBelow _ af.below).setCell (Ad N 1) _ (λ_=>aR rfl)).setCell (Ad N 3) _ (λ_=>aR rfl)).setCell (Ad N 2) _ (λ_=>aR rfl)};obtain⟨Z,hZ⟩:∃Z,(X.setCells g (i*5) [St rel,aK true,aH aW 0 0,aH aW 0 0,Ii nx]).drew=Z:=⟨_,rfl⟩;have hP:Hid _:=b0.o X Z (⟨rel,true,[],[],nx⟩,aH aW 0 0,aH aW 0 0) al hZ (aQ ⟨rfl,rfl⟩) (aQ ⟨rfl,rfl⟩) (λj d=>(by cases d)) (λj d=>(by cases d)) (Qeh.o ed);have⟨e9,⟨f0,f1,f2,f3,f4⟩,⟨g0,g1,g2,g3,g4⟩⟩:=cl.o X al;have a1:aC W7 (Ad N 1)=aV (aK false):=zc ah;have a2:aC W7 (Ad N 2)=aV (aH n2 (aB sn) c2):=zc ah;have a3:aC W7 (Ad N 3)=aV (aH O (aB qu) E):=zc ah;have z1:∀j,aD W7 (Ad N j)=false:=λj=>by{simp[aD,ah]};have m0:aC X (Ad N 0)=aV (St rel):=zc ae;have m1:aC X (Ad N 1)=aV (aK true):=zc ae;have m2:aC X (Ad N 2)=aV (aH aW 0 0):=zc ae;have m3:aC X (Ad N 3)=aV (aH aW 0 0):=zc ae;have m4:aC X (Ad N 4)=aV (Ii nx):=zc ae;clear ah ae al b0 cl HB Qeh Qeg af;go_wp2_with fail;apply ov (W:=(X.setCells g (i*5) [St rel,aK true,aH aW 0 0,aH aW 0 0,Ii nx]).drew)
   case hreg=>
    go_region_with (fail)
    all_goals exact⟨rfl,rfl⟩
   case hQ=>
    rw[hZ];go_wp2
    go_end0
    exact⟨rfl,hP.o⟩
  .go_quiet (fail);have af:=cr.o nq;clear cr bu b3 a3 b5;generalize W6.drewN nq=W7 at *;have⟨_,_,_,_,_,_,_,ah⟩:=HB.o W7 af.below;obtain⟨ql,bv⟩:∃l,qu++l3=l:=⟨_,rfl⟩
   have el:dJ W7 (aH O (aB qu) E) qu:=c6.o.1.keep (λj d=>by
    have G:=HH.o.lt j (c6.o.2 j d)
    exact (af.below.block j (by omega)).trans (ab.block j G))
   have Qig:=af.row.src bU;have Qhp:aB qu+aB l3<=100000:=by{omega};have fp:∀j,aF (aH O (aB qu) E)=aV j->aF (aH n2 (aB sn) c2)≠aV j:=λj d=>(HH.o.sepQ i i _ _ j a7 a7 d).2
   have Qgg:Hid (∀z w',dJ w' z (qu++l3)->W7.grownBy w' (aF (aH O (aB qu) E))->(aF z=aF (aH O (aB qu) E)\/aF z=aV W7.heap.size)->∃ra rc,z=aH ra (aB ql) rc/\(aC w' (Ad N 3)=aV (aH O (aB qu) E)/\aD w' (Ad N 3)=false)/\∀X Z,w'.setCell (Ad N 3) (aH ra (aB ql) rc)=X->(X.setCells g (i*5) [St rel,aK false,aH n2 (aB sn) c2,aH ra (aB ql) rc,Ii nx]).drew=Z->dD W0 X (λj=>aF (aH O (aB qu) E)=aV j\/j=N)/\X.heap[N]?=cC #[St rel,aK false,aH n2 (aB sn) c2,aH ra (aB ql) rc,Ii nx] 246/\Hid (Qu T b {y with feeds:=y.feeds.set i (iZ que m ac st ⟨rel,false,sn,qu,nx⟩)} W Z/\qJ W Z)):=λz w' G A h3=>by
    rw[bv] at G;have⟨ra,rc,e⟩:=G.form;subst e;have co:w'.heap[N]?=cC #[St rel,aK false,aH n2 (aB sn) c2,aH O (aB qu) E,Ii nx] 246:=(A.block N (by have:=af.below.size;omega) (λe=>by have:=HH.o.lt N (c6.o.2 N e.symm);omega)).trans ah;refine⟨ra,rc,rfl,⟨zc co,by simp[aD,co]⟩,λX Z hX hZ=>?_⟩;have al:dD W0 X (λj=>aF (aH O (aB qu) E)=aV j\/j=N):=by{rw[<-hX];exact ((dD.ofBelow _ af.below).grown A (λj d _=>aQ d)).setCell (Ad N 3) _ (λ_=>aR rfl)};have dx:∀j,j≠N->X.heap[j]?=w'.heap[j]?:=λj d=>by{rw[<-hX];exact Below.heap_setCell w' ⟨N,3,aW⟩ _ j d};refine⟨al,by rw[<-hX];exact qw co 3 _,b0.o X Z (⟨rel,false,sn,ql,nx⟩,aH n2 (aB sn) c2,aH ra (aB ql) rc) al hZ (d7.o.1.keep (λj d=>?_)) (G.keep (λj d=>dx j (λe=>?_))) (λj d=>d) (λj d=>?_) (by rw[Qeg.o ed,bv])⟩;{have h5:=HH.o.lt j (d7.o.2 j d);rw[dx j (by omega),A.block j (by have:=af.below.size;omega) (λe=>fp j e.symm d),af.below.block j (by omega),ab.block j h5]}
    .have⟨c,u,hc,_⟩:=G.ty d;rcases G with⟨e2,_⟩|⟨g',az,ak,aq,e2,h6,_⟩
     .rw[e2] at d;cases d
     .rw[e2] at d;have e3:g'=j:=by{simpa [aF] using d};rw[e3,e,co] at h6;cases h6
    .rcases h3 with e|e
     .rw[e] at d;exact aQ d
     .rw[e] at d;cases d;exact aR af.below.size
   have a3:aC W7 (Ad N 3)=aV (aH O (aB qu) E):=zc ah;clear Qeh Qeg HB ah
   go_wp2_with (at_builtin;refine vE _ rfl (.tmp 61) (.tmp 62) 196 rfl i0 (aJ #[Ii 0,Ii 0,St ⟨#[]⟩,Ii 0]) bU ao c4 dg dd rfl rfl el rfl Qig Qhp ?_;intro z W8 q1 C M;obtain⟨ra,rc,rfl,⟨b8,z8⟩,dm⟩:=Qgg.o z W8 q1 C M;obtain⟨X,hX⟩:∃X,W8.setCell (Ad N 3) (aH ra (aB ql) rc)=X:=⟨_,rfl⟩;obtain⟨Z,hZ⟩:∃Z,(X.setCells g (i*5) [St rel,aK false,aH n2 (aB sn) c2,aH ra (aB ql) rc,Ii nx]).drew=Z:=⟨_,rfl⟩;have⟨al,ae,hP⟩:=dm X Z hX hZ;clear dm q1 C M)
   have⟨e9,⟨f0,f1,f2,f3,f4⟩,⟨g0,g1,g2,g3,g4⟩⟩:=cl.o X al;have m0:aC X (Ad N 0)=aV (St rel):=zc ae;have m1:aC X (Ad N 1)=aV (aK false):=zc ae;have m2:aC X (Ad N 2)=aV (aH n2 (aB sn) c2):=zc ae;have m3:aC X (Ad N 3)=aV (aH ra (aB ql) rc):=zc ae;have m4:aC X (Ad N 4)=aV (Ii nx):=zc ae;clear ae al b0 cl Qgg af el Qig;apply ov (W:=(X.setCells g (i*5) [St rel,aK false,aH n2 (aB sn) c2,aH ra (aB ql) rc,Ii nx]).drew)
   case hreg=>
    go_region_with (fail)
    all_goals exact⟨rfl,rfl⟩
   case hQ=>
    rw[hZ];go_wp2
    go_end0
    exact⟨rfl,hP.o⟩
theorem FF.mono{n:Nat}(h:FF n e y):FF (n+1) e y:=by have⟨f1,f2,f3⟩:=h;refine⟨f1,f2,λi f d z A=>?_⟩;have⟨q1,q2,q3,q4,q5,q6,q7,q8,q9⟩:=f3 i f d z A;exact⟨q1,q2,q3,q4,q5,q6,by omega,q8,q9⟩
theorem vV{ds:List Dk}(h:ic e y ds)(aa:dV e){st:List Gr}(z:aB st<=2048)(A:∀g∈st,ja y.rs y.names g):tR st:=by
 refine⟨z,λg C=>?_⟩;have⟨⟨a,ha,e1,e2⟩,h3⟩:=A g C;have d:a∈e.rs.flatMap qz:=by rw[h.rs];exact ha
 have hrel:g.rel∈gF e.rs:=by rw[e1];exact bI.2 ⟨a,d,rfl⟩
 refine⟨bD (t7 aa.rs _ hrel) (by decide),?_,λx E=>?_⟩
 .have:=(aa.rs.arity a d).2;omega
 .exact bD (aa.nsz x (by rw[h.names];exact h3 x E)) (by decide)
theorem pJ:ng FF:=by
 refine⟨λn e y h=>h.mono,λn e y s t h=>h.ins s t,λn e y ds c e' y' r r' aa d h z A=>?_,λn s rs win C que M st h=>FF.new win C que M st h,λn e y aa _=>Ij aa,λb n e y ds aa d h i f O m st z A=>?_⟩
 .have G:=h.tick aa d z A;exact⟨G,by rw[<-G.2.1];exact (ws aa z).f3⟩
 .have E:i<aB e.fds:=by{rw[h.2.1];exact (aZ.1 O).1};have Z:=h.2.2 i _ f (aX E) O;have hs:=d.sz aa (by rw[<-h.2.1];exact aa.f3);refine IA b i f y.state st y.que m (vV d aa hs.st d.sok) (vV d aa z A) (by rw[<-d.que];exact aa.que.2) ?_;rw[<-Z.que];exact (aa.fds _ (zm E)).2.2
theorem BM(o:gU)(hk:o.kind=7\/o.kind=8)(hs:o.s.size<=1048576)(n:Nat)(p:Pr)(W:Wq)(h:iw W p)(aa:js FF n p)(hn:n<=2000000)(hT:bZ 0 1 W):Cs 37 #[p.v,o.v] W λen W'=>en=aO (aK true)/\∃p',Q7 p W p' W'/\js FF (n+1) p':=by
 unfold Pr.v gU.v;have HP:=aA h;have z:=aA aa;have fk:Hid (∀Y,bT W.heap.size W Y->bZ 0 1 Y):=λY E=>Utf8Tabs_below hT E;clear h aa hT;have⟨kd,ke,s,a,b,c⟩:=o;simp only at hk hs ⊢;obtain⟨N,hN⟩:∃N,W.heap.size=N:=⟨_,rfl⟩;obtain⟨W0,a6⟩:∃W0,(W.alloc (aN #[Pt p.bx,Pt p.bz] 81)).alloc (aN #[Ii kd,Ii ke,St s,Ii a,Ii b,Ii c] 34)=W0:=⟨_,rfl⟩;have ab:bT W.heap.size W W0:=by rw[<-a6];exact ((bG _ W).alloc zl _).alloc (by simp) _
 have bn:W0.heap[N]?=cC #[Pt p.bx,Pt p.bz] 81:=by rw[<-a6,<-hN];exact (Below.heap_alloc _ _ _ (by simp)).trans (zn W _)
 have aw:W0.heap[N+1]?=cC #[Ii kd,Ii ke,St s,Ii a,Ii b,Ii c] 34:=by rw[<-a6,<-hN];have:=zn (W.alloc (aN #[Pt p.bx,Pt p.bz] 81)) (aN #[Ii kd,Ii ke,St s,Ii a,Ii b,Ii c] 34);simpa using this
 have ce:Q7 p W p W0:=Q7.same HP.o ab;have dv:=aA ce;have cy:=fk.o W0 ab;have HC:Hid (∀p1 Y,Q7 p W0 p1 Y->aC Y (Ad N 1)=aV (Pt p.bz)/\aC Y (Ad (N+1) 2)=aV (St s)/\aC Y (Ad (N+1) 3)=aV (Ii a)):=λp1 Y E=>by have dr:∀k,p.U k->io W0 k:=ce.1.uty;have h1:=(E.2.2.2.2.block N (zg bn).1 (λe=>io.not bn (by decide) (by decide) (dr N e))).trans bn;have h2:=(E.2.2.2.2.block (N+1) (zg aw).1 (λe=>io.not aw (by decide) (by decide) (dr (N+1) e))).trans aw;exact⟨zc h1,zc h2,zc h2⟩
 have c0:aC W0 (Ad N 0)=aV (Pt p.bx):=zc bn;have c1:aC W0 (Ad (N+1) 0)=aV (Ii kd):=zc aw;have c2:aC W0 (Ad (N+1) 2)=aV (St s):=zc aw;have c3:aC W0 (Ad (N+1) 3)=aV (Ii a):=zc aw;have ag:=ce.1;clear ab bn aw ce;have b4:=z.o.rel.sz z.o.ok z.o.f3;rcases hk with rfl|rfl
 .have⟨av,a8,d9,bq,bj⟩:=Fe z.o.rel z.o.ok z.o.fd z.o.f3 s;obtain⟨x1,dh⟩:∃x,(kq p.y s).1=x:=⟨_,rfl⟩;obtain⟨x2,ct⟩:∃x,(kq p.y s).2.1=x:=⟨_,rfl⟩;rw[dh] at av;rw[ct] at a8;have ao:Hid (Cs 26 #[Pt p.bx,St s] W0 λe w'=>e=aO (aL #[Ii x1,Ii x2])/\∃C,Q7 p W0 {p with e:=(iF p.e s).2.2,S:=C,ds:=p.ds} w'):=by{refine (GA p.S p.bx p.e s W0 ag.x z.o.ok (by omega) cy).mono ?_;rintro e w' ⟨Z,k2⟩;rw[av,a8] at Z;exact⟨Z,ag.runX k2 p.ds⟩};have dy:Hid (∀C Y,Q7 p W0 {p with e:=(iF p.e s).2.2,S:=C,ds:=p.ds} Y->Cs 72 #[Pt p.bz,St s] Y λe w'=>e=aO (aL #[Ii x1,Ii x2])/\∃p',Q7 p W p' w'/\js FF (n+1) p'):=λC Y E=>by{have⟨vr,vf,vn,vs,vd,qs,fs,ss,fb,hv⟩:=E.1.y;refine (DG hv b4 s hs).mono ?_;rintro e w' ⟨Z,k2⟩;rw[dh,ct] at Z;have⟨T',k3⟩:=E.1.runY k2 p.ds;exact⟨Z,_,dv.o.trans (E.trans k3),⟨Et z.o.ok s,d9,bj,bq⟩⟩};clear av a8 d9 bq bj dh ct b4 ag cy;go_enter cF,cE;go_wp2_with fail;refine bB ao.o ?_;clear ao;rintro e' W1 ⟨rfl,C,am⟩;have⟨d1,M,d3⟩:=HC.o _ W1 am;have hy:=dy.o C W1 am;clear am c0 c1 c2 c3;go_wp2_with fail;refine bB hy ?_;clear hy dy;rintro e' W2 ⟨rfl,bc⟩;have cz:=aA bc;clear bc d1 M d3;go_wp2;go_ret;exact⟨by simp,cz.o⟩
 .have ej:∀f∈p.y.feeds,yq f:=λf hf=>by
   obtain⟨j,hj,rfl⟩:=bH hf;have ee:j<aB p.e.fds:=by{rw[z.o.fd.2.1];exact hj};have O:=z.o.fd.2.2 j _ _ (aX ee) (aX hj);have hE:=z.o.ok.fds _ (zm ee);refine⟨by rw[<-O.snap];have:=hE.2.1;omega,by rw[<-O.que];exact hE.2.2,by have:=O.next;omega,?_⟩;have:=t7 z.o.ok.rs _ (tI O.ar);omega
  have d8:Hid (Cs 29 #[Pt p.bx,Ii a] W0 λe w'=>∃(r:Rc) (f:Int),e=aO (aL #[aJ #[Ii r.kind,Ii r.seq,St r.text,Ii r.time],Ii f])/\∃e1 C,Q7 p W0 {p with e:=e1,S:=C,ds:=p.ds} w'/\Hid (∀U e' w2,bT w'.heap.size w' U->oY p.T p.bz p.y a U e' w2->e'=aO (aL #[aJ #[Ii r.kind,Ii r.seq,St r.text,Ii r.time],Ii f])/\∃y1,Qu p.T p.bz y1 U w2/\dV e1/\ic e1 y1 p.ds/\aB y1.feeds<=3/\FF (n+1) e1 y1)):=by
   have gg:(aB p.e.fds:Int)=(aB p.y.feeds:Int):=by{rw[z.o.fd.2.1]};refine (JU p.S p.bx p.e a W0 ag.x z.o.ok (λf hf=>?_)).mono ?_
   .obtain⟨j,hj,rfl⟩:=bH hf;have fz:j<aB p.y.feeds:=by{rw[<-z.o.fd.2.1];exact hj};have O:=z.o.fd.2.2 j _ _ (aX hj) (aX fz);have h1:=O.told;have h2:=O.next;omega
   .rintro e w' (⟨Z,k2,k3⟩|⟨k,hk,rfl,r,f',Z,k2,k3⟩)
    .have cf:Q7 p W0 p w':=Q7.same ag k3;refine⟨⟨0,0,⟨#[]⟩,0⟩,6,k2,p.e,p.S,cf,λU e' w2 hU hD=>?_⟩;rcases hD with⟨d1,M,d3⟩|⟨k,f,d1,M,_⟩
     .exact⟨M,p.y,Qu.same (Q7.same cf.1 hU).1.y d3,z.o.ok,z.o.rel,z.o.f3,z.o.fd.mono⟩
     .exact absurd ⟨by omega,by have:=(aZ.1 M).1;omega⟩ Z
    .have⟨C,cf⟩:=ag.runX k3 p.ds;refine⟨r,0,k2,_,C,cf,λU e' w2 hU hD=>?_⟩;have cu:k<aB p.y.feeds:=by omega
     have O:=z.o.fd.2.2 k _ _ (aX hk) (aX cu);rcases hD with⟨d1,_⟩|⟨k',f,d1,M,d3,d4⟩
     .exact absurd ⟨by omega,by omega⟩ d1
     .have e5:k'=k:=by{omega};subst e5;rw[aX cu] at M;cases M;have⟨q1,q2⟩:=ED (z.o.rel.tel z.o.ok z.o.fd.1) (xE z.o.ok O.ar) O Z;rw[z.o.rel.mark] at q1 q2;refine⟨by rw[d3,<-q1];rfl,_,d4,GV z.o.ok hk Z,?_,?_,?_⟩;{have h:=z.o.rel;exact⟨h.rs,h.win,h.lat,h.que,h.mark,h.clk,h.names,h.ne,h.kept,h.facts,h.least,h.beg,h.nodup,h.sok,h.state⟩};{show (aB (p.y.feeds.set _ _))<=3;rw[bE];exact z.o.f3}
      .refine⟨z.o.fd.1,by show aB (p.e.fds.set _ _)=aB (p.y.feeds.set _ _);rw[bE,bE];exact z.o.fd.2.1,λj f d h1 h2=>?_⟩;have cq:(p.e.fds.set k' f')[j]?=aV f:=h1;have ci:(p.y.feeds.set k' (lP p.y.mark p.y.state p.y.feeds[k']).2)[j]?=aV d:=h2;by_cases hj:j=k';{subst hj;rw[bF hk] at cq;rw[bF cu] at ci;cases cq;cases ci;exact q2};{rw[List.getElem?_set_ne (Ne.symm hj)] at cq ci;exact z.o.fd.mono.2.2 j f d cq ci}
  have ev:Hid (∀Y e1 C,Q7 p W0 {p with e:=e1,S:=C,ds:=p.ds} Y->Cs 73 #[Pt p.bz,Ii a] Y (oY p.T p.bz p.y a Y)):=λY e1 C E=>by{have⟨vr,vf,vn,vs,vd,qs,fs,ss,fb,hv⟩:=E.1.y;exact JM hv z.o.f3 ej (vV z.o.rel z.o.ok b4.st z.o.rel.sok) a};clear b4 cy ej;go_enter cF,cE;go_wp2_with fail;refine bB d8.o ?_;clear d8;rintro e' W1 ⟨r,f,rfl,e1,C,am,db⟩;have⟨rk,rs,rt,rm⟩:=r;simp only at db ⊢;obtain⟨V1,ek⟩:∃V1,W1.alloc (aN #[Ii rk,Ii rs,St rt,Ii rm] 71)=V1:=⟨_,rfl⟩;obtain⟨A,e0⟩:∃A,W1.heap.size=A:=⟨_,rfl⟩;have G:bT W1.heap.size W1 V1:=by{rw[<-ek];exact zr.alloc zl _};have av:V1.heap[A]?=cC #[Ii rk,Ii rs,St rt,Ii rm] 71:=by{rw[<-ek,<-e0];exact zn W1 _};have bk:=am.trans (Q7.same am.1 G);have⟨d1,M,d3⟩:=HC.o _ V1 bk;have fq:=am.2.2.2.2.size;have hy:Hid (Cs 73 #[Pt p.bz,Ii a] V1 λe w'=>e=aO (aL #[aJ #[Ii rk,Ii rs,St rt,Ii rm],Ii f])/\(aC w' (Ad A 0)=aV (Ii rk)/\aC w' (Ad A 1)=aV (Ii rs)/\aC w' (Ad A 2)=aV (St rt)/\aC w' (Ad A 3)=aV (Ii rm)/\A<w'.heap.size)/\Hid (∀Y,bT w'.heap.size w' Y->∃p',Q7 p W p' Y/\js FF (n+1) p')):=by{refine (ev.o V1 e1 C bk).mono ?_;rintro e w' hD;have⟨q1,y1,q2,q3,q4,q5,q6⟩:=db.o V1 e w' G hD;have⟨T',k3⟩:=bk.1.runY q2 p.ds;have hw:w'.heap[A]?=cC #[Ii rk,Ii rs,St rt,Ii rm] 71:=(q2.2.block A (zg av).1 (λe=>by have:=(ag.ty A e).lt;omega)).trans av;refine⟨q1,⟨zc hw,zc hw,zc hw,zc hw,(zg hw).1⟩,λY E=>⟨_,dv.o.trans ((bk.trans k3).trans (Q7.same k3.1 E)),⟨q3,q4,q5,q6⟩⟩⟩};clear am db ev c0 c1 c2 c3 bk G av fq ag;go_wp2_with fail;refine bB hy.o ?_;clear hy;rintro e' W2 ⟨rfl,⟨s0,s1,s2,s3,cb⟩,bc⟩;obtain⟨V2,eg⟩:∃V2,W2.alloc (aN #[Ii rk,Ii rs,St rt,Ii rm] 71)=V2:=⟨_,rfl⟩;obtain⟨B2,fj⟩:∃B2,W2.heap.size=B2:=⟨_,rfl⟩;have G:bT W2.heap.size W2 V2:=by{rw[<-eg];exact zr.alloc zl _};have a8:V2.heap[B2]?=cC #[Ii rk,Ii rs,St rt,Ii rm] 71:=by{rw[<-eg,<-fj];exact zn W2 _};have u0:=(G.cell (p:=⟨A,0,aW⟩) cb).trans s0;have u1:=(G.cell (p:=⟨A,1,aW⟩) cb).trans s1;have u2:=(G.cell (p:=⟨A,2,aW⟩) cb).trans s2;have u3:=(G.cell (p:=⟨A,3,aW⟩) cb).trans s3;have v0:∀j,aC V2 (Ad B2 j)=([Ii rk,Ii rs,St rt,Ii rm]:List Vq)[j]?:=λj=>by{simp[aC,a8]};have cz:Hid (∀q,∃p',Q7 p W p' (V2.drewN q)/\js FF (n+1) p'):=λq=>bc.o _ (qy G);have fg:Hid (∃p',Q7 p W p' V2/\js FF (n+1) p'):=bc.o _ G;clear bc d1 M d3 s0 s1 s2 s3 a8;go_wp2_with fail
  try go_quiet (fail)
  go_wp2;go_ret;exact⟨by simp,by first|exact fg.o|exact cz.o _⟩
def zM(_ _:Nat)(_:Wq)(bi be:Vq)(Q:Nat->Prop):Prop:=bi=aH aW 0 0/\be=aH aW 0 0/\∀k,¬Q k
theorem pU:oG zM:=⟨λB n W W' z d Q ex h _ _=>h,λB n W z d Q h=>h,λB n W z d Q h k A=>absurd A (h.2.2 k)⟩
theorem Js{F:Nat->Eg->Er->Prop}{TT:Wq->Prop}:zq F zM TT:=by
 rintro n w d W ⟨G,A,z,ps,Q,h⟩ E _;obtain⟨rfl,rfl,_⟩:=h.ll;have C:aC W (Ad d 1)=aV (aH aW 0 0):=by simp[aC,h.box]
 clear h;go_enter Tryz.func38,Tryz.ntmps38;go_wp2_with fail
 go_loopw [3] (λp wr=>p=aM aP 0/\W=wr) (λ_ _=>0)
 case atStart=>exact⟨rfl,rfl⟩
 case round=>obtain⟨rfl,rfl⟩:=hrel;go_wp2;go_ret;exact⟨rfl,zr⟩
theorem Eh(E:List gU)(A:Vq)(W:Wq)(M:pj W A E)(O:aB E<=1048576)(hs:∀o∈E,o.s.size<=1048576/\-9223372036854775808<=o.e/\o.e<=9223372036854775807)(z:bZ 0 1 W):Cs 6 #[A] W λen W'=>en=aO (aK true)/\bT W.heap.size W W':=by
 have Z:Hid (Cs 16 #[A,Sc W.heap.size 5 5] (W.alloc (aN #[Ii 2,Ii 3,Ii 4,Ii 7,Ii 8] 3)) λen W'=>en=aO (aK true)/\bT W.heap.size W W'):=by
  have C:bT W.heap.size W (W.alloc (aN #[Ii 2,Ii 3,Ii 4,Ii 7,Ii 8] 3)):=(bG _ W).alloc zl _;refine (ES pJ pU (λ_=>id) (λB W=>⟨rfl,rfl,λk=>id⟩) Js E [2,3,4,7,8] A (Sc W.heap.size 5 5) _ (M.below C) ?_ O (by decide) (λo ho d=>?_) (Utf8Tabs_below z C)).mono ?_;{refine⟨by simp,aR ⟨W.heap.size,5,#[Ii 2,Ii 3,Ii 4,Ii 7,Ii 8],rfl,zz,zn W _,by decide,by unfold maxLen;decide,by simp,by simp⟩⟩}
  .have⟨h1,h2⟩:=hs o ho;simp only[bQ,bL,or_false] at d;rcases d with d|d|d|d|d
   .exact GB pJ pU (λ_=>id) o d h1
   .exact sX pJ pU (λ_=>id) o (aQ d) (λh=>by omega) (λh=>by omega) h1 h2
   .exact sX pJ pU (λ_=>id) o (aR (aQ d)) (λh=>by omega) (λh=>by omega) h1 h2
   .exact sX pJ pU (λ_=>id) o (aR (aR (aR (aR (aQ d))))) (λh=>by omega) (λd n p W h aa G z=>BM o d h1 n p W h aa G z) h1 h2
   .exact sX pJ pU (λ_=>id) o (aR (aR (aR (aR (aR d))))) (λh=>by omega) (λd n p W h aa G z=>BM o d h1 n p W h aa G z) h1 h2
  .rintro en W' ⟨k1,k2⟩;exact⟨k1,C.trans (k2.mono C.size)⟩
 obtain⟨sa,sc,rfl,_⟩:=M;clear hs z O;go_enter Tryz.func6,Tryz.ntmps6;go_wp2_with fail;refine bB Z.o ?_;rintro e' W1 ⟨rfl,eu⟩;have HB:=aA eu;clear Z eu;go_wp2;go_ret;exact⟨rfl,HB.o⟩
end Go.Proofs.YtjajnhemgphefaaGreatDoor
namespace Go.Proofs.YtjajnhemgphefaaGreatDoor
open Go renaming World->Wq,Value->Vq
open Go.ChangeShapes Go.WideShapes Go.ChangeAt Go.RowKit Go.Shelf
theorem Gb{W:Wq}(h:laidMetH bX Rows.feedsUptoRow.laid W):bZ 0 1 W:=by
 have d:laidMet bX Rows.feedsUptoRow.laid W:=h;refine utf8Tabs_of_readsT Jb D6 (Lib.laidMet.reads d ?_) (Lib.laidMet.reads d ?_)
 .rw[<-EP];simp[Rows.feedsUptoRow]
 .rw[<-DJ];simp[Rows.feedsUptoRow]
theorem lV(H:Type)(enc:TypeId×Vq->H)(W:Wq)(c8:Nat)(args:Array Vq)(ds gs:List (DataW H))(ay:List MemPlace)(C:∀(j:Nat) t v,Tryz.f6.params[j]?=aV t->args[j]?=aV v->Value.okWide bX W .any c8 t v)(M:DataW.Whole enc bX Tryz.f6.params.toList Rows.feedsSpec.vars false W args.toList ds gs ay)(O:Rows.uptoSmall H (ds++gs)=true)(hL:laidMetH bX Rows.feedsUptoRow.laid W):Cs 6 args W λe W'=>∃v,e=aO v/\Rows.feedsSpec.post enc bX Tryz.f6 false true false false W args v W':=by
 have hT:=Gb hL;have z:=M;obtain⟨p,q,A,hV,rfl,gh,gm⟩:=M;have E:DataW.TrodAll enc bX W 0 (λ_=>true) true Tryz.f6.params.toList args.toList ds p:=A;rw[Tryz.params6] at E C;obtain⟨v0,f9,d0,f8,p0,q0,gi,rfl,rfl,h0,r0⟩:=trodAll_cons E;obtain⟨rfl,rfl,rfl⟩:=trodAll_nil r0;obtain rfl:args=#[v0]:=by cases args;simp_all
 obtain⟨rfl,rfl⟩:=trodVars_none hV;obtain⟨a0,len,d,rfl⟩:=okWide_slice Tryz.underlying36 (C 0 36 v0 rfl rfl);clear A;simp only[bO] at z O;have a9:∀x∈p0,x.block<W.heap.size:=λx hx=>by simpa using z.lt x hx
 have di:Cs 6 #[aH a0 len d] W λe w'=>e=aO (aK true)/\bT W.heap.size W w':=by
  have⟨e8,hf⟩:=h0;have⟨l,b9,ao,fx⟩:=Jo hf;have fe:Rows.uptoBulk d0<=1048576:=by{have h:=of_decide_eq_true O;simp only[Rows.uptoBulkAll] at h;omega};have⟨h1,h2⟩:=fx fe;exact Eh l _ W b9 h1 (λo Z=>⟨h2 o Z,ao o Z⟩) hT
 refine di.mono λe W2 ⟨he,G⟩=>?_;subst he;refine⟨_,rfl,_,_,_,[],p0,[],z,?_,?_,rfl,G.frame _,λh=>by cases h⟩
 .exact trodAll_mk1 (shut_bool Tryz.underlying4 _)
 .exact trodAll_mk1 (Below.trod EZ (by kernel_rfl) (of_decide_eq_true (by kernel_rfl)) h0 G a9)
