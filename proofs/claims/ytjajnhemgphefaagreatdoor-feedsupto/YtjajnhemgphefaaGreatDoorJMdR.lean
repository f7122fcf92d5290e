/- A part -/
import Derived.Test.YtjajnhemgphefaaGreatDoorJWyB
import Derived.Deep.CutRange
set_option linter.all false
set_option maxRecDepth 100000
set_option maxHeartbeats 16000000
open List renaming length->aB,replicate->aX,drop_eq_getElem_cons->aY,drop_eq_nil_of_le->aZ,range->bB,getElem?_eq_getElem->bC,foldl_cons->bG,mem_append->bH,map_cons->bL
open Go.World renaming cell?->aC,frozen?->aD,ownsRow->aE
open Go.Value renaming slice->aH,string->aI,agg->aJ,bool->aK,tuple->aL,int->aM,oneCell'->bJ
open Go.Obj renaming cells->aN
open Go.Ending renaming returned->aO
open Go.IntKind renaming i64->aP
open Or renaming inr->aR
open Option renaming some->aV,none->aW
open Nat renaming le_trans->bD,pow_le_pow_right->bE,lt_of_lt_of_le->bF,mul_le_mul->bI,le_refl->bO
open Go.RowKit renaming Below->bQ
namespace Go.Proofs.YtjajnhemgphefaaGreatDoor
open Go renaming World->Wq,Value->Vq
open Go.RowKit Go.Shelf
theorem Tryz.infoBind:(Tryz.prog.info? 239).map (λi=>(i.zero,i.size,i.bytes))=aV (aV (aH aW 0 0),1,24):=by kernel_rfl
theorem FZ(b:List ByteArray)(l:List (List ByteArray))(gs:List Gr):kD (b::l) gs=gs.map (λg=>(b,g))++kD l gs:=by unfold kD;rw[List.flatMap_cons]
structure yF(N:Nat)(w X:Wq)(box:Array Vq)(lv:Vq)(ab:List (List ByteArray×Vq))(nv:Vq)(names:List ByteArray):Prop where
 below:bQ N w X
 bx:X.heap[N]?=cC box 148
 l:jN X lv ab
 nm:qv X nv names
 size:N<X.heap.size
theorem ET(q:Rl×Vq×Vq)(ps:List (Am×Vq))(v:Vq)(gs:List (Gr×Vq))(P:Nat->List ByteArray->Prop)(w:Wq)(hA:fI w (q.1.head,q.2.1))(ci:ip w q.2.2 ps)(cg:ps.map (·.1)=q.1.body)(hG:gM w v gs)(fi:aB ps<=3)(da:aB gs<=2048)(ew:∀p∈gs,aB p.1.args<=1000)(hm:∀p∈(q.1.head,q.2.1)::ps,aB p.1.args<=1000/\∀t∈p.1.args,t.num<8)(du:aB (dP [] (gS (gs.map (·.1))))<=8)(hd:rI (dP [] (gS (gs.map (·.1)))))(hP:uF q.1 (dP [] (gS (gs.map (·.1)))) (gs.map (·.1)) P):Cs 180 #[kI q,v] w λe w'=>∃v' bs,e=aO v'/\jN w' v' bs/\bs.map (·.1)=mx q.1 (gs.map (·.1))/\(∀p∈bs,P (aB q.1.body) p.1/\aB p.1=8)/\aB bs<=2048 ^ 3/\bQ w.heap.size w w':=by
 have⟨i0,hi,db,ea,d2⟩:=info_parts Tryz.infoBind;unfold kI;have⟨a1,a2,cq⟩:=qe hA;simp only at cq;have⟨b1,b2,dp⟩:=qe ci.row;rw[cq,dp];obtain⟨va,vc,rfl⟩:=qe hG.row;obtain⟨N,hN⟩:∃N,N=w.heap.size:=⟨_,rfl⟩;have cy:=hN.symm;obtain⟨names,av⟩:∃names,names=dP [] (gS (gs.map (·.1))):=⟨_,rfl⟩;rw[<-av] at du hd hP;obtain⟨box,ey⟩:∃box:Array Vq,box=#[St q.1.head.rel,aH a1 (aB q.1.head.args) a2,aH b1 (aB ps) b2]:=⟨_,rfl⟩;obtain⟨W0,ck⟩:∃W0,w.alloc (aN #[St q.1.head.rel,aH a1 (aB q.1.head.args) a2,aH b1 (aB ps) b2] 148)=W0:=⟨_,rfl⟩;have dd:W0.heap.size=N+1:=by rw[<-ck];simp[cy]
 have df:bQ N w W0:=by rw[<-ck];exact (Below.refl _ w).alloc (by omega) _
 have Qg3:W0.heap[N]?=cC #[St q.1.head.rel,aH a1 (aB q.1.head.args) a2,aH b1 (aB ps) b2] 148:=by rw[<-ck,<-cy];exact zn w _
 have HX:Hid (∀X,bQ N w X->fI X (q.1.head,aH a1 (aB q.1.head.args) a2)/\ip X (aH b1 (aB ps) b2) ps/\gM X (aH va (aB gs) vc) gs):=by
  intro X hX;have cu:bQ w.heap.size w X:=by{rw[cy];exact hX};refine⟨by have:=hA.kept (Kp.ofBelow (S:=0) cu);rw[cq] at this;exact this,by have:=ci.below cu;rw[dp] at this;exact this,hG.below cu⟩
 have hT:Hid (mx q.1 (gs.map (·.1))=(bB (aB ps)).foldl (l7 q.1 names (gs.map (·.1))) [gP]):=by show _=_;unfold mx;rw[<-av,<-cg];simp
 have es:aB q.1.body=aB ps:=by rw[<-cg];simp
 rw[es];have Qh5:=zB W0;have Qk2:Hid (∀X,bQ N w X->N<=X.heap.size->Cs 222 #[aH va (aB gs) vc] X λe w'=>∃v',e=aO v'/\kE X.heap.size X w' v' names):=by intro X hX fp;have h:=Ib (aH va (aB gs) vc) gs X (HX.o X hX).2.2 (by omega) ew (by rw[<-av];omega);rw[<-av] at h;exact h
 generalize mx q.1 (gs.map (·.1))=T at *;rw[<-hN];have e0:=aA df;have Qjc:=aA Qg3;have b4:=aA dd;have HMq:=aA hm;have HPi:=aA hP;have dr:=aA cg;clear hA ci hG hN df Qg3 av ey;go_enter Tryz.func180,Tryz.ntmps180;go_wp2_with fail;refine Qh5.mono ?_;rintro e W1 ⟨vp,rfl,ct,bh⟩;obtain⟨pa,pc,rfl⟩:=qe ct;have ef:bQ N w W1:=e0.o.trans (bh.mono (by rw[b4.o];omega));have eb:N<W1.heap.size:=by have:=bh.size;rw[b4.o] at this;omega
 obtain⟨W2,be⟩:∃W2,W1.alloc (aN #[aH pa 8 pc] 239)=W2:=⟨_,rfl⟩;have au:bQ N w W2:=by rw[<-be];exact ef.alloc (by omega) _
 have a9:bQ W1.heap.size W1 W2:=by rw[<-be];exact zr.alloc zl _
 have ep:N<W2.heap.size:=bF eb a9.size;have dn:W2.heap[N]?=cC #[St q.1.head.rel,aH a1 (aB q.1.head.args) a2,aH b1 (aB ps) b2] 148:=(a9.block N eb).trans ((bh.block N (by rw[b4.o];omega)).trans Qjc.o)
 have dw:jN W2 (Sc W1.heap.size 1 1) [(gP,aH pa 8 pc)]:=by
  refine⟨⟨rfl,aR ⟨W1.heap.size,1,#[aH pa 8 pc],rfl,zz,?_,bO _,by unfold maxLen;decide,rfl,rfl⟩⟩,λp A=>?_⟩;{rw[<-be];exact zn W1 _};{simp at A;subst A;exact qv.below (W:=W1) (Qj ct zz) a9}
 have Qhx:=Qk2.o W2 au (by omega);have dv:=aA dw;have dh:=aA au;have Qfv:=aA dn;clear Qh5 ct bh ef a9 dw au dn dd;go_wp2_with fail;refine Qhx.mono ?_;rintro e W3 ⟨nv,rfl,am⟩;have fc:=am.below.size;have dl:bQ N w W3:=dh.o.trans (am.below.mono (by omega));have d9:yF N w W3 #[St q.1.head.rel,aH a1 (aB q.1.head.args) a2,aH b1 (aB ps) b2] (Sc W1.heap.size 1 1) [(gP,aH pa 8 pc)] nv names:=⟨dl,(am.below.block N ep).trans Qfv.o,dv.o.below am.below,Qj am.own zz,by omega⟩;have eh:=aA d9;have⟨na,nc,ei⟩:=qe am.own;subst ei;clear am dl d9 Qhx dv dh Qfv be;go_wp2
 go_loopw [5,7] (λo p wr=>∃(i:Nat) (lv:Vq) (ab:List (List ByteArray×Vq)),lv=o/\p=aM aP i/\i<=aB ps/\yF N w wr #[aI q.1.head.rel,aH a1 (aB q.1.head.args) a2,aH b1 (aB ps) b2] lv ab (aH na (aB names) nc) names/\aB ab<=2048 ^ i/\Hid (∀p∈ab,P i p.1/\aB p.1=8)/\Hid (((bB (aB ps)).drop i).foldl (l7 q.1 names (gs.map (·.1))) (ab.map (·.1))=T)) (λ_ p _=>aB ps-(intOf p).toNat)
 case atStart=>refine⟨0,_,_,rfl,rfl,zz,eh.o,by simp,λp A=>?_,hT.o.symm⟩;simp at A;subst A;exact⟨HPi.o.start,rfl⟩
 case round=>
  clear eh;obtain⟨i,lv,ab,rfl,rfl,ff,hO,ay,b3,ax⟩:=hrel;have⟨la,lc,fa⟩:=qe hO.l.row;subst fa;have x2:aC wr (Ad N 2)=aV (aH b1 (aB ps) b2):=by{simp[aC,hO.bx]};by_cases an:i<aB ps
  .have⟨g,ag,e1,Qko,d0,d1,⟨y1,y2,hy⟩,cw⟩:=(HX.o wr hO.below).2.1.cell i an;cases e1
   have Qg4:aB ps<=b2:=by
    obtain⟨_,⟨hv,hn⟩|⟨g',dz,em,hv,_,_,Z,_⟩⟩:=(HX.o wr hO.below).2.1.row;{cases hv}
    .cases hv;exact Z
   have ed:Hid (∀X,bQ N w X->qE X (q.1,aH a1 (aB q.1.head.args) a2,Sc g (aB ps) b2) g b2 ps):=by intro X hX;have⟨Z,h2,_⟩:=HX.o X hX;exact⟨Z,h2.at,dr.o,rfl,Qg4⟩
   have ce:∀p∈(q.1.head,aH a1 (aB q.1.head.args) a2)::ps,aB p.1.args<=1000000/\∀t∈p.1.args,t.num<=1000000:=by
    intro p A;rcases List.mem_cons.1 A with rfl|A
    .have:=HMq.o (q.1.head,q.2.1) zs;exact⟨by have:=this.1;simp only at this ⊢;omega,λt ht=>by have:=this.2 t ht;omega⟩
    .have:=HMq.o p (zt A);exact⟨by have:=this.1;omega,λt ht=>by have:=this.2 t ht;omega⟩
   have HLo:Hid (∀X,bQ N w X->Cs 223 #[aJ #[St q.1.head.rel,aH a1 (aB q.1.head.args) a2,Sc g (aB ps) b2],Ii i] X λe w'=>e=aO (aK (iD q.1 i))/\bQ X.heap.size X w'):=by{intro X hX;exact CY (q.1,aH a1 (aB q.1.head.args) a2,Sc g (aB ps) b2) g b2 ps i X (ed.o X hX) an (by omega) ce};have HLe:Hid (∀X (vb:Vq) (b:List ByteArray),bQ N w X->qv X vb b->aB b=8->Cs 225 #[vb,aJ #[St q.1.head.rel,aH a1 (aB q.1.head.args) a2,Sc g (aB ps) b2],Ii i] X λe w'=>∃v',e=aO v'/\aE w' X.heap.size 9 1 v' (aB (fC q.1 i b)) ((fC q.1 i b).map aI)/\bQ X.heap.size X w'):=by{intro X vb b hX hb bb;exact G1 (q.1,aH a1 (aB q.1.head.args) a2,Sc g (aB ps) b2) g b2 ps i vb b X (ed.o X hX) hb (by omega) (by omega) an (by omega) ce};have b0:q.1.body[i]?=aV ps[i].1:=by{rw[<-dr.o,List.getElem?_map,bC an];rfl};have cz:=λ(gd:Gr) (b c:List ByteArray)=>HPi.o.step i ps[i].1 gd b c b0;have d3:=HMq.o ps[i] (zt (zm an));have d5:((bB (aB ps)).drop i)=i::((bB (aB ps)).drop (i+1)):=by{rw[aY (by simpa using an)];simp};rw[d5,bG] at ax;have dk:l7 q.1 names (gs.map (·.1)) (ab.map (·.1)) i=((kD (ab.map (·.1)) (gs.map (·.1))).foldl (fT q.1 i names ps[i].1) (aX 4096 false,[])).2:=by{unfold l7;rw[b0]};rw[dk] at ax;generalize hFF:(kD (ab.map (·.1)) (gs.map (·.1))).foldl (fT q.1 i names ps[i].1) (aX 4096 false,[])=FF at *;have eo:=aA hFF;have HAi:Hid (∀X,bQ N w X->fI X ps[i]/\aC X (Ad g (i*2))=aV (St ps[i].1.rel)/\aC X (Ad g (i*2+1))=aV ps[i].2):=by{intro X hX;have⟨g',ag,e1,_,d0,d1,_,cw⟩:=(HX.o X hX).2.1.cell i an;cases e1;exact⟨cw,d0,d1⟩};rw[hy] at HAi;have HY:Hid (ps[i]=(ps[i].1,aH y1 (aB ps[i].1.args) y2)):=by{show _=_;rw[<-hy]};have x0:aC wr (Ad N 0)=aV (St q.1.head.rel):=by{simp[aC,hO.bx]};have x1:aC wr (Ad N 1)=aV (aH a1 (aB q.1.head.args) a2):=by{simp[aC,hO.bx]};have c9:=HLo.o wr hO.below;have e6:i<=2:=by{omega};have Qmj:aB ab<=4194304:=bD ay (bD (bE (by decide) e6) (by decide));have e7:=aA ay;have HO:=aA hO;have Qji:=aA cz;have HMi:=aA d3;clear d5 dk hFF ce cw b0 cz d3 d0 d1 hy hO ay Qko;go_wp2_with fail;refine c9.mono ?_;rintro e W5 ⟨rfl,bn⟩;have dx:=Gn W5;clear c9;go_wp2_with fail;refine dx.mono ?_;rintro e W6 ⟨rfl,dq,cj⟩;have c8:N<W5.heap.size:=bF HO.o.size bn.size;have et:=cj.size
   have b6:kN N W6.heap.size W5.heap.size w W6 #[St q.1.head.rel,aH a1 (aB q.1.head.args) a2,Sc g (aB ps) b2] (aH la (aB ab) lc) ab (aH na (aB names) nc) names (aX 4096 false) (aH aW 0 0) []:=by
    have aw:bQ wr.heap.size wr W6:=bn.trans (cj.mono bn.size);have el:=HO.o.size
    have dc:W6.heap[W5.heap.size]?=aV (aN ((aX 4096 false).map aK).toArray 4):=by
     obtain⟨_,⟨hv,_⟩|⟨g',ag,em,hv,_,hh,Z,h2,h3,h4⟩⟩:=dq;{cases hv}
     .cases hv;rw[hh];congr 2;rw[<-Array.toList_inj];simp only[Nat.mul_one] at h3 h4;have e:(aX 4096 false).map aK=aX 4096 (aK false):=by rw[List.map_replicate]
      rw[e,<-h4,List.take_of_length_le (by simp[h3])]
    exact⟨HO.o.below.trans (aw.mono (by omega)),(aw.block N el).trans HO.o.bx,HO.o.l.below aw,λg' b8=>by have:=(Qp HO.o.l.row g' b8).2.1;have:=aw.size;omega,qv.below HO.o.nm aw,dc,⟨c8,(zg dc).1,bO _⟩,zo,λp A=>by cases A⟩
   obtain⟨S,hS⟩:∃S,W6.heap.size=S:=⟨_,rfl⟩;obtain⟨C,e3⟩:∃C,W5.heap.size=C:=⟨_,rfl⟩;rw[hS,e3] at b6;have d8:=aA b6;obtain⟨af,ae⟩:∃af,iD q.1 i=af:=⟨_,rfl⟩;rw[ae];have a8:=aA ae;clear b6 dx dq cj bn HO c8 et hS ae;go_wp2
   go_loopw [10,11] (λo p wr=>∃(k:Nat) (vx:Vq) (z:List (List ByteArray×Vq)) (aa:List Bool),vx=o/\p=aM aP k/\k<=aB ab/\kN N S C w wr #[aI q.1.head.rel,aH a1 (aB q.1.head.args) a2,aH (aV ⟨g,0,aW⟩) (aB ps) b2] (aH la (aB ab) lc) ab (aH na (aB names) nc) names aa vx z/\Hid (aB aa=4096)/\aB z<=k*aB gs/\Hid (∀p∈z,P (i+1) p.1/\aB p.1=8)/\Hid ((kD ((ab.drop k).map (·.1)) (gs.map (·.1))).foldl (fT q.1 i names ps[i].1) (aa,z.map (·.1))=FF)) (λ_ p _=>aB ab-(intOf p).toNat)
   case atStart=>exact⟨0,_,[],aX 4096 false,rfl,rfl,zz,d8.o,by show _=_;simp,by simp,λp A=>by (cases A),eo⟩
   case round=>
    clear d8;obtain⟨k,vx,z,aa,rfl,rfl,fj,G,ah,a6,ad,ao⟩:=hrel;by_cases bi:k<aB ab
    .have⟨gl,ag,e1,Qkp,_,⟨u1,u2,hu⟩,_⟩:=G.l.cell k bi;cases e1;have d4:=b3.o ab[k] (zm bi)
     have HLk:Hid (∀(X:Wq) (sn:List Bool) (vy:Vq) (ny:List (List ByteArray×Vq)),kN N S C w X #[St q.1.head.rel,aH a1 (aB q.1.head.args) a2,Sc g (aB ps) b2] (Sc gl (aB ab) lc) ab (aH na (aB names) nc) names sn vy ny->aC X (Ad gl k)=aV ab[k].2/\qv X ab[k].2 ab[k].1):=by
      intro X sn vy ny hX;have⟨g',c',e',_,Z,_,h2⟩:=hX.l.cell k bi
      cases e'
      exact⟨Z,h2⟩
     rw[aY bi,bL,FZ,List.map_map] at ao;have dt:=aA ao;rw[hu] at HLk;have HPb:=aA d4;generalize ab[k].1=b at *;have M:=aA G;clear G ao hu d4 Qkp;go_wp2
     go_loopw [10,12] (λo p wr=>∃(j:Nat) (vx:Vq) (z:List (List ByteArray×Vq)) (aa:List Bool),vx=o/\p=aM aP j/\j<=aB gs/\kN N S C w wr #[aI q.1.head.rel,aH a1 (aB q.1.head.args) a2,aH (aV ⟨g,0,aW⟩) (aB ps) b2] (aH (aV ⟨gl,0,aW⟩) (aB ab) lc) ab (aH na (aB names) nc) names aa vx z/\Hid (aB aa=4096)/\aB z<=k*aB gs+j/\Hid (∀p∈z,P (i+1) p.1/\aB p.1=8)/\Hid (((gs.drop j).map (λp=>(b,p.1))++kD ((ab.drop (k+1)).map (·.1)) (gs.map (·.1))).foldl (fT q.1 i names ps[i].1) (aa,z.map (·.1))=FF)) (λ_ p _=>aB gs-(intOf p).toNat)
     case atStart=>exact⟨0,_,z,aa,rfl,rfl,zz,M.o,ah,by omega,ad,dt⟩
     case round=>
      clear M dt ah a6 ad;obtain⟨j,vx,z,aa,rfl,rfl,Qmf,G,ah,a6,ad,E⟩:=hrel;by_cases bv:j<aB gs
      .have⟨gg,ag,e1,Qao,s0,s1,⟨t1,t2,ht⟩,ee⟩:=(HX.o wr G.below).2.2.cell j bv;cases e1;have⟨fA,Qhr⟩:=HLk.o wr aa vx z G;have⟨Qgc,c0,c1⟩:=HAi.o wr G.below;have x2:aC wr (Ad N 2)=aV (Sc g (aB ps) b2):=by{simp[aC,G.bx]};have dy:Hid (∀d,Cs 123 #[aJ #[St ps[i].1.rel,aH y1 (aB ps[i].1.args) y2],aJ #[St gs[j].1.rel,aH t1 (aB gs[j].1.args) t2],aH u1 (aB b) u2] (wr.drewN d) λe w'=>pp ps[i].1 gs[j].1 b (aH u1 (aB b) u2) wr.heap.size e w'/\bQ wr.heap.size wr w'):=by{intro d;have bc:bQ wr.heap.size wr (wr.drewN d):=qy (Below.refl _ wr);have Qjs:fI (wr.drewN d) (ps[i].1,aH y1 (aB ps[i].1.args) y2):=fI.kept (S:=0) (p:=(ps[i].1,aH y1 (aB ps[i].1.args) y2)) (by rw[<-HY.o];exact Qgc) (Kp.ofBelow bc);have h:=I9 (ps[i].1,aH y1 (aB ps[i].1.args) y2) gs[j] (aH u1 (aB b) u2) b (wr.drewN d) Qjs (ee.below bc) (qv.below Qhr bc) (HMi.o.1) (by rw[HPb.o.2];decide) (by rw[HPb.o.2];decide) (λt en=>by rw[HPb.o.2];exact HMi.o.2 t en);unfold lM at h;rw[ht] at h;refine h.mono ?_;rintro e w' ⟨Z,h2⟩;exact⟨Z,bc.trans h2⟩};rw[aY bv,bL,List.cons_append,bG] at E;have d7:=λc=>Qji.o gs[j].1 b c (List.mem_map.2 ⟨gs[j],List.getElem_mem bv,rfl⟩) HPb.o.1;rw[ht] at s1;have M:=aA G;have HPj:=aA d7;have fo:N<wr.heap.size:=by{have:=G.nS;omega};clear G ee ht Qgc Qhr d7;obtain⟨fg,c7⟩:∃fg,fE ps[i].1 gs[j].1 b=fg:=⟨_,rfl⟩;have cv:=aA c7;clear c7
       have Qcd:Hid (∀d,Cs 123 #[aJ #[St ps[i].1.rel,aH y1 (aB ps[i].1.args) y2],aJ #[St gs[j].1.rel,aH t1 (aB gs[j].1.args) t2],aH u1 (aB b) u2] (wr.drewN d) λe w'=>∃v' ok,e=aO (aL #[v',aK ok])/\(fg=aW->ok=false)/\(∀c,fg=aV c->ok=true/\aE w' wr.heap.size 9 1 v' (aB c) (c.map aI))/\bQ wr.heap.size wr w'):=by
        intro d;refine (dy.o d).mono ?_;rintro e w' ⟨Z,h2⟩;unfold pp at Z;rw[cv.o] at Z
        cases fg with
        |none=>exact⟨_,_,Z,λ_=>rfl,(λc hc=>by cases hc),h2⟩
        |some c=>have⟨v',h3,h4⟩:=Z;exact⟨v',true,h3,(λhc=>by cases hc),(λc' hc=>by cases hc;exact⟨rfl,h4⟩),h2⟩
       clear dy;generalize ps[i].1.rel=pr at *;generalize (aB ps[i].1.args)=pal at *;generalize gs[j].1.rel=gr at *;generalize (aB gs[j].1.args)=gal at *
       go_upto_region 15 with fail
       go_cut [13,14] from 37 to 80 (λez di wx=>bQ wr.heap.size wr wx/\(fg=aW->di=aK false)/\(∀c,fg=aV c->di=aK true/\aE wx wr.heap.size 9 1 ez (aB c) (c.map aI)))
       case first=>
        go_region_with (go_at_call 123;refine (Qcd.o 1).mono ?_;rintro e w2 ⟨vf,ok,rfl,e9,dj,au⟩)
        all_goals
         go_wp2_with fail
         go_meet
         case rel=>exact⟨au,λh=>by rw[e9 h],λc hc=>⟨by rw[(dj c hc).1],(dj c hc).2⟩⟩
       case rest=>
        have⟨aq,bq,bd⟩:=hcut;have ai:=M.o.grows aq;have HWc:=aA ai;have fk:=aq.size;have fh:aB z<=4194304*2048:=by{have Z:k*aB gs<=4194303*2048:=bI (by omega) da;omega};have dm:aB z+1<=maxLen:=by{unfold maxLen;omega};have dg:(aB z+1)*24<=140737488355328:=by{omega};have bj:Hid (∀O,S<=(wc.alloc O).heap.size):=λO=>by{have:=ai.nS;simp;omega};clear Qcd M
        cases hfgc:fg with
        |none=>
         have Qeo:=bq hfgc;have ak:fT q.1 i names ps[i].1 (aa,z.map (·.1)) (b,gs[j].1)=(aa,z.map (·.1)):=by{unfold fT;simp only[cv.o,hfgc]};rw[ak] at E;subst Qeo;clear bq bd ak aq ai;go_wp2
         go_roundw
         case rel=>exact⟨j+1,vx,z,aa,rfl,by go_num,by omega,HWc.o,ah,by omega,ad,E⟩
         case measure=>simp[intOf];omega
        |some c=>
         have⟨Qeo,qt⟩:=bd c hfgc;subst Qeo;have ap:fE ps[i].1 gs[j].1 b=aV c:=cv.o.trans hfgc;have cf:Hid (aB c=8):=(C0 _ _ _ _ ap).trans HPb.o.2;have⟨cr,cl⟩:=HPj.o c ap
         cases af with
         |false=>
          have ak:fT q.1 i names ps[i].1 (aa,z.map (·.1)) (b,gs[j].1)=(aa,z.map (·.1)++[c]):=by{unfold fT;simp only[ap,a8.o];simp};rw[ak] at E;have a7:=cl a8.o;have az:=Qj qt zz;have⟨ca,cc,ch⟩:=qe qt;subst ch;have e4:=aA az;have cn:∀u∈[aH ca (aB c) cc],u.oneCell'=true:=by simp[bJ]
          have Qdt:Hid (∀p∈z++[(c,aH ca (aB c) cc)],P (i+1) p.1/\aB p.1=8):=by
           intro p A;rcases bH.1 A with A|A
           .exact ad.o p A
           .simp at A;subst A;exact⟨a7,cf.o⟩
          have Qeq:Hid (((gs.drop (j+1)).map (λp=>(b,p.1))++kD ((ab.drop (k+1)).map (·.1)) (gs.map (·.1))).foldl (fT q.1 i names ps[i].1) (aa,(z++[(c,aH ca (aB c) cc)]).map (·.1))=FF):=by{show _=_;rw[<-E.o];simp};clear bq bd ak aq ai qt az ap cr cl a7 E ad
          go_wp2_with (at_builtin;refine wpList_append_own _ rfl (.tmp 77) (.tmp 79) 304 rfl S 239 i0 (aH aW 0 0) 1 24 Tryz.underlying304 hi db ea d2 rfl (by decide) _ _ _ rfl (HWc.o.xown.alloc _) ⟨wc.heap.size,0,aW⟩ 1 1 [aH ca (aB c) cc] rfl rfl (ku _ _ _) cn dm dg (bj.o _) ?_;intro bu w1 co b9 _;have cp:Hid _:=HWc.o.app c (aH ca (aB c) cc) e4.o b9 co)
          go_roundw
          case rel=>exact⟨j+1,bu,_,aa,rfl,by go_num,by omega,cp.o,ah,by simp;omega,Qdt,Qeq⟩
          case measure=>simp[intOf];omega
         |true=>
          have⟨a7,fl⟩:=cr a8.o;have az:=Qj qt zz;have de:=HLe.o wc _ c HWc.o.below az cf.o;have⟨ca,cc,ch⟩:=qe qt;subst ch;have ak:fT q.1 i names ps[i].1 (aa,z.map (·.1)) (b,gs[j].1)=if aa.getD (iP names (fC q.1 i c)) false=true then (aa,z.map (·.1)) else (aa.set (iP names (fC q.1 i c)) true,z.map (·.1)++[fC q.1 i c]):=by{unfold fT;simp only[ap,a8.o];simp};rw[ak] at E;have c2:Hid (aB (fC q.1 i c)=8):=(GQ _ _ _).trans cf.o;generalize fC q.1 i c=c' at *;have fe:aC wc (Ad N 0)=aV (St q.1.head.rel):=by{simp[aC,ai.bx]};have fm:aC wc (Ad N 1)=aV (aH a1 (aB q.1.head.args) a2):=by{simp[aC,ai.bx]};have fb:aC wc (Ad N 2)=aV (Sc g (aB ps) b2):=by{simp[aC,ai.bx]};clear bq bd ak aq ai qt az ap cr cl bj;go_wp2_with fail;refine de.mono ?_;rintro e W7 ⟨v7,rfl,cb,ec⟩;have cd:=HWc.o.grows ec;have b5:qv W7 v7 c':=Qj cb zz;have c4:=CW v7 (aH na (aB names) nc) c' names W7 b5 cd.nm (by have:=c2.o;omega) du hd;have⟨aj,al,e5⟩:=qe cb;subst e5;have ek:=aA cd;have ej:=aA b5;generalize iP names c'=kn at *;clear de cb ec cd b5;go_wp2_with fail;refine c4.mono ?_;rintro e W8 ⟨rfl,bb⟩;have bf:=ek.o.grows bb;have d6:Hid (qv W8 (aH aj (aB c') al) c'):=qv.below ej.o bb;have b7:=aA bf;have Qle:aB aa=4096:=ah.o;have k8:aC W8 (Ad C kn)=aV (aK (aa.getD kn false)):=by{simp[aC,bf.sn,bC (show kn<aB aa by omega)]};have f8:aD W8 (Ad C kn)=false:=by{simp[aD,bf.sn]};clear c4 bb bf Qle
          cases hsd:aa.getD kn false with
          |true=>
           rw[hsd] at k8 E;simp only[if_true] at E;go_wp2
           go_roundw
           case rel=>exact⟨j+1,vx,z,aa,rfl,by go_num,by omega,b7.o,ah,by omega,ad,E⟩
           case measure=>simp[intOf];omega
          |false=>
           rw[hsd] at k8 E;simp only[Bool.false_eq_true,if_false] at E;have hM:=b7.o.mark kn;have HM:=aA hM;have Qlf:Hid (aB (aa.set kn true)=4096):=by{show _=_;rw[List.length_set];exact ah.o};have bj:Hid (∀O,S<=((W8.setCell (Ad C kn) (aK true)).alloc O).heap.size):=λO=>by{have:=hM.nS.2.2;simp at this ⊢;omega};have cn:∀u∈[aH aj (aB c') al],u.oneCell'=true:=by{simp[bJ]};have eu:Hid (qv (W8.setCell (Ad C kn) (aK true)) (aH aj (aB c') al) c'):=by{refine qn d6.o (λg' b8 _=>Below.heap_setCell _ _ _ _ (λe=>?_));have⟨cx,c3⟩:=qh d6.o b8;simp at e;subst e;rw[b7.o.sn] at c3;cases c3};have Qjw:Hid (∀(x:Vq) (t:TypeId) (i:Nat) (u:Vq),[x][i]?=aV u->aC ((W8.setCell (Ad C kn) (aK true)).alloc (aN #[x] t)) ((⟨W8.heap.size,0,aW⟩:Addr).add i)=aV u):=by intro x t i u hu;have:=ku (W8.setCell (Ad C kn) (aK true)) x t i u hu;simpa using this
           have Qdt:Hid (∀p∈z++[(c',aH aj (aB c') al)],P (i+1) p.1/\aB p.1=8):=by
            intro p A;rcases bH.1 A with A|A
            .exact ad.o p A
            .simp at A;subst A;exact⟨a7,c2.o⟩
           have Qeq:Hid (((gs.drop (j+1)).map (λp=>(b,p.1))++kD ((ab.drop (k+1)).map (·.1)) (gs.map (·.1))).foldl (fT q.1 i names ps[i].1) (aa.set kn true,(z++[(c',aH aj (aB c') al)]).map (·.1))=FF):=by{show _=_;rw[<-E.o];simp};clear hM E ad a7
           go_wp2_with (at_builtin;refine wpList_append_own _ rfl (.tmp 77) (.tmp 79) 304 rfl S 239 i0 (aH aW 0 0) 1 24 Tryz.underlying304 hi db ea d2 rfl (by decide) _ _ _ rfl (HM.o.xown.alloc _) ⟨W8.heap.size,0,aW⟩ 1 1 [aH aj (aB c') al] rfl rfl (Qjw.o _ _) cn dm dg (bj.o _) ?_;intro bu w1 co b9 _;have cp:Hid _:=HM.o.app c' (aH aj (aB c') al) eu.o b9 co)
           go_roundw
           case rel=>exact⟨j+1,bu,_,aa.set kn true,rfl,by go_num,by omega,cp.o,Qlf,by simp;omega,Qdt,Qeq⟩
           case measure=>simp[intOf];omega
      .rw[aZ (by omega)] at E;simp only[List.map_nil,List.nil_append] at E;have ev:j=aB gs:=by{omega};have bk:aB z<=(k+1)*aB gs:=by{rw[Nat.succ_mul];omega};have M:=aA G;clear G ev a6;go_wp2
       go_roundw
       case rel=>exact⟨k+1,vx,z,aa,rfl,by go_num,by omega,M.o,ah,bk,ad,E⟩
       case measure=>simp[intOf];omega
    .rw[aZ (by omega)] at ao;have eg:FF=(aa,z.map (·.1)):=by{rw[<-ao.o];rfl};have e8:Hid (((bB (aB ps)).drop (i+1)).foldl (l7 q.1 names (gs.map (·.1))) (z.map (·.1))=T):=by{have:=ax.o;rw[eg] at this;exact this};have c6:k=aB ab:=by{omega};have bk:aB z<=2048 ^ (i+1):=by{rw[Nat.pow_succ];refine bD a6 ?_;rw[c6];exact bI e7.o da};have e2:=aA bk;have M:=aA G;clear eg c6 bk ao G a6;go_wp2
     go_roundw
     case rel=>exact⟨i+1,vx,z,rfl,by go_num,by omega,⟨M.o.below,M.o.bx,⟨Qj M.o.xown zz,M.o.each⟩,M.o.nm,by have:=M.o.nS;omega⟩,e2.o,ad,e8⟩
     case measure=>simp[intOf];omega
  .have c5:i=aB ps:=by{omega};have Qf:ab.map (·.1)=T:=by{have:=ax.o;rw[aZ (by simp;omega)] at this;exact this};have HR:Hid (ab.map (·.1)=T/\(∀p∈ab,P (aB ps) p.1/\aB p.1=8)/\aB ab<=2048 ^ 3):=by{refine⟨Qf,by rw[<-c5];exact b3.o,bD ay (bE (by decide) (by omega))⟩};have HO:=aA hO;clear Qf c5 hO ax b3 ay;go_wp2;go_ret;exact⟨_,ab,rfl,HO.o.l,HR.o.1,HR.o.2.1,HR.o.2.2,HO.o.below⟩
