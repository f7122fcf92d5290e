/- A part -/
import Derived.Test.YtjajnhemgphefaaGreatDoorJMdR
import Derived.Deep.CutRange
import Derived.Deep.RegionHeld3
set_option linter.all false
set_option maxRecDepth 100000
set_option maxHeartbeats 8000000
open List renaming length->aB,getElem?_eq_getElem->aX,length_append->aY,mem_map->aZ,append_nil->bB,append_assoc->bC,map_append->bD,mem_append_left->bE,mem_iff_getElem->bF,mem_flatMap->bG,length_map->bH,mem_append_right->bI,getElem_mem->bL,mem_append->bO
open Go.World renaming cell?->aC,frozen?->aD,ownsRow->aE
open Go.Value renaming ownBlock->aF,slice->aH,string->aI,agg->aJ,bool->aK,int->aM,oneCell'->bT
open Go.Obj renaming cells->aN
open Go.Ending renaming returned->aO
open Go.IntKind renaming i64->aP
open Or renaming inl->aQ,inr->aR
open Option renaming some->aV,none->aW
open Go.Calls renaming mono->bJ
open Go.RowKit.Below renaming refl->bQ
open Go.RowKit renaming Below->bU
namespace Go.Proofs.YtjajnhemgphefaaGreatDoor
open Go renaming World->Wq,Value->Vq
open Go.RowKit Go.Shelf
theorem Tryz.infoGround:(Tryz.prog.info? 226).map (λi=>(i.zero,i.size,i.bytes))=aV (aV (aJ #[St ⟨#[]⟩,aH aW 0 0]),2,40):=by kernel_rfl
structure gZ(fv:List Vq)(N:Nat)(w X:Wq)(vh:Vq)(hs:List (Gr×Vq)):Prop where
 below:bU N w X
 size:N<=X.heap.size
 row:aE X N 226 2 vh (aB hs) (hs.flatMap jX)
 each:∀p∈hs,qv X p.2 p.1.args
 loc:∀p∈hs,p.2∈fv\/∀g,aF p.2=aV g->N<=g
section
variable {fv:List Vq} {N:Nat} {w X Y:Wq} {vh v':Vq} {hs:List (Gr×Vq)}
theorem gZ.gds(h:gZ fv N w X vh hs):gM X vh hs:=⟨Qj h.row zz,h.each⟩
theorem gZ.grows(h:gZ fv N w X vh hs)(d:bU X.heap.size X Y):gZ fv N w Y vh hs:=by have:=d.size;have:=h.size;exact⟨h.below.trans (d.mono h.size),by omega,qj h.row d,λp z=>(h.each p z).below d,h.loc⟩
theorem gZ.app(h:gZ fv N w X vh hs)(p:Gr×Vq)(hp:qv X p.2 p.1.args)(hl:p.2∈fv\/∀g,aF p.2=aV g->N<=g){o:Obj}(z:(X.alloc o).grownBy Y (aF vh))(ho:aE Y N 226 2 v' (aB hs+1) (hs.flatMap jX++jX p)):gZ fv N w Y v' (hs++[p]):=by
 have hz:=z.size;simp at hz;have d9:=h.size;have M:∀k,aF vh=aV k->N<=k:=λk e=>(Qp h.row k e).1;have Z:∀g,g<X.heap.size->aF vh≠aV g->Y.heap[g]?=X.heap[g]?:=λg ad G=>(z.block g (by simp;omega) (λe=>G e.symm)).trans (Below.heap_alloc _ _ _ ad);have C:∀{B T m n:Nat} {v:Vq} {xs:List Vq},T≠226->aE X B T m v n xs->aE Y B T m v n xs:=by intro B T m n v xs O A;refine qn A (λg E ad=>Z g ad (λe=>?_));have⟨c1,au⟩:=qh A E;have⟨c2,a8⟩:=qh h.row e;rw[au] at a8;cases a8;exact O rfl
 refine⟨(h.below.alloc (by omega) o).grown z (by simp;omega) (λk e=>M k e),by omega,?_,λq d=>?_,λq d=>?_⟩
 .grind
 .rcases bO.1 d with d|d
  .exact C (by decide) (h.each q d)
  .simp at d;subst d;exact C (by decide) hp
 .rcases bO.1 d with d|d
  .exact h.loc q d
  .grind
end
theorem gZ.keep{fv:List Vq}{N:Nat}{w X Y:Wq}{vh:Vq}{hs:List (Gr×Vq)}(h:gZ fv N w X vh hs){o:Obj}(C:(X.alloc o).grownBy Y (aF vh)){B T m n:Nat}{v:Vq}{xs:List Vq}(A:T≠226)(d:aE X B T m v n xs):aE Y B T m v n xs:=by refine qn d (λg z ad=>(C.block g (by simp;omega) (λe=>?_)).trans (Below.heap_alloc _ _ _ ad));have⟨c1,au⟩:=qh d z;have⟨c2,a8⟩:=qh h.row e.symm;rw[au] at a8;cases a8;exact A rfl
theorem E5{W:Wq}{B T:Nat}{x y:Vq}(h:W.heap[B]?=cC #[x,y] T)(a b:Vq):((W.setCell (Ad B 0) a).setCell (Ad B 1) b).heap[B]?=cC #[a,b] T:=by have d:=Qo h 0 a;have z:=Qo d 1 b;rw[z];rfl
theorem Cf{W:Wq}{B:Nat}{c:Array Vq}{v:Vq}{l:List ByteArray}(h:qv W v l)(d:W.heap[B]?=cC c 226)(j:Nat)(x:Vq):qv (W.setCell (Ad B j) x) v l:=by refine qn h (λg z _=>Below.heap_setCell _ _ _ _ (λe=>?_));have⟨c1,au⟩:=qh h z;simp at e;subst e;rw[d] at au;cases au
def yY:Vq->Nat
 |aH _ n _=>n
 |_=>0
theorem sY(l:List Gr)(g:Gr):mr l g=true↔g∈l:=by grind [mr,AO]
def nE(R:List Rl)(F:List Gr)(Nm:List ByteArray)(hs:List Gr):Prop:=fQ R F Nm hs/\∀g,g∈hs↔Dv R F g
theorem Cl(d:List (Rl×Vq×Vq))(z:List (Gr×Vq))(Nm:List ByteArray)(v vf:Vq)(w:Wq)(hR:gY w v d)(hF:gM w vf z)(ef:aB d<=1000)(eb:aB z<=1000)(cy:jM (d.map (·.1)) Nm)(c6:∀p∈z,ja (d.map (·.1)) Nm p.1):Cs 113 #[v,vf] w λe w'=>∃v' hs,e=aO v'/\gZ (z.map (·.2)) w.heap.size w w' v' hs/\nE (d.map (·.1)) (z.map (·.1)) Nm (hs.map (·.1)):=by
 have⟨i0,hi,c4,dh,dc⟩:=info_parts Tryz.infoGround;obtain⟨fv,cv⟩:∃fv,z.map (·.2)=fv:=⟨_,rfl⟩;rw[cv];have d3:Hid (∀f∈z,f.2∈fv):=λf hf=>by rw[<-cv];exact aZ.2 ⟨f,hf,rfl⟩
 obtain⟨va,vc,rfl⟩:=qe hR.row;obtain⟨fa,fc,rfl⟩:=qe hF.row;obtain⟨N,hN⟩:∃N,N=w.heap.size:=⟨_,rfl⟩;have d8:=hN.symm;rw[<-hN]
 have bq:Hid (∀X,bU N w X->gY X (aH va (aB d) vc) d/\gM X (aH fa (aB z) fc) z):=λX hX=>by
  have dg:bU w.heap.size w X:=by rw[d8];exact hX
  exact⟨hR.below dg,hF.below dg⟩
 have af:Hid _:=cy;have dv:Hid _:=c6;have h0:Hid (gZ fv N w w (aH aW 0 0) []):=⟨zr,by omega,zo,λp Z=>(by cases Z),λp Z=>(by cases Z)⟩;clear hR hF cy c6 hN cv;go_enter Tryz.func113,Tryz.ntmps113;go_wp2_with fail
 go_loopw [5,6] (λo p wr=>∃(i:Nat) (vh:Vq) (hs:List (Gr×Vq)),vh=o/\p=aM aP i/\i<=aB z/\aB hs<=i/\Hid (gZ fv N w wr vh hs)/\Hid (fQ (d.map (·.1)) (z.map (·.1)) Nm (hs.map (·.1))/\∀k,k<i->∀f,z[k]?=aV f->f.1∈hs.map (·.1))) (λ_ p _=>aB z-(intOf p).toNat)
 case atStart=>exact⟨0,_,[],rfl,rfl,zz,Nat.le_refl _,h0,fQ.start,λk hk=>by omega⟩
 case round=>
  clear h0;obtain⟨i,vh,hs,rfl,rfl,dl,d0,ab,ac⟩:=hrel;have⟨ha,hc,ah⟩:=qe ab.o.row;subst ah;by_cases ad:i<aB z
  .have i1:(i:Int)<(aB z:Int):=by omega
   have⟨gg,az,e1,Qao,s0,s1,⟨t1,t2,ht⟩,cb⟩:=(bq.o wr ab.o.below).2.cell i ad;cases e1;have al:Hid (∀X,bU N w X->aC X (Ad gg (i*2))=aV (St z[i].1.rel)/\aC X (Ad gg (i*2+1))=aV (aH t1 (aB z[i].1.args) t2)/\qv X (aH t1 (aB z[i].1.args) t2) z[i].1.args):=λX hX=>by have⟨d5,aj,e1,_,s0,s1,_,cb⟩:=(bq.o X hX).2.cell i ad;cases e1;rw[ht] at s1 cb;exact⟨s0,s1,cb⟩
   have ae:Hid (Cs 122 #[aH ha (aB hs) hc,aJ #[St z[i].1.rel,aH t1 (aB z[i].1.args) t2]] wr λe w'=>e=aO (aK (mr (hs.map (·.1)) z[i].1))/\bU wr.heap.size wr w'):=by
    have h:=yx (aH ha (aB hs) hc) hs (z[i].1,aH t1 (aB z[i].1.args) t2) wr ab.o.gds (al.o wr ab.o.below).2.2 (by omega) (λp Z=>?_)
    .exact h
    .have⟨⟨a,bn,_,hl⟩,_⟩:=ac.o.1.ok p.1 (aZ.2 ⟨p,Z,rfl⟩);have⟨r,hr,av⟩:=bG.1 bn;have:=((af.o.each r hr).args a av).1;omega
   have Qhb:aH t1 (aB z[i].1.args) t2∈fv:=by rw[<-ht];exact d3.o _ (zm ad)
   have d1:Hid _:=Qhb;clear Qhb;have df:=dv.o z[i] (zm ad);have HFi:Hid _:=df;have dm:z[i]?=aV z[i]:=aX ad;have c9:Hid (z[i]?=aV z[i]):=dm;rw[ht] at s1;clear df cb Qao ht dm;have dx:Hid (z[i].1∈z.map (·.1)):=aZ.2 ⟨z[i],bL ad,rfl⟩;generalize z[i]=f at *;go_wp2_with fail;refine bJ ae.o ?_;rintro e' W1 ⟨rfl,dq⟩;have bf:Hid (gZ fv N w W1 (aH ha (aB hs) hc) hs):=ab.o.grows dq;clear ae dq ab s0 s1;have⟨s0,s1,di⟩:=al.o W1 bf.o.below;have dt:Hid (qv W1 (aH t1 (aB f.1.args) t2) f.1.args):=di;clear di al
   cases hb:mr (hs.map (·.1)) f.1 with
   |true=>
    have ai:Hid (fQ (d.map (·.1)) (z.map (·.1)) Nm (hs.map (·.1))/\∀k,k<i+1->∀f,z[k]?=aV f->f.1∈hs.map (·.1)):=⟨ac.o.1,λk hk f' am=>by
     by_cases e:k=i
     .subst e;rw[c9.o] at am;cases am;exact (sY _ _).1 hb
     .exact ac.o.2 k (by omega) f' am⟩
    clear ac;go_wp2;refine⟨⟨i+1,_,hs,rfl,by go_num,by omega,by omega,bf,ai⟩,by simp[intOf];omega⟩
   |false=>
    have ax:f.1∉hs.map (·.1):=λhm=>by rw[(sY _ _).2 hm] at hb;cases hb
    have ai:Hid (fQ (d.map (·.1)) (z.map (·.1)) Nm ((hs++[(f.1,aH t1 (aB f.1.args) t2)]).map (·.1))/\∀k,k<i+1->∀f',z[k]?=aV f'->f'.1∈(hs++[(f.1,aH t1 (aB f.1.args) t2)]).map (·.1)):=by
     rw[bD];refine⟨ac.o.1.fact dx.o ax HFi.o,λk hk f' am=>?_⟩;by_cases e:k=i
     .subst e;rw[c9.o] at am;cases am;exact bI _ zs
     .exact bE _ (ac.o.2 k (by omega) f' am)
    have ck:Hid (∀O,N<=(W1.alloc O).heap.size):=λO=>by have:=bf.o.size;simp;omega
    have ch:Hid (aE W1 N 226 2 (aH ha (aB hs) hc) (aB hs) (hs.flatMap jX)):=bf.o.row;clear ac ax
    go_wp2_with (at_builtin;refine wpList_append_own _ rfl _ _ 217 rfl N 226 i0 _ 2 40 Tryz.underlying217 hi c4 dh dc rfl (by decide) _ (aB hs) (hs.flatMap jX) rfl (ch.o.alloc _) ⟨W1.heap.size,0,aW⟩ 1 _ [St f.1.rel,aH t1 (aB f.1.args) t2] rfl rfl (mo _ _ _ _) (by simp[bT]) (by unfold maxLen;omega) (by omega) (ck.o _) ?_;intro ci w1 bh a7 _;have b9:Hid _:=bf.o.app (f.1,aH t1 (aB f.1.args) t2) dt.o (aQ d1.o) a7 bh;clear bh a7)
    refine⟨⟨i+1,ci,_,rfl,by go_num,by omega,by simp;omega,b9,ai⟩,by simp[intOf];omega⟩
  .have cj:i=aB z:=by omega
   have ai:Hid (fQ (d.map (·.1)) (z.map (·.1)) Nm (hs.map (·.1))/\∀f∈z.map (·.1),f∈hs.map (·.1)):=⟨ac.o.1,λf hf=>by
    obtain⟨p,Z,rfl⟩:=aZ.1 hf;have⟨k,hk,e⟩:=bF.1 Z
    exact ac.o.2 k (by omega) p (by rw[<-e];exact aX hk)⟩
   clear ac cj;have c3:aB hs<=2048:=by have:=ai.o.1.few af.o;rwa [bH] at this
   go_wp2_with fail
   go_loopw [5] (λo wr=>∃(vh:Vq) (hs:List (Gr×Vq)),vh=o/\aB hs<=2048/\Hid (gZ fv N w wr vh hs)/\Hid (fQ (d.map (·.1)) (z.map (·.1)) Nm (hs.map (·.1))/\∀f∈z.map (·.1),f∈hs.map (·.1))) (λo _=>2049-yY o)
   case atStart=>exact⟨_,hs,rfl,c3,ab,ai⟩
   case round=>
    clear ab ai c3 d0 dl ad;obtain⟨vh,aa,rfl,dy,ab,cf⟩:=hrel;have⟨ha,hc,ah⟩:=qe ab.o.row;subst ah;have cx:Hid (∀f∈z.map (·.1),f∈aa.map (·.1)):=cf.o.2;have de:Hid (fQ (d.map (·.1)) (z.map (·.1)) Nm (aa.map (·.1))):=cf.o.1;clear cf;go_wp2_with fail
    go_loopw [5,9] (λo p wr=>∃(i:Nat) (vh:Vq) (new:List (Gr×Vq)),vh=o/\p=aM aP i/\i<=aB d/\aB aa+aB new<=2048/\Hid (gZ fv N w wr vh (aa++new))/\Hid (fQ (d.map (·.1)) (z.map (·.1)) Nm ((aa++new).map (·.1))/\(new=[]->∀j,j<i->∀q,d[j]?=aV q->∀b∈mx q.1 (aa.map (·.1)),gz q.1.head b∈aa.map (·.1)))) (λ_ p _=>aB d-(intOf p).toNat)
    case atStart=>exact⟨0,_,[],rfl,rfl,zz,dy,by rw[bB];exact ab,by rw[bB];exact de.o,λ_ j hj=>by omega⟩
    case round=>
     clear ab de;obtain⟨i,vh,new,rfl,rfl,dl,ap,ab,ac⟩:=hrel;have⟨ha,hc,ah⟩:=qe ab.o.row;rw[aY] at ah;subst ah;by_cases ad:i<aB d
     .have i1:(i:Int)<(aB d:Int):=by omega
      have⟨gg,az,e1,Qao,s0,s1,s2,ak,ps,b5,cr⟩:=(bq.o wr ab.o.below).1.cell i ad;cases e1;have⟨a1,a2,bj⟩:=qe ak;simp only at bj;have⟨b1,b2,b6⟩:=qe cr.row;have al:Hid (∀X,bU N w X->aC X (Ad gg (i*3))=aV (St d[i].1.head.rel)/\aC X (Ad gg (i*3+1))=aV (aH a1 (aB d[i].1.head.args) a2)/\aC X (Ad gg (i*3+2))=aV (aH b1 (aB ps) b2)/\fI X (d[i].1.head,aH a1 (aB d[i].1.head.args) a2)):=λX hX=>by have⟨d5,aj,e1,_,s0,s1,s2,ak,_⟩:=(bq.o X hX).1.cell i ad;cases e1;rw[bj] at s1 ak;rw[b6] at s2;exact⟨s0,s1,s2,ak⟩
      have bv:d[i].1∈d.map (·.1):=aZ.2 ⟨d[i],bL ad,rfl⟩;have b8:=af.o.each _ bv;obtain⟨a6,be⟩:∃a6,dP [] (gS ((aa++new).map (·.1)))=a6:=⟨_,rfl⟩;have Qhf:aB (aa++new)<=2048:=by rw[aY];exact ap
      have cz:Hid (Cs 180 #[aJ #[St d[i].1.head.rel,aH a1 (aB d[i].1.head.args) a2,aH b1 (aB ps) b2],aH ha (aB aa+aB new) hc] wr λe w'=>∃v' A,e=aO v'/\jN w' v' A/\bU wr.heap.size wr w'/\aB A<=2048 ^ 3/\Hid (A.map (·.1)=mx d[i].1 ((aa++new).map (·.1))/\∀p∈A,ox d[i].1 a6 ((aa++new).map (·.1)) (aB d[i].1.body) p.1/\aB p.1=8)):=by
       have aw:=uk af.o ac.o.1.ok
       have hw:=ET (d[i].1,aH a1 (aB d[i].1.head.args) a2,aH b1 (aB ps) b2) ps (aH ha (aB aa+aB new) hc) (aa++new) (ox d[i].1 a6 ((aa++new).map (·.1))) wr (by have:=ak;rw[bj] at this;exact this) (by rw[<-b6];exact cr) b5 ab.o.gds (by
        have h3:=b8.three
        rw[<-b5,bH] at h3;exact h3) Qhf (λp Z=>by
        have⟨⟨a,bn,_,hl⟩,_⟩:=ac.o.1.ok p.1 (aZ.2 ⟨p,Z,rfl⟩);have⟨r,hr,av⟩:=bG.1 bn;have:=((af.o.each r hr).args a av).1
        omega) (λp Z=>by
        have du:p.1∈d[i].1.head::d[i].1.body:=by
         rcases List.mem_cons.1 Z with rfl|Z
         .exact zs
         .rw[<-b5];exact List.mem_cons_of_mem _ (aZ.2 ⟨p,Z,rfl⟩)
        have h4:=b8.args p.1 du
        exact⟨by have:=h4.1;omega,h4.2⟩) aw.1 aw.2.1 (by rw[be];have:=ac.o.1.inv af.o bv;rw[be] at this;exact this)
       refine hw.mono ?_;rintro e w' ⟨v',A,k1,k2,k3,k4,k5,k6⟩;exact⟨v',A,k1,k2,k6,k5,k3,k4⟩
      have Qll:Hid (∀b,ox d[i].1 a6 ((aa++new).map (·.1)) (aB d[i].1.body) b->ja (d.map (·.1)) Nm (gz d[i].1.head b)/\Dv (d.map (·.1)) (z.map (·.1)) (gz d[i].1.head b)):=λb hb=>ac.o.1.way af.o bv hb;have dz:Hid (d[i]?=aV d[i]):=aX ad;have db:Hid (aB d[i].1.head.args<=2/\∀t∈d[i].1.head.args,t.num<8):=b8.args _ zs;rw[bj] at s1;rw[b6] at s2;clear ak cr b5 bv b8 Qao bj b6;generalize d[i]=q at *;go_wp2_with fail;refine bJ cz.o ?_;rintro e' W2 ⟨vb,A,rfl,cd,c7,ee,da⟩;have⟨ba,bc,d6⟩:=qe cd.row;subst d6;have aw:Hid (gZ fv N w W2 (aH ha (aB aa+aB new) hc) (aa++new)):=ab.o.grows c7;have dn:Hid (jN W2 (aH ba (aB A) bc) A):=cd;clear cz cd c7 ab s0 s1 s2;go_wp2_with fail
      go_loopw [5,11] (λo p wr=>∃(k:Nat) (vh:Vq) (C:List (Gr×Vq)),vh=o/\p=aM aP k/\k<=aB A/\aB aa+aB C<=2048/\Hid (gZ fv N w wr vh (aa++C))/\Hid (jN wr (aH ba (aB A) bc) A)/\Hid (fQ (d.map (·.1)) (z.map (·.1)) Nm ((aa++C).map (·.1))/\(∃x,C=new++x)/\∀j,j<k->∀p,A[j]?=aV p->gz q.1.head p.1∈(aa++C).map (·.1))) (λ_ p _=>aB A-(intOf p).toNat)
      case atStart=>exact⟨0,_,new,rfl,rfl,zz,ap,aw,dn,ac.o.1,⟨[],by simp⟩,λj hj=>by omega⟩
      case round=>
       clear aw dn ap Qhf;obtain⟨k,vh,C,rfl,rfl,eg,ap,ab,bu,ae⟩:=hrel;have⟨ha,hc,ah⟩:=qe ab.o.row;rw[aY] at ah;subst ah;by_cases b4:k<aB A
       .have k1:(k:Int)<(aB A:Int):=by omega
        have⟨gb,az,e1,Qan,u0,⟨u1,u2,hu⟩,cq⟩:=bu.o.cell k b4;cases e1;rw[hu] at u0 cq;have⟨s0,s1,s2,ak⟩:=al.o wr ab.o.below;have ct:=da.o.2 A[k] (zm b4);have dk:=Qll.o _ ct.1;have b3:Hid _:=dk;have dr:Hid (A[k]?=aV A[k]):=aX b4;have c5:Hid (∀X,bU wr.heap.size wr X->Cs 181 #[aJ #[St q.1.head.rel,aH a1 (aB q.1.head.args) a2],aH u1 (aB A[k].1) u2] X λe w'=>∃G M,e=aO (aJ #[St q.1.head.rel,aH G (aB (gz q.1.head A[k].1).args) M])/\bU X.heap.size X w'/\(aC w' (Ad gg (i*3))=aV (St q.1.head.rel)/\aC w' (Ad gg (i*3+1))=aV (aH a1 (aB q.1.head.args) a2)/\aC w' (Ad gb k)=aV (aH u1 (aB A[k].1) u2))/\Hid (bU wr.heap.size wr w'/\qv w' (aH G (aB (gz q.1.head A[k].1).args) M) (gz q.1.head A[k].1).args/\∀g,aF (aH G (aB (gz q.1.head A[k].1).args) M)=aV g->N<=g)):=λX hX=>by have Qh4:=ct.2;refine (H8 (q.1.head,aH a1 (aB q.1.head.args) a2) (aH u1 (aB A[k].1) u2) A[k].1 X (al.o X (ab.o.below.trans (hX.mono ab.o.size))).2.2.2 (cq.below hX) (by have:=db.o.1;show aB q.1.head.args<=1000;omega) (λt ht _=>by rw[Qh4];exact db.o.2 t ht) (by rw[Qh4];decide)).mono ?_;rintro e w' ⟨vg,k1,k2,k3⟩;have⟨G,M,d7⟩:=qe k2;subst d7;have cl:bU wr.heap.size wr w':=hX.trans (k3.mono hX.size);have⟨c0,c1,_,_⟩:=al.o w' (ab.o.below.trans (cl.mono ab.o.size));exact⟨G,M,k1,k3,⟨c0,c1,(cl.cell (p:=⟨gb,k,aW⟩) Qan).trans u0⟩,cl,Qj k2 zz,λg hg=>Nat.le_trans ab.o.size (Nat.le_trans hX.size (Qp k2 g hg).1)⟩
        clear ak cq Qan dk ct hu;generalize A[k]=bk at *;have Qf:Hid (∀X,bU wr.heap.size wr X->gZ fv N w X (aH ha (aB aa+aB C) hc) (aa++C)/\jN X (Sc gb (aB A) bc) A):=λX hX=>⟨ab.o.grows hX,bu.o.below hX⟩;have x0:Hid (∀X,bU wr.heap.size wr X->aC X (Ad gg (i*3))=aV (St q.1.head.rel)/\aC X (Ad gg (i*3+1))=aV (aH a1 (aB q.1.head.args) a2)/\aC X (Ad gb k)=aV (aH u1 (aB bk.1) u2)):=λX hX=>by have⟨c0,c1,_,_⟩:=al.o X (ab.o.below.trans (hX.mono ab.o.size));have⟨eh,aj,e1,Qan,_⟩:=bu.o.cell k b4;cases e1;exact⟨c0,c1,(hX.cell (p:=⟨gb,k,aW⟩) Qan).trans u0⟩
        have ay:Hid (bU wr.heap.size wr wr.drew/\∀O,bU wr.heap.size wr (wr.alloc O).drew):=⟨(bQ _ wr).drew,λO=>((bQ _ wr).alloc zl O).drew⟩;clear s0 s1 s2 ab bu
        go_upto_region 16 with fail
        go_cut [12] from 55 to 64 (λd2 wx=>∃Bx G M,d2=.pointer (aV ⟨Bx,0,aW⟩)/\wx.heap[Bx]?=aV (aN #[aI q.1.head.rel,aH G (aB (gz q.1.head bk.1).args) M] 226)/\Hid (bU wr.heap.size wr wx/\qv wx (aH G (aB (gz q.1.head bk.1).args) M) (gz q.1.head bk.1).args/\∀g,aF (aH G (aB (gz q.1.head bk.1).args) M)=aV g->N<=g))
        case first=>
         go_region_held3 (λw'=>aC w' (Ad gg (i*3))=aV (St q.1.head.rel)/\aC w' (Ad gg (i*3+1))=aV (aH a1 (aB q.1.head.args) a2)/\aC w' (Ad gb k)=aV (aH u1 (aB bk.1) u2)) (first|with_reducible exact x0.o _ ay.o.1|with_reducible exact x0.o _ (ay.o.2 _)|with_reducible assumption|with_reducible exact x0.o _ (ag.o.1.alloc ag.o.1.size _)|with_reducible exact x0.o _ ((ag.o.1.setCell (p:=⟨wr.heap.size,0,aW⟩) zl _).setCell (p:=⟨wr.heap.size,1,aW⟩) zl _)|(trace_state;fail)) (first|(go_at_call 181;refine bJ (c5.o _ (by first|with_reducible exact ay.o.1|with_reducible exact ay.o.2 _)) ?_;rintro e' w' ⟨G,M,rfl,d4,ec,ag⟩;first|(have ao:w'.heap[wr.heap.size]?=cC #[St ⟨#[]⟩,aH aW 0 0] 226:=(d4.block wr.heap.size (by simp)).trans (zn wr _);have z0:aC w' (Ad wr.heap.size 0)=aV (St ⟨#[]⟩):=(by simp[aC,ao]);have z1:aC w' (Ad wr.heap.size 1)=aV (aH aW 0 0):=(by simp[aC,ao]);have y0:aD w' (Ad wr.heap.size 0)=false:=(by simp[aD,ao]);have y1:aD w' (Ad wr.heap.size 1)=false:=(by simp[aD,ao]))|skip)|go_simp)
         .go_wp2_with fail
          go_meet
          case rel=>exact⟨_,G,M,rfl,zn w' _,ag.o.1.alloc ag.o.1.size _,qv.below ag.o.2.1 ((bQ _ w').alloc zl _),ag.o.2.2⟩
         .go_wp2_with fail
          go_meet
          case rel=>exact⟨_,G,M,rfl,E5 ao _ _,(ag.o.1.setCell (p:=⟨wr.heap.size,0,aW⟩) zl _).setCell (p:=⟨wr.heap.size,1,aW⟩) zl _,Cf (Cf ag.o.2.1 ao 0 _) (Qo ao 0 _) 1 _,ag.o.2.2⟩
        case rest=>
         obtain⟨Bx,G,M,rfl,bd,bi⟩:=hcut;have ce:Hid (gZ fv N w wc (aH ha (aB aa+aB C) hc) (aa++C)):=(Qf.o wc bi.o.1).1;have c8:Hid (jN wc (Sc gb (aB A) bc) A):=(Qf.o wc bi.o.1).2;have ca:Hid (qv wc (aH G (aB (gz q.1.head bk.1).args) M) (gz q.1.head bk.1).args):=bi.o.2.1;have Qcj:Hid (∀g,aF (aH G (aB (gz q.1.head bk.1).args) M)=aV g->N<=g):=bi.o.2.2;have cp:Hid ((gz q.1.head bk.1).rel=q.1.head.rel):=rfl;obtain⟨E,b0⟩:∃E,gz q.1.head bk.1=E:=⟨_,rfl⟩;have dd:Hid (gz q.1.head bk.1=E):=b0;rw[b0] at bd ca cp Qcj;have b3:Hid (ja (d.map (·.1)) Nm E/\Dv (d.map (·.1)) (z.map (·.1)) E):=by rw[<-b0];exact b3.o
         clear bi Qf x0 ay c5 b0;have y0:aC wc (Ad Bx 0)=aV (St q.1.head.rel):=zc bd;have y1:aC wc (Ad Bx 1)=aV (aH G (aB E.args) M):=zc bd;have cn:Bx<wc.heap.size:=(zg bd).1;have hrel:E.rel=q.1.head.rel:=cp.o
         have Qhj:Hid (Cs 122 #[aH ha (aB aa+aB C) hc,aJ #[St q.1.head.rel,aH G (aB E.args) M]] wc λe w'=>e=aO (aK (mr ((aa++C).map (·.1)) E))/\bU wc.heap.size wc w'):=by
          have h:=yx (aH ha (aB aa+aB C) hc) (aa++C) (E,aH G (aB E.args) M) wc ce.o.gds ca.o (by rw[aY];omega) (λp Z=>?_)
          .unfold lM at h;simp only at h;rw[hrel] at h;exact h
          .have⟨⟨a,bn,_,hl⟩,_⟩:=ae.o.1.ok p.1 (aZ.2 ⟨p,Z,rfl⟩);have⟨r,hr,av⟩:=bG.1 bn;have:=((af.o.each r hr).args a av).1;omega
         have Qjk:Hid (E.rel=q.1.head.rel):=hrel;clear hrel bd cp;go_wp2_with fail;refine bJ Qhj.o ?_;rintro e' W5 ⟨rfl,aq⟩;have an:Hid (gZ fv N w W5 (aH ha (aB aa+aB C) hc) (aa++C)):=ce.o.grows aq;have b7:Hid (jN W5 (Sc gb (aB A) bc) A):=c8.o.below aq;have dj:Hid (qv W5 (aH G (aB E.args) M) E.args):=ca.o.below aq;have z0:aC W5 (Ad Bx 0)=aV (St q.1.head.rel):=(aq.cell (p:=⟨Bx,0,aW⟩) cn).trans y0;have z1:aC W5 (Ad Bx 1)=aV (aH G (aB E.args) M):=(aq.cell (p:=⟨Bx,1,aW⟩) cn).trans y1;clear Qhj ce c8 ca y0 y1 aq cn
         cases hbb:mr ((aa++C).map (·.1)) E with
         |true=>
          have a9:Hid (fQ (d.map (·.1)) (z.map (·.1)) Nm ((aa++C).map (·.1))/\(∃x,C=new++x)/\∀j,j<k+1->∀p,A[j]?=aV p->gz q.1.head p.1∈(aa++C).map (·.1)):=by
           refine⟨ae.o.1,ae.o.2.1,λj hj p Z=>?_⟩;by_cases e:j=k
           .subst e;rw[dr.o] at Z;cases Z;rw[dd.o];exact (sY _ _).1 hbb
           .exact ae.o.2.2 j (by omega) p Z
          clear ae;go_wp2;refine⟨⟨k+1,_,C,rfl,by go_num,by omega,ap,an,b7,a9⟩,by simp[intOf];omega⟩
         |false=>
          have ax:E∉(aa++C).map (·.1):=λhm=>by rw[(sY _ _).2 hm] at hbb;cases hbb
          have Qec:fQ (d.map (·.1)) (z.map (·.1)) Nm ((aa++(C++[(E,aH G (aB E.args) M)])).map (·.1)):=by rw[<-bC,bD];exact ae.o.1.add ax b3.o.1 b3.o.2
          have a9:Hid (fQ (d.map (·.1)) (z.map (·.1)) Nm ((aa++(C++[(E,aH G (aB E.args) M)])).map (·.1))/\(∃x,C++[(E,aH G (aB E.args) M)]=new++x)/\∀j,j<k+1->∀p,A[j]?=aV p->gz q.1.head p.1∈(aa++(C++[(E,aH G (aB E.args) M)])).map (·.1)):=by
           have⟨x1,⟨x,hx⟩,x3⟩:=ae.o;refine⟨Qec,⟨x++[(E,aH G (aB E.args) M)],by rw[hx,bC]⟩,λj hj p Z=>?_⟩;rw[<-bC,bD];by_cases e:j=k
           .subst e;rw[dr.o] at Z;cases Z;rw[dd.o];exact bI _ zs
           .exact bE _ (x3 j (by omega) p Z)
          have Qk1:aB aa+aB (C++[(E,aH G (aB E.args) M)])<=2048:=by have:=Qec.few af.o;rw[bH,aY] at this;exact this
          have ck:Hid (∀O,N<=(W5.alloc O).heap.size):=λO=>by have:=an.o.size;simp;omega
          have ch:Hid (aE W5 N 226 2 (aH ha (aB aa+aB C) hc) (aB aa+aB C) ((aa++C).flatMap jX)):=by have:=an.o.row;rw[aY] at this;exact this
          have cc:Hid (∀(Y:Wq) (v':Vq) (o:Obj),(W5.alloc o).grownBy Y (aF (aH ha (aB aa+aB C) hc))->aE Y N 226 2 v' (aB aa+aB C+1) ((aa++C).flatMap jX++[St q.1.head.rel,aH G (aB E.args) M])->gZ fv N w Y v' (aa++(C++[(E,aH G (aB E.args) M)]))/\jN Y (Sc gb (aB A) bc) A):=λY v' o hg ho=>by rw[<-bC];refine⟨an.o.app (E,aH G (aB E.args) M) dj.o (aR Qcj.o) hg ?_,⟨an.o.keep hg (by decide) b7.o.row,λp Z=>an.o.keep hg (by decide) (b7.o.each p Z)⟩⟩;rw[aY];unfold jX;simp only;rw[Qjk.o];exact ho
          clear ae ax Qec an b7 dj
          go_wp2_with (at_builtin;refine wpList_append_own _ rfl _ _ 217 rfl N 226 i0 _ 2 40 Tryz.underlying217 hi c4 dh dc rfl (by decide) _ (aB aa+aB C) ((aa++C).flatMap jX) rfl (ch.o.alloc _) ⟨W5.heap.size,0,aW⟩ 1 _ [St q.1.head.rel,aH G (aB E.args) M] rfl rfl (mo _ _ _ _) (by simp[bT]) (by unfold maxLen;omega) (by omega) (ck.o _) ?_;intro ci w1 bh a7 _;have b9:Hid _:=cc.o _ _ _ a7 bh;clear bh a7)
          refine⟨⟨k+1,ci,C++[(E,aH G (aB E.args) M)],rfl,by go_num,by omega,Qk1,b9.o.1,b9.o.2,a9⟩,by simp[intOf];omega⟩
       .have k1:¬(k:Int)<(aB A:Int):=by omega
        have ea:k=aB A:=by omega
        have a9:Hid (fQ (d.map (·.1)) (z.map (·.1)) Nm ((aa++C).map (·.1))/\(C=[]->∀j,j<i+1->∀q,d[j]?=aV q->∀b∈mx q.1 (aa.map (·.1)),gz q.1.head b∈aa.map (·.1))):=by
         have⟨x1,⟨x,hx⟩,x3⟩:=ae.o;refine⟨x1,λhn j hj q' cu b hb=>?_⟩;rw[hn] at hx x3;have dp:new=[]:=(List.append_eq_nil_iff.1 hx.symm).1;by_cases e:j=i
         .subst e;rw[dz.o] at cu;cases cu;have h5:=da.o.1;rw[dp,bB] at h5;rw[<-h5] at hb;obtain⟨p,Z,rfl⟩:=aZ.1 hb;have⟨m,hm,e⟩:=bF.1 Z;have:=x3 m (by omega) p (by rw[<-e];exact aX hm)
          rwa [bB] at this
         .exact ac.o.2 dp j (by omega) q' cu b hb
        clear ae ac;go_wp2;refine⟨⟨i+1,_,C,rfl,by go_num,by omega,ap,ab,a9⟩,by simp[intOf];omega⟩
     .have i1:¬(i:Int)<(aB d:Int):=by omega
      have cj:i=aB d:=by omega
      by_cases cc:new=[]
      .subst cc;have cg:Hid (fQ (d.map (·.1)) (z.map (·.1)) Nm (aa.map (·.1))/\(∀g,g∈aa.map (·.1)↔Dv (d.map (·.1)) (z.map (·.1)) g)/\gZ fv N w wr (aH ha (aB aa+0) hc) aa):=by have h1:=ac.o.1;have h2:=ab.o;rw[bB] at h1 h2;refine⟨h1,λg=>h1.done af.o cx.o (λr hr b hb=>?_) g,h2⟩;obtain⟨q,hq,rfl⟩:=aZ.1 hr;have⟨k,hk,e⟩:=bF.1 hq;exact ac.o.2 rfl k (by omega) q (by rw[<-e];exact aX hk) b hb
       clear ac ab cj;simp only[List.length_nil] at *;go_wp2;go_ret;exact⟨_,rfl,aa,cg.o.2.2,⟨cg.o.1,cg.o.2.1⟩⟩
      .have ed:0<aB new:=List.length_pos_iff.2 cc;have cw:(((aB aa+aB new:Nat):Int) == (aB aa:Int))=false:=by simp;omega
       have ai:Hid (fQ (d.map (·.1)) (z.map (·.1)) Nm ((aa++new).map (·.1))/\∀f∈z.map (·.1),f∈(aa++new).map (·.1)):=⟨ac.o.1,λf hf=>by rw[bD];exact bE _ (cx.o f hf)⟩;clear ac;go_wp2;refine⟨⟨_,aa++new,rfl,by rw[aY];exact ap,ab,ai⟩,?_⟩;simp only[yY];omega
