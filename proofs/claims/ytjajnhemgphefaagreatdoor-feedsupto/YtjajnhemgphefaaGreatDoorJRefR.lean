/- A part -/
import Derived.Test.YtjajnhemgphefaaGreatDoorJRefM
set_option linter.all false
set_option maxRecDepth 100000
set_option maxHeartbeats 8000000
open List renaming length->aB,drop_eq_getElem_cons->aX,drop_eq_nil_of_le->aY,mem_flatMap->aZ,mem_of_mem_take->bB,mem_cons->bC,flatMap_cons->bD,cons_append->bE,nil_append->bF,take_append_drop->bG,mem_cons_of_mem->bH,map_cons->bI,getElem_mem->bJ,any_cons->bO,map_nil->bQ,mem_map->bT
open Go.World renaming cell?->aC,ownsRow->aE
open Go.Value renaming ownBlock->aF,slice->aH,string->aI,agg->aJ,bool->aK,int->aM
open Go.Obj renaming cells->aN
open Go.Ending renaming returned->aO
open Go.IntKind renaming i64->aP
open Or renaming inl->aQ,inr->aR
open Option renaming some->aV,none->aW
open Go.RowKit.Below renaming refl->bL
open Go.RowKit renaming Below->bU
namespace Go.Proofs.YtjajnhemgphefaaGreatDoor
open Go renaming World->Wq,Value->Vq
open Go.RowKit Go.Shelf
variable {S B:Nat} {X Y W W':Wq} {ps:List (Am×Vq)} {qs:List (Rl×Vq×Vq)} {xs:List Vq}
theorem Kp.ofBelow(h:bU X.heap.size X Y):Kp S X Y:=
 ⟨λk c d=>h.block k (zg d).1,λk c _ d=>h.block k (zg d).1⟩
structure ip(W:Wq)(v:Vq)(ps:List (Am×Vq)):Prop where
 row:aE W 0 145 2 v (aB ps) (ps.flatMap jH)
 each:∀p∈ps,fI W p
structure gY(W:Wq)(v:Vq)(qs:List (Rl×Vq×Vq)):Prop where
 row:aE W 0 148 3 v (aB qs) (qs.flatMap lT)
 each:∀q∈qs,fI W (q.1.head,q.2.1)/\∃ps,ps.map (·.1)=q.1.body/\ip W q.2.2 ps
theorem ip.below{v:Vq}(h:ip W v ps)(d:bU W.heap.size W W'):ip W' v ps:=
 ⟨qj h.row d,λp z=>(h.each p z).kept (Kp.ofBelow (S:=0) d)⟩
theorem gY.below{v:Vq}(h:gY W v qs)(d:bU W.heap.size W W'):gY W' v qs:=
 ⟨qj h.row d,λq z=>by
  have⟨h1,ps,h2,h3⟩:=h.each q z
  exact⟨h1.kept (Kp.ofBelow (S:=0) d),ps,h2,h3.below d⟩⟩
theorem oy.rules{N:Nat}{w:Wq}{d:Vq}(h:oy N w X d qs):gY X d qs:=
 ⟨Qj h.rows zz,λq z=>by
  have⟨h1,ps,h2,h3,h4,h5⟩:=h.each q z
  exact⟨h1,ps,h2,h3,h5⟩⟩
def kI(q:Rl×Vq×Vq):Vq:=aJ #[aI q.1.head.rel,q.2.1,q.2.2]
theorem vU(q:Rl×Vq×Vq)(ps:List (Am×Vq))(w:Wq)(A:fI w (q.1.head,q.2.1))(d:ip w q.2.2 ps)(hl:aB ps<=1000):Cs 178 #[kI q] w λe w'=>∃v,e=aO v/\ip w' v ((q.1.head,q.2.1)::ps)/\bU w.heap.size w w':=by
 have⟨i0,hi,b0,cc,b9⟩:=info_parts Tryz.infoAm;have⟨⟨hd,bd⟩,va,vb⟩:=q;have⟨rel,args⟩:=hd;simp only at A d;unfold kI;simp only;have⟨aa,ac,co⟩:=qe A;simp only at co;subst co;have M:Hid (aE ((w.alloc (aN #[St rel,aH aa (aB args) ac,vb] 148)).alloc (aN #[St rel,aH aa (aB args) ac] 145)) w.heap.size 145 2 (Sc (w.heap.size+1) 1 1) 1 [St rel,aH aa (aB args) ac]):=by refine⟨rfl,aR ⟨w.heap.size+1,1,#[St rel,aH aa (aB args) ac],rfl,by omega,?_,Nat.le_refl _,by unfold maxLen;decide,rfl,rfl⟩⟩;have:=zn (w.alloc (aN #[St rel,aH aa (aB args) ac,vb] 148)) (aN #[St rel,aH aa (aB args) ac] 145);rw[World.size_alloc] at this;exact this
 have z:Hid (bU w.heap.size w ((w.alloc (aN #[St rel,aH aa (aB args) ac,vb] 148)).alloc (aN #[St rel,aH aa (aB args) ac] 145))):=((bL _ w).alloc zl _).alloc (by simp) _;have HH:=aA A;have HP:=aA d;have E:=d.row;clear A d;have cn:=E
 have de:vb=aH aW 0 0/\ps=[]\/∃g c,vb=Sc g (aB ps) c/\g<w.heap.size/\∀j u,(ps.flatMap jH)[j]?=aV u->aC w ((⟨g,0,aW⟩:Addr).add j)=aV u:=by
  obtain⟨h0,⟨C,hn⟩|⟨g,Z,bh,C,hb,hw,h1,h2,h3,h4⟩⟩:=E;{exact aQ ⟨C,List.eq_nil_of_length_eq_zero hn⟩};{refine aR ⟨g,Z,C,(zg hw).1,?_⟩;have:=aE.cells cn (g:=g) (by rw[C];rfl);exact this}
 rcases de with⟨rfl,rfl⟩|⟨g,c,rfl,hg,bq⟩
 .go_enter Tryz.func178,Tryz.ntmps178;go_wp2;go_ret;refine⟨_,rfl,⟨Qj (by simpa [jH] using M.o) zz,λp d=>?_⟩,z.o⟩;simp at d;subst d;exact HH.o.kept (Kp.ofBelow (S:=0) z.o)
 .have dh:Hid (∀j u,(ps.flatMap jH)[j]?=aV u->aC ((w.alloc (aN #[St rel,aH aa (aB args) ac,Sc g (aB ps) c] 148)).alloc (aN #[St rel,aH aa (aB args) ac] 145)) ((⟨g,0,aW⟩:Addr).add j)=aV u):=by
   intro j u hu;have b6:((⟨g,0,aW⟩:Addr).add j).block=g:=by{simp[Addr.add];split<;>rfl};exact (Below.cell z.o (by rw[b6];exact hg)).trans (bq j u hu)
  have ca:∀u∈ps.flatMap jH,u.oneCell'=true:=by
   intro u hu;have⟨p,d,ct⟩:=aZ.1 hu;have⟨a',c',hf⟩:=qe (HP.o.each p d);simp only[jH,bC,List.not_mem_nil,or_false] at ct;rcases ct with rfl|rfl
   .rfl
   .rw[hf];rfl
  have b8:1+aB ps<=maxLen:=by{unfold maxLen;omega};have b3:(1+aB ps)*40<=140737488355328:=by{omega};have bk:Hid (∀O O',w.heap.size<=((w.alloc O).alloc O').heap.size):=λO O'=>by{simp;omega};have al:aB (ps.flatMap jH)=aB ps*2:=wF jH 2 zi ps;clear bq E cn;go_enter Tryz.func178,Tryz.ntmps178
  go_wp2_with (at_builtin;refine wpList_append_own _ rfl (.tmp 7) (.tmp 9) 146 rfl w.heap.size 145 i0 (aJ #[St ⟨#[]⟩,aH aW 0 0]) 2 40 Tryz.underlying146 hi b0 cc b9 rfl (by decide) _ _ _ rfl M.o ⟨g,0,aW⟩ (aB ps) c (ps.flatMap jH) rfl al dh.o ca b8 b3 (bk.o _ _) ?_;intro v' w1 an ab _)
  have G:bU w.heap.size w w1:=z.o.grown ab (bk.o _ _) (λk hk=>by have:=(Qp M.o k hk).1;omega);go_ret;refine⟨_,rfl,⟨?_,λp d=>?_⟩,G⟩
  .have e:aB ((⟨rel,args⟩,aH aa (aB args) ac)::ps)=1+aB ps:=by{simp;omega};rw[e];refine Qj (B:=w.heap.size) ?_ zz;simpa [jH] using an
  .rcases bC.1 d with rfl|d
   .exact HH.o.kept (Kp.ofBelow (S:=0) G)
   .exact (HP.o.each p d).kept (Kp.ofBelow (S:=0) G)
theorem ip.cell{v:Vq}(h:ip W v ps)(k:Nat)(z:k<aB ps):∃g d,v=Sc g (aB ps) d/\g<W.heap.size/\aC W (Ad g (k*2))=aV (St ps[k].1.rel)/\aC W (Ad g (k*2+1))=aV ps[k].2/\(∃a c,ps[k].2=aH a (aB ps[k].1.args) c)/\fI W ps[k]:=by have⟨g,d,e1,e2,e3,e4,e5⟩:=iI h.row zi (by omega);have A:=h.each ps[k] (zm z);exact⟨g,d,e1,e3,e5 k 0 z _ (by decide) rfl,e5 k 1 z _ (by decide) rfl,qe A,A⟩
theorem gY.cell{v:Vq}(h:gY W v qs)(k:Nat)(z:k<aB qs):∃g d,v=Sc g (aB qs) d/\g<W.heap.size/\aC W (Ad g (k*3))=aV (St qs[k].1.head.rel)/\aC W (Ad g (k*3+1))=aV qs[k].2.1/\aC W (Ad g (k*3+2))=aV qs[k].2.2/\
   fI W (qs[k].1.head,qs[k].2.1)/\∃ps,ps.map (·.1)=qs[k].1.body/\ip W qs[k].2.2 ps:=by
 have⟨g,d,e1,e2,e3,e4,e5⟩:=iI h.row wT (by omega);have A:=h.each qs[k] (zm z);exact⟨g,d,e1,e3,e5 k 0 z _ (by decide) rfl,e5 k 1 z _ (by decide) rfl,e5 k 2 z _ (by decide) rfl,A⟩
theorem fI.cell{p:Am×Vq}(h:fI W p)(j:Nat)(z:j<aB p.1.args):∃g d,p.2=Sc g (aB p.1.args) d/\g<W.heap.size/\aC W (Ad g (j*2))=aV (St p.1.args[j].name)/\aC W (Ad g (j*2+1))=aV (Ii p.1.args[j].num):=by have⟨g,d,e1,e2,e3,e4,e5⟩:=iI h DW (by omega);exact⟨g,d,e1,e3,e5 j 0 z _ (by decide) rfl,e5 j 1 z _ (by decide) rfl⟩
def fU:List Am->ByteArray->Nat
 |[],_=>0
 |a::l,rel=>if dO rel a.rel=true then aB a.args else fU l rel
def Q8(qs:List (Rl×Vq×Vq)):List Am:=qs.flatMap (λq=>qz q.1)
theorem sZ(v:Vq)(qs:List (Rl×Vq×Vq))(rel:ByteArray)(w:Wq)(O:gY w v qs)(hl:aB qs<=1000)(hb:∀q∈qs,aB q.1.body<=900):Cs 117 #[v,St rel] w λe w'=>e=aO (Ii (fU (Q8 qs) rel))/\bU w.heap.size w w':=by
 obtain⟨N,M⟩:∃N,N=w.heap.size:=⟨_,rfl⟩;have cb:=M.symm;have⟨va,vc,hv⟩:=qe O.row;rw[<-M];have HR:=aA O;subst hv;clear O M;go_enter Tryz.func117,Tryz.ntmps117;go_wp2
 go_loopw [5] (λp wr=>∃i:Nat,p=aM aP i/\i<=aB qs/\bU N w wr/\Hid (fU (Q8 (qs.drop i)) rel=fU (Q8 qs) rel)) (λp _=>aB qs-(intOf p).toNat)
 case atStart=>exact⟨0,rfl,zz,zr,rfl⟩
 case round=>
  obtain⟨i,rfl,b5,A,d⟩:=hrel;by_cases G:i<aB qs
  .have bb:=HR.o.below (by rw[cb];exact A);have⟨g,cap,e1,hg,c0,c1,c2,hA,ps,aj,aq⟩:=bb.cell i G;cases e1;have bn:N<=wr.heap.size:=by{have:=A.size;omega};have cj:=hb qs[i] (zm G);have db:aB ps<=900:=by{have:=congrArg aB aj;simp at this;omega};have z:=vU qs[i] ps wr hA aq (by omega);have C:=aX G;have bc:Q8 (qs.drop i)=(qs[i].1.head::ps.map (·.1))++Q8 (qs.drop (i+1)):=by{rw[C];unfold Q8 qz;rw[bD,aj]};rw[bc] at d;clear bc C aj bb;unfold kI at z;have⟨a1,a2,ao⟩:=qe hA;simp only at ao;have⟨b1,b2,aw⟩:=qe aq.row;rw[ao] at c1 z;rw[aw] at c2 z;generalize qs[i]=q at *;generalize q.1.head.rel=hrl at *;generalize hq:((q.1.head,aH a1 (aB q.1.head.args) a2)::ps)=qp at *;have E:Hid (fU (qp.map (·.1)++Q8 (qs.drop (i+1))) rel=fU (Q8 qs) rel):=by{rw[<-hq];exact d.o};have Qh8:aB qp<=901:=by{rw[<-hq];simp;omega};have dc:=aA A;clear A d hq hA aq ao aw;go_wp2_with fail;refine z.mono ?_;rintro e W1 ⟨vp,rfl,ae,ay⟩;have ci:bU N w W1:=dc.o.trans (ay.mono bn);have⟨pa,pc,b4⟩:=qe ae.row;subst b4;have ak:=aA ae;have cp:=aA ci;clear ae ay ci z;go_wp2
   go_loopw [7] (λp wr=>∃k:Nat,p=aM aP k/\k<=aB qp/\wr=W1/\Hid (fU ((qp.drop k).map (·.1)++Q8 (qs.drop (i+1))) rel=fU (Q8 qs) rel)) (λp _=>aB qp-(intOf p).toNat)
   case atStart=>exact⟨0,rfl,zz,rfl,E⟩
   case round=>
    obtain⟨k,rfl,ck,cw,ad⟩:=hrel;obtain rfl:W1=wr:=cw.symm;by_cases Z:k<aB qp
    .have⟨g2,be,e2,dg,d0,d1,⟨x1,x2,hx⟩,_⟩:=ak.o.cell k Z;cases e2;rw[hx] at d1;have C:=aX Z;rw[C] at ad;generalize qp[k]=pk at *;simp only[bI,bE,fU] at ad;by_cases hs:dO rel pk.1.rel=true;{rw[if_pos hs] at ad;unfold dO at hs;generalize pk.1.rel=pr at *;go_wp2;go_ret;rw[<-ad.o];exact⟨rfl,cp.o⟩}
     .have bj:dO rel pk.1.rel=false:=by{simpa using hs};rw[if_neg hs] at ad;unfold dO at bj;generalize pk.1.rel=pr at *;clear hs;go_wp2
      go_roundw
      case rel=>exact⟨k+1,by go_num,by omega,by trivial,ad⟩
      case measure=>simp[intOf];omega
    .rw[aY (by omega)] at ad;simp only[bQ,bF] at ad;go_wp2
     go_roundw
     case rel=>exact⟨i+1,by go_num,by omega,cp.o,ad⟩
     case measure=>simp[intOf];omega
  .rw[aY (by omega)] at d;go_wp2;go_ret;rw[<-d.o];exact⟨rfl,A⟩
theorem xQ(B:Nat)(v:Vq)(d:List ByteArray)(x:ByteArray)(w:Wq)(hB:B<=w.heap.size)(hl:aB d<=1000000)(Z:aE w B 9 1 v (aB d) (d.map aI)):Cs 119 #[v,St x] w λe w'=>∃v',e=aO v'/\aE w' B 9 1 v' (aB (Qq d x)) ((Qq d x).map aI)/\w.grownBy w' (aF v):=by
 have⟨i0,hi,b0,cc,b9⟩:=info_parts Tryz.infoStr;have⟨a,c,hv⟩:=qe Z;have am:∀(j:Nat) (z:j<aB d),∃g,a=aV ⟨g,0,aW⟩/\aC w (Ad g j)=aV (St d[j]):=by grind [sW,iI,tu]
 subst hv;have HO:=aA Z;have HC:=aA am;clear Z am;go_enter Tryz.func119,Tryz.ntmps119;go_wp2
 go_loopw [5] (λp wr=>∃i:Nat,p=aM aP i/\i<=aB d/\wr=w/\Hid (∀(j:Nat) (z:j<aB d),j<i->dO x d[j]=false)) (λp _=>aB d-(intOf p).toNat)
 case atStart=>exact⟨0,rfl,zz,rfl,λj z h=>by omega⟩
 case round=>
  obtain⟨i,rfl,b5,rfl,G⟩:=hrel;by_cases E:i<aB d
  .obtain⟨g,rfl,Ql⟩:=HC.o i E;obtain⟨y,M⟩:∃y,d[i]=y:=⟨_,rfl⟩;rw[M] at Ql;have HY:=aA M;clear M;by_cases hs:dO x y=true
   .have C:=tA d x i E (by rw[HY.o];exact hs) G.o;have HN:=aA C;clear C;unfold dO at hs;go_wp2;go_ret;have A:Qq d x=d:=by{unfold Qq;rw[if_pos (by rw[HN.o];exact E)]};rw[A];exact⟨_,rfl,HO.o,World.grownBy.refl _ _⟩
   .have bj:dO x y=false:=by simpa using hs
    have c5:Hid (∀(j:Nat) (z:j<aB d),j<i+1->dO x d[j]=false):=by
     intro j z dl;by_cases e:j=i;{subst e;rw[HY.o];exact bj};{exact G.o j z (by omega)}
    unfold dO at bj;clear hs;go_wp2
    go_roundw
    case rel=>exact⟨i+1,by go_num,by omega,by trivial,c5⟩
    case measure=>simp[intOf];omega
  .have C:=uR d x (λj z=>G.o j z (by omega));have A:Qq d x=d++[x]:=by{unfold Qq;rw[if_neg (by omega)]};have HL:=aA A;have b8:aB d+1<=maxLen:=by{unfold maxLen;omega};have b3:(aB d+1)*16<=140737488355328:=by{omega};have bk:Hid (∀O,B<=(wr.alloc O).heap.size):=λO=>by{simp;omega};have ca:∀u∈[aI x],u.oneCell'=true:=by{simp[Value.oneCell']};clear C A
   go_wp2_with (at_builtin;refine wpList_append_own _ rfl (.tmp 19) (.tmp 21) 22 rfl B 9 i0 (St ⟨#[]⟩) 1 16 Tryz.underlying22 hi b0 cc b9 rfl (by decide) _ _ _ rfl (HO.o.alloc _) ⟨wr.heap.size,0,aW⟩ 1 1 [St x] rfl rfl (ku _ _ _) ca b8 b3 (bk.o _) ?_;intro v' w1 an ab _)
   go_ret;rw[HL.o];refine⟨_,rfl,?_,?_⟩;{simpa using an};{exact⟨ab.os,ab.tape,ab.output,by have:=ab.size;simp at this;omega,λk hk hn=>(ab.block k (by simp;omega) hn).trans (Below.heap_alloc _ _ _ hk)⟩}
def jk(n:Nat)(t:Tm):Bool:=t.name.toList.isEmpty && decide (t.num=n)
def Qd(bd:List Am)(n:Nat):Bool:=bd.any (λa=>a.args.any (jk n))
theorem Io(q:Rl×Vq×Vq)(ps:List (Am×Vq))(n:Nat)(w:Wq)(E:ip w q.2.2 ps)(hA:fI w (q.1.head,q.2.1))(aj:ps.map (·.1)=q.1.body)(hl:aB ps<=1000)(hn:n<=1000000)(hm:∀p∈ps,aB p.1.args<=1000000/\∀t∈p.1.args,t.num<=1000000):Cs 179 #[kI q,Ii n] w λe w'=>e=aO (aK (Qd q.1.body n))/\bU w.heap.size w w':=by
 rw[<-aj];unfold kI;have⟨a1,a2,ao⟩:=qe hA;simp only at ao;have⟨b1,b2,aw⟩:=qe E.row;rw[ao];rw[aw] at E ⊢;clear aj ao aw;generalize q.1.head.rel=hrl at *;generalize (aB q.1.head.args)=a6 at *;have HP:Hid (∀O,ip (w.alloc O) (aH b1 (aB ps) b2) ps):=λO=>E.below ((bL _ w).alloc zl O);have cl:Hid (∀O,bU w.heap.size w (w.alloc O)):=λO=>(bL _ w).alloc zl O;clear E hA;go_enter Tryz.func179,Tryz.ntmps179;go_wp2
 go_loopw [5] (λp wr=>∃i:Nat,p=aM aP i/\i<=aB ps/\wr=w.alloc (aN #[aI hrl,aH a1 a6 a2,aH b1 (aB ps) b2] 148)/\Hid (Qd ((ps.drop i).map (·.1)) n=Qd (ps.map (·.1)) n)) (λp _=>aB ps-(intOf p).toNat)
 case atStart=>exact⟨0,rfl,zz,rfl,rfl⟩
 case round=>
  obtain⟨i,rfl,b5,rfl,d⟩:=hrel;by_cases G:i<aB ps
  .have⟨g,cap,e1,hg,c0,c1,⟨x1,x2,hx⟩,a7⟩:=(HP.o (aN #[St hrl,aH a1 a6 a2,aH b1 (aB ps) b2] 148)).cell i G;cases e1;rw[aX G] at d;have dd:=hm ps[i] (zm G);rw[hx] at c1;generalize ps[i]=p at *;simp only[bI,Qd,bO] at d;have bq:Hid (∀(j:Nat) (hj:j<aB p.1.args),∃z,x1=aV ⟨z,0,aW⟩/\aC (w.alloc (aN #[St hrl,aH a1 a6 a2,Sc g (aB ps) b2] 148)) (Ad z (j*2))=aV (St p.1.args[j].name)/\aC (w.alloc (aN #[St hrl,aH a1 a6 a2,Sc g (aB ps) b2] 148)) (Ad z (j*2+1))=aV (Ii p.1.args[j].num)):=by{intro j hj;have⟨z,be,e2,_,Z,d1⟩:=a7.cell j hj;rw[hx] at e2;cases e2;exact⟨z,rfl,Z,d1⟩};have cy:=aA d;have⟨dm,c9⟩:=dd;clear d a7 hx c0;generalize p.1.args=args at *;go_wp2
   go_loopw [6] (λp wr=>∃k:Nat,p=aM aP k/\k<=aB args/\wr=w.alloc (aN #[aI hrl,aH a1 a6 a2,aH (aV ⟨g,0,aW⟩) (aB ps) b2] 148)/\Hid (((args.drop k).any (jk n) || Qd ((ps.drop (i+1)).map (·.1)) n)=Qd (ps.map (·.1)) n)) (λp _=>aB args-(intOf p).toNat)
   case atStart=>exact⟨0,rfl,zz,rfl,cy⟩
   case round=>
    obtain⟨k,rfl,ck,rfl,ad⟩:=hrel;by_cases M:k<aB args
    .obtain⟨z,rfl,Z,d1⟩:=bq.o k M;have df:=c9 args[k] (zm M);rw[aX M] at ad;generalize args[k]=tm at *;have⟨nm,A⟩:=tm;simp only[bO] at ad Z d1 df;by_cases h1:nm.toList.isEmpty=true
     .by_cases h2:A=n
      .subst h2;have C:jk A ⟨nm,A⟩=true:=by{unfold jk;simp[h1]};rw[C] at ad;go_wp2;go_ret;rw[<-ad.o];exact⟨by simp,cl.o _⟩
      .have C:jk n ⟨nm,A⟩=false:=by{unfold jk;simp[h2]};rw[C] at ad;have m2:((A:Int) == (n:Int))=false:=by{simp;omega};go_wp2
       go_roundw
       case rel=>exact⟨k+1,by go_num,by omega,by trivial,by simpa using ad⟩
       case measure=>simp[intOf];omega
     .have cv:nm.toList.isEmpty=false:=by{simpa using h1};have C:jk n ⟨nm,A⟩=false:=by{unfold jk;simp[cv]};rw[C] at ad;clear h1;go_wp2
      go_roundw
      case rel=>exact⟨k+1,by go_num,by omega,by trivial,by simpa using ad⟩
      case measure=>simp[intOf];omega
    .rw[aY (by omega)] at ad;simp only[List.any_nil,Bool.false_or] at ad;go_wp2
     go_roundw
     case rel=>exact⟨i+1,by go_num,by omega,by trivial,ad⟩
     case measure=>simp[intOf];omega
  .rw[aY (by omega)] at d;go_wp2;go_ret;rw[<-d.o];exact⟨rfl,cl.o _⟩
theorem xD(d:List ByteArray)(t:Tm):aB d<=aB (gI d t)/\aB (gI d t)<=aB d+1:=by grind [gI,Qq]
theorem wP(l:List Tm):∀d,aB d<=aB (dG d l)/\aB (dG d l)<=aB d+aB l:=by
 induction l with
 |nil=>intro d;simp[dG]
 |cons t l ih=>grind [xD,gI,dG]
theorem Kp.grownStr{n:Nat}{v:Vq}(C:aE X B 9 1 v n xs)(z:X.grownBy Y (aF v)):Kp S X Y:=by
 refine⟨λk c d=>z.block k (zg d).1 (λe=>?_),λk c A d=>z.block k (zg d).1 (λe=>?_)⟩
 .grind [qh]
 .grind [qh]
theorem ip.grownStr{n:Nat}{v A:Vq}(h:ip X A ps)(z:aE X B 9 1 v n xs)(d:X.grownBy Y (aF v)):ip Y A ps:=by refine⟨qn h.row (λg E C=>?_),λp G=>(h.each p G).kept (Kp.grownStr (S:=0) z d)⟩;have⟨c,hc⟩:=qh h.row E;exact (Kp.grownStr (S:=X.heap.size) z d).atom g c C hc
structure kE(N:Nat)(w X:Wq)(vo:Vq)(vs:List ByteArray):Prop where
 below:bU N w X
 size:N<=X.heap.size
 own:aE X N 9 1 vo (aB vs) (vs.map aI)
theorem Bu(v:Vq)(qs:List (Rl×Vq×Vq))(w:Wq)(hR:gY w v qs)(hl:aB qs<=1000)(hb:∀q∈qs,aB q.1.body<=900)(ht:aB (Q0 (Q8 qs))<=100000)(hm:∀a∈Q8 qs,aB a.args<=1000):Cs 112 #[v] w λe w'=>∃v',e=aO v'/\kE w.heap.size w w' v' (dG [] (Q0 (Q8 qs))):=by
 obtain⟨N,hN⟩:∃N,N=w.heap.size:=⟨_,rfl⟩;have cb:=hN.symm;obtain⟨va,vc,hv⟩:=qe hR.row;rw[<-hN];have hT:=(wP (Q0 (Q8 qs)) []).2;have HR:Hid (gY w v qs):=hR;subst hv;clear hR hN;generalize hTT:dG [] (Q0 (Q8 qs))=T at *;have dj:aB T<=100000:=by simp at hT;omega
 clear hT;go_enter Tryz.func112,Tryz.ntmps112;go_wp2
 go_loopw [3,4] (λo p wr=>∃(i:Nat) (z:Vq) (d:List ByteArray),z=o/\p=aM aP i/\i<=aB qs/\kE N w wr z d/\Hid (dG d (Q0 (Q8 (qs.drop i)))=T)) (λ_ p _=>aB qs-(intOf p).toNat)
 case atStart=>exact⟨0,_,[],rfl,rfl,zz,⟨zr,by omega,zo⟩,hTT⟩
 case round=>
  obtain⟨i,z,d,rfl,rfl,b5,A,ai⟩:=hrel;by_cases ag:i<aB qs
  .have bb:=HR.o.below (by rw[cb];exact A.below);obtain⟨g,cap,e1,hg,c0,c1,c2,hA,ps,aj,aq⟩:=bb.cell i ag;cases e1;have bn:N<=wr.heap.size:=A.size;have cj:=hb qs[i] (zm ag);have db:aB ps<=900:=by have:=congrArg aB aj;simp at this;omega
   have ap:=vU qs[i] ps wr hA aq (by omega);have az:=aX ag;have bc:Q8 (qs.drop i)=(qs[i].1.head::ps.map (·.1))++Q8 (qs.drop (i+1)):=by rw[az];unfold Q8 qz;rw[bD,aj]
   rw[bc] at ai
   have ce:∀p∈(qs[i].1.head,qs[i].2.1)::ps,aB p.1.args<=1000:=by
    intro p hp;refine hm p.1 (aZ.2 ⟨qs[i],bJ ag,?_⟩);rcases bC.1 hp with rfl|hp
    .exact zs
    .refine bH _ ?_;rw[<-aj];exact bT.2 ⟨p,hp,rfl⟩
   clear bc az aj bb;unfold kI at ap;obtain⟨a1,a2,ao⟩:=qe hA;simp only at ao;obtain⟨b1,b2,aw⟩:=qe aq.row;rw[ao] at c1 ap ce;rw[aw] at c2 ap;generalize qs[i]=q at *;generalize q.1.head.rel=hrl at *;generalize hq:((q.1.head,aH a1 (aB q.1.head.args) a2)::ps)=qp at *;have M:Hid (dG d (Q0 (qp.map (·.1)++Q8 (qs.drop (i+1))))=T):=by rw[<-hq];exact ai.o
   have Qh8:aB qp<=901:=by rw[<-hq];simp;omega
   have C:Hid (kE N w wr z d):=A;clear A ai hq hA aq ao aw;go_wp2_with fail;refine ap.mono ?_;rintro e W1 ⟨vp,rfl,ae,ay⟩;have cu:kE N w W1 z d:=⟨C.o.below.trans (ay.mono bn),Nat.le_trans bn ay.size,qj C.o.own ay⟩;obtain⟨pa,G,b4⟩:=qe ae.row;subst b4;have ak:Hid (ip W1 (aH pa (aB qp) G) qp):=ae;have cf:Hid (kE N w W1 z d):=cu;clear ae ay cu ap C c0 c1 c2;go_wp2
   go_loopw [3,6] (λo p wr=>∃(k:Nat) (z:Vq) (d:List ByteArray),z=o/\p=aM aP k/\k<=aB qp/\kE N w wr z d/\ip wr (aH pa (aB qp) G) qp/\Hid (dG d (Q0 ((qp.drop k).map (·.1)++Q8 (qs.drop (i+1))))=T)) (λ_ p _=>aB qp-(intOf p).toNat)
   case atStart=>exact⟨0,_,d,rfl,rfl,zz,cf.o,ak.o,M⟩
   case round=>
    clear cf ak M;obtain⟨k,z,d,rfl,rfl,ck,A,ae,ad⟩:=hrel;by_cases au:k<aB qp
    .rw[aX au] at ad;have cq:Hid (dG d (qp[k].1.args++Q0 ((qp.drop (k+1)).map (·.1)++Q8 (qs.drop (i+1))))=T):=by have:=ad.o;rw[bI,bE] at this;unfold Q0 at this ⊢;rw[bD] at this;exact this
     have C:Hid (kE N w wr z d):=A;have ak:Hid (ip wr (aH pa (aB qp) G) qp):=ae;clear ad A ae;go_wp2
     go_loopw [3,7] (λo p wr=>∃(m:Nat) (z:Vq) (d:List ByteArray),z=o/\p=aM aP m/\m<=aB qp[k].1.args/\kE N w wr z d/\ip wr (aH pa (aB qp) G) qp/\Hid (dG d (qp[k].1.args.drop m++Q0 ((qp.drop (k+1)).map (·.1)++Q8 (qs.drop (i+1))))=T)) (λ_ p _=>aB qp[k].1.args-(intOf p).toNat)
     case atStart=>exact⟨0,_,d,rfl,rfl,zz,C.o,ak.o,cq⟩
     case round=>
      clear C ak cq;obtain⟨m,z,d,rfl,rfl,Qky,A,ae,ax⟩:=hrel;obtain⟨g2,be,e2,dg,d0,d1,⟨x1,x2,hx⟩,a7⟩:=ae.cell k au;cases e2;rw[hx] at d1;have a6:=ce qp[k] (zm au);by_cases cg:m<aB qp[k].1.args
      .obtain⟨g3,c4,e3,_,f0,f1⟩:=a7.cell m cg;rw[hx] at e3;cases e3;rw[aX cg] at ax;generalize qp[k].1.args[m]=tm at *;simp only[bE,dG,List.foldl_cons] at ax;have O:Hid (dG (gI d tm) (qp[k].1.args.drop (m+1)++Q0 ((qp.drop (k+1)).map (·.1)++Q8 (qs.drop (i+1))))=T):=ax;have cr:=(wP (qp[k].1.args.drop (m+1)++Q0 ((qp.drop (k+1)).map (·.1)++Q8 (qs.drop (i+1)))) (gI d tm)).1;rw[O.o] at cr;have di:=(xD d tm).1;have dk:aB d<=100000:=by omega
       clear ax cr di hx a7 d0;obtain⟨E,nu⟩:=tm;simp only at f0 f1;by_cases h1:E.toList.isEmpty=true
       .have Z:gI d ⟨E,nu⟩=d:=by unfold gI;rw[if_pos h1]
        rw[Z] at O;have C:Hid (kE N w wr z d):=A;have ak:Hid (ip wr (aH (aV ⟨g2,0,aW⟩) (aB qp) G) qp):=ae;clear A ae Z;go_wp2
        go_roundw
        case rel=>exact⟨m+1,z,d,rfl,by go_num,by omega,C.o,ak.o,O⟩
        case measure=>simp[intOf];omega
       .have cv:E.toList.isEmpty=false:=by simpa using h1
        have Z:gI d ⟨E,nu⟩=Qq d E:=by unfold gI;rw[if_neg h1]
        rw[Z] at O;have c7:=xQ N z d E wr A.size (by omega) A.own;have C:Hid (kE N w wr z d):=A;have ak:Hid (ip wr (aH (aV ⟨g2,0,aW⟩) (aB qp) G) qp):=ae;clear A ae Z h1
        go_wp2_with (go_at_call 119;refine c7.mono ?_;rintro e w2 ⟨v2,rfl,ch,av⟩)
        have c6:kE N w w2 v2 (Qq d E):=⟨C.o.below.grown av C.o.size (λk e=>(Qp C.o.own k e).1),Nat.le_trans C.o.size av.size,ch⟩;have cz:=ak.o.grownStr C.o.own av;clear ch av
        go_roundw
        case rel=>exact⟨m+1,v2,_,rfl,by go_num,by omega,c6,cz,O⟩
        case measure=>simp[intOf];omega
      .rw[aY (by omega)] at ax;simp only[bF] at ax;have C:Hid (kE N w wr z d):=A;have ak:Hid (ip wr (aH (aV ⟨g2,0,aW⟩) (aB qp) G) qp):=ae;clear A ae a7;go_wp2
       go_roundw
       case rel=>exact⟨k+1,z,d,rfl,by go_num,by omega,C.o,ak.o,ax⟩
       case measure=>simp[intOf];omega
    .rw[aY (by omega)] at ad;simp only[bQ,bF] at ad;have C:Hid (kE N w wr z d):=A;clear A ae;go_wp2
     go_roundw
     case rel=>exact⟨i+1,z,d,rfl,by go_num,by omega,C.o,ad⟩
     case measure=>simp[intOf];omega
  .rw[aY (by omega)] at ai;have cx:d=T:=by have:=ai.o;simpa [dG,Q0,Q8] using this
   subst cx;go_wp2;go_ret;exact⟨z,rfl,A⟩
def dM(rs:List Rl):List Am:=rs.flatMap qz
theorem vX(qs:List (Rl×Vq×Vq)):Q8 qs=dM (qs.map (·.1)):=by unfold Q8 dM;rw[List.flatMap_map]
def lf(all:List Am)(a:Am):Bool:=decide (fU all a.rel≠a.args.length)
def lj(all:List Am)(r:Rl):Bool:=(qz r).any (lf all)
def nN(bd:List Am)(t:Tm):Bool:=t.name.toList.isEmpty && !Qd bd t.num
def jU(r:Rl):Bool:=r.head.args.any (nN r.body)
def gL(p:Rl->Bool):List Rl->Nat->Option Nat
 |[],_=>aW
 |r::l,i=>if p r=true then aV i else gL p l (i+1)
def jE:List ByteArray->List Rl->Nat->Option Nat
 |_,[],_=>aW
 |vs,r::l,i=>if 8<aB (dG vs (Q0 (qz r))) then aV i else jE (dG vs (Q0 (qz r))) l (i+1)
def ii(rs:List Rl):Int×Nat:=
 match gL (lj (dM rs)) rs 0 with
 |some i=>(4,i)
 |none=>match gL jU rs 0 with
  |some i=>(5,i)
  |none=>match jE [] rs 0 with
   |some i=>(3,i)
   |none=>(0,0)
structure nV(qs:List (Rl×Vq×Vq)):Prop where
 few:aB qs<=1000
 body:∀q∈qs,aB q.1.body<=900
 tms:aB (Q0 (Q8 qs))<=100000
 args:∀a∈Q8 qs,aB a.args<=1000/\∀t∈a.args,t.num<=1000000
theorem nV.take(h:nV qs)(k:Nat):nV (qs.take k):=by
 have A:∀a∈Q8 (qs.take k),a∈Q8 qs:=λa d=>by have⟨q,z,c3⟩:=aZ.1 d;exact aZ.2 ⟨q,bB z,c3⟩
 refine⟨by rw[List.length_take];have:=h.few;omega,λq z=>h.body q (bB z),?_,λa d=>h.args a (A a d)⟩;have e:Q0 (Q8 qs)=Q0 (Q8 (qs.take k))++Q0 (Q8 (qs.drop k)):=by grind [Q0,Q8,bG]
 have:=h.tms;rw[e,List.length_append] at this;omega
theorem gY.take{g n c:Nat}(h:gY W (Sc g (aB qs) c) qs)(k:Nat)(hk:k<=aB qs):gY W (Sc g k c) (qs.take k):=by
 refine⟨?_,λq O=>h.each q (bB O)⟩;have al:aB (qs.take k)=k:=by grind
 obtain⟨h0,⟨z,hn⟩|⟨g',A,d,z,hb,Z,h1,E,G,M⟩⟩:=h.row
 .cases z
 .cases z;refine⟨by rw[wF lT 3 wT],aR ⟨g,c,d,by rw[al],zz,Z,by omega,E,G,?_⟩⟩;rw[al];have e:d.toList.take (k*3)=(d.toList.take (aB qs*3)).take (k*3):=by grind
  rw[e,M];have C:qs.flatMap lT=(qs.take k).flatMap lT++(qs.drop k).flatMap lT:=by{rw[<-List.flatMap_append,bG]};rw[C,List.take_left' (by rw[wF lT 3 wT,al])]
theorem A9(d:List ByteArray)(a b:List Tm):dG d (a++b)=dG (dG d a) b:=by unfold dG;rw[List.foldl_append]
theorem JP{i:Nat}(d:i<aB qs):Q0 (Q8 (qs.take (i+1)))=Q0 (Q8 (qs.take i))++Q0 (qz qs[i].1):=by grind [Q0,Q8,List.take_succ_eq_append_getElem]
theorem vI{E:Option Addr}{G:Nat}(h:gY W (aH E (aB qs) G) qs)(i:Nat)(d:i<aB qs)(A:nV qs):∃g ps,E=aV ⟨g,0,aW⟩/\g<W.heap.size/\aC W (Ad g (i*3))=aV (St qs[i].1.head.rel)/\aC W (Ad g (i*3+1))=aV qs[i].2.1/\aC W (Ad g (i*3+2))=aV qs[i].2.2/\
   fI W (qs[i].1.head,qs[i].2.1)/\ps.map (·.1)=qs[i].1.body/\ip W qs[i].2.2 ps/\aB ps<=900/\(∃a c,qs[i].2.1=aH a (aB qs[i].1.head.args) c)/\(∃a c,qs[i].2.2=aH a (aB ps) c)/\
   ∀p∈(qs[i].1.head,qs[i].2.1)::ps,p.1∈Q8 qs/\aB p.1.args<=1000/\∀t∈p.1.args,t.num<=1000000:=by
 have⟨g,cap,e1,hg,c0,c1,c2,hA,ps,aj,aq⟩:=h.cell i d;cases e1;have M:=A.body qs[i] (zm d);refine⟨g,ps,rfl,hg,c0,c1,c2,hA,aj,aq,by have:=congrArg aB aj;simp at this;omega,qe hA,qe aq.row,λp z=>?_⟩
 have C:p.1∈Q8 qs:=by
  refine aZ.2 ⟨qs[i],bJ d,?_⟩;rcases bC.1 z with rfl|z
  .exact zs
  .refine bH _ ?_;rw[<-aj];exact bT.2 ⟨p,z,rfl⟩
 exact⟨C,A.args p.1 C⟩
