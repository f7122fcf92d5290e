/- A part -/
import Derived.Test.YtjajnhemgphefaaGreatDoorJRefR
import Derived.Lib.ItoaNum
set_option linter.all false
set_option maxRecDepth 100000
set_option maxHeartbeats 16000000
open List renaming length->aB,drop_eq_getElem_cons->aX,drop_eq_nil_of_le->aY,mem_of_mem_drop->aZ,mem_cons->bC,length_cons->bE,map_cons->bF,any_cons->bG,length_drop->bI,drop_drop->bL,any_nil->bO
open Go.World renaming cell?->aC,ownsRow->aE
open Go.Value renaming slice->aH,string->aI,agg->aJ,bool->aK,tuple->aL,int->aM
open Go.Obj renaming cells->aN
open Go.Ending renaming returned->aO
open Go.IntKind renaming i64->aP
open Option renaming some->aV,none->aW
open Go.RowKit.Below renaming refl->bB,cell->bD
open Nat renaming le_trans->bH
open ByteArray renaming empty->bJ,ext->bQ
open Go.RowKit renaming Below->bT
namespace Go.Proofs.YtjajnhemgphefaaGreatDoor
open Go renaming World->Wq,Value->Vq
open Go.RowKit Go.Shelf
variable {l:Lk} {t:RT} {us:List RT} {W W':Wq}
theorem Fw(v:Vq)(d:List (Rl×Vq×Vq))(w:Wq)(hR:gY w v d)(am:nV d):Cs 110 #[v] w λe w'=>e=aO (aL #[aM aP (ii (d.map (·.1))).1,aM aP (ii (d.map (·.1))).2])/\bT w.heap.size w w':=by
 obtain⟨N,hN⟩:∃N,N=w.heap.size:=⟨_,rfl⟩;have av:=hN.symm;obtain⟨va,vc,hv⟩:=qe hR.row;rw[<-hN];have HR:Hid (gY w v d):=hR;subst hv;clear hR hN;have ei:=am.few;have ca:Hid (nV d):=am;clear am;obtain⟨A,E⟩:∃A,A=dM (d.map (·.1)):=⟨_,rfl⟩;have dt:Hid (∀(rel:ByteArray) (W:Wq),bT N w W->Cs 117 #[aH va (aB d) vc,aI rel] W λe w'=>e=aO (aM aP (fU A rel))/\bT N w w'/\bT W.heap.size W w'):=by intro rel W hW;refine (sZ (aH va (aB d) vc) d rel W (HR.o.below (by rw[av];exact hW)) ei ca.o.body).mono ?_;rintro e w' ⟨rfl,hb⟩;rw[vX,<-E];exact⟨rfl,hW.trans (hb.mono (by have:=hW.size;omega)),hb⟩
 generalize hS:ii (d.map (·.1))=S at *
 have bn:Hid (match gL (lj A) (d.map (·.1)) 0 with
  |some i=>S=(4,i)
  |none=>match gL jU (d.map (·.1)) 0 with
   |some i=>S=(5,i)
   |none=>match jE [] (d.map (·.1)) 0 with
    |some i=>S=(3,i)
    |none=>S=(0,0)):=by
  rw[E,<-hS];unfold ii
  cases gL (lj (dM (d.map (·.1)))) (d.map (·.1)) 0 with
  |some i=>rfl
  |none=>
   cases gL jU (d.map (·.1)) 0 with
   |some i=>rfl
   |none=>cases jE [] (d.map (·.1)) 0<;>rfl
 clear hS E;go_enter Tryz.func110,Tryz.ntmps110;go_wp2
 go_loopw [4] (λp wr=>∃i:Nat,p=aM aP i/\i<=aB d/\bT N w wr/\Hid (gL (lj A) ((d.drop i).map (·.1)) i=gL (lj A) (d.map (·.1)) 0)) (λp _=>aB d-(intOf p).toNat)
 case atStart=>exact⟨0,rfl,zz,zr,rfl⟩
 case round=>
  obtain⟨i,rfl,cq,z,aa⟩:=hrel;by_cases Z:i<aB d
  .obtain⟨g,ps,rfl,hg,c0,c1,c2,E,bd,a6,c7,⟨a1,a2,ax⟩,⟨b1,b2,aw⟩,M⟩:=vI (HR.o.below (by rw[av];exact z)) i Z ca.o;have b3:N<=wr.heap.size:=by have:=z.size;omega
   have cd:=vU d[i] ps wr E a6 (by omega);rw[aX Z,bF] at aa;simp only[gL] at aa;have df:lj A d[i].1=((d[i].1.head,d[i].2.1)::ps).any (λp=>lf A p.1):=by unfold lj qz;rw[<-bd,bG,bG,List.any_map];rfl
   rw[df] at aa;unfold kI at cd;rw[ax] at c1 cd M aa;rw[aw] at c2 cd;clear df bd;generalize d[i]=q at *;generalize q.1.head.rel=hrl at *;generalize hq:((q.1.head,aH a1 (aB q.1.head.args) a2)::ps)=qp at *;have Qh8:aB qp<=901:=by rw[<-hq];simp;omega
   have C:Hid (bT N w wr):=z;clear z hq E a6 ax aw;go_wp2_with fail;refine cd.mono ?_;rintro e W1 ⟨vp,rfl,az,d5⟩;have dv:bT N w W1:=C.o.trans (d5.mono b3);obtain⟨pa,pc,en⟩:=qe az.row;subst en;have cv:Hid (ip W1 (aH pa (aB qp) pc) qp):=az;have d4:Hid (bT N w W1):=dv;clear az d5 dv cd c0 c1 c2;go_wp2
   go_loopw [6] (λp wr=>∃k:Nat,p=aM aP k/\k<=aB qp/\bT N w wr/\ip wr (aH pa (aB qp) pc) qp/\Hid ((qp.drop k).any (λp=>lf A p.1)=qp.any (λp=>lf A p.1))) (λp _=>aB qp-(intOf p).toNat)
   case atStart=>exact⟨0,rfl,zz,d4.o,cv.o,rfl⟩
   case round=>
    clear cv d4 C;obtain⟨k,rfl,eo,z,az,ad⟩:=hrel;by_cases bj:k<aB qp
    .obtain⟨g2,ey,e2,ez,d0,d1,⟨x1,x2,hx⟩,_⟩:=az.cell k bj;cases e2;rw[hx] at d1;have fb:=(M qp[k] (zm bj)).2.1;rw[aX bj] at ad;simp only[bG] at ad;have eb:=dt.o qp[k].1.rel wr z;generalize qp[k]=pk at *;have Qgt:lf A pk.1=decide (fU A pk.1.rel≠pk.1.args.length):=rfl;generalize fU A pk.1.rel=ar at *;generalize lf A pk.1=ab at *;generalize pk.1.rel=pr at *;generalize (aB pk.1.args)=al at *;have cv:Hid (ip wr (aH (aV ⟨g2,0,aW⟩) (aB qp) pc) qp):=az;clear az hx;have C:Hid (bT N w wr):=z;clear z;go_wp2_with fail;refine eb.mono ?_;rintro e w2 ⟨rfl,ae,ai⟩;have fi:aC w2 (Ad g2 (k*2+1))=aV (aH x1 al x2):=(bD ai ez).trans d1;have ef:=cv.o.below ai;clear eb ai d0 d1;by_cases a9:ar=al
     .subst a9;have c9:ab=false:=by rw[Qgt];simp
      rw[c9] at ad;go_wp2
      go_roundw
      case rel=>exact⟨k+1,by go_num,by omega,ae,ef,by simpa using ad⟩
      case measure=>simp[intOf];omega
     .have c9:ab=true:=by rw[Qgt];simpa using a9
      rw[c9] at ad;have da:qp.any (λp=>lf A p.1)=true:=by rw[<-ad.o];simp
      rw[da,if_pos rfl] at aa;have Qf:Hid (S=(4,i)):=by have h:=bn.o;rw[<-aa.o] at h;exact h
      have m1:((ar:Int) == (al:Int))=false:=by simp;omega
      have m2:((ar:Int) != (al:Int))=true:=by simp;omega
      go_wp2;go_ret2;rw[Qf.o];exact⟨rfl,ae⟩
    .rw[aY (by omega)] at ad;simp only[bO] at ad;rw[<-ad.o,if_neg (by simp)] at aa;have C:Hid (bT N w wr):=z;clear az z;go_wp2
     go_roundw
     case rel=>exact⟨i+1,by go_num,by omega,C.o,aa⟩
     case measure=>simp[intOf];omega
  .rw[aY (by omega)] at aa;have G:gL (lj A) (d.map (·.1)) 0=none:=by rw[<-aa.o];rfl
   have cy:Hid (match gL jU (d.map (·.1)) 0 with
     |some i=>S=(5,i)
     |none=>match jE [] (d.map (·.1)) 0 with
      |some i=>S=(3,i)
      |none=>S=(0,0)):=by
    have h:=bn.o;rw[G] at h;exact h
   have C:Hid (bT N w wr):=z;clear bn G z aa dt;go_wp2
   go_loopw [8] (λp wr=>∃i:Nat,p=aM aP i/\i<=aB d/\bT N w wr/\Hid (gL jU ((d.drop i).map (·.1)) i=gL jU (d.map (·.1)) 0)) (λp _=>aB d-(intOf p).toNat)
   case atStart=>exact⟨0,rfl,zz,C.o,rfl⟩
   case round=>
    clear C;obtain⟨i,rfl,cq,z,aa⟩:=hrel;by_cases Z:i<aB d
    .obtain⟨g,ps,rfl,hg,c0,c1,c2,E,bd,a6,c7,⟨a1,a2,ax⟩,⟨b1,b2,aw⟩,M⟩:=vI (HR.o.below (by rw[av];exact z)) i Z ca.o;rw[aX Z,bF] at aa;simp only[gL] at aa;have ec:jU d[i].1=d[i].1.head.args.any (nN d[i].1.body):=rfl;rw[ec] at aa;have ed:=(M _ zs).2.1;simp only at ed;rw[ax] at c1;have di:Hid _:=aa;have C:Hid (bT N w wr):=z;clear ec aa z E a6 M bd ax aw c0 c2 c7;go_wp2
     go_loopw [9] (λp wr=>∃k:Nat,p=aM aP k/\k<=aB d[i].1.head.args/\bT N w wr/\Hid ((d[i].1.head.args.drop k).any (nN d[i].1.body)=d[i].1.head.args.any (nN d[i].1.body))) (λp _=>aB d[i].1.head.args-(intOf p).toNat)
     case atStart=>exact⟨0,rfl,zz,C.o,rfl⟩
     case round=>
      clear C c1;obtain⟨k,rfl,eo,z,ad⟩:=hrel;obtain⟨g',ps,e',hg,c0,c1,c2,E,bd,a6,c7,⟨a1,a2,ax⟩,⟨b1,b2,aw⟩,M⟩:=vI (HR.o.below (by rw[av];exact z)) i Z ca.o
      cases e'
      have b3:N<=wr.heap.size:=by have:=z.size;omega
      by_cases bj:k<aB d[i].1.head.args
      .obtain⟨g3,b6,e3,fe,f0,f1⟩:=E.cell k bj;simp only at e3 f0 f1;have d3:=(M _ zs).2.2 _ (zm bj);rw[aX bj] at ad;simp only[bG] at ad;rw[e3] at c1;rw[aw] at c2;have dm:Hid (∀X,bT wr.heap.size wr X->Cs 179 #[aJ #[aI d[i].1.head.rel,aH (aV ⟨g3,0,aW⟩) (aB d[i].1.head.args) b6,aH b1 (aB ps) b2],aM aP d[i].1.head.args[k].num] X λe w'=>e=aO (aK (Qd d[i].1.body d[i].1.head.args[k].num))/\bT N w w'/\bT X.heap.size X w'):=by intro X au;have hb:=Io d[i] ps d[i].1.head.args[k].num X (a6.below au) (E.kept (Kp.ofBelow (S:=0) au)) bd (by omega) d3 (λp hp=>⟨by have:=(M p (zt hp)).2.1;omega,(M p (zt hp)).2.2⟩);unfold kI at hb;rw[e3,aw] at hb;refine hb.mono ?_;rintro e w' ⟨rfl,cp⟩;refine⟨rfl,?_,cp⟩;exact (z.trans (au.mono b3)).trans (cp.mono (by have:=au.size;omega))
       have Qhg:g≠wr.heap.size:=by omega
       have Ql9:g3≠wr.heap.size:=by omega
       have fc:∀O,aC (wr.alloc O) (Ad g (i*3))=aV (aI d[i].1.head.rel):=λO=>(bD ((bB wr.heap.size wr).alloc zl O) hg).trans c0;have fj:∀O,aC (wr.alloc O) (Ad g (i*3+1))=aV (aH (aV ⟨g3,0,aW⟩) (aB d[i].1.head.args) b6):=λO=>(bD ((bB wr.heap.size wr).alloc zl O) hg).trans c1;have ff:∀O,aC (wr.alloc O) (Ad g (i*3+2))=aV (aH b1 (aB ps) b2):=λO=>(bD ((bB wr.heap.size wr).alloc zl O) hg).trans c2;have C:Hid (bT N w wr):=z;clear z E a6 M ax aw e3 bd;have db:nN d[i].1.body d[i].1.head.args[k]=(d[i].1.head.args[k].name.toList.isEmpty && !Qd d[i].1.body d[i].1.head.args[k].num):=rfl;rw[db] at ad;clear db;generalize Qd d[i].1.body d[i].1.head.args[k].num=bb at *;generalize d[i].1.head.args[k].num=nu at *;generalize d[i].1.head.args[k].name=nm at *;generalize d[i].1.head.rel=rl at *;have hX:Hid (∀(O:Obj),bT wr.heap.size wr (wr.alloc O).drew):=λO=>((bB _ wr).alloc zl O).drew;go_wp2
       go_region_with (go_at_call 179;refine (dm.o _ (hX.o _)).mono ?_;rintro e w2 ⟨rfl,ae,ai⟩)
       all_goals
        have fh:aC w2 (Ad wr.heap.size 0)=aV (aI nm):=by rw[bD ai (by show wr.heap.size<(wr.alloc _).heap.size;simp)];show aC (wr.alloc (aN #[aI nm,aM aP nu] 215)) (Ad wr.heap.size 0)=_;simp
        clear dm ai
        cases G:nm.toList.isEmpty with
        |false=>
         rw[G] at ad;go_wp2
         go_roundw
         case rel=>exact⟨k+1,by go_num,by omega,ae,by simpa using ad⟩
         case measure=>simp[intOf];omega
        |true=>
         rw[G] at ad
         cases bb with
         |true=>
          go_wp2
          go_roundw
          case rel=>exact⟨k+1,by go_num,by omega,ae,by simpa using ad⟩
          case measure=>simp[intOf];omega
         |false=>
          have da:d[i].1.head.args.any (nN d[i].1.body)=true:=by rw[<-ad.o];simp
          have Qf:Hid (S=(5,i)):=by have h:=cy.o;have h2:=di.o;rw[da,if_pos rfl] at h2;rw[<-h2] at h;exact h
          go_wp2;go_ret2;rw[Qf.o];exact⟨rfl,ae⟩
      .rw[aY (by omega)] at ad;simp only[bO] at ad;have bk:=di.o;rw[<-ad.o,if_neg (by simp)] at bk;have cl:Hid _:=bk;have C:Hid (bT N w wr):=z;rw[ax] at c1;clear z E a6 M ax aw ad bk c0 c2;go_wp2
       go_roundw
       case rel=>exact⟨i+1,by go_num,by omega,C.o,cl⟩
       case measure=>simp[intOf];omega
    .rw[aY (by omega)] at aa;have G:gL jU (d.map (·.1)) 0=none:=by rw[<-aa.o];rfl
     have cl:Hid (match jE [] (d.map (·.1)) 0 with
        |some i=>S=(3,i)
        |none=>S=(0,0)):=by
      have h:=cy.o;rw[G] at h;exact h
     have C:Hid (bT N w wr):=z;clear cy G z aa;go_wp2
     go_loopw [12] (λp wr=>∃i:Nat,p=aM aP i/\i<=aB d/\bT N w wr/\Hid (jE (dG [] (Q0 (Q8 (d.take i)))) ((d.drop i).map (·.1)) i=jE [] (d.map (·.1)) 0)) (λp _=>aB d-(intOf p).toNat)
     case atStart=>exact⟨0,rfl,zz,C.o,rfl⟩
     case round=>
      clear C;obtain⟨i,rfl,cq,z,aa⟩:=hrel;by_cases Z:i<aB d
      .have ct:=HR.o.below (by rw[av];exact z);obtain⟨g,cap,e1,hg,_⟩:=ct.cell i Z;cases e1
       have ee:aB d<=vc:=by
        obtain⟨_,⟨hv,hn⟩|⟨g',ek,e9,hv,hb,hw,G,_⟩⟩:=ct.row
        .cases hv
        .cases hv;exact G
       have ag:aB (d.take (i+1))=i+1:=by rw[List.length_take];omega
       have bv:=ca.o.take (i+1);have ci:=Bu (aH (aV ⟨g,0,aW⟩) (i+1) vc) (d.take (i+1)) wr (gY.take (n:=0) ct (i+1) (by omega)) bv.few bv.body bv.tms (λa ha=>(bv.args a ha).1);have b3:N<=wr.heap.size:=by have:=z.size;omega
       rw[aX Z,bF] at aa;simp only[jE] at aa;rw[<-A9,<-JP Z] at aa;have d9:=(wP (Q0 (Q8 (d.take (i+1)))) []).2;have eu:=bv.tms;generalize hnle:dG [] (Q0 (Q8 (d.take (i+1))))=nl at *;have ep:Hid (dG [] (Q0 (Q8 (d.take (i+1))))=nl):=hnle;clear hnle;have fk:aB nl<=100000:=by simp at d9;omega
       have fg:(i:Int)+1<=(vc:Int):=by omega
       have Qme:i+1<=vc:=by omega
       have C:Hid (bT N w wr):=z;clear z ct bv ag d9 eu;by_cases h8:8<aB nl
       .rw[if_pos h8] at aa;have Qf:Hid (S=(3,i)):=by have h:=cl.o;rw[<-aa.o] at h;exact h
        go_wp2_with fail;refine ci.mono ?_;rintro e w2 ⟨v2,rfl,ao⟩;obtain⟨na,nc,rfl⟩:=qe ao.own;have ae:bT N w w2:=C.o.trans (ao.below.mono b3);clear ao ci;go_wp2;go_ret2;rw[Qf.o];exact⟨rfl,ae⟩
       .rw[if_neg h8] at aa;go_wp2_with fail;refine ci.mono ?_;rintro e w2 ⟨v2,rfl,ao⟩;obtain⟨na,nc,rfl⟩:=qe ao.own;have ae:bT N w w2:=C.o.trans (ao.below.mono b3);clear ao ci;go_wp2
        go_roundw
        case rel=>exact⟨i+1,by go_num,by omega,ae,by rw[ep.o];exact aa⟩
        case measure=>simp[intOf];omega
      .rw[aY (by omega)] at aa;have G:jE [] (d.map (·.1)) 0=none:=by rw[<-aa.o];rfl
       have Qf:Hid (S=(0,0)):=by have h:=cl.o;rw[G] at h;exact h
       go_wp2;go_ret2;rw[Qf.o];exact⟨rfl,z⟩
def jG(l:Lk)(ts:List RT):Prop:=(dW l ts).1=0
def kB(ts:List RT):Prop:=∃pre E,ts=pre++[E]/\E.kind=4
theorem lO(h:jG l (t::us))(d:iQ l t=false):(Qg l t).e=0/\jG (Qg l t) us:=by grind [jG,dW]
theorem jY(h:kB (t::us))(d:t.kind≠4):kB us:=by
 have⟨pre,E,h1,h2⟩:=h
 cases pre with
 |nil=>simp at h1;exact absurd (by grind) d
 |cons p pre=>simp at h1;exact⟨pre,E,h1.2,h2⟩
theorem lm:¬kB []:=by rintro⟨pre,E,d,_⟩;simp at d
theorem mB(h0:l.want≠0)(d:l.want≠6):iQ l t=false:=by grind [iQ]
theorem ze(d:l.want=3)(h:(Qg l t).e=0):(t.kind=1\/t.kind=2)/\l.args+1<=2/\t.runes<=8/\Qg l t={l with args:=l.args+1,want:=4}:=by grind [Qg,fS,fY,ig]
theorem FM(d:l.want=1)(h:(Qg l t).e=0):t.kind=1/\l.atoms+1<=3/\t.runes<=8/\Qg l t={l with atoms:=l.atoms+1,want:=2}:=by grind [Qg,fS,fY,ig]
theorem zN(d:l.want=0)(h:(Qg l t).e=0):t.kind=1/\l.rules+1<=8/\t.runes<=8/\Qg l t={l with rules:=l.rules+1,body:=false,want:=2}:=by grind [Qg,fS,fY,ig]
theorem uq(d:l.want=2)(h:(Qg l t).e=0):t.kind=40/\Qg l t={l with args:=0,want:=3}:=by grind [Qg,eJ]
theorem Jm(z:l.want=4)(d:l.alone=false)(h:(Qg l t).e=0):(t.kind=44/\Qg l t={l with want:=3})\/(t.kind=41/\Qg l t={l with want:=5}):=by grind [Qg,eJ]
theorem Eb(d:l.want=5)(h:(Qg l t).e=0):(t.kind=46/\Qg l t={l with want:=0})\/(t.kind=44/\l.body=true/\Qg l t={l with want:=1})\/(t.kind=3/\l.body=false/\Qg l t={l with body:=true,atoms:=0,want:=1}):=by
 have hs:Qg l t=eJ l t:=by grind [Qg]
 rw[hs] at h ⊢;unfold eJ at h ⊢;simp only[d] at h ⊢;simp at h ⊢;by_cases z:t.kind=46
 .grind
 .grind
theorem vQ:∀(n:Nat) (ts:List RT) (l:Lk) (d:List ByteArray),aB ts<=n->l.want=3->l.e=0->l.alone=false->kB ts->jG l ts->
  ∃L ak k,eH d ts=aV (L,ak,k)/\l.args+aB L<=2/\jG {l with want:=5,args:=l.args+aB L} (ts.drop k)/\kB (ts.drop k)/\(∀t∈L,t.num<=aB d+aB L)/\aB ak<=aB d+aB L
 |0,ts,l,d,hn,_,_,_,hE,_=>by grind [lm]
 |n+1,[],l,d,hn,_,_,_,hE,_=>absurd hE lm
 |n+1,t::us,l,d,hn,hw,he,hal,hE,am=>by
  have⟨h1,h2⟩:=lO am (mB (by grind) (by grind));have⟨hk,hg,hr,bq⟩:=ze hw h1;have C:=jY hE (by omega);rw[bq] at h2
  have M:(ij d t).num<=aB d:=by
   unfold ij;split;{exact List.findIdx_le_length};{simp}
  have E:=sO d t
  cases us with
  |nil=>exact absurd C lm
  |cons b us=>
   have⟨h3,h4⟩:=lO h2 (mB (by simp) (by simp));rcases Jm (l:={l with args:=l.args+1,want:=4}) rfl (by grind) h3 with⟨G,z⟩|⟨G,z⟩
   .rw[z] at h4;have A:=jY C (by omega);have⟨L,ak,k,r1,r2,r3,r4,r5,r6⟩:=vQ n us {l with args:=l.args+1,want:=3} (iL d t) (by grind) rfl he hal A h4;refine⟨ij d t::L,ak,k+2,?_,?_,?_,?_,?_,?_⟩;{grind [eH]};{grind};{grind};{grind};{grind};{grind}
   .rw[z] at h4;have A:=jY C (by omega);refine⟨[ij d t],iL d t,2,?_,by simpa using hg,by simpa using h4,by simpa using A,?_,by simpa using E⟩;{grind [eH]};{grind}
theorem Av:∀(f:Nat) (ts:List RT) (l:Lk) (A:List ByteArray),aB ts<f->l.want=5->l.e=0->l.alone=false->kB ts->jG l ts->(l.body=true->l.atoms<=3)->
  ∃d m z,jq f A ts=aV (d,m)/\(if l.body=true then l.atoms+aB d<=3 else aB d<=3)/\z.want=0/\z.rules=l.rules/\z.e=0/\z.alone=false/\jG z (ts.drop (m+1))/\kB (ts.drop (m+1))/\
   (∀a∈d,aB a.args<=2/\∀t∈a.args,t.num<=aB A+2*aB d)
 |0,ts,l,A,E,_,_,_,_,_,_=>by omega
 |f+1,[],l,A,E,_,_,_,hE,_,_=>absurd hE lm
 |f+1,t::us,l,A,E,hw,he,hal,hE,am,ai=>by
  have⟨h1,h2⟩:=lO am (mB (by grind) (by grind))
  have G:∀l1:Lk,l1.want=1->l1.e=0->l1.alone=false->l1.body=true->l1.rules=l.rules->jG l1 us->kB us->t.kind≠46->(∀n,l1.atoms+n<=3->if l.body=true then l.atoms+n<=3 else n<=3)->
    ∃d m z,jq (f+1) A (t::us)=aV (d,m)/\(if l.body=true then l.atoms+aB d<=3 else aB d<=3)/\z.want=0/\z.rules=l.rules/\z.e=0/\z.alone=false/\jG z ((t::us).drop (m+1))/\kB ((t::us).drop (m+1))/\
     (∀a∈d,aB a.args<=2/\∀t∈a.args,t.num<=aB A+2*aB d):=by
   intro l1 w1 Z a1 b1 r1 o1 M fl bf
   cases us with
   |nil=>exact absurd M lm
   |cons r us=>
    have⟨g1,g2⟩:=lO o1 (mB (by grind) (by grind));have⟨kr,ka,e7,c8⟩:=FM w1 g1;have O:=jY M (by omega);rw[c8] at g2
    cases us with
    |nil=>exact absurd O lm
    |cons p us=>
     have⟨g3,g4⟩:=lO g2 (mB (by simp) (by simp));have⟨kp,bc⟩:=uq (l:={l1 with atoms:=l1.atoms+1,want:=2}) rfl g3;have E3:=jY O (by omega);rw[bc] at g4;have⟨L,ak,k,q1,q2,q3,q4,q5,q6⟩:=vQ (aB us) us {l1 with atoms:=l1.atoms+1,args:=0,want:=3} A zl rfl Z a1 E3 g4;have ag:aB (us.drop k)<f:=by{grind};have⟨d,m,z,p1,p2,p3,p4,p5,p6,p7,p8,p9⟩:=Av f (us.drop k) {l1 with atoms:=l1.atoms+1,args:=0+aB L,want:=5} ak ag rfl Z a1 q4 q3 (λ_=>by simp;omega);simp only[b1,if_true] at p2;refine⟨⟨r.text,L⟩::d,3+k+m,z,?_,?_,p3,p4.trans r1,p5,p6,?_,?_,?_⟩;{grind [jq]};{simp only[bE];exact bf (aB d+1) (by omega)};{grind [bL]};{grind [bL]};{grind}
  rcases Eb hw h1 with⟨hk,C⟩|⟨hk,ej,C⟩|⟨hk,ej,C⟩
  .rw[C] at h2;refine⟨[],0,{l with want:=0},?_,?_,rfl,rfl,he,hal,h2,jY hE (by omega),λa ha=>by cases ha⟩;{simp_all [jq]};{grind}
  .grind [jY]
  .rw[C] at h2;exact G {l with body:=true,atoms:=0,want:=1} rfl he hal rfl rfl h2 (jY hE (by omega)) (by omega) (λn E=>by rw[if_neg (by grind)];simpa using E)
structure pS(r:Rl):Prop where
 head:aB r.head.args<=2/\∀t∈r.head.args,t.num<=100
 few:aB r.body<=3
 body:∀a∈r.body,aB a.args<=2/\∀t∈a.args,t.num<=100
theorem tf:∀(f:Nat) (ts:List RT) (l:Lk),aB ts<f->l.want=0->l.e=0->l.alone=false->kB ts->jG l ts->l.rules<=8->
  ∃rs,ju f ts=aV rs/\l.rules+aB rs<=8/\∀r∈rs,pS r
 |0,ts,l,hn,_,_,_,_,_,_=>by omega
 |f+1,[],l,hn,_,_,_,hE,_,_=>absurd hE lm
 |f+1,t::us,l,hn,hw,he,hal,hE,am,h8=>by
  by_cases O:t.kind=4;{simp_all [ju]}
  .have⟨h1,h2⟩:=lO am (by grind [iQ]);have⟨kt,kr,e8,c8⟩:=zN hw h1;have A:=jY hE O;rw[c8] at h2
   cases us with
   |nil=>exact absurd A lm
   |cons p us=>
    have⟨g3,g4⟩:=lO h2 (mB (by simp) (by simp));have⟨kp,bc⟩:=uq (l:={l with rules:=l.rules+1,body:=false,want:=2}) rfl g3;have G:=jY A (by omega);rw[bc] at g4;have⟨L,ak,k,q1,q2,q3,q4,q5,q6⟩:=vQ (aB us) us {l with rules:=l.rules+1,body:=false,args:=0,want:=3} [] zl rfl he hal G g4;simp only[Nat.zero_add,List.length_nil] at q2 q5 q6;have Z:=(rB _ _ _ _ _ q1).2.1;have M:=(rB _ _ _ _ _ q1).2.2.1;have⟨bs,m,l',p1,p2,p3,p4,p5,p6,p7,p8,p9⟩:=Av (aB us) (us.drop k) {l with rules:=l.rules+1,body:=false,args:=0+aB L,want:=5} ak (by simp;omega) rfl he hal q4 q3 (λh=>by simp at h);simp only[Bool.false_eq_true,if_false] at p2;have dd:l'.rules=l.rules+1:=p4;have⟨rs,s1,s2,s3⟩:=tf f ((us.drop k).drop (m+1)) l' (by grind) p3 p5 p6 p8 p7 (by omega);refine⟨⟨⟨t.text,L⟩,bs⟩::rs,?_,by simp;omega,λr E=>?_⟩;{grind [ju]}
    .rcases bC.1 E with rfl|E
     .exact⟨⟨q2,λz d=>by have:=q5 z d;omega⟩,p2,λa C=>⟨(p9 a C).1,λz d=>by have:=(p9 a C).2 z d;omega⟩⟩
     .grind
def fA(alone:Bool):Lk:=⟨0,false,alone,0,0,0,0⟩
def gv(s:ByteArray):Except (Int×Nat) (List Rl):=
 if 300<aB (R s 0) then .error (1,0)
 else if (dW (fA false) (Q3 s)).1≠0 then .error (dW (fA false) (Q3 s))
 else match ju (aB (Q3 s)+1) (Q3 s) with
  |none=>.error (0,0)
  |some rs=>if (ii rs).1≠0 then .error (ii rs) else .ok rs
theorem su:∀(f:Nat) (l:List Rn) (i:Nat),aB (dL f l i)<=aB l
 |0,l,i=>by simp[dL]
 |f+1,[],i=>by simp[dL]
 |f+1,r::l,i=>by
  unfold dL;have d:=su f (l.drop (aB (tw l))) (i+(1+aB (tw l)));have A:=su f l (i+1);have z:=su f (l.drop 1) (i+2);rw[bI] at d z
  repeat' split
  all_goals simp only[bE]
  all_goals omega
theorem yI(s:ByteArray):aB (Q3 s)<=aB (R s 0)+1:=by grind [Q3,su,R]
theorem sj(s:ByteArray):kB (Q3 s):=⟨_,_,rfl,rfl⟩
theorem Hh(rs:List Rl)(h:∀r∈rs,pS r):aB (Q0 (dM rs))<=8*aB rs:=by
 induction rs with
 |nil=>simp[dM,Q0]
 |cons r rs ih=>
  have z:=h r zs;have M:=ih (λG A=>h G (zt A));have e:Q0 (dM (r::rs))=r.head.args++Q0 r.body++Q0 (dM rs):=by grind [dM,Q0,qz]
  have E:∀(d:List Am),(∀a∈d,aB a.args<=2)->aB (Q0 d)<=2*aB d:=by
   intro d
   induction d with
   |nil=>intro _;simp[Q0]
   |cons a d ihb=>grind [Q0]
  have O:=E r.body (λa C=>(z.body a C).1);have Z:=z.head.1;have h5:=z.few;rw[e];simp only[List.length_append,bE];omega
theorem Dt{A:List (Rl×Vq×Vq)}{rs:List Rl}(M:A.map (·.1)=rs)(O:aB rs<=8)(h:∀r∈rs,pS r):nV A:=by
 have Z:aB A=aB rs:=by grind
 have E:∀q∈A,pS q.1:=λq d=>h q.1 (by rw[<-M];exact List.mem_map.2 ⟨q,d,rfl⟩);refine⟨by omega,λq d=>by have:=(E q d).few;omega,?_,λa G=>?_⟩
 .grind [Hh,vX]
 .have⟨q,d,z⟩:=List.mem_flatMap.1 G;have hs:=E q d;rcases bC.1 z with rfl|z
  .exact⟨by have:=hs.head.1;omega,λt C=>by have:=hs.head.2 t C;omega⟩
  .exact⟨by have:=(hs.body a z).1;omega,λt C=>by have:=(hs.body a z).2 t C;omega⟩
theorem tY{B:Nat}{v:Vq}{ts:List RT}(h:aE W B 244 4 v (aB ts) (ts.flatMap lW))(A:0<aB ts):∃g d,v=Sc g (aB ts) d/\me W g ts:=by have⟨g,d,e1,e2,e3,e4,e5⟩:=iI h E0 A;refine⟨g,d,e1,⟨e3,λj z=>⟨e5 j 0 z _ (by decide) rfl,e5 j 1 z _ (by decide) rfl,e5 j 2 z _ (by decide) rfl,e5 j 3 z _ (by decide) rfl⟩⟩,?_⟩;exact qh h (by rw[e1];rfl)
def l5(s:ByteArray)(e:Ending)(w':Wq):Prop:=
 match gv s with
 |.error (c,p)=>e=aO (aL #[aH aW 0 0,aM aP c,aM aP p])
 |.ok rs=>∃v qs,e=aO (aL #[v,aM aP 0,aM aP 0])/\gY w' v qs/\qs.map (·.1)=rs/\nV qs/\aB rs<=8/\∀r∈rs,pS r
theorem IB(s:ByteArray)(w:Wq)(hs:s.size<=1048576):Cs 64 #[St s] w λe w'=>l5 s e w'/\bT w.heap.size w w':=by
 obtain⟨N,hN⟩:∃N,N=w.heap.size:=⟨_,rfl⟩;have av:=hN.symm;have O:=vB s w hs;rw[<-hN] at O ⊢;by_cases aj:300<aB (R s 0)
 .have z:gv s=.error (1,0):=by unfold gv;rw[if_pos aj]
  have HD:Hid (∀(e:Ending) (w':Wq),e=aO (aL #[aH aW 0 0,Ii 1,Ii 0])->l5 s e w'):=by intro e w' he;unfold l5;rw[z];exact he
  clear z;generalize R s 0=L at *;go_enter Tryz.func64,Tryz.ntmps64;go_wp2_with fail;refine O.mono ?_;rintro e W1 ⟨v1,rfl,C,A⟩;obtain⟨a1,c1,rfl⟩:=qe C;clear C O;go_wp2
  go_ret3
  exact⟨HD.o _ _ rfl,A⟩
 .have hL:aB (R s 0)<=300:=by omega
  have cu:=λW1=>uw s W1 hs (by omega);have fa:=yI s;have ck:=sj s
  have z:gv s=if (dW (fA false) (Q3 s)).1≠0 then .error (dW (fA false) (Q3 s)) else match ju (aB (Q3 s)+1) (Q3 s) with
   |none=>.error (0,0)
   |some rs=>if (ii rs).1≠0 then .error (ii rs) else .ok rs:=by unfold gv;rw[if_neg aj]
  generalize Q3 s=ts at *;have a9:0<aB ts:=by have⟨pre,E,h1,_⟩:=ck;rw[h1];simp
  have cj:=λ(g d:Nat) (W:Wq) (h:mX W g ts)=>zQ g d ts false W h (by omega);by_cases Z:(dW (fA false) ts).1=0
  .have⟨rs,b7,cx,du⟩:=tf (aB ts+1) ts (fA false) (by omega) rfl rfl rfl ck Z (by decide);rw[if_neg (by simpa using Z),b7] at z;simp only at z;have d7:=λ(g d:Nat) (W:Wq) (h:me W g ts)=>EE g d ts (aB ts+1) rs W h (by omega) b7;have h8:aB rs<=8:=by simp[fA] at cx;exact cx
   have HD:Hid (gv s=if (ii rs).1≠0 then .error (ii rs) else .ok rs):=z;have dz:Hid (∀r∈rs,pS r):=du;have d6:Hid (∀(g d:Nat) (W:Wq),mX W g ts->Cs 108 #[Sc g (aB ts) d,aK false] W λe w'=>(∃p:Nat,e=aO (aL #[Ii 0,Ii p]))/\bT W.heap.size W w'):=by intro g d W h;refine (cj g d W h).mono ?_;rintro e w' ⟨rfl,hb⟩;refine⟨⟨(dW (fA false) ts).2,?_⟩,hb⟩;have e0:(dW ⟨0,false,false,0,0,0,0⟩ ts).1=0:=Z;rw[e0];rfl
   clear cj z b7 cx du Z ck aj;generalize R s 0=L at *;go_enter Tryz.func64,Tryz.ntmps64;go_wp2_with fail;refine O.mono ?_;rintro e W1 ⟨v1,rfl,C,A⟩;obtain⟨a1,c1,rfl⟩:=qe C;clear C O;go_wp2_with fail;refine (cu W1).mono ?_;rintro e W2 ⟨v2,rfl,b9,ae⟩;obtain⟨g,d,rfl,M⟩:=tY b9 a9;have cf:N<=W1.heap.size:=by have:=A.size;omega
   have b8:bT N w W2:=A.trans (ae.mono cf);have ao:N<=W2.heap.size:=bH cf ae.size;clear b9 cu A ae;go_wp2_with fail;refine (d6.o g d W2 M.1).mono ?_;rintro e W3 ⟨⟨p3,rfl⟩,G⟩;have de:=M.below G M.1.1;have ch:bT N w W3:=b8.trans (G.mono ao);have dg:N<=W3.heap.size:=bH ao G.size;clear G M d6 b8;go_wp2_with fail;refine (d7 g d W3 de).mono ?_;rintro e W4 ⟨v4,qs,rfl,hO,hq⟩;have cw:=hO.rules;have co:bT N w W4:=ch.trans (hO.below.mono dg);have dk:N<=W4.heap.size:=bH dg hO.size;have am:=Dt hq h8 dz.o;have bu:=Fw v4 qs W4 cw am;rw[hq] at bu;clear d7 hO ch de;by_cases cc:(ii rs).1=0
   .have ce:Hid (∀(e:Ending) (w':Wq),(∃v qs,e=aO (aL #[v,Ii 0,Ii 0])/\gY w' v qs/\qs.map (·.1)=rs/\nV qs/\aB rs<=8/\∀r∈rs,pS r)->l5 s e w'):=by intro e w' he;unfold l5;rw[HD.o,if_neg (by simpa using cc)];exact he
    rw[cc] at bu;go_wp2_with fail;refine bu.mono ?_;rintro e W5 ⟨rfl,b4⟩;have ev:=cw.below b4;have dc:bT N w W5:=co.trans (b4.mono dk);clear bu cw b4 co;go_wp2
    go_ret3
    exact⟨ce.o _ _ ⟨v4,qs,rfl,ev,hq,am,h8,dz.o⟩,dc⟩
   .have ce:Hid (∀(e:Ending) (w':Wq),e=aO (aL #[aH aW 0 0,Ii (ii rs).1,Ii (ii rs).2])->l5 s e w'):=by intro e w' he;unfold l5;rw[HD.o,if_pos cc];exact he
    generalize (ii rs).1=se at *;generalize (ii rs).2=si at *;have m0:(se == 0)=false:=by simpa using cc
    have m1:(se != 0)=true:=by simpa using cc
    go_wp2_with fail;refine bu.mono ?_;rintro e W5 ⟨rfl,b4⟩;have dc:bT N w W5:=co.trans (b4.mono dk);clear bu cw b4 co;go_wp2
    go_ret3
    exact⟨ce.o _ _ rfl,dc⟩
  .rw[if_pos Z] at z;have ce:Hid (∀(e:Ending) (w':Wq),e=aO (aL #[aH aW 0 0,Ii (dW (fA false) ts).1,Ii (dW (fA false) ts).2])->l5 s e w'):=by intro e w' he;unfold l5;rw[z];exact he
   have dy:Hid (∀(g d:Nat) (W:Wq),mX W g ts->Cs 108 #[Sc g (aB ts) d,aK false] W λe w'=>e=aO (aL #[Ii (dW (fA false) ts).1,Ii (dW (fA false) ts).2])/\bT W.heap.size W w'):=cj;clear cj z ck aj;generalize (dW (fA false) ts).1=oe at *;generalize (dW (fA false) ts).2=op at *;generalize R s 0=L at *;have m0:(oe == 0)=false:=by simpa using Z
   have m1:(oe != 0)=true:=by simpa using Z
   go_enter Tryz.func64,Tryz.ntmps64;go_wp2_with fail;refine O.mono ?_;rintro e W1 ⟨v1,rfl,C,A⟩;obtain⟨a1,c1,rfl⟩:=qe C;clear C O;go_wp2_with fail;refine (cu W1).mono ?_;rintro e W2 ⟨v2,rfl,b9,ae⟩;obtain⟨g,d,rfl,M⟩:=tY b9 a9;have cf:N<=W1.heap.size:=by have:=A.size;omega
   have b8:bT N w W2:=A.trans (ae.mono cf);have ao:N<=W2.heap.size:=bH cf ae.size;clear b9 cu A ae;go_wp2_with fail;refine (dy.o g d W2 M.1).mono ?_;rintro e W3 ⟨rfl,G⟩;have ch:bT N w W3:=b8.trans (G.mono ao);clear G M dy b8;go_wp2
   go_ret3
   exact⟨ce.o _ _ rfl,ch⟩
def Iv(t:Tm):ByteArray:=if t.name.toList.isEmpty=true then ⟨#[88]⟩++GK t.num else t.name
def AB:Nat->List Tm->ByteArray
 |_,[]=>⟨#[]⟩
 |i,t::l=>(if 0<i then ⟨#[44]⟩ else ⟨#[]⟩)++Iv t++AB (i+1) l
def yk(a:Am):ByteArray:=(a.rel ++ ⟨#[40]⟩)++AB 0 a.args ++ ⟨#[41]⟩
theorem Ep(x:ByteArray):x ++ ⟨#[]⟩=x:=by show x++bJ=x;simp
theorem It(x:ByteArray):(⟨#[]⟩:ByteArray)++x=x:=by show bJ++x=x;simp
def s7(K:Nat)(a:Am):Prop:=a.rel.size<=K/\∀t∈a.args,t.name.size<=K
def yT(K:Nat)(r:Rl):Prop:=s7 K r.head/\∀a∈r.body,s7 K a
theorem sp(K:Nat):∀(us:List RT) (d:List ByteArray) (L:List Tm) (ak:List ByteArray) (n:Nat),(∀u∈us,u.text.size<=K)->eH d us=aV (L,ak,n)->∀t∈L,t.name.size<=K
 |[],d,L,ak,n,_,h=>by simp[eH] at h
 |[a],d,L,ak,n,_,h=>by simp[eH] at h
 |a::b::us,d,L,ak,n,hu,h=>by
  have A:(ij d a).name.size<=K:=by
   unfold ij;split;{exact zz};{grind}
  unfold eH at h;split at h;{grind}
  .cases hr:eH (iL d a) us with
   |none=>rw[hr] at h;simp at h
   |some r=>
    have⟨l',v',n'⟩:=r;rw[hr] at h;simp only[Option.some.injEq,Prod.mk.injEq] at h;obtain⟨rfl,rfl,rfl⟩:=h;have C:=sp K us _ _ _ _ (λu aq=>hu u (zt (zt aq))) hr;intro t z;rcases bC.1 z with rfl|z
    .exact A
    .grind
theorem B0(K:Nat):∀(n f:Nat) (us:List RT) (E:List ByteArray) (z:List Am) (m:Nat),aB us<=n->(∀u∈us,u.text.size<=K)->jq f E us=aV (z,m)->∀a∈z,s7 K a
 |n,f,us,E,z,m,hn,hu,h=>by
  obtain⟨t,et,rfl,⟨_,rfl,_⟩|⟨_,r,p,d,l,G,k,f',M,m',rfl,O,Z,rfl,_⟩⟩:=vA h;{grind}
  .cases n with
   |zero=>simp at hn
   |succ n=>
    have A:∀u∈d,u.text.size<=K:=λu aq=>hu u (zt (zt (zt aq)));have ih:=B0 K n f' (d.drop k) G M m' (by simp at hn ⊢;omega) (λu aq=>A u (aZ aq)) Z;intro a C;rcases bC.1 C with rfl|C
    .exact⟨hu r (zt zs),sp K d _ _ _ _ A O⟩
    .grind
theorem zu(K:Nat):∀(n f:Nat) (us:List RT) (rs:List Rl),aB us<=n->(∀u∈us,u.text.size<=K)->ju f us=aV rs->∀r∈rs,yT K r
 |n,f,us,rs,hn,hu,h=>by
  obtain⟨t,et,rfl,⟨_,rfl⟩|⟨_,p,d,l,vs,k,Z,m,f',E,rfl,G,M,O,rfl⟩⟩:=uy h;{grind}
  .cases n with
   |zero=>simp at hn
   |succ n=>
    have z:∀u∈d,u.text.size<=K:=λu aq=>hu u (zt (zt aq));have A:∀u∈d.drop k,u.text.size<=K:=λu aq=>z u (aZ aq);have ih:=zu K n f' ((d.drop k).drop (m+1)) E (by simp at hn ⊢;omega) (λu aq=>A u (aZ aq)) O;intro r C;rcases bC.1 C with rfl|C
    .exact⟨⟨hu t zs,sp K d _ _ _ _ z G⟩,B0 K _ _ _ _ _ _ zl A M⟩
    .grind
theorem JV(l:List Rn)(h:∀r∈l,r.text.size<=4):(gO l).size<=4*aB l:=by
 induction l with
 |nil=>exact Nat.le_refl 0
 |cons x l ih=>grind [gO]
theorem IP(l:List Rn):∀r∈tw l,r∈l:=λr d=>by rw[nZ] at d;exact List.mem_of_mem_take d
theorem tN:∀(f:Nat) (l:List Rn) (i:Nat),(∀r∈l,r.text.size<=4)->∀t∈dL f l i,t.text.size<=4*aB l
 |0,l,i,_,t,d=>by simp[dL] at d
 |f+1,[],i,_,t,d=>by simp[dL] at d
 |f+1,r::l,i,h,t,d=>by
  have O:=h r zs;have A:∀x∈l,x.text.size<=4:=λx z=>h x (zt z);have M:=JV (tw l) (λx z=>A x (IP l x z));have G:=tJ l;have C:=tN f (l.drop (aB (tw l))) (i+(1+aB (tw l))) (λx z=>A x (aZ z)) t;have Z:=tN f l (i+1) A t;have E:=tN f (l.drop 1) (i+2) (λx z=>A x (aZ z)) t;rw[bI] at C E;simp only[bE];unfold dL at d;split at d;{grind}
  .split at d;{grind}
   .split at d
    .rcases bC.1 d with rfl|d
     .show (0:Nat)<=_;omega
     .grind
    .grind
theorem uM(s:ByteArray)(A:aB (R s 0)<=300):∀t∈Q3 s,t.text.size<=1200:=by
 intro t d;unfold Q3 at d;rcases List.mem_append.1 d with d|d
 .have:=tN _ _ _ (λr z=>(sD s s.size 0 (by omega) r z).2) t d;omega
 .simp at d;subst d;exact zz
theorem CI(s:ByteArray)(rs:List Rl)(h:gv s=.ok rs):∀r∈rs,yT 1200 r:=by
 unfold gv at h;split at h
 .cases h
 .rename_i A;split at h;{cases h}
  .split at h;{cases h}
   .rename_i z d;split at h;{cases h};{injection h with h;subst h;exact zu 1200 _ _ _ _ zl (uM s (by omega)) d}
def AU:Nat->List Am->ByteArray
 |_,[]=>⟨#[]⟩
 |i,a::l=>(if i=0 then ⟨#[32,58,45,32]⟩ else ⟨#[44,32]⟩)++yk a++AU (i+1) l
def CG(r:Rl):ByteArray:=yk r.head++AU 0 r.body ++ ⟨#[46,10]⟩
def yf:List Rl->ByteArray
 |[]=>⟨#[]⟩
 |r::l=>CG r++yf l
def JT(s:ByteArray):ByteArray×Int×Nat:=
 match gv s with
 |.error (c,p)=>(⟨#[]⟩,c,p)
 |.ok rs=>(yf rs,0,0)
theorem tH(s:ByteArray)(c:Int)(p:Nat)(h:gv s=.error (c,p)):c≠0:=by
 unfold gv at h;split at h
 .grind
 .split at h;{grind}
  .rename_i d;have⟨rs,b7,_,_⟩:=tf (aB (Q3 s)+1) (Q3 s) (fA false) (by omega) rfl rfl rfl (sj s) (by unfold jG;simpa using d) (by decide);rw[b7] at h;simp only at h;split at h;{grind};{cases h}
structure Gr where
 rel:ByteArray
 args:List ByteArray
def qv(W:Wq)(v:Vq)(l:List ByteArray):Prop:=aE W 0 9 1 v (aB l) (l.map aI)
def jX(p:Gr×Vq):List Vq:=[aI p.1.rel,p.2]
theorem C3(p:Gr×Vq):aB (jX p)=2:=rfl
def lM(p:Gr×Vq):Vq:=aJ #[aI p.1.rel,p.2]
structure gM(W:Wq)(v:Vq)(ps:List (Gr×Vq)):Prop where
 row:aE W 0 226 2 v (aB ps) (ps.flatMap jX)
 each:∀p∈ps,qv W p.2 p.1.args
theorem qv.below{v:Vq}{l:List ByteArray}(h:qv W v l)(d:bT W.heap.size W W'):qv W' v l:=qj h d
theorem gM.below{v:Vq}{ps:List (Gr×Vq)}(h:gM W v ps)(d:bT W.heap.size W W'):gM W' v ps:=⟨qj h.row d,λp z=>(h.each p z).below d⟩
theorem qv.cell{v:Vq}{l:List ByteArray}(h:qv W v l)(j:Nat)(z:j<aB l):∃g d,v=Sc g (aB l) d/\g<W.heap.size/\aC W (Ad g j)=aV (St l[j]):=by grind [qv,sW,iI,tu]
theorem gM.cell{v:Vq}{ps:List (Gr×Vq)}(h:gM W v ps)(k:Nat)(z:k<aB ps):∃g d,v=Sc g (aB ps) d/\g<W.heap.size/\aC W (Ad g (k*2))=aV (St ps[k].1.rel)/\aC W (Ad g (k*2+1))=aV ps[k].2/\(∃a c,ps[k].2=aH a (aB ps[k].1.args) c)/\qv W ps[k].2 ps[k].1.args:=by have⟨g,d,e1,e2,e3,e4,e5⟩:=iI h.row C3 (by omega);have A:=h.each ps[k] (zm z);exact⟨g,d,e1,e3,e5 k 0 z _ (by decide) rfl,e5 k 1 z _ (by decide) rfl,qe A,A⟩
theorem Ez{x y:ByteArray}(h:x.toList=y.toList):x=y:=by grind [ByteArray.toList_eq,bQ,Array.toList_inj.1]
theorem oh(x y:ByteArray):(x.toList == y.toList)=decide (x=y):=by grind [Ez]
def kG:List ByteArray->List ByteArray->Bool
 |[],[]=>true
 |x::l,y::m=>(x.toList == y.toList) && kG l m
 |_,_=>false
def jt(a b:Gr):Bool:=(a.rel.toList == b.rel.toList) && kG a.args b.args
theorem xi:∀(l m:List ByteArray),kG l m=true↔l=m
 |[],[]=>by simp[kG]
 |[],y::m=>by simp[kG]
 |x::l,[]=>by simp[kG]
 |x::l,y::m=>by simp only[kG,Bool.and_eq_true,oh,decide_eq_true_eq,xi l m,List.cons.injEq]
theorem AO(a b:Gr):jt a b=true↔a=b:=by have⟨r,l⟩:=a;have⟨q,m⟩:=b;simp only[jt,Bool.and_eq_true,oh,decide_eq_true_eq,xi,Gr.mk.injEq]
theorem IW(l m:List ByteArray)(h:aB l≠m.length):kG l m=false:=by grind [kG,xi]
theorem xx(p q:Gr×Vq)(w:Wq)(hp:qv w p.2 p.1.args)(hq:qv w q.2 q.1.args)(hl:aB p.1.args<=1000000):Cs 118 #[lM p,lM q] w λe w'=>e=aO (aK (jt p.1 q.1))/\bT w.heap.size w w':=by
 have⟨⟨r1,l1⟩,v1⟩:=p;have⟨⟨r2,l2⟩,v2⟩:=q;unfold lM;simp only at hp hq hl ⊢;obtain⟨a1,c1,rfl⟩:=qe hp;obtain⟨a2,c2,rfl⟩:=qe hq;have A:Hid (∀O z,bT w.heap.size w ((w.alloc O).alloc z)):=λO z=>((bB _ w).alloc zl O).alloc (by simp) z;have el:Hid (∀(O z:Obj) (j:Nat) (G:j<aB l1),∃g,a1=aV ⟨g,0,aW⟩/\aC ((w.alloc O).alloc z) (Ad g j)=aV (St l1[j])):=by intro O z j G;have⟨g,cap,C,hg,hc⟩:=hp.cell j G;cases C;exact⟨g,rfl,(bD (A.o O z) hg).trans hc⟩
 have em:Hid (∀(O z:Obj) (j:Nat) (G:j<aB l2),∃g,a2=aV ⟨g,0,aW⟩/\aC ((w.alloc O).alloc z) (Ad g j)=aV (St l2[j])):=by intro O z j G;have⟨g,cap,C,hg,hc⟩:=hq.cell j G;cases C;exact⟨g,rfl,(bD (A.o O z) hg).trans hc⟩
 clear hp hq;have hS:jt ⟨r1,l1⟩ ⟨r2,l2⟩=((r1.toList == r2.toList) && kG l1 l2):=rfl;rw[hS];clear hS
 cases hr:(r1.toList == r2.toList) with
 |false=>go_enter Tryz.func118,Tryz.ntmps118;go_wp2;go_ret;exact⟨by simp,A.o _ _⟩
 |true=>
  by_cases E:aB l1=aB l2
  .have Z:((aB l1:Int) == (aB l2:Int))=true:=by{simp[E]};obtain⟨n,M⟩:∃n,aB l2=n:=⟨_,rfl⟩;have dl:=aA M;have dq:Hid (aB l1=n):=E.trans M;have C:aB l1=n:=E.trans M;rw[C] at hl ⊢;rw[M];clear Z E M C;go_enter Tryz.func118,Tryz.ntmps118;go_wp2
   go_loopw [5] (λx wr=>∃k:Nat,x=aM aP k/\k<=n/\(∃d,wr=(((w.alloc (aN #[aI r1,aH a1 n c1] 226)).alloc (aN #[aI r2,aH a2 n c2] 226))).drewN d)/\Hid (kG (l1.drop k) (l2.drop k)=kG l1 l2)) (λx _=>n-(intOf x).toNat)
   case atStart=>exact⟨0,rfl,zz,⟨0,rfl⟩,rfl⟩
   case round=>
    obtain⟨k,rfl,cq,⟨d,rfl⟩,aa⟩:=hrel;by_cases ah:k<n
    .have d8:k<aB l1:=by{rw[dq.o];exact ah};have c4:k<aB l2:=by{rw[dl.o];exact ah};obtain⟨g1,rfl,d1⟩:=el.o (aN #[St r1,aH a1 n c1] 226) (aN #[St r2,aH a2 n c2] 226) k d8;obtain⟨g2,rfl,d2⟩:=em.o (aN #[St r1,Sc g1 n c1] 226) (aN #[St r2,aH a2 n c2] 226) k c4;rw[aX d8,aX c4] at aa;simp only[kG] at aa;generalize l1[k]=x at *;generalize l2[k]=y at *
     cases hxy:(x.toList == y.toList) with
     |true=>
      rw[hxy] at aa;simp only[Bool.true_and] at aa;go_wp2;go_quiet (fail);go_wp2
      go_roundw
      case rel=>exact⟨k+1,by go_num,by omega,⟨_,rfl⟩,aa⟩
      case measure=>simp[intOf];omega
     |false=>rw[hxy] at aa;simp only[Bool.false_and] at aa;go_wp2;go_quiet (fail);go_wp2;go_ret;rw[<-aa.o];exact⟨by simp,qy (qy (A.o _ _))⟩
    .have Z:l1.drop k=[]:=aY (by rw[dq.o];omega);have h2:l2.drop k=[]:=aY (by rw[dl.o];omega);rw[Z,h2] at aa;go_wp2;go_ret;rw[<-aa.o];exact⟨by simp[kG],qy (A.o _ _)⟩
  .have hs:=IW l1 l2 E;rw[hs];have Z:((aB l1:Int) == (aB l2:Int))=false:=by{simp;omega};have h2:((aB l1:Int) != (aB l2:Int))=true:=by{simp;omega};go_enter Tryz.func118,Tryz.ntmps118;go_wp2;go_ret;exact⟨by simp,A.o _ _⟩
def mr(l:List Gr)(g:Gr):Bool:=l.any (λx=>jt x g)
theorem yx(v:Vq)(ps:List (Gr×Vq))(q:Gr×Vq)(w:Wq)(hp:gM w v ps)(O:qv w q.2 q.1.args)(hl:aB ps<=1000000)(ha:∀p∈ps,aB p.1.args<=1000000):Cs 122 #[v,lM q] w λe w'=>e=aO (aK (mr (ps.map (·.1)) q.1))/\bT w.heap.size w w':=by
 obtain⟨pa,pc,rfl⟩:=qe hp.row;have⟨⟨r2,l2⟩,v2⟩:=q;unfold lM;simp only at O ⊢;obtain⟨a2,z,rfl⟩:=qe O;obtain⟨N,hN⟩:∃N,N=w.heap.size:=⟨_,rfl⟩;have E:=hN.symm;obtain⟨W0,M⟩:∃W0,W0=w.alloc (aN #[St r2,aH a2 (aB l2) z] 226):=⟨_,rfl⟩;have dn:W0.heap.size=N+1:=by rw[M];simp[E]
 have G:bT N w W0:=by rw[M];exact (bB _ w).alloc (by omega) _
 have dr:W0.heap[N]?=cC #[St r2,aH a2 (aB l2) z] 226:=by rw[M,<-E];exact zn w _
 have ea:gM W0 (aH pa (aB ps) pc) ps:=hp.below (by rw[E];exact G);have dp:qv W0 (aH a2 (aB l2) z) l2:=qv.below O (by rw[E];exact G);have HP:Hid (gM W0 (aH pa (aB ps) pc) ps):=ea;have HQ:Hid (qv W0 (aH a2 (aB l2) z) l2):=dp;have dw:Hid (bT N w W0):=G;have es:Hid _:=dr;have bn:Hid (W0.heap.size=N+1):=dn;rw[<-hN];clear hp O hN ea dp G dr dn;go_enter Tryz.func122,Tryz.ntmps122;go_wp2
 go_loopw [5] (λx wr=>∃k:Nat,x=aM aP k/\k<=aB ps/\bT (N+1) W0 wr/\Hid (mr ((ps.drop k).map (·.1)) ⟨r2,l2⟩=mr (ps.map (·.1)) ⟨r2,l2⟩)) (λx _=>aB ps-(intOf x).toNat)
 case atStart=>exact⟨0,rfl,zz,by rw[M];exact zr,rfl⟩
 case round=>
  obtain⟨k,rfl,cq,C,aa⟩:=hrel;have A:bT W0.heap.size W0 wr:=by rw[bn.o];exact C
  have Z:=C.size;rw[bn.o] at Z;by_cases ah:k<aB ps
  .have⟨g,cap,e1,hg,d0,d1,⟨x1,x2,hx⟩,hS⟩:=(HP.o.below A).cell k ah;cases e1;have c5:wr.heap[N]?=cC #[St r2,aH a2 (aB l2) z] 226:=(C.block N (by omega)).trans es.o;have b0:aC wr (Ad N 0)=aV (St r2):=zc c5;have b1:aC wr (Ad N 1)=aV (aH a2 (aB l2) z):=zc c5;have dj:Hid (∀d,Cs 118 #[aJ #[St ps[k].1.rel,ps[k].2],aJ #[St r2,aH a2 (aB l2) z]] (wr.drewN d) λe w'=>e=aO (aK (jt ps[k].1 ⟨r2,l2⟩))/\bT (N+1) W0 w'):=by intro d;have hb:=xx ps[k] (⟨r2,l2⟩,aH a2 (aB l2) z) (wr.drewN d) (hS.below (qy (bB _ wr))) ((qv.below HQ.o A).below (qy (bB _ wr))) (ha ps[k] (zm ah));refine hb.mono ?_;rintro e w' ⟨rfl,cp⟩;exact⟨rfl,(qy C).trans (cp.mono (by show N+1<=wr.heap.size;omega))⟩
   rw[aX ah,bF] at aa;have bk:Hid ((jt ps[k].1 ⟨r2,l2⟩ || mr ((ps.drop (k+1)).map (·.1)) ⟨r2,l2⟩)=mr (ps.map (·.1)) ⟨r2,l2⟩):=aa;rw[hx] at d1 dj;generalize jt ps[k].1 ⟨r2,l2⟩=sb at *;generalize ps[k].1.rel=pr at *;generalize (aB ps[k].1.args)=pl at *;have af:Hid (bT (N+1) W0 wr):=C;clear C A hS hx aa c5;go_wp2
   go_region_with (go_at_call 118;refine (dj.o 1).mono ?_;rintro e w2 ⟨rfl,ae⟩)
   all_goals
    cases sb with
    |true=>go_wp2;go_ret;rw[<-bk.o];exact⟨by simp,dw.o.trans (ae.mono (by omega))⟩
    |false=>
     go_wp2
     go_roundw
     case rel=>exact⟨k+1,by go_num,by omega,ae,by simpa using bk⟩
     case measure=>simp[intOf];omega
  .rw[aY (by omega)] at aa;go_wp2;go_ret;rw[<-aa.o];exact⟨by simp[mr],dw.o.trans (C.mono (by omega))⟩
