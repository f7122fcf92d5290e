/- A part -/
import Derived.Test.YtjajnhemgphefaaGreatDoorKRefR
set_option linter.all false
set_option maxRecDepth 100000
set_option maxHeartbeats 16000000
namespace Go.Proofs.YtjajnhemgphefaaGreatDoor
open Go renaming World->Wq,Value->Vq
open Go.RowKit Go.Shelf
variable {l:Lk} {t:RT} {us:List RT}
theorem q2b(v:Vq)(qs:List (Rl×Vq×Vq))(w:Wq)(hR:qag w v qs)(ak:qkf qs) :
  Cs 110 #[v] w λe w'=>e=.returned (.tuple #[Ii (qbg (qs.map (·.1))).1,Ii (qbg (qs.map (·.1))).2])/\Below w.heap.size w w':=by
 obtain⟨N,hN⟩:∃N,N=w.heap.size:=⟨_,rfl⟩;have a9:=hN.symm;obtain⟨va,vc,hv⟩:=qd hR.row;rw[<- hN];have HR:Hid (qag w v qs):=hR;subst hv;clear hR hN;have cz:=ak.few;have bc:Hid (qkf qs):=ak;clear ak;obtain⟨A,hA⟩:∃A,A=qap (qs.map (·.1)):=⟨_,rfl⟩
 have cd:Hid (∀(rel:By) (W:Wq),Below N w W->Cs 117 #[.slice va qs.length vc,St rel] W λe w'=>e=.returned (Ii (qac A rel))/\Below N w w'/\Below W.heap.size W w'):=by
  intro rel W hW;refine (qhu (.slice va qs.length vc) qs rel W (HR.out.below (by rw[a9];exact hW)) cz bc.out.body).mono ?_;rintro e w' ⟨rfl,hb⟩;rw[qmt,<- hA];exact⟨rfl,hW.trans (hb.mono (by have:=hW.size;omega)),hb⟩
 generalize hS:qbg (qs.map (·.1))=S at *
 have bt:Hid (match qa9 (qb5 A) (qs.map (·.1)) 0 with
  | some i=>S=(4,i)
  | none=>match qa9 qdz (qs.map (·.1)) 0 with
   | some i=>S=(5,i)
   | none=>match qaz [] (qs.map (·.1)) 0 with
    | some i=>S=(3,i)
    | none=>S=(0,0)):=by
  rw[hA,<- hS];unfold qbg
  cases qa9 (qb5 (qap (qs.map (·.1)))) (qs.map (·.1)) 0 with
  | some i=>rfl
  | none=>
   cases qa9 qdz (qs.map (·.1)) 0 with
   | some i=>rfl
   | none=>cases qaz [] (qs.map (·.1)) 0 <;> rfl
 clear hS hA;go_enter Tryz.func110,Tryz.ntmps110;go_wp2
 go_loopw [4] (λp wr=>∃i:Nat,p=.int .i64 i/\i<=qs.length/\Below N w wr/\Hid (qa9 (qb5 A) ((qs.drop i).map (·.1)) i=qa9 (qb5 A) (qs.map (·.1)) 0)) (λp _=>qs.length - (intOf p).toNat)
 case atStart=>exact⟨0,rfl,zz,zr,rfl⟩
 case round=>
  obtain⟨i,rfl,b9,aa,ac⟩:=hrel;by_cases ai:i < qs.length
  .obtain⟨g,ps,rfl,hg,c0,c1,c2,hA,a6,an,b5,⟨a1,a2,am⟩,⟨b1,b2,aj⟩,ag⟩:=qql (HR.out.below (by rw[a9];exact aa)) i ai bc.out;have a8:N<=wr.heap.size:=by have:=aa.size;omega
   have bd:=qmy qs[i] ps wr hA an (by omega);rw[List.drop_eq_getElem_cons ai,List.map_cons] at ac;simp only[qa9] at ac
   have ch:qb5 A qs[i].1=((qs[i].1.head,qs[i].2.1)::ps).any (λp=>qg4 A p.1):=by
    unfold qb5 qx;rw[<- a6,List.any_cons,List.any_cons,List.any_map];rfl
   rw[ch] at ac;unfold rlV at bd;rw[am] at c1 bd ag ac;rw[aj] at c2 bd;clear ch a6;generalize qs[i]=q at *;generalize q.1.head.rel=hrl at *;generalize hq:((q.1.head,Value.slice a1 q.1.head.args.length a2)::ps)=qp at *;have Qei:qp.length<=901:=by rw[<- hq];simp;omega
   have ae:Hid (Below N w wr):=aa;clear aa hq hA an am aj;go_wp2_with fail;refine bd.mono ?_;rintro e W1 ⟨vp,rfl,ap,cc⟩;have cf:Below N w W1:=ae.out.trans (cc.mono a8);obtain⟨pa,pc,cr⟩:=qd ap.row;subst cr;have bf:Hid (Qz W1 (.slice pa qp.length pc) qp):=ap;have b8:Hid (Below N w W1):=cf;clear ap cc cf bd c0 c1 c2;go_wp2
   go_loopw [6] (λp wr=>∃k:Nat,p=.int .i64 k/\k<=qp.length/\Below N w wr/\Qz wr (.slice pa qp.length pc) qp/\Hid ((qp.drop k).any (λp=>qg4 A p.1)=qp.any (λp=>qg4 A p.1))) (λp _=>qp.length - (intOf p).toNat)
   case atStart=>exact⟨0,rfl,zz,b8.out,bf.out,rfl⟩
   case round=>
    clear bf b8 ae;obtain⟨k,rfl,cy,aa,ap,ad⟩:=hrel;by_cases au:k < qp.length
    .obtain⟨g2,cu,e2,cx,d0,d1,⟨x1,x2,hx⟩,_⟩:=ap.cell k au;cases e2;rw[hx] at d1;have c5:=(ag qp[k] (zm au)).2.1;rw[List.drop_eq_getElem_cons au] at ad;simp only[List.any_cons] at ad;have cl:=cd.out qp[k].1.rel wr aa;generalize qp[k]=pk at *;have Qdb:qg4 A pk.1=decide (qac A pk.1.rel≠pk.1.args.length):=rfl;generalize qac A pk.1.rel=ar at *;generalize qg4 A pk.1=ab at *;generalize pk.1.rel=pr at *;generalize pk.1.args.length=al at *;have bf:Hid (Qz wr (Sc g2 qp.length pc) qp):=ap;clear ap hx;have ae:Hid (Below N w wr):=aa;clear aa;go_wp2_with fail;refine cl.mono ?_;rintro e w2 ⟨rfl,ah,aq⟩;have dd:w2.cell? (Ad g2 (k*2+1))=some (.slice x1 al x2):=(Below.cell aq cx).trans d1;have cn:=bf.out.below aq;clear cl aq d0 d1;by_cases cj:ar=al
     .subst cj;have b0:ab=false:=by rw[Qdb];simp
      rw[b0] at ad;go_wp2
      go_roundw
      case rel=>exact⟨k+1,by go_num,by omega,ah,cn,by simpa using ad⟩
      case measure=>simp[intOf];omega
     .have b0:ab=true:=by rw[Qdb];simpa using cj
      rw[b0] at ad;have b4:qp.any (λp=>qg4 A p.1)=true:=by rw[<- ad.out];simp
      rw[b4,if_pos rfl] at ac
      have q7:Hid (S=(4,i)):=by
       have h:=bt.out;rw[<- ac.out] at h;exact h
      have m1:((ar:Int) == (al:Int))=false:=by simp;omega
      have m2:((ar:Int) != (al:Int))=true:=by simp;omega
      go_wp2;go_ret2;rw[q7.out];exact⟨rfl,ah⟩
    .rw[List.drop_eq_nil_of_le (by omega)] at ad;simp only[List.any_nil] at ad;rw[<- ad.out,if_neg (by simp)] at ac;have ae:Hid (Below N w wr):=aa;clear ap aa;go_wp2
     go_roundw
     case rel=>exact⟨i+1,by go_num,by omega,ae.out,ac⟩
     case measure=>simp[intOf];omega
  .rw[List.drop_eq_nil_of_le (by omega)] at ac;have h1:qa9 (qb5 A) (qs.map (·.1)) 0=none:=by rw[<- ac.out];rfl
   have bq:Hid (match qa9 qdz (qs.map (·.1)) 0 with
     | some i=>S=(5,i)
     | none=>match qaz [] (qs.map (·.1)) 0 with
      | some i=>S=(3,i)
      | none=>S=(0,0)):=by
    have h:=bt.out;rw[h1] at h;exact h
   have ae:Hid (Below N w wr):=aa;clear bt h1 aa ac cd;go_wp2
   go_loopw [8] (λp wr=>∃i:Nat,p=.int .i64 i/\i<=qs.length/\Below N w wr/\Hid (qa9 qdz ((qs.drop i).map (·.1)) i=qa9 qdz (qs.map (·.1)) 0)) (λp _=>qs.length - (intOf p).toNat)
   case atStart=>exact⟨0,rfl,zz,ae.out,rfl⟩
   case round=>
    clear ae;obtain⟨i,rfl,b9,aa,ac⟩:=hrel;by_cases ai:i < qs.length
    .obtain⟨g,ps,rfl,hg,c0,c1,c2,hA,a6,an,b5,⟨a1,a2,am⟩,⟨b1,b2,aj⟩,ag⟩:=qql (HR.out.below (by rw[a9];exact aa)) i ai bc.out;rw[List.drop_eq_getElem_cons ai,List.map_cons] at ac;simp only[qa9] at ac;have ci:qdz qs[i].1=qs[i].1.head.args.any (qgr qs[i].1.body):=rfl;rw[ci] at ac;have cp:=(ag _ zs).2.1;simp only at cp;rw[am] at c1;have ca:Hid _:=ac;have ae:Hid (Below N w wr):=aa;clear ci ac aa hA an ag a6 am aj c0 c2 b5;go_wp2
     go_loopw [9] (λp wr=>∃k:Nat,p=.int .i64 k/\k<=qs[i].1.head.args.length/\Below N w wr/\Hid ((qs[i].1.head.args.drop k).any (qgr qs[i].1.body)=qs[i].1.head.args.any (qgr qs[i].1.body))) (λp _=>qs[i].1.head.args.length - (intOf p).toNat)
     case atStart=>exact⟨0,rfl,zz,ae.out,rfl⟩
     case round=>
      clear ae c1;obtain⟨k,rfl,cy,aa,ad⟩:=hrel;obtain⟨g',ps,e',hg,c0,c1,c2,hA,a6,an,b5,⟨a1,a2,am⟩,⟨b1,b2,aj⟩,ag⟩:=qql (HR.out.below (by rw[a9];exact aa)) i ai bc.out
      cases e'
      have a8:N<=wr.heap.size:=by have:=aa.size;omega
      by_cases au:k < qs[i].1.head.args.length
      .obtain⟨g3,be,e3,c3,f0,f1⟩:=hA.cell k au;simp only at e3 f0 f1;have b7:=(ag _ zs).2.2 _ (zm au);rw[List.drop_eq_getElem_cons au] at ad;simp only[List.any_cons] at ad;rw[e3] at c1;rw[aj] at c2
       have cb:Hid (∀X,Below wr.heap.size wr X->Cs 179 #[.agg #[St qs[i].1.head.rel,Sc g3 qs[i].1.head.args.length be,.slice b1 ps.length b2],Ii qs[i].1.head.args[k].num] X λe w'=>e=.returned (.bool (qy qs[i].1.body qs[i].1.head.args[k].num))/\Below N w w'/\Below X.heap.size X w'):=by
        intro X bh;have hb:=q0o qs[i] ps qs[i].1.head.args[k].num X (an.below bh) (hA.kept (Kp.ofBelow (S:=0) bh)) a6 (by omega) b7 (λp hp=>⟨by have:=(ag p (zt hp)).2.1;omega,(ag p (zt hp)).2.2⟩);unfold rlV at hb;rw[e3,aj] at hb;refine hb.mono ?_;rintro e w' ⟨rfl,ck⟩;refine⟨rfl,?_,ck⟩;exact (aa.trans (bh.mono a8)).trans (ck.mono (by have:=bh.size;omega))
       have Qdt:g≠wr.heap.size:=by omega
       have Qhx:g3≠wr.heap.size:=by omega
       have c9:∀O,(wr.alloc O).cell? (Ad g (i*3))=some (St qs[i].1.head.rel):=λO=>(Below.cell ((Below.refl wr.heap.size wr).alloc zl O) hg).trans c0;have db:∀O,(wr.alloc O).cell? (Ad g (i*3+1))=some (Sc g3 qs[i].1.head.args.length be):=λO=>(Below.cell ((Below.refl wr.heap.size wr).alloc zl O) hg).trans c1;have c4:∀O,(wr.alloc O).cell? (Ad g (i*3+2))=some (.slice b1 ps.length b2):=λO=>(Below.cell ((Below.refl wr.heap.size wr).alloc zl O) hg).trans c2;have ae:Hid (Below N w wr):=aa;clear aa hA an ag am aj e3 a6;have ce:qgr qs[i].1.body qs[i].1.head.args[k]=(qs[i].1.head.args[k].name.toList.isEmpty && !qy qs[i].1.body qs[i].1.head.args[k].num):=rfl;rw[ce] at ad;clear ce;generalize qy qs[i].1.body qs[i].1.head.args[k].num=bb at *;generalize qs[i].1.head.args[k].num=nu at *;generalize qs[i].1.head.args[k].name=nm at *;generalize qs[i].1.head.rel=rl at *;have hX:Hid (∀(O:Obj),Below wr.heap.size wr (wr.alloc O).drew):=λO=>((Below.refl _ wr).alloc zl O).drew;go_wp2
       go_region_with (go_at_call 179;refine (cb.out _ (hX.out _)).mono ?_;rintro e w2 ⟨rfl,ah,aq⟩)
       all_goals
        have da:w2.cell? (Ad wr.heap.size 0)=some (St nm):=by
         rw[Below.cell aq (by show wr.heap.size < (wr.alloc _).heap.size;simp)];show (wr.alloc (.cells #[St nm,Ii nu] 215)).cell? (Ad wr.heap.size 0)=_;simp
        clear cb aq
        cases h1:nm.toList.isEmpty with
        | false=>
         rw[h1] at ad;go_wp2
         go_roundw
         case rel=>exact⟨k+1,by go_num,by omega,ah,by simpa using ad⟩
         case measure=>simp[intOf];omega
        | true=>
         rw[h1] at ad
         cases bb with
         | true=>
          go_wp2
          go_roundw
          case rel=>exact⟨k+1,by go_num,by omega,ah,by simpa using ad⟩
          case measure=>simp[intOf];omega
         | false=>
          have b4:qs[i].1.head.args.any (qgr qs[i].1.body)=true:=by rw[<- ad.out];simp
          have q7:Hid (S=(5,i)):=by
           have h:=bq.out;have h2:=ca.out;rw[b4,if_pos rfl] at h2;rw[<- h2] at h;exact h
          go_wp2;go_ret2;rw[q7.out];exact⟨rfl,ah⟩
      .rw[List.drop_eq_nil_of_le (by omega)] at ad;simp only[List.any_nil] at ad;have bu:=ca.out;rw[<- ad.out,if_neg (by simp)] at bu;have bo:Hid _:=bu;have ae:Hid (Below N w wr):=aa;rw[am] at c1;clear aa hA an ag am aj ad bu c0 c2;go_wp2
       go_roundw
       case rel=>exact⟨i+1,by go_num,by omega,ae.out,bo⟩
       case measure=>simp[intOf];omega
    .rw[List.drop_eq_nil_of_le (by omega)] at ac;have h1:qa9 qdz (qs.map (·.1)) 0=none:=by rw[<- ac.out];rfl
     have bo:Hid (match qaz [] (qs.map (·.1)) 0 with
        | some i=>S=(3,i)
        | none=>S=(0,0)):=by
      have h:=bq.out;rw[h1] at h;exact h
     have ae:Hid (Below N w wr):=aa;clear bq h1 aa ac;go_wp2
     go_loopw [12] (λp wr=>∃i:Nat,p=.int .i64 i/\i<=qs.length/\Below N w wr/\Hid (qaz (nmL [] (Qp (Qt (qs.take i)))) ((qs.drop i).map (·.1)) i=qaz [] (qs.map (·.1)) 0)) (λp _=>qs.length - (intOf p).toNat)
     case atStart=>exact⟨0,rfl,zz,ae.out,rfl⟩
     case round=>
      clear ae;obtain⟨i,rfl,b9,aa,ac⟩:=hrel;by_cases ai:i < qs.length
      .have bk:=HR.out.below (by rw[a9];exact aa);obtain⟨g,cap,e1,hg,_⟩:=bk.cell i ai;cases e1
       have cv:qs.length<=vc:=by
        obtain⟨_,⟨hv,hn⟩ | ⟨g',co,c7,hv,hb,hw,h1,_⟩⟩:=bk.row
        .cases hv
        .cases hv;exact h1
       have ax:(qs.take (i+1)).length=i+1:=by rw[List.length_take];omega
       have a7:=bc.out.take (i+1);have bj:=qso (Sc g (i+1) vc) (qs.take (i+1)) wr (qag.take (n:=0) bk (i+1) (by omega)) a7.few a7.body a7.tms (λa ha=>(a7.args a ha).1);have a8:N<=wr.heap.size:=by have:=aa.size;omega
       rw[List.drop_eq_getElem_cons ai,List.map_cons] at ac;simp only[qaz] at ac;rw[<- qp8,<- q1g ai] at ac;have cg:=(qty (Qp (Qt (qs.take (i+1)))) []).2;have cm:=a7.tms;generalize hnle:nmL [] (Qp (Qt (qs.take (i+1))))=nl at *;have cw:Hid (nmL [] (Qp (Qt (qs.take (i+1))))=nl):=hnle;clear hnle;have de:nl.length<=100000:=by simp at cg;omega
       have dc:(i:Int)+1<=(vc:Int):=by omega
       have Qh2:i+1<=vc:=by omega
       have ae:Hid (Below N w wr):=aa;clear aa bk a7 ax cg cm;by_cases h8:8 < nl.length
       .rw[if_pos h8] at ac
        have q7:Hid (S=(3,i)):=by
         have h:=bo.out;rw[<- ac.out] at h;exact h
        go_wp2_with fail;refine bj.mono ?_;rintro e w2 ⟨v2,rfl,az⟩;obtain⟨na,nc,rfl⟩:=qd az.own;have ah:Below N w w2:=ae.out.trans (az.below.mono a8);clear az bj;go_wp2;go_ret2;rw[q7.out];exact⟨rfl,ah⟩
       .rw[if_neg h8] at ac;go_wp2_with fail;refine bj.mono ?_;rintro e w2 ⟨v2,rfl,az⟩;obtain⟨na,nc,rfl⟩:=qd az.own;have ah:Below N w w2:=ae.out.trans (az.below.mono a8);clear az bj;go_wp2
        go_roundw
        case rel=>exact⟨i+1,by go_num,by omega,ah,by rw[cw.out];exact ac⟩
        case measure=>simp[intOf];omega
      .rw[List.drop_eq_nil_of_le (by omega)] at ac;have h1:qaz [] (qs.map (·.1)) 0=none:=by rw[<- ac.out];rfl
       have q7:Hid (S=(0,0)):=by
        have h:=bo.out;rw[h1] at h;exact h
       go_wp2;go_ret2;rw[q7.out];exact⟨rfl,aa⟩
def okO(l:Lk)(ts:List RT):Prop:=(Qw l ts).1=0
def qef(ts:List RT):Prop:=∃pre E,ts=pre++[E]/\E.kind=4
theorem qda(h:okO l (t::us))(ha:qas l t=false):(qw l t).e=0/\okO (qw l t) us:=by
 unfold okO Qw at h;rw[if_neg (by rw[ha];simp)] at h;by_cases he:(qw l t).e=0
 .rw[if_neg (by simpa using he)] at h;exact⟨he,h⟩
 .rw[if_pos he] at h;exact absurd h he
theorem qad(h:qef (t::us))(hk:t.kind≠4):qef us:=by
 obtain⟨pre,E,h1,h2⟩:=h
 cases pre with
 | nil=>simp at h1;exact absurd (by rw[h1.1];exact h2) hk
 | cons p pre=>simp at h1;exact⟨pre,E,h1.2,h2⟩
theorem qa3:¬qef []:=by
 rintro⟨pre,E,h1,_⟩;simp at h1
theorem qkm(h0:l.want≠0)(h6:l.want≠6):qas l t=false:=by
 unfold qas;simp[h0,h6]
theorem q92(hw:l.want=3)(h:(qw l t).e=0):(t.kind=1\/t.kind=2)/\l.args+1<=2/\t.runes<=8/\qw l t={l with args:=l.args+1,want:=4}:=by
 have hs:qw l t=Qq l t:=by unfold qw;simp[hw]
 rw[hs] at h ⊢;unfold Qq Q1 Q4 at h ⊢;simp only[hw] at h ⊢;by_cases h1:t.kind≠1/\(t.kind≠2\/(3:Int)≠3)
 .rw[if_pos h1] at h;simp at h
 .rw[if_neg h1] at h ⊢;simp at h ⊢;split at h
  .simp at h
  .rename_i h2;refine⟨by simp at h1;omega,by omega,by omega,by omega,by omega⟩
theorem Qe7(hw:l.want=1)(h:(qw l t).e=0):t.kind=1/\l.atoms+1<=3/\t.runes<=8/\qw l t={l with atoms:=l.atoms+1,want:=2}:=by
 have hs:qw l t=Qq l t:=by unfold qw;simp[hw]
 rw[hs] at h ⊢;unfold Qq Q1 Q4 at h ⊢;simp only[hw] at h ⊢;by_cases h1:t.kind≠1/\(t.kind≠2\/(1:Int)≠3)
 .rw[if_pos h1] at h;simp at h
 .rw[if_neg h1] at h ⊢;simp at h ⊢;split at h
  .simp at h
  .rename_i h2;refine⟨by simp at h1;omega,by omega,by omega,by omega,by omega⟩
theorem q91(hw:l.want=0)(h:(qw l t).e=0):t.kind=1/\l.rules+1<=8/\t.runes<=8/\qw l t={l with rules:=l.rules+1,body:=false,want:=2}:=by
 have hs:qw l t=Qq l t:=by unfold qw;simp[hw]
 rw[hs] at h ⊢;unfold Qq Q1 Q4 at h ⊢;simp only[hw] at h ⊢;by_cases h1:t.kind≠1/\(t.kind≠2\/(0:Int)≠3)
 .rw[if_pos h1] at h;simp at h
 .rw[if_neg h1] at h ⊢;simp at h ⊢;split at h
  .simp at h
  .rename_i h2;refine⟨by simp at h1;omega,by omega,by omega,by omega,by omega⟩
theorem q6a(hw:l.want=2)(h:(qw l t).e=0):t.kind=40/\qw l t={l with args:=0,want:=3}:=by
 have hs:qw l t=qaa l t:=by unfold qw;simp[hw]
 rw[hs] at h ⊢;unfold qaa at h ⊢;simp only[hw] at h ⊢;simp at h ⊢;split at h
 .rename_i h1;exact h1
 .simp at h
theorem Qe8(hw:l.want=4)(ha:l.alone=false)(h:(qw l t).e=0):(t.kind=44/\qw l t={l with want:=3})\/(t.kind=41/\qw l t={l with want:=5}):=by
 have hs:qw l t=qaa l t:=by unfold qw;simp[hw]
 rw[hs] at h ⊢;unfold qaa at h ⊢;simp only[hw,ha] at h ⊢;simp at h ⊢;by_cases h1:t.kind=44
 .left;simp[h1]
 .by_cases h2:t.kind=41
  .right;simp[h2]
  .simp[h1,h2] at h
theorem Qe9(hw:l.want=5)(h:(qw l t).e=0):(t.kind=46/\qw l t={l with want:=0})\/(t.kind=44/\l.body=true/\qw l t={l with want:=1})\/(t.kind=3/\l.body=false/\qw l t={l with body:=true,atoms:=0,want:=1}):=by
 have hs:qw l t=qaa l t:=by unfold qw;simp[hw]
 rw[hs] at h ⊢;unfold qaa at h ⊢;simp only[hw] at h ⊢;simp at h ⊢;by_cases h1:t.kind=46
 .left;simp[h1]
 .by_cases h2:t.kind=44
  .cases hb:l.body with
   | true=>right;left;simp[h2]
   | false=>simp[h2,hb] at h
  .by_cases h3:t.kind=3
   .cases hb:l.body with
    | true=>simp[h3,hb] at h
    | false=>right;right;simp[h3]
   .simp[h1,h2,h3] at h
theorem qmx:∀(n:Nat) (ts:List RT) (l:Lk) (vs:List By),ts.length<=n->l.want=3->l.e=0->l.alone=false->qef ts->okO l ts->
  ∃L ao k,qaf vs ts=some (L,ao,k)/\l.args+L.length<=2/\okO {l with want:=5,args:=l.args+L.length} (ts.drop k)/\qef (ts.drop k)/\(∀t∈L,t.num<=vs.length+L.length)/\ao.length<=vs.length+L.length
 | 0,ts,l,vs,hn,_,_,_,hE,_=>by
  have:ts=[]:=List.eq_nil_of_length_eq_zero (by omega);rw[this] at hE;exact absurd hE qa3
 | n+1,[],l,vs,hn,_,_,_,hE,_=>absurd hE qa3
 | n+1,t::us,l,vs,hn,hw,he,hal,hE,ak=>by
  obtain⟨h1,h2⟩:=qda ak (qkm (by rw[hw];decide) (by rw[hw];decide));obtain⟨hk,hg,hr,ay⟩:=q92 hw h1;have b6:=qad hE (by omega);rw[ay] at h2
  have b7:(qge vs t).num<=vs.length:=by
   unfold qge;split
   .exact List.findIdx_le_length
   .simp
  have cq:=qjp vs t
  cases us with
  | nil=>exact absurd b6 qa3
  | cons b us=>
   obtain⟨h3,h4⟩:=qda h2 (qkm (by simp) (by simp));rcases Qe8 (l:={l with args:=l.args+1,want:=4}) rfl (by simpa using hal) h3 with⟨hb,qk0⟩ | ⟨hb,qk0⟩
   .rw[qk0] at h4;have b3:=qad b6 (by omega);obtain⟨L,ao,k,r1,r2,r3,r4,r5,r6⟩:=qmx n us {l with args:=l.args+1,want:=3} (qdp vs t) (by simp at hn;omega) rfl he hal b3 h4;refine⟨qge vs t::L,ao,k+2,?_,?_,?_,?_,?_,?_⟩
    .unfold qaf;rw[if_neg (by omega),r1]
    .simp at r2 ⊢;omega
    .simp only[List.length_cons,List.drop_succ_cons] at r3 ⊢;have e:l.args+(L.length+1)=l.args+1+L.length:=by omega
     rw[e];exact r3
    .simpa using r4
    .intro t' af;simp only[List.length_cons];rcases List.mem_cons.1 af with rfl | af
     .omega
     .have:=r5 t' af;omega
    .simp only[List.length_cons];omega
   .rw[qk0] at h4;have b3:=qad b6 (by omega);refine⟨[qge vs t],qdp vs t,2,?_,by simpa using hg,by simpa using h4,by simpa using b3,?_,by simpa using cq⟩
    .unfold qaf;rw[if_pos hb]
    .intro t' af;simp at af;subst af;simp;omega
theorem qr1:∀(f:Nat) (ts:List RT) (l:Lk) (vs:List By),ts.length < f->l.want=5->l.e=0->l.alone=false->qef ts->okO l ts->(l.body=true->l.atoms<=3)->
  ∃bs m l',qea f vs ts=some (bs,m)/\(if l.body=true then l.atoms+bs.length<=3 else bs.length<=3)/\l'.want=0/\l'.rules=l.rules/\l'.e=0/\l'.alone=false/\okO l' (ts.drop (m+1))/\qef (ts.drop (m+1))/\
   (∀a∈bs,a.args.length<=2/\∀t∈a.args,t.num<=vs.length+2*bs.length)
 | 0,ts,l,vs,hn,_,_,_,_,_,_=>by omega
 | f+1,[],l,vs,hn,_,_,_,hE,_,_=>absurd hE qa3
 | f+1,t::us,l,vs,hn,hw,he,hal,hE,ak,aq=>by
  obtain⟨h1,h2⟩:=qda ak (qkm (by rw[hw];decide) (by rw[hw];decide))
  have key:∀l1:Lk,l1.want=1->l1.e=0->l1.alone=false->l1.body=true->l1.rules=l.rules->okO l1 us->qef us->t.kind≠46->(∀n,l1.atoms+n<=3->if l.body=true then l.atoms+n<=3 else n<=3)->
    ∃bs m l',qea (f+1) vs (t::us)=some (bs,m)/\(if l.body=true then l.atoms+bs.length<=3 else bs.length<=3)/\l'.want=0/\l'.rules=l.rules/\l'.e=0/\l'.alone=false/\okO l' ((t::us).drop (m+1))/\qef ((t::us).drop (m+1))/\
     (∀a∈bs,a.args.length<=2/\∀t∈a.args,t.num<=vs.length+2*bs.length):=by
   intro l1 w1 e1 a1 b1 r1 o1 E1 ct aw
   cases us with
   | nil=>exact absurd E1 qa3
   | cons r us=>
    obtain⟨g1,g2⟩:=qda o1 (qkm (by rw[w1];decide) (by rw[w1];decide));obtain⟨kr,ka,df,bv⟩:=Qe7 w1 g1;have E2:=qad E1 (by omega);rw[bv] at g2
    cases us with
    | nil=>exact absurd E2 qa3
    | cons p us=>
     obtain⟨g3,g4⟩:=qda g2 (qkm (by simp) (by simp));obtain⟨kp,av⟩:=q6a (l:={l1 with atoms:=l1.atoms+1,want:=2}) rfl g3;have E3:=qad E2 (by omega);rw[av] at g4;obtain⟨L,ao,k,q1,q2,q3,q4,q5,q6⟩:=qmx us.length us {l1 with atoms:=l1.atoms+1,args:=0,want:=3} vs zl rfl e1 a1 E3 g4;have ax:(us.drop k).length < f:=by simp at hn ⊢;omega
     obtain⟨bs,m,l',p1,p2,p3,p4,p5,p6,p7,p8,p9⟩:=qr1 f (us.drop k) {l1 with atoms:=l1.atoms+1,args:=0+L.length,want:=5} ao ax rfl e1 a1 q4 q3 (λ_=>by simp;omega);simp only[b1,if_true] at p2;refine⟨⟨r.text,L⟩::bs,3+k+m,l',?_,?_,p3,p4.trans r1,p5,p6,?_,?_,?_⟩
     .unfold qea;simp only[if_neg ct,q1,p1]
     .simp only[List.length_cons];exact aw (bs.length+1) (by omega)
     .have e:3+k+m+1=(k+(m+1))+1+1+1:=by omega
      rw[e];simp only[List.drop_succ_cons];rw[<- List.drop_drop];exact p7
     .have e:3+k+m+1=(k+(m+1))+1+1+1:=by omega
      rw[e];simp only[List.drop_succ_cons];rw[<- List.drop_drop];exact p8
     .intro a ha;simp only[List.length_cons];simp only[Nat.zero_add] at q2;rcases List.mem_cons.1 ha with rfl | ha
      .exact⟨by simp only;omega,λt' af=>by have:=q5 t' af;omega⟩
      .obtain⟨x1,x2⟩:=p9 a ha;exact⟨x1,λt' af=>by have:=x2 t' af;omega⟩
  rcases Qe9 hw h1 with⟨hk,ay⟩ | ⟨hk,bn,ay⟩ | ⟨hk,bn,ay⟩
  .rw[ay] at h2;refine⟨[],0,{l with want:=0},?_,?_,rfl,rfl,he,hal,h2,qad hE (by omega),λa ha=>by cases ha⟩
   .unfold qea;simp only[if_pos hk]
   .split
    .rename_i hb;simpa using aq hb
    .simp
  .rw[ay] at h2;exact key {l with want:=1} rfl he hal bn rfl h2 (qad hE (by omega)) (by omega) (λn hn=>by rw[if_pos bn];exact hn)
  .rw[ay] at h2;exact key {l with body:=true,atoms:=0,want:=1} rfl he hal rfl rfl h2 (qad hE (by omega)) (by omega) (λn hn=>by rw[if_neg (by rw[bn];simp)];simpa using hn)
structure qhr(r:Rl):Prop where
 head:r.head.args.length<=2/\∀t∈r.head.args,t.num<=100
 few:r.body.length<=3
 body:∀a∈r.body,a.args.length<=2/\∀t∈a.args,t.num<=100
theorem qh5:∀(f:Nat) (ts:List RT) (l:Lk),ts.length < f->l.want=0->l.e=0->l.alone=false->qef ts->okO l ts->l.rules<=8->
  ∃rs,qej f ts=some rs/\l.rules+rs.length<=8/\∀r∈rs,qhr r
 | 0,ts,l,hn,_,_,_,_,_,_=>by omega
 | f+1,[],l,hn,_,_,_,hE,_,_=>absurd hE qa3
 | f+1,t::us,l,hn,hw,he,hal,hE,ak,h8=>by
  by_cases bi:t.kind=4
  .exact⟨[],by unfold qej;simp only[if_pos bi],by simpa using h8,λr hr=>by cases hr⟩
  .obtain⟨h1,h2⟩:=qda ak (by unfold qas;simp[bi]);obtain⟨kt,kr,c6,bv⟩:=q91 hw h1;have E1:=qad hE bi;rw[bv] at h2
   cases us with
   | nil=>exact absurd E1 qa3
   | cons p us=>
    obtain⟨g3,g4⟩:=qda h2 (qkm (by simp) (by simp));obtain⟨kp,av⟩:=q6a (l:={l with rules:=l.rules+1,body:=false,want:=2}) rfl g3;have E2:=qad E1 (by omega);rw[av] at g4;obtain⟨L,ao,k,q1,q2,q3,q4,q5,q6⟩:=qmx us.length us {l with rules:=l.rules+1,body:=false,args:=0,want:=3} [] zl rfl he hal E2 g4;simp only[Nat.zero_add,List.length_nil] at q2 q5 q6;have dg:=(qg6 _ _ _ _ _ q1).2.1;have Qh4:=(qg6 _ _ _ _ _ q1).2.2.1;obtain⟨bs,m,l',p1,p2,p3,p4,p5,p6,p7,p8,p9⟩:=qr1 us.length (us.drop k) {l with rules:=l.rules+1,body:=false,args:=0+L.length,want:=5} ao (by simp;omega) rfl he hal q4 q3 (λh=>by simp at h);simp only[Bool.false_eq_true,if_false] at p2;have c8:l'.rules=l.rules+1:=p4;obtain⟨rs,s1,s2,s3⟩:=qh5 f ((us.drop k).drop (m+1)) l' (by simp at hn ⊢;omega) p3 p5 p6 p8 p7 (by omega);refine⟨⟨⟨t.text,L⟩,bs⟩::rs,?_,by simp;omega,λr hr=>?_⟩
    .unfold qej;simp only[if_neg bi,q1,p1,s1]
    .rcases List.mem_cons.1 hr with rfl | hr
     .exact⟨⟨q2,λt' af=>by have:=q5 t' af;omega⟩,p2,λa ha=>⟨(p9 a ha).1,λt' af=>by have:=(p9 a ha).2 t' af;omega⟩⟩
     .exact s3 r hr
