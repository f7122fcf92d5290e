/- The document's own answer: tokens of which none is refused -/
import Derived.Test.YtjajnhemgphefaaGreatDoorJRefR
set_option linter.unusedVariables false
set_option linter.unusedSimpArgs false
set_option maxRecDepth 100000
set_option maxHeartbeats 16000000
namespace Go.Proofs.YtjajnhemgphefaaGreatDoor
open Go renaming World->Wq,Value->Vq
open Go.RowKit Go.Shelf
variable {l:Lk} {t:RT} {us:List RT}
theorem q1h(v:Vq)(qs:List (Rl×Vq×Vq))(w:Wq)(hR:qag w v qs)(hok:qjz qs) :
  Calls Tryz.prog 110 #[v] w λe w'=>e=.returned (.tuple #[.int .i64 (qbh (qs.map (·.1))).1,.int .i64 (qbh (qs.map (·.1))).2])/\Below w.heap.size w w':=by
 obtain⟨N,hN⟩:∃N,N=w.heap.size:=⟨_,rfl⟩;have hNr:=hN.symm;obtain⟨va,vc,hv⟩:=qd hR.row;rw[<- hN];have HR:Hid (qag w v qs):=hR;subst hv;clear hR hN;have qmq:=hok.few;have HOK:Hid (qjz qs):=hok;clear hok;obtain⟨A,hA⟩:∃A,A=qap (qs.map (·.1)):=⟨_,rfl⟩
 have HAR:Hid (∀(rel:ByteArray) (W:Wq),Below N w W->Calls Tryz.prog 117 #[.slice va qs.length vc,.string rel] W λe w'=>e=.returned (.int .i64 (qac A rel))/\Below N w w'/\Below W.heap.size W w'):=by
  intro rel W hW;refine (qhl (.slice va qs.length vc) qs rel W (HR.out.below (by rw[hNr];exact hW)) qmq HOK.out.body).mono ?_;rintro e w' ⟨rfl,hb⟩;rw[qmc,<- hA];exact⟨rfl,hW.trans (hb.mono (by have:=hW.size;omega)),hb⟩
 generalize hS:qbh (qs.map (·.1))=S at *
 have HS0:Hid (match qba (qb4 A) (qs.map (·.1)) 0 with
  | some i=>S=(4,i)
  | none=>match qba qdu (qs.map (·.1)) 0 with
   | some i=>S=(5,i)
   | none=>match qa0 [] (qs.map (·.1)) 0 with
    | some i=>S=(3,i)
    | none=>S=(0,0)):=by
  rw[hA,<- hS];unfold qbh
  cases qba (qb4 (qap (qs.map (·.1)))) (qs.map (·.1)) 0 with
  | some i=>rfl
  | none=>
   cases qba qdu (qs.map (·.1)) 0 with
   | some i=>rfl
   | none=>cases qa0 [] (qs.map (·.1)) 0 <;> rfl
 clear hS hA;go_enter Tryz.func110,Tryz.ntmps110;go_wp2
 go_loopw [4] (λp wr=>∃i:Nat,p=.int .i64 i/\i<=qs.length/\Below N w wr/\Hid (qba (qb4 A) ((qs.drop i).map (·.1)) i=qba (qb4 A) (qs.map (·.1)) 0)) (λp _=>qs.length - (intOf p).toNat)
 case atStart=>exact⟨0,rfl,Nat.zero_le _,Below.refl _ _,rfl⟩
 case round=>
  obtain⟨i,rfl,hle,hbe,hsp⟩:=hrel;by_cases hlt:i < qs.length
  ·obtain⟨g,ps,rfl,hg,c0,c1,c2,hA,hps,hAs,hpl,⟨a1,a2,hq1⟩,⟨b1,b2,hq2⟩,hqm⟩:=qp0 (HR.out.below (by rw[hNr];exact hbe)) i hlt HOK.out;have hNw:N<=wr.heap.size:=by have:=hbe.size;omega
   have hat:=qmh qs[i] ps wr hA hAs (by omega);rw[List.drop_eq_getElem_cons hlt,List.map_cons] at hsp;simp only[qba] at hsp
   have har:qb4 A qs[i].1=((qs[i].1.head,qs[i].2.1)::ps).any (λp=>qgz A p.1):=by
    unfold qb4 qy;rw[<- hps,List.any_cons,List.any_cons,List.any_map];rfl
   rw[har] at hsp;unfold rlV at hat;rw[hq1] at c1 hat hqm hsp;rw[hq2] at c2 hat;clear har hps;generalize qs[i]=q at *;generalize q.1.head.rel=hrl at *;generalize hq:((q.1.head,Value.slice a1 q.1.head.args.length a2)::ps)=qp at *;have Qc2:qp.length<=901:=by rw[<- hq];simp;omega
   have HBE:Hid (Below N w wr):=hbe;clear hbe hq hA hAs hq1 hq2;go_wp2_with fail;refine hat.mono ?_;rintro e W1 ⟨vp,rfl,hAp,hbp⟩;have hbN:Below N w W1:=HBE.out.trans (hbp.mono hNw);obtain⟨pa,pc,hvp⟩:=qd hAp.row;subst hvp;have HAP:Hid (Qy W1 (.slice pa qp.length pc) qp):=hAp;have HBN:Hid (Below N w W1):=hbN;clear hAp hbp hbN hat c0 c1 c2;go_wp2
   go_loopw [6] (λp wr=>∃k:Nat,p=.int .i64 k/\k<=qp.length/\Below N w wr/\Qy wr (.slice pa qp.length pc) qp/\Hid ((qp.drop k).any (λp=>qgz A p.1)=qp.any (λp=>qgz A p.1))) (λp _=>qp.length - (intOf p).toNat)
   case atStart=>exact⟨0,rfl,Nat.zero_le _,HBN.out,HAP.out,rfl⟩
   case round=>
    clear HAP HBN HBE;obtain⟨k,rfl,qsz,hbe,hAp,hsk⟩:=hrel;by_cases hkl:k < qp.length
    ·obtain⟨g2,cap2,e2,hg2,d0,d1,⟨x1,x2,hx⟩,_⟩:=hAp.cell k hkl;cases e2;rw[hx] at d1;have hpm:=(hqm qp[k] (List.getElem_mem hkl)).2.1;rw[List.drop_eq_getElem_cons hkl] at hsk;simp only[List.any_cons] at hsk;have hcl:=HAR.out qp[k].1.rel wr hbe;generalize qp[k]=pk at *;have Qbs:qgz A pk.1=decide (qac A pk.1.rel≠pk.1.args.length):=rfl;generalize qac A pk.1.rel=ar at *;generalize qgz A pk.1=ab at *;generalize pk.1.rel=pr at *;generalize pk.1.args.length=al at *;have HAP:Hid (Qy wr (.slice (some ⟨g2,0,none⟩) qp.length pc) qp):=hAp;clear hAp hx;have HBE:Hid (Below N w wr):=hbe;clear hbe;go_wp2_with fail;refine hcl.mono ?_;rintro e w2 ⟨rfl,hb2,hb3⟩;have d1':w2.cell? ⟨g2,k*2+1,none⟩=some (.slice x1 al x2):=(Below.cell hb3 hg2).trans d1;have hA2:=HAP.out.below hb3;clear hcl hb3 d0 d1;by_cases hne:ar=al
     ·subst hne;have hab:ab=false:=by rw[Qbs];simp
      rw[hab] at hsk;go_wp2
      go_roundw
      case rel=>exact⟨k+1,by go_num,by omega,hb2,hA2,by simpa using hsk⟩
      case measure=>simp[intOf];omega
     ·have hab:ab=true:=by rw[Qbs];simpa using hne
      rw[hab] at hsk;have qio:qp.any (λp=>qgz A p.1)=true:=by rw[<- hsk.out];simp
      rw[qio,if_pos rfl] at hsp
      have q9:Hid (S=(4,i)):=by
       have h:=HS0.out;rw[<- hsp.out] at h;exact h
      have m1:((ar:Int) == (al:Int))=false:=by simp;omega
      have m2:((ar:Int) != (al:Int))=true:=by simp;omega
      go_wp2;go_ret2;rw[q9.out];exact⟨rfl,hb2⟩
    ·rw[List.drop_eq_nil_of_le (by omega)] at hsk;simp only[List.any_nil] at hsk;rw[<- hsk.out,if_neg (by simp)] at hsp;have HBE:Hid (Below N w wr):=hbe;clear hAp hbe;go_wp2
     go_roundw
     case rel=>exact⟨i+1,by go_num,by omega,HBE.out,hsp⟩
     case measure=>simp[intOf];omega
  ·rw[List.drop_eq_nil_of_le (by omega)] at hsp;have h1:qba (qb4 A) (qs.map (·.1)) 0=none:=by rw[<- hsp.out];rfl
   have HS1:Hid (match qba qdu (qs.map (·.1)) 0 with
     | some i=>S=(5,i)
     | none=>match qa0 [] (qs.map (·.1)) 0 with
      | some i=>S=(3,i)
      | none=>S=(0,0)):=by
    have h:=HS0.out;rw[h1] at h;exact h
   have HBE:Hid (Below N w wr):=hbe;clear HS0 h1 hbe hsp HAR;go_wp2
   go_loopw [8] (λp wr=>∃i:Nat,p=.int .i64 i/\i<=qs.length/\Below N w wr/\Hid (qba qdu ((qs.drop i).map (·.1)) i=qba qdu (qs.map (·.1)) 0)) (λp _=>qs.length - (intOf p).toNat)
   case atStart=>exact⟨0,rfl,Nat.zero_le _,HBE.out,rfl⟩
   case round=>
    clear HBE;obtain⟨i,rfl,hle,hbe,hsp⟩:=hrel;by_cases hlt:i < qs.length
    ·obtain⟨g,ps,rfl,hg,c0,c1,c2,hA,hps,hAs,hpl,⟨a1,a2,hq1⟩,⟨b1,b2,hq2⟩,hqm⟩:=qp0 (HR.out.below (by rw[hNr];exact hbe)) i hlt HOK.out;rw[List.drop_eq_getElem_cons hlt,List.map_cons] at hsp;simp only[qba] at hsp;have hlb:qdu qs[i].1=qs[i].1.head.args.any (qgh qs[i].1.body):=rfl;rw[hlb] at hsp;have hhl:=(hqm _ List.mem_cons_self).2.1;simp only at hhl;rw[hq1] at c1;have HSP:Hid _:=hsp;have HBE:Hid (Below N w wr):=hbe;clear hlb hsp hbe hA hAs hqm hps hq1 hq2 c0 c2 hpl;go_wp2
     go_loopw [9] (λp wr=>∃k:Nat,p=.int .i64 k/\k<=qs[i].1.head.args.length/\Below N w wr/\Hid ((qs[i].1.head.args.drop k).any (qgh qs[i].1.body)=qs[i].1.head.args.any (qgh qs[i].1.body))) (λp _=>qs[i].1.head.args.length - (intOf p).toNat)
     case atStart=>exact⟨0,rfl,Nat.zero_le _,HBE.out,rfl⟩
     case round=>
      clear HBE c1;obtain⟨k,rfl,qsz,hbe,hsk⟩:=hrel;obtain⟨g',ps,e',hg,c0,c1,c2,hA,hps,hAs,hpl,⟨a1,a2,hq1⟩,⟨b1,b2,hq2⟩,hqm⟩:=qp0 (HR.out.below (by rw[hNr];exact hbe)) i hlt HOK.out
      cases e'
      have hNw:N<=wr.heap.size:=by have:=hbe.size;omega
      by_cases hkl:k < qs[i].1.head.args.length
      ·obtain⟨g3,cap3,e3,hg3,f0,f1⟩:=hA.cell k hkl;simp only at e3 f0 f1;have qd0:=(hqm _ List.mem_cons_self).2.2 _ (List.getElem_mem hkl);rw[List.drop_eq_getElem_cons hkl] at hsk;simp only[List.any_cons] at hsk;rw[e3] at c1;rw[hq2] at c2
       have hbo:Hid (∀X,Below wr.heap.size wr X->Calls Tryz.prog 179 #[.agg #[.string qs[i].1.head.rel,.slice (some ⟨g3,0,none⟩) qs[i].1.head.args.length cap3,.slice b1 ps.length b2],.int .i64 qs[i].1.head.args[k].num] X λe w'=>e=.returned (.bool (qz qs[i].1.body qs[i].1.head.args[k].num))/\Below N w w'/\Below X.heap.size X w'):=by
        intro X hbw;have hb:=qz0 qs[i] ps qs[i].1.head.args[k].num X (hAs.below hbw) (hA.kept (Kp.ofBelow (S:=0) hbw)) hps (by omega) qd0 (λp hp=>⟨by have:=(hqm p (List.mem_cons_of_mem _ hp)).2.1;omega,(hqm p (List.mem_cons_of_mem _ hp)).2.2⟩);unfold rlV at hb;rw[e3,hq2] at hb;refine hb.mono ?_;rintro e w' ⟨rfl,hb'⟩;refine⟨rfl,?_,hb'⟩;exact (hbe.trans (hbw.mono hNw)).trans (hb'.mono (by have:=hbw.size;omega))
       have Qcc:g≠wr.heap.size:=by omega
       have Qgv:g3≠wr.heap.size:=by omega
       have c0':∀O,(wr.alloc O).cell? ⟨g,i*3,none⟩=some (.string qs[i].1.head.rel):=λO=>(Below.cell ((Below.refl wr.heap.size wr).alloc zl O) hg).trans c0;have c1':∀O,(wr.alloc O).cell? ⟨g,i*3+1,none⟩=some (.slice (some ⟨g3,0,none⟩) qs[i].1.head.args.length cap3):=λO=>(Below.cell ((Below.refl wr.heap.size wr).alloc zl O) hg).trans c1;have c2':∀O,(wr.alloc O).cell? ⟨g,i*3+2,none⟩=some (.slice b1 ps.length b2):=λO=>(Below.cell ((Below.refl wr.heap.size wr).alloc zl O) hg).trans c2;have HBE:Hid (Below N w wr):=hbe;clear hbe hA hAs hqm hq1 hq2 e3 hps;have htl:qgh qs[i].1.body qs[i].1.head.args[k]=(qs[i].1.head.args[k].name.toList.isEmpty && !qz qs[i].1.body qs[i].1.head.args[k].num):=rfl;rw[htl] at hsk;clear htl;generalize qz qs[i].1.body qs[i].1.head.args[k].num=bb at *;generalize qs[i].1.head.args[k].num=nu at *;generalize qs[i].1.head.args[k].name=nm at *;generalize qs[i].1.head.rel=rl at *;have hX:Hid (∀(O:Obj),Below wr.heap.size wr (wr.alloc O).drew):=λO=>((Below.refl _ wr).alloc zl O).drew;go_wp2
       go_region_with (go_at_call 179;refine (hbo.out _ (hX.out _)).mono ?_;rintro e w2 ⟨rfl,hb2,hb3⟩)
       all_goals
        have f0':w2.cell? ⟨wr.heap.size,0,none⟩=some (.string nm):=by
         rw[Below.cell hb3 (by show wr.heap.size < (wr.alloc _).heap.size;simp)];show (wr.alloc (.cells #[.string nm,.int .i64 nu] 215)).cell? ⟨wr.heap.size,0,none⟩=_;simp
        clear hbo hb3
        cases h1:nm.toList.isEmpty with
        | false=>
         rw[h1] at hsk;go_wp2
         go_roundw
         case rel=>exact⟨k+1,by go_num,by omega,hb2,by simpa using hsk⟩
         case measure=>simp[intOf];omega
        | true=>
         rw[h1] at hsk
         cases bb with
         | true=>
          go_wp2
          go_roundw
          case rel=>exact⟨k+1,by go_num,by omega,hb2,by simpa using hsk⟩
          case measure=>simp[intOf];omega
         | false=>
          have qio:qs[i].1.head.args.any (qgh qs[i].1.body)=true:=by rw[<- hsk.out];simp
          have q9:Hid (S=(5,i)):=by
           have h:=HS1.out;have h2:=HSP.out;rw[qio,if_pos rfl] at h2;rw[<- h2] at h;exact h
          go_wp2;go_ret2;rw[q9.out];exact⟨rfl,hb2⟩
      ·rw[List.drop_eq_nil_of_le (by omega)] at hsk;simp only[List.any_nil] at hsk;have qmr:=HSP.out;rw[<- hsk.out,if_neg (by simp)] at qmr;have HS2:Hid _:=qmr;have HBE:Hid (Below N w wr):=hbe;rw[hq1] at c1;clear hbe hA hAs hqm hq1 hq2 hsk qmr c0 c2;go_wp2
       go_roundw
       case rel=>exact⟨i+1,by go_num,by omega,HBE.out,HS2⟩
       case measure=>simp[intOf];omega
    ·rw[List.drop_eq_nil_of_le (by omega)] at hsp;have h1:qba qdu (qs.map (·.1)) 0=none:=by rw[<- hsp.out];rfl
     have HS2:Hid (match qa0 [] (qs.map (·.1)) 0 with
        | some i=>S=(3,i)
        | none=>S=(0,0)):=by
      have h:=HS1.out;rw[h1] at h;exact h
     have HBE:Hid (Below N w wr):=hbe;clear HS1 h1 hbe hsp;go_wp2
     go_loopw [12] (λp wr=>∃i:Nat,p=.int .i64 i/\i<=qs.length/\Below N w wr/\Hid (qa0 (nmL [] (Qp (Qt (qs.take i)))) ((qs.drop i).map (·.1)) i=qa0 [] (qs.map (·.1)) 0)) (λp _=>qs.length - (intOf p).toNat)
     case atStart=>exact⟨0,rfl,Nat.zero_le _,HBE.out,rfl⟩
     case round=>
      clear HBE;obtain⟨i,rfl,hle,hbe,hsp⟩:=hrel;by_cases hlt:i < qs.length
      ·have hRw:=HR.out.below (by rw[hNr];exact hbe);obtain⟨g,cap,e1,hg,_⟩:=hRw.cell i hlt;cases e1
       have qer:qs.length<=vc:=by
        obtain⟨_,⟨hv,hn⟩ | ⟨g',cap',cur,hv,hb,hw,h1,_⟩⟩:=hRw.row
        ·cases hv
        ·cases hv;exact h1
       have Q7:(qs.take (i+1)).length=i+1:=by rw[List.length_take];omega
       have qn1:=HOK.out.take (i+1);have hnm:=qr1 (.slice (some ⟨g,0,none⟩) (i+1) vc) (qs.take (i+1)) wr (qag.take (n:=0) hRw (i+1) (by omega)) qn1.few qn1.body qn1.tms (λa ha=>(qn1.args a ha).1);have hNw:N<=wr.heap.size:=by have:=hbe.size;omega
       rw[List.drop_eq_getElem_cons hlt,List.map_cons] at hsp;simp only[qa0] at hsp;rw[<- qpn,<- q0n hlt] at hsp;have hnl:=(qtc (Qp (Qt (qs.take (i+1)))) []).2;have htm:=qn1.tms;generalize hnle:nmL [] (Qp (Qt (qs.take (i+1))))=nl at *;have HNL:Hid (nmL [] (Qp (Qt (qs.take (i+1))))=nl):=hnle;clear hnle;have q3g:nl.length<=100000:=by simp at hnl;omega
       have hic:(i:Int)+1<=(vc:Int):=by omega
       have Qgy:i+1<=vc:=by omega
       have HBE:Hid (Below N w wr):=hbe;clear hbe hRw qn1 Q7 hnl htm;by_cases h8:8 < nl.length
       ·rw[if_pos h8] at hsp
        have q9:Hid (S=(3,i)):=by
         have h:=HS2.out;rw[<- hsp.out] at h;exact h
        go_wp2_with fail;refine hnm.mono ?_;rintro e w2 ⟨v2,rfl,hN2⟩;obtain⟨na,nc,rfl⟩:=qd hN2.own;have hb2:Below N w w2:=HBE.out.trans (hN2.below.mono hNw);clear hN2 hnm;go_wp2;go_ret2;rw[q9.out];exact⟨rfl,hb2⟩
       ·rw[if_neg h8] at hsp;go_wp2_with fail;refine hnm.mono ?_;rintro e w2 ⟨v2,rfl,hN2⟩;obtain⟨na,nc,rfl⟩:=qd hN2.own;have hb2:Below N w w2:=HBE.out.trans (hN2.below.mono hNw);clear hN2 hnm;go_wp2
        go_roundw
        case rel=>exact⟨i+1,by go_num,by omega,hb2,by rw[HNL.out];exact hsp⟩
        case measure=>simp[intOf];omega
      ·rw[List.drop_eq_nil_of_le (by omega)] at hsp;have h1:qa0 [] (qs.map (·.1)) 0=none:=by rw[<- hsp.out];rfl
       have q9:Hid (S=(0,0)):=by
        have h:=HS2.out;rw[h1] at h;exact h
       go_wp2;go_ret2;rw[q9.out];exact⟨rfl,hbe⟩
def okO(l:Lk)(ts:List RT):Prop:=(Qv l ts).1=0
def qeb(ts:List RT):Prop:=∃pre E,ts=pre++[E]/\E.kind=4
theorem qc0(h:okO l (t::us))(ha:qat l t=false):(qx l t).e=0/\okO (qx l t) us:=by
 unfold okO Qv at h;rw[if_neg (by rw[ha];simp)] at h;by_cases he:(qx l t).e=0
 ·rw[if_neg (by simpa using he)] at h;exact⟨he,h⟩
 ·rw[if_pos he] at h;exact absurd h he
theorem qad(h:qeb (t::us))(hk:t.kind≠4):qeb us:=by
 obtain⟨pre,E,h1,h2⟩:=h
 cases pre with
 | nil=>simp at h1;exact absurd (by rw[h1.1];exact h2) hk
 | cons p pre=>simp at h1;exact⟨pre,E,h1.2,h2⟩
theorem qa4:¬qeb []:=by
 rintro⟨pre,E,h1,_⟩;simp at h1
theorem qj8(h0:l.want≠0)(h6:l.want≠6):qat l t=false:=by
 unfold qat;simp[h0,h6]
theorem q8n(hw:l.want=3)(h:(qx l t).e=0):(t.kind=1\/t.kind=2)/\l.args+1<=2/\t.runes<=8/\qx l t={l with args:=l.args+1,want:=4}:=by
 have hs:qx l t=Qq l t:=by unfold qx;simp[hw]
 rw[hs] at h ⊢;unfold Qq Qz Q1 at h ⊢;simp only[hw] at h ⊢;by_cases h1:t.kind≠1/\(t.kind≠2\/(3:Int)≠3)
 ·rw[if_pos h1] at h;simp at h
 ·rw[if_neg h1] at h ⊢;simp at h ⊢;split at h
  ·simp at h
  ·rename_i h2;refine⟨by simp at h1;omega,by omega,by omega,by omega,by omega⟩
theorem Qdz(hw:l.want=1)(h:(qx l t).e=0):t.kind=1/\l.atoms+1<=3/\t.runes<=8/\qx l t={l with atoms:=l.atoms+1,want:=2}:=by
 have hs:qx l t=Qq l t:=by unfold qx;simp[hw]
 rw[hs] at h ⊢;unfold Qq Qz Q1 at h ⊢;simp only[hw] at h ⊢;by_cases h1:t.kind≠1/\(t.kind≠2\/(1:Int)≠3)
 ·rw[if_pos h1] at h;simp at h
 ·rw[if_neg h1] at h ⊢;simp at h ⊢;split at h
  ·simp at h
  ·rename_i h2;refine⟨by simp at h1;omega,by omega,by omega,by omega,by omega⟩
theorem q8m(hw:l.want=0)(h:(qx l t).e=0):t.kind=1/\l.rules+1<=8/\t.runes<=8/\qx l t={l with rules:=l.rules+1,body:=false,want:=2}:=by
 have hs:qx l t=Qq l t:=by unfold qx;simp[hw]
 rw[hs] at h ⊢;unfold Qq Qz Q1 at h ⊢;simp only[hw] at h ⊢;by_cases h1:t.kind≠1/\(t.kind≠2\/(0:Int)≠3)
 ·rw[if_pos h1] at h;simp at h
 ·rw[if_neg h1] at h ⊢;simp at h ⊢;split at h
  ·simp at h
  ·rename_i h2;refine⟨by simp at h1;omega,by omega,by omega,by omega,by omega⟩
theorem q48(hw:l.want=2)(h:(qx l t).e=0):t.kind=40/\qx l t={l with args:=0,want:=3}:=by
 have hs:qx l t=Q9 l t:=by unfold qx;simp[hw]
 rw[hs] at h ⊢;unfold Q9 at h ⊢;simp only[hw] at h ⊢;simp at h ⊢;split at h
 ·rename_i h1;exact h1
 ·simp at h
theorem Qd0(hw:l.want=4)(ha:l.alone=false)(h:(qx l t).e=0):(t.kind=44/\qx l t={l with want:=3})\/(t.kind=41/\qx l t={l with want:=5}):=by
 have hs:qx l t=Q9 l t:=by unfold qx;simp[hw]
 rw[hs] at h ⊢;unfold Q9 at h ⊢;simp only[hw,ha] at h ⊢;simp at h ⊢;by_cases h1:t.kind=44
 ·left;simp[h1]
 ·by_cases h2:t.kind=41
  ·right;simp[h2]
  ·simp[h1,h2] at h
theorem Qd1(hw:l.want=5)(h:(qx l t).e=0):(t.kind=46/\qx l t={l with want:=0})\/(t.kind=44/\l.body=true/\qx l t={l with want:=1})\/(t.kind=3/\l.body=false/\qx l t={l with body:=true,atoms:=0,want:=1}):=by
 have hs:qx l t=Q9 l t:=by unfold qx;simp[hw]
 rw[hs] at h ⊢;unfold Q9 at h ⊢;simp only[hw] at h ⊢;simp at h ⊢;by_cases h1:t.kind=46
 ·left;simp[h1]
 ·by_cases h2:t.kind=44
  ·cases hb:l.body with
   | true=>right;left;simp[h2]
   | false=>simp[h2,hb] at h
  ·by_cases h3:t.kind=3
   ·cases hb:l.body with
    | true=>simp[h3,hb] at h
    | false=>right;right;simp[h3]
   ·simp[h1,h2,h3] at h
theorem qmg:∀(n:Nat) (ts:List RT) (l:Lk) (vs:List ByteArray),ts.length<=n->l.want=3->l.e=0->l.alone=false->qeb ts->okO l ts->
  ∃L vsF k,qab vs ts=some (L,vsF,k)/\l.args+L.length<=2/\okO {l with want:=5,args:=l.args+L.length} (ts.drop k)/\qeb (ts.drop k)/\(∀t∈L,t.num<=vs.length+L.length)/\vsF.length<=vs.length+L.length
 | 0,ts,l,vs,hn,_,_,_,hE,_=>by
  have:ts=[]:=List.eq_nil_of_length_eq_zero (by omega);rw[this] at hE;exact absurd hE qa4
 | n+1,[],l,vs,hn,_,_,_,hE,_=>absurd hE qa4
 | n+1,t::us,l,vs,hn,hw,he,hal,hE,hok=>by
  obtain⟨h1,h2⟩:=qc0 hok (qj8 (by rw[hw];decide) (by rw[hw];decide));obtain⟨hk,hg,hr,hst⟩:=q8n hw h1;have hE2:=qad hE (by omega);rw[hst] at h2
  have qd0:(qf2 vs t).num<=vs.length:=by
   unfold qf2;split
   ·exact List.findIdx_le_length
   ·simp
  have hvl:=qja vs t
  cases us with
  | nil=>exact absurd hE2 qa4
  | cons b us=>
   obtain⟨h3,h4⟩:=qc0 h2 (qj8 (by simp) (by simp));rcases Qd0 (l:={l with args:=l.args+1,want:=4}) rfl (by simpa using hal) h3 with⟨hb,qms⟩ | ⟨hb,qms⟩
   ·rw[qms] at h4;have hE3:=qad hE2 (by omega);obtain⟨L,vsF,k,r1,r2,r3,r4,r5,r6⟩:=qmg n us {l with args:=l.args+1,want:=3} (qdl vs t) (by simp at hn;omega) rfl he hal hE3 h4;refine⟨qf2 vs t::L,vsF,k+2,?_,?_,?_,?_,?_,?_⟩
    ·unfold qab;rw[if_neg (by omega),r1]
    ·simp at r2 ⊢;omega
    ·simp only[List.length_cons,List.drop_succ_cons] at r3 ⊢;have e:l.args+(L.length+1)=l.args+1+L.length:=by omega
     rw[e];exact r3
    ·simpa using r4
    ·intro t' ht';simp only[List.length_cons];rcases List.mem_cons.1 ht' with rfl | ht'
     ·omega
     ·have:=r5 t' ht';omega
    ·simp only[List.length_cons];omega
   ·rw[qms] at h4;have hE3:=qad hE2 (by omega);refine⟨[qf2 vs t],qdl vs t,2,?_,by simpa using hg,by simpa using h4,by simpa using hE3,?_,by simpa using hvl⟩
    ·unfold qab;rw[if_pos hb]
    ·intro t' ht';simp at ht';subst ht';simp;omega
theorem qrb:∀(f:Nat) (ts:List RT) (l:Lk) (vs:List ByteArray),ts.length < f->l.want=5->l.e=0->l.alone=false->qeb ts->okO l ts->(l.body=true->l.atoms<=3)->
  ∃bs m l',qd5 f vs ts=some (bs,m)/\(if l.body=true then l.atoms+bs.length<=3 else bs.length<=3)/\l'.want=0/\l'.rules=l.rules/\l'.e=0/\l'.alone=false/\okO l' (ts.drop (m+1))/\qeb (ts.drop (m+1))/\
   (∀a∈bs,a.args.length<=2/\∀t∈a.args,t.num<=vs.length+2*bs.length)
 | 0,ts,l,vs,hn,_,_,_,_,_,_=>by omega
 | f+1,[],l,vs,hn,_,_,_,hE,_,_=>absurd hE qa4
 | f+1,t::us,l,vs,hn,hw,he,hal,hE,hok,hb3=>by
  obtain⟨h1,h2⟩:=qc0 hok (qj8 (by rw[hw];decide) (by rw[hw];decide))
  have key:∀l1:Lk,l1.want=1->l1.e=0->l1.alone=false->l1.body=true->l1.rules=l.rules->okO l1 us->qeb us->t.kind≠46->(∀n,l1.atoms+n<=3->if l.body=true then l.atoms+n<=3 else n<=3)->
    ∃bs m l',qd5 (f+1) vs (t::us)=some (bs,m)/\(if l.body=true then l.atoms+bs.length<=3 else bs.length<=3)/\l'.want=0/\l'.rules=l.rules/\l'.e=0/\l'.alone=false/\okO l' ((t::us).drop (m+1))/\qeb ((t::us).drop (m+1))/\
     (∀a∈bs,a.args.length<=2/\∀t∈a.args,t.num<=vs.length+2*bs.length):=by
   intro l1 w1 e1 a1 b1 r1 o1 E1 k46 hcount
   cases us with
   | nil=>exact absurd E1 qa4
   | cons r us=>
    obtain⟨g1,g2⟩:=qc0 o1 (qj8 (by rw[w1];decide) (by rw[w1];decide));obtain⟨kr,ka,krn,kst⟩:=Qdz w1 g1;have E2:=qad E1 (by omega);rw[kst] at g2
    cases us with
    | nil=>exact absurd E2 qa4
    | cons p us=>
     obtain⟨g3,g4⟩:=qc0 g2 (qj8 (by simp) (by simp));obtain⟨kp,kst2⟩:=q48 (l:={l1 with atoms:=l1.atoms+1,want:=2}) rfl g3;have E3:=qad E2 (by omega);rw[kst2] at g4;obtain⟨L,vsF,k,q1,q2,q3,q4,q5,q6⟩:=qmg us.length us {l1 with atoms:=l1.atoms+1,args:=0,want:=3} vs zl rfl e1 a1 E3 g4;have Q7:(us.drop k).length < f:=by simp at hn ⊢;omega
     obtain⟨bs,m,l',p1,p2,p3,p4,p5,p6,p7,p8,p9⟩:=qrb f (us.drop k) {l1 with atoms:=l1.atoms+1,args:=0+L.length,want:=5} vsF Q7 rfl e1 a1 q4 q3 (λ_=>by simp;omega);simp only[b1,if_true] at p2;refine⟨⟨r.text,L⟩::bs,3+k+m,l',?_,?_,p3,p4.trans r1,p5,p6,?_,?_,?_⟩
     ·unfold qd5;simp only[if_neg k46,q1,p1]
     ·simp only[List.length_cons];exact hcount (bs.length+1) (by omega)
     ·have e:3+k+m+1=(k+(m+1))+1+1+1:=by omega
      rw[e];simp only[List.drop_succ_cons];rw[<- List.drop_drop];exact p7
     ·have e:3+k+m+1=(k+(m+1))+1+1+1:=by omega
      rw[e];simp only[List.drop_succ_cons];rw[<- List.drop_drop];exact p8
     ·intro a ha;simp only[List.length_cons];simp only[Nat.zero_add] at q2;rcases List.mem_cons.1 ha with rfl | ha
      ·exact⟨by simp only;omega,λt' ht'=>by have:=q5 t' ht';omega⟩
      ·obtain⟨x1,x2⟩:=p9 a ha;exact⟨x1,λt' ht'=>by have:=x2 t' ht';omega⟩
  rcases Qd1 hw h1 with⟨hk,hst⟩ | ⟨hk,hbd,hst⟩ | ⟨hk,hbd,hst⟩
  ·rw[hst] at h2;refine⟨[],0,{l with want:=0},?_,?_,rfl,rfl,he,hal,h2,qad hE (by omega),λa ha=>by cases ha⟩
   ·unfold qd5;simp only[if_pos hk]
   ·split
    ·rename_i hb;simpa using hb3 hb
    ·simp
  ·rw[hst] at h2;exact key {l with want:=1} rfl he hal hbd rfl h2 (qad hE (by omega)) (by omega) (λn hn=>by rw[if_pos hbd];exact hn)
  ·rw[hst] at h2;exact key {l with body:=true,atoms:=0,want:=1} rfl he hal rfl rfl h2 (qad hE (by omega)) (by omega) (λn hn=>by rw[if_neg (by rw[hbd];simp)];simpa using hn)
structure qhj(r:Rl):Prop where
 head:r.head.args.length<=2/\∀t∈r.head.args,t.num<=100
 few:r.body.length<=3
 body:∀a∈r.body,a.args.length<=2/\∀t∈a.args,t.num<=100
theorem qhx:∀(f:Nat) (ts:List RT) (l:Lk),ts.length < f->l.want=0->l.e=0->l.alone=false->qeb ts->okO l ts->l.rules<=8->
  ∃rs,qef f ts=some rs/\l.rules+rs.length<=8/\∀r∈rs,qhj r
 | 0,ts,l,hn,_,_,_,_,_,_=>by omega
 | f+1,[],l,hn,_,_,_,hE,_,_=>absurd hE qa4
 | f+1,t::us,l,hn,hw,he,hal,hE,hok,h8=>by
  by_cases hk4:t.kind=4
  ·exact⟨[],by unfold qef;simp only[if_pos hk4],by simpa using h8,λr hr=>by cases hr⟩
  ·obtain⟨h1,h2⟩:=qc0 hok (by unfold qat;simp[hk4]);obtain⟨kt,kr,ktr,kst⟩:=q8m hw h1;have E1:=qad hE hk4;rw[kst] at h2
   cases us with
   | nil=>exact absurd E1 qa4
   | cons p us=>
    obtain⟨g3,g4⟩:=qc0 h2 (qj8 (by simp) (by simp));obtain⟨kp,kst2⟩:=q48 (l:={l with rules:=l.rules+1,body:=false,want:=2}) rfl g3;have E2:=qad E1 (by omega);rw[kst2] at g4;obtain⟨L,vsF,k,q1,q2,q3,q4,q5,q6⟩:=qmg us.length us {l with rules:=l.rules+1,body:=false,args:=0,want:=3} [] zl rfl he hal E2 g4;simp only[Nat.zero_add,List.length_nil] at q2 q5 q6;have hk2:=(qg1 _ _ _ _ _ q1).2.1;have Qg0:=(qg1 _ _ _ _ _ q1).2.2.1;obtain⟨bs,m,l',p1,p2,p3,p4,p5,p6,p7,p8,p9⟩:=qrb us.length (us.drop k) {l with rules:=l.rules+1,body:=false,args:=0+L.length,want:=5} vsF (by simp;omega) rfl he hal q4 q3 (λh=>by simp at h);simp only[Bool.false_eq_true,if_false] at p2;have hr':l'.rules=l.rules+1:=p4;obtain⟨rs,s1,s2,s3⟩:=qhx f ((us.drop k).drop (m+1)) l' (by simp at hn ⊢;omega) p3 p5 p6 p8 p7 (by omega);refine⟨⟨⟨t.text,L⟩,bs⟩::rs,?_,by simp;omega,λr hr=>?_⟩
    ·unfold qef;simp only[if_neg hk4,q1,p1,s1]
    ·rcases List.mem_cons.1 hr with rfl | hr
     ·exact⟨⟨q2,λt' ht'=>by have:=q5 t' ht';omega⟩,p2,λa ha=>⟨(p9 a ha).1,λt' ht'=>by have:=(p9 a ha).2 t' ht';omega⟩⟩
     ·exact s3 r hr
