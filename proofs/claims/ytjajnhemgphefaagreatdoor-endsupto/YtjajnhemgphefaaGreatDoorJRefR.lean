/- The document's own answer: are rules sound? -/
import Derived.Test.YtjajnhemgphefaaGreatDoorJRefM
set_option linter.unusedVariables false
set_option linter.unusedSimpArgs false
set_option maxRecDepth 100000
set_option maxHeartbeats 8000000
namespace Go.Proofs.YtjajnhemgphefaaGreatDoor
open Go renaming World->Wq,Value->Vq
open Go.RowKit Go.Shelf
variable {S B:Nat} {X Y W W':Wq} {ps:List (Am×Vq)} {qs:List (Rl×Vq×Vq)} {xs:List Vq}
theorem Kp.ofBelow(h:Below X.heap.size X Y):Kp S X Y:=
 ⟨λk c hc=>h.block k (zg hc).1,λk c _ hc=>h.block k (zg hc).1⟩
structure Qy(W:Wq)(v:Vq)(ps:List (Am×Vq)):Prop where
 row:W.ownsRow 0 145 2 v ps.length (ps.flatMap amC)
 each:∀p∈ps,qa7 W p
structure qag(W:Wq)(v:Vq)(qs:List (Rl×Vq×Vq)):Prop where
 row:W.ownsRow 0 148 3 v qs.length (qs.flatMap rlC)
 each:∀q∈qs,qa7 W (q.1.head,q.2.1)/\∃ps,ps.map (·.1)=q.1.body/\Qy W q.2.2 ps
theorem Qy.below{v:Vq}(h:Qy W v ps)(hb:Below W.heap.size W W'):Qy W' v ps:=
 ⟨qk h.row hb,λp hp=>(h.each p hp).kept (Kp.ofBelow (S:=0) hb)⟩
theorem qag.below{v:Vq}(h:qag W v qs)(hb:Below W.heap.size W W'):qag W' v qs:=
 ⟨qk h.row hb,λq hq=>by
  obtain⟨h1,ps,h2,h3⟩:=h.each q hq
  exact⟨h1.kept (Kp.ofBelow (S:=0) hb),ps,h2,h3.below hb⟩⟩
theorem qk6.rules{N:Nat}{w:Wq}{vl:Vq}(h:qk6 N w X vl qs):qag X vl qs:=
 ⟨Qm h.rows (Nat.zero_le _),λq hq=>by
  obtain⟨h1,ps,h2,h3,h4,h5⟩:=h.each q hq
  exact⟨h1,ps,h2,h3,h5⟩⟩
def rlV(q:Rl×Vq×Vq):Vq:=.agg #[.string q.1.head.rel,q.2.1,q.2.2]
theorem qmh(q:Rl×Vq×Vq)(ps:List (Am×Vq))(w:Wq)(hh:qa7 w (q.1.head,q.2.1))(hp:Qy w q.2.2 ps)(hl:ps.length<=1000) :
  Calls Tryz.prog 178 #[rlV q] w λe w'=>∃v,e=.returned v/\Qy w' v ((q.1.head,q.2.1)::ps)/\Below w.heap.size w w':=by
 obtain⟨i0,hi,hz0,hz1,hz2⟩:=info_parts Tryz.infoAm;obtain⟨⟨hd,bd⟩,va,vb⟩:=q;obtain⟨rel,args⟩:=hd;simp only at hh hp;unfold rlV;simp only;obtain⟨aa,ac,hva⟩:=qd hh;simp only at hva;subst hva
 have qga:Hid (((w.alloc (.cells #[.string rel,.slice aa args.length ac,vb] 148)).alloc (.cells #[.string rel,.slice aa args.length ac] 145)).ownsRow w.heap.size 145 2 (.slice (some ⟨w.heap.size+1,0,none⟩) 1 1) 1 [.string rel,.slice aa args.length ac]):=by
  refine⟨rfl,.inr ⟨w.heap.size+1,1,#[.string rel,.slice aa args.length ac],rfl,by omega,?_,Nat.le_refl _,by unfold maxLen;decide,rfl,rfl⟩⟩;have:=World.alloc_heap_new (w.alloc (.cells #[.string rel,.slice aa args.length ac,vb] 148)) (.cells #[.string rel,.slice aa args.length ac] 145);rw[World.size_alloc] at this;exact this
 have hb2:Hid (Below w.heap.size w ((w.alloc (.cells #[.string rel,.slice aa args.length ac,vb] 148)).alloc (.cells #[.string rel,.slice aa args.length ac] 145))):=((Below.refl _ w).alloc zl _).alloc (by simp) _;have HH:Hid (qa7 w (⟨rel,args⟩,.slice aa args.length ac)):=hh;have HP:Hid (Qy w vb ps):=hp;have Q4:=hp.row;clear hh hp;have qrq:=Q4
 have hvb:vb=.slice none 0 0/\ps=[]\/∃g c,vb=.slice (some ⟨g,0,none⟩) ps.length c/\g < w.heap.size/\∀j u,(ps.flatMap amC)[j]?=some u->w.cell? ((⟨g,0,none⟩:Addr).add j)=some u:=by
  obtain⟨h0,⟨hv,hn⟩ | ⟨g,cap,cur,hv,hb,hw,h1,h2,h3,h4⟩⟩:=Q4
  ·exact .inl ⟨hv,List.eq_nil_of_length_eq_zero hn⟩
  ·refine .inr ⟨g,cap,hv,(zg hw).1,?_⟩;have:=World.ownsRow.cells qrq (g:=g) (by rw[hv];rfl);exact this
 rcases hvb with⟨rfl,rfl⟩ | ⟨g,c,rfl,hg,hcl⟩
 ·go_enter Tryz.func178,Tryz.ntmps178;go_wp2;go_ret;refine⟨_,rfl,⟨Qm (by simpa [amC] using qga.out) (Nat.zero_le _),λp hp=>?_⟩,hb2.out⟩;simp at hp;subst hp;exact HH.out.kept (Kp.ofBelow (S:=0) hb2.out)
 ·have HCL:Hid (∀j u,(ps.flatMap amC)[j]?=some u->((w.alloc (.cells #[.string rel,.slice aa args.length ac,.slice (some ⟨g,0,none⟩) ps.length c] 148)).alloc (.cells #[.string rel,.slice aa args.length ac] 145)).cell? ((⟨g,0,none⟩:Addr).add j)=some u):=by
   intro j u hu;have qh8:((⟨g,0,none⟩:Addr).add j).block=g:=by simp[Addr.add];split <;> rfl
   exact (Below.cell hb2.out (by rw[qh8];exact hg)).trans (hcl j u hu)
  have h1c:∀u∈ps.flatMap amC,u.oneCell'=true:=by
   intro u hu;obtain⟨p,hp,hup⟩:=List.mem_flatMap.1 hu;obtain⟨a',c',hf⟩:=qd (HP.out.each p hp);simp only[amC,List.mem_cons,List.not_mem_nil,or_false] at hup;rcases hup with rfl | rfl
   ·rfl
   ·rw[hf];rfl
  have hc3:1+ps.length<=maxLen:=by unfold maxLen;omega
  have hc4:(1+ps.length)*40<=140737488355328:=by omega
  have hc5:Hid (∀O O',w.heap.size<=((w.alloc O).alloc O').heap.size):=λO O'=>by simp;omega
  have Q7:(ps.flatMap amC).length=ps.length*2:=qow amC 2 qyi ps;clear hcl Q4 qrq;go_enter Tryz.func178,Tryz.ntmps178
  go_wp2_with (at_builtin;refine wpList_append_own _ rfl (.tmp 7) (.tmp 9) 146 rfl w.heap.size 145 i0 (.agg #[.string ⟨#[]⟩,.slice none 0 0]) 2 40 Tryz.underlying146 hi hz0 hz1 hz2 rfl (by decide) _ _ _ rfl qga.out ⟨g,0,none⟩ ps.length c (ps.flatMap amC) rfl Q7 HCL.out h1c hc3 hc4 (hc5.out _ _) ?_;intro v' w1 hown1 hgrow1 _)
  have hb3:Below w.heap.size w w1:=hb2.out.grown hgrow1 (hc5.out _ _) (λk hk=>by have:=(Qh qga.out k hk).1;omega);go_ret;refine⟨_,rfl,⟨?_,λp hp=>?_⟩,hb3⟩
  ·have e:((⟨rel,args⟩,Value.slice aa args.length ac)::ps).length=1+ps.length:=by simp;omega
   rw[e];refine Qm (B:=w.heap.size) ?_ (Nat.zero_le _);simpa [amC] using hown1
  ·rcases List.mem_cons.1 hp with rfl | hp
   ·exact HH.out.kept (Kp.ofBelow (S:=0) hb3)
   ·exact (HP.out.each p hp).kept (Kp.ofBelow (S:=0) hb3)
theorem Qy.cell{v:Vq}(h:Qy W v ps)(k:Nat)(hk:k < ps.length) :
  ∃g cap,v=.slice (some ⟨g,0,none⟩) ps.length cap/\g < W.heap.size/\W.cell? ⟨g,k*2,none⟩=some (.string ps[k].1.rel)/\W.cell? ⟨g,k*2+1,none⟩=some ps[k].2/\(∃a c,ps[k].2=.slice a ps[k].1.args.length c)/\qa7 W ps[k]:=by
 obtain⟨g,cap,e1,e2,e3,e4,e5⟩:=qbq h.row qyi (by omega);have hA:=h.each ps[k] (List.getElem_mem hk);exact⟨g,cap,e1,e3,e5 k 0 hk _ (by decide) rfl,e5 k 1 hk _ (by decide) rfl,qd hA,hA⟩
theorem qag.cell{v:Vq}(h:qag W v qs)(k:Nat)(hk:k < qs.length) :
  ∃g cap,v=.slice (some ⟨g,0,none⟩) qs.length cap/\g < W.heap.size/\W.cell? ⟨g,k*3,none⟩=some (.string qs[k].1.head.rel)/\W.cell? ⟨g,k*3+1,none⟩=some qs[k].2.1/\W.cell? ⟨g,k*3+2,none⟩=some qs[k].2.2/\
   qa7 W (qs[k].1.head,qs[k].2.1)/\∃ps,ps.map (·.1)=qs[k].1.body/\Qy W qs[k].2.2 ps:=by
 obtain⟨g,cap,e1,e2,e3,e4,e5⟩:=qbq h.row qtj (by omega);have hA:=h.each qs[k] (List.getElem_mem hk);exact⟨g,cap,e1,e3,e5 k 0 hk _ (by decide) rfl,e5 k 1 hk _ (by decide) rfl,e5 k 2 hk _ (by decide) rfl,hA⟩
theorem qa7.cell{p:Am×Vq}(h:qa7 W p)(j:Nat)(hj:j < p.1.args.length) :
  ∃g cap,p.2=.slice (some ⟨g,0,none⟩) p.1.args.length cap/\g < W.heap.size/\W.cell? ⟨g,j*2,none⟩=some (.string p.1.args[j].name)/\W.cell? ⟨g,j*2+1,none⟩=some (.int .i64 p.1.args[j].num):=by
 obtain⟨g,cap,e1,e2,e3,e4,e5⟩:=qbq h q7e (by omega);exact⟨g,cap,e1,e3,e5 j 0 hj _ (by decide) rfl,e5 j 1 hj _ (by decide) rfl⟩
def qac:List Am->ByteArray->Nat
 | [],_=>0
 | a::l,rel=>if Q2 rel a.rel=true then a.args.length else qac l rel
def Qt(qs:List (Rl×Vq×Vq)):List Am:=qs.flatMap (λq=>qy q.1)
theorem qhl(v:Vq)(qs:List (Rl×Vq×Vq))(rel:ByteArray)(w:Wq)(hR:qag w v qs)(hl:qs.length<=1000)(hb:∀q∈qs,q.1.body.length<=900) :
  Calls Tryz.prog 117 #[v,.string rel] w λe w'=>e=.returned (.int .i64 (qac (Qt qs) rel))/\Below w.heap.size w w':=by
 obtain⟨N,hN⟩:∃N,N=w.heap.size:=⟨_,rfl⟩;have hNr:=hN.symm;obtain⟨va,vc,hv⟩:=qd hR.row;rw[<- hN];have HR:Hid (qag w v qs):=hR;subst hv;clear hR hN;go_enter Tryz.func117,Tryz.ntmps117;go_wp2
 go_loopw [5] (λp wr=>∃i:Nat,p=.int .i64 i/\i<=qs.length/\Below N w wr/\Hid (qac (Qt (qs.drop i)) rel=qac (Qt qs) rel)) (λp _=>qs.length - (intOf p).toNat)
 case atStart=>exact⟨0,rfl,Nat.zero_le _,Below.refl _ _,rfl⟩
 case round=>
  obtain⟨i,rfl,hle,hbe,hsp⟩:=hrel;by_cases hlt:i < qs.length
  ·have hR2:=HR.out.below (by rw[hNr];exact hbe);obtain⟨g,cap,e1,hg,c0,c1,c2,hA,ps,hps,hAs⟩:=hR2.cell i hlt;cases e1;have hNw:N<=wr.heap.size:=by have:=hbe.size;omega
   have hbl:=hb qs[i] (List.getElem_mem hlt);have hpl:ps.length<=900:=by have:=congrArg List.length hps;simp at this;omega
   have hat:=qmh qs[i] ps wr hA hAs (by omega);have hdr:=List.drop_eq_getElem_cons hlt
   have qnz:Qt (qs.drop i)=(qs[i].1.head::ps.map (·.1))++Qt (qs.drop (i+1)):=by
    rw[hdr];unfold Qt qy;rw[List.flatMap_cons,hps]
   rw[qnz] at hsp;clear qnz hdr hps hR2;unfold rlV at hat;obtain⟨a1,a2,hq1⟩:=qd hA;simp only at hq1;obtain⟨b1,b2,hq2⟩:=qd hAs.row;rw[hq1] at c1 hat;rw[hq2] at c2 hat;generalize qs[i]=q at *;generalize q.1.head.rel=hrl at *;generalize hq:((q.1.head,Value.slice a1 q.1.head.args.length a2)::ps)=qp at *
   have q6m:Hid (qac (qp.map (·.1)++Qt (qs.drop (i+1))) rel=qac (Qt qs) rel):=by
    rw[<- hq];exact hsp.out
   have Qc2:qp.length<=901:=by rw[<- hq];simp;omega
   have HBE:Hid (Below N w wr):=hbe;clear hbe hsp hq hA hAs hq1 hq2;go_wp2_with fail;refine hat.mono ?_;rintro e W1 ⟨vp,rfl,hAp,hbp⟩;have hbN:Below N w W1:=HBE.out.trans (hbp.mono hNw);obtain⟨pa,pc,hvp⟩:=qd hAp.row;subst hvp;have HAP:Hid (Qy W1 (.slice pa qp.length pc) qp):=hAp;have HBN:Hid (Below N w W1):=hbN;clear hAp hbp hbN hat;go_wp2
   go_loopw [7] (λp wr=>∃k:Nat,p=.int .i64 k/\k<=qp.length/\wr=W1/\Hid (qac ((qp.drop k).map (·.1)++Qt (qs.drop (i+1))) rel=qac (Qt qs) rel)) (λp _=>qp.length - (intOf p).toNat)
   case atStart=>exact⟨0,rfl,Nat.zero_le _,rfl,q6m⟩
   case round=>
    obtain⟨k,rfl,qsz,hWW,hsk⟩:=hrel;obtain rfl:W1=wr:=hWW.symm;by_cases hkl:k < qp.length
    ·obtain⟨g2,cap2,e2,hg2,d0,d1,⟨x1,x2,hx⟩,_⟩:=HAP.out.cell k hkl;cases e2;rw[hx] at d1;have hdr:=List.drop_eq_getElem_cons hkl;rw[hdr] at hsk;generalize qp[k]=pk at *;simp only[List.map_cons,List.cons_append,qac] at hsk;by_cases hs:Q2 rel pk.1.rel=true
     ·rw[if_pos hs] at hsk;unfold Q2 at hs;generalize pk.1.rel=pr at *;go_wp2;go_ret;rw[<- hsk.out];exact⟨rfl,HBN.out⟩
     ·have hs':Q2 rel pk.1.rel=false:=by simpa using hs
      rw[if_neg hs] at hsk;unfold Q2 at hs';generalize pk.1.rel=pr at *;clear hs;go_wp2
      go_roundw
      case rel=>exact⟨k+1,by go_num,by omega,by trivial,hsk⟩
      case measure=>simp[intOf];omega
    ·rw[List.drop_eq_nil_of_le (by omega)] at hsk;simp only[List.map_nil,List.nil_append] at hsk;go_wp2
     go_roundw
     case rel=>exact⟨i+1,by go_num,by omega,HBN.out,hsk⟩
     case measure=>simp[intOf];omega
  ·rw[List.drop_eq_nil_of_le (by omega)] at hsp;go_wp2;go_ret;rw[<- hsp.out];exact⟨rfl,hbe⟩
theorem qq5(B:Nat)(v:Vq)(vs:List ByteArray)(x:ByteArray)(w:Wq)(hB:B<=w.heap.size)(hl:vs.length<=1000000)(qr:w.ownsRow B 9 1 v vs.length (vs.map Value.string)) :
  Calls Tryz.prog 119 #[v,.string x] w λe w'=>∃v',e=.returned v'/\w'.ownsRow B 9 1 v' (Qc vs x).length ((Qc vs x).map Value.string)/\w.grownBy w' v.ownBlock:=by
 obtain⟨i0,hi,hz0,hz1,hz2⟩:=info_parts Tryz.infoStr;obtain⟨a,c,hv⟩:=qd qr
 have qb5:∀(j:Nat) (hj:j < vs.length),∃g,a=some ⟨g,0,none⟩/\w.cell? ⟨g,j,none⟩=some (.string vs[j]):=by
  intro j hj;have h2:=qr;rw[qjo] at h2;obtain⟨g,cap,e1,e2,e3,e4,e5⟩:=qbq h2 ql4 (by omega);rw[hv] at e1;cases e1;have:=e5 j 0 hj (.string vs[j]) (by decide) rfl;rw[Nat.mul_one,Nat.add_zero] at this;exact⟨g,rfl,this⟩
 subst hv;have HO:Hid (w.ownsRow B 9 1 (.slice a vs.length c) vs.length (vs.map Value.string)):=qr;have HC:Hid _:=qb5;clear qr qb5;go_enter Tryz.func119,Tryz.ntmps119;go_wp2
 go_loopw [5] (λp wr=>∃i:Nat,p=.int .i64 i/\i<=vs.length/\wr=w/\Hid (∀(j:Nat) (hj:j < vs.length),j < i->Q2 x vs[j]=false)) (λp _=>vs.length - (intOf p).toNat)
 case atStart=>exact⟨0,rfl,Nat.zero_le _,rfl,λj hj h=>by omega⟩
 case round=>
  obtain⟨i,rfl,hle,rfl,hno⟩:=hrel;by_cases hlt:i < vs.length
  ·obtain⟨g,rfl,Ql⟩:=HC.out i hlt;obtain⟨y,hy⟩:∃y,vs[i]=y:=⟨_,rfl⟩;rw[hy] at Ql;have HY:Hid (vs[i]=y):=hy;clear hy;by_cases hs:Q2 x y=true
   ·have hN:=qjn vs x i hlt (by rw[HY.out];exact hs) hno.out;have HN:Hid _:=hN;clear hN;unfold Q2 at hs;go_wp2;go_ret;have hL:Qc vs x=vs:=by unfold Qc;rw[if_pos (by rw[HN.out];exact hlt)]
    rw[hL];exact⟨_,rfl,HO.out,World.grownBy.refl _ _⟩
   ·have hs':Q2 x y=false:=by simpa using hs
    have q3h:Hid (∀(j:Nat) (hj:j < vs.length),j < i+1->Q2 x vs[j]=false):=by
     intro j hj hji;by_cases e:j=i
     ·subst e;rw[HY.out];exact hs'
     ·exact hno.out j hj (by omega)
    unfold Q2 at hs';clear hs;go_wp2
    go_roundw
    case rel=>exact⟨i+1,by go_num,by omega,by trivial,q3h⟩
    case measure=>simp[intOf];omega
  ·have hN:=qkz vs x (λj hj=>hno.out j hj (by omega));have hL:Qc vs x=vs++[x]:=by unfold Qc;rw[if_neg (by omega)]
   have HL:Hid (Qc vs x=vs++[x]):=hL;have hc3:vs.length+1<=maxLen:=by unfold maxLen;omega
   have hc4:(vs.length+1)*16<=140737488355328:=by omega
   have hc5:Hid (∀O,B<=(wr.alloc O).heap.size):=λO=>by simp;omega
   have h1c:∀u∈[Value.string x],u.oneCell'=true:=by simp[Value.oneCell']
   clear hN hL
   go_wp2_with (at_builtin;refine wpList_append_own _ rfl (.tmp 19) (.tmp 21) 22 rfl B 9 i0 (.string ⟨#[]⟩) 1 16 Tryz.underlying22 hi hz0 hz1 hz2 rfl (by decide) _ _ _ rfl (HO.out.alloc _) ⟨wr.heap.size,0,none⟩ 1 1 [.string x] rfl rfl (qgd _ _ _) h1c hc3 hc4 (hc5.out _) ?_;intro v' w1 hown1 hgrow1 _)
   go_ret;rw[HL.out];refine⟨_,rfl,?_,?_⟩
   ·simpa using hown1
   ·exact⟨hgrow1.os,hgrow1.tape,hgrow1.output,by have:=hgrow1.size;simp at this;omega,λk hk hn=>(hgrow1.block k (by simp;omega) hn).trans (Below.heap_alloc _ _ _ hk)⟩
def qhg(n:Nat)(t:Tm):Bool:=t.name.toList.isEmpty && decide (t.num=n)
def qz(bd:List Am)(n:Nat):Bool:=bd.any (λa=>a.args.any (qhg n))
theorem qz0(q:Rl×Vq×Vq)(ps:List (Am×Vq))(n:Nat)(w:Wq)(hp:Qy w q.2.2 ps)(hA:qa7 w (q.1.head,q.2.1))(hps:ps.map (·.1)=q.1.body)(hl:ps.length<=1000)(hn:n<=1000000)(hm:∀p∈ps,p.1.args.length<=1000000/\∀t∈p.1.args,t.num<=1000000) :
  Calls Tryz.prog 179 #[rlV q,.int .i64 n] w λe w'=>e=.returned (.bool (qz q.1.body n))/\Below w.heap.size w w':=by
 rw[<- hps];unfold rlV;obtain⟨a1,a2,hq1⟩:=qd hA;simp only at hq1;obtain⟨b1,b2,hq2⟩:=qd hp.row;rw[hq1];rw[hq2] at hp ⊢;clear hps hq1 hq2;generalize q.1.head.rel=hrl at *;generalize q.1.head.args.length=hal at *;have HP:Hid (∀O,Qy (w.alloc O) (.slice b1 ps.length b2) ps):=λO=>hp.below ((Below.refl _ w).alloc zl O);have hbw:Hid (∀O,Below w.heap.size w (w.alloc O)):=λO=>(Below.refl _ w).alloc zl O;clear hp hA;go_enter Tryz.func179,Tryz.ntmps179;go_wp2
 go_loopw [5] (λp wr=>∃i:Nat,p=.int .i64 i/\i<=ps.length/\wr=w.alloc (.cells #[.string hrl,.slice a1 hal a2,.slice b1 ps.length b2] 148)/\Hid (qz ((ps.drop i).map (·.1)) n=qz (ps.map (·.1)) n)) (λp _=>ps.length - (intOf p).toNat)
 case atStart=>exact⟨0,rfl,Nat.zero_le _,rfl,rfl⟩
 case round=>
  obtain⟨i,rfl,hle,rfl,hsp⟩:=hrel;by_cases hlt:i < ps.length
  ·obtain⟨g,cap,e1,hg,c0,c1,⟨x1,x2,hx⟩,hAV⟩:=(HP.out (.cells #[.string hrl,.slice a1 hal a2,.slice b1 ps.length b2] 148)).cell i hlt;cases e1;rw[List.drop_eq_getElem_cons hlt] at hsp;have hmi:=hm ps[i] (List.getElem_mem hlt);rw[hx] at c1;generalize ps[i]=p at *;simp only[List.map_cons,qz,List.any_cons] at hsp
   have hcl:Hid (∀(j:Nat) (hj:j < p.1.args.length),∃g2,x1=some ⟨g2,0,none⟩/\(w.alloc (.cells #[.string hrl,.slice a1 hal a2,.slice (some ⟨g,0,none⟩) ps.length b2] 148)).cell? ⟨g2,j*2,none⟩=some (.string p.1.args[j].name)/\(w.alloc (.cells #[.string hrl,.slice a1 hal a2,.slice (some ⟨g,0,none⟩) ps.length b2] 148)).cell? ⟨g2,j*2+1,none⟩=some (.int .i64 p.1.args[j].num)):=by
    intro j hj;obtain⟨g2,cap2,e2,_,d0,d1⟩:=hAV.cell j hj;rw[hx] at e2;cases e2;exact⟨g2,rfl,d0,d1⟩
   have HSP:Hid ((p.1.args.any (qhg n) || qz ((ps.drop (i+1)).map (·.1)) n)=qz (ps.map (·.1)) n):=hsp;obtain⟨hm1,hm2⟩:=hmi;clear hsp hAV hx c0;generalize p.1.args=args at *;go_wp2
   go_loopw [6] (λp wr=>∃k:Nat,p=.int .i64 k/\k<=args.length/\wr=w.alloc (.cells #[.string hrl,.slice a1 hal a2,.slice (some ⟨g,0,none⟩) ps.length b2] 148)/\Hid (((args.drop k).any (qhg n) || qz ((ps.drop (i+1)).map (·.1)) n)=qz (ps.map (·.1)) n)) (λp _=>args.length - (intOf p).toNat)
   case atStart=>exact⟨0,rfl,Nat.zero_le _,rfl,HSP⟩
   case round=>
    obtain⟨k,rfl,qsz,rfl,hsk⟩:=hrel;by_cases hkl:k < args.length
    ·obtain⟨g2,rfl,d0,d1⟩:=hcl.out k hkl;have hm3:=hm2 args[k] (List.getElem_mem hkl);rw[List.drop_eq_getElem_cons hkl] at hsk;generalize args[k]=tm at *;obtain⟨nm,nu⟩:=tm;simp only[List.any_cons] at hsk d0 d1 hm3;by_cases h1:nm.toList.isEmpty=true
     ·by_cases h2:nu=n
      ·subst h2;have hT:qhg nu ⟨nm,nu⟩=true:=by unfold qhg;simp[h1]
       rw[hT] at hsk;go_wp2;go_ret;rw[<- hsk.out];exact⟨by simp,hbw.out _⟩
      ·have hT:qhg n ⟨nm,nu⟩=false:=by unfold qhg;simp[h2]
       rw[hT] at hsk;have m2:((nu:Int) == (n:Int))=false:=by simp;omega
       go_wp2
       go_roundw
       case rel=>exact⟨k+1,by go_num,by omega,by trivial,by simpa using hsk⟩
       case measure=>simp[intOf];omega
     ·have h1':nm.toList.isEmpty=false:=by simpa using h1
      have hT:qhg n ⟨nm,nu⟩=false:=by unfold qhg;simp[h1']
      rw[hT] at hsk;clear h1;go_wp2
      go_roundw
      case rel=>exact⟨k+1,by go_num,by omega,by trivial,by simpa using hsk⟩
      case measure=>simp[intOf];omega
    ·rw[List.drop_eq_nil_of_le (by omega)] at hsk;simp only[List.any_nil,Bool.false_or] at hsk;go_wp2
     go_roundw
     case rel=>exact⟨i+1,by go_num,by omega,by trivial,hsk⟩
     case measure=>simp[intOf];omega
  ·rw[List.drop_eq_nil_of_le (by omega)] at hsp;go_wp2;go_ret;rw[<- hsp.out];exact⟨rfl,hbw.out _⟩
theorem qpo(vs:List ByteArray)(t:Tm):vs.length<=(qax vs t).length/\(qax vs t).length<=vs.length+1:=by
 unfold qax Qc;split
 ·omega
 ·split <;> simp
theorem qtc(l:List Tm):∀vs,vs.length<=(nmL vs l).length/\(nmL vs l).length<=vs.length+l.length:=by
 induction l with
 | nil=>intro vs;simp[nmL]
 | cons t l ih=>
  intro vs;have h1:=qpo vs t;have h2:=ih (qax vs t);simp only[nmL,List.foldl_cons,List.length_cons] at h2 ⊢;omega
theorem Kp.grownStr{n:Nat}{v:Vq}(ho:X.ownsRow B 9 1 v n xs)(hg:X.grownBy Y v.ownBlock):Kp S X Y:=by
 refine⟨λk c hc=>hg.block k (zg hc).1 (λe=>?_),λk c hk hc=>hg.block k (zg hc).1 (λe=>?_)⟩
 ·obtain⟨c',hc'⟩:=qi ho e.symm;rw[hc] at hc';cases hc'
 ·obtain⟨c',hc'⟩:=qi ho e.symm;rw[hc] at hc';cases hc'
theorem Qy.grownStr{n:Nat}{v va:Vq}(h:Qy X va ps)(ho:X.ownsRow B 9 1 v n xs)(hg:X.grownBy Y v.ownBlock):Qy Y va ps:=by
 refine⟨qm h.row (λg hg' hlt=>?_),λp hp=>(h.each p hp).kept (Kp.grownStr (S:=0) ho hg)⟩;obtain⟨c,hc⟩:=qi h.row hg';exact (Kp.grownStr (S:=X.heap.size) ho hg).atom g c hlt hc
structure qf0(N:Nat)(w X:Wq)(vo:Vq)(vs:List ByteArray):Prop where
 below:Below N w X
 size:N<=X.heap.size
 own:X.ownsRow N 9 1 vo vs.length (vs.map Value.string)
theorem qr1(v:Vq)(qs:List (Rl×Vq×Vq))(w:Wq)(hR:qag w v qs)(hl:qs.length<=1000)(hb:∀q∈qs,q.1.body.length<=900)(ht:(Qp (Qt qs)).length<=100000)(hm:∀a∈Qt qs,a.args.length<=1000) :
  Calls Tryz.prog 112 #[v] w λe w'=>∃v',e=.returned v'/\qf0 w.heap.size w w' v' (nmL [] (Qp (Qt qs))):=by
 obtain⟨N,hN⟩:∃N,N=w.heap.size:=⟨_,rfl⟩;have hNr:=hN.symm;obtain⟨va,vc,hv⟩:=qd hR.row;rw[<- hN];have hT:=(qtc (Qp (Qt qs)) []).2;have HR:Hid (qag w v qs):=hR;subst hv;clear hR hN;generalize hTT:nmL [] (Qp (Qt qs))=T at *;have hTl:T.length<=100000:=by simp at hT;omega
 clear hT;go_enter Tryz.func112,Tryz.ntmps112;go_wp2
 go_loopw [3,4] (λo p wr=>∃(i:Nat) (vo:Vq) (vs:List ByteArray),vo=o/\p=.int .i64 i/\i<=qs.length/\qf0 N w wr vo vs/\Hid (nmL vs (Qp (Qt (qs.drop i)))=T)) (λ_ p _=>qs.length - (intOf p).toNat)
 case atStart=>exact⟨0,_,[],rfl,rfl,Nat.zero_le _,⟨Below.refl _ _,by omega,World.ownsRow_nil _ _ _ _⟩,hTT⟩
 case round=>
  obtain⟨i,vo,vs,rfl,rfl,hle,hNm,hsp⟩:=hrel;by_cases hlt:i < qs.length
  ·have hR2:=HR.out.below (by rw[hNr];exact hNm.below);obtain⟨g,cap,e1,hg,c0,c1,c2,hA,ps,hps,hAs⟩:=hR2.cell i hlt;cases e1;have hNw:N<=wr.heap.size:=hNm.size;have hbl:=hb qs[i] (List.getElem_mem hlt);have hpl:ps.length<=900:=by have:=congrArg List.length hps;simp at this;omega
   have hat:=qmh qs[i] ps wr hA hAs (by omega);have hdr:=List.drop_eq_getElem_cons hlt
   have qnz:Qt (qs.drop i)=(qs[i].1.head::ps.map (·.1))++Qt (qs.drop (i+1)):=by
    rw[hdr];unfold Qt qy;rw[List.flatMap_cons,hps]
   rw[qnz] at hsp
   have hqm:∀p∈(qs[i].1.head,qs[i].2.1)::ps,p.1.args.length<=1000:=by
    intro p hp;refine hm p.1 (List.mem_flatMap.2 ⟨qs[i],List.getElem_mem hlt,?_⟩);rcases List.mem_cons.1 hp with rfl | hp
    ·exact List.mem_cons_self
    ·refine List.mem_cons_of_mem _ ?_;rw[<- hps];exact List.mem_map.2 ⟨p,hp,rfl⟩
   clear qnz hdr hps hR2;unfold rlV at hat;obtain⟨a1,a2,hq1⟩:=qd hA;simp only at hq1;obtain⟨b1,b2,hq2⟩:=qd hAs.row;rw[hq1] at c1 hat hqm;rw[hq2] at c2 hat;generalize qs[i]=q at *;generalize q.1.head.rel=hrl at *;generalize hq:((q.1.head,Value.slice a1 q.1.head.args.length a2)::ps)=qp at *
   have q6m:Hid (nmL vs (Qp (qp.map (·.1)++Qt (qs.drop (i+1))))=T):=by
    rw[<- hq];exact hsp.out
   have Qc2:qp.length<=901:=by rw[<- hq];simp;omega
   have HNM:Hid (qf0 N w wr vo vs):=hNm;clear hNm hsp hq hA hAs hq1 hq2;go_wp2_with fail;refine hat.mono ?_;rintro e W1 ⟨vp,rfl,hAp,hbp⟩;have hN1:qf0 N w W1 vo vs:=⟨HNM.out.below.trans (hbp.mono hNw),Nat.le_trans hNw hbp.size,qk HNM.out.own hbp⟩;obtain⟨pa,pc,hvp⟩:=qd hAp.row;subst hvp;have HAP:Hid (Qy W1 (.slice pa qp.length pc) qp):=hAp;have HN1:Hid (qf0 N w W1 vo vs):=hN1;clear hAp hbp hN1 hat HNM c0 c1 c2;go_wp2
   go_loopw [3,6] (λo p wr=>∃(k:Nat) (vo:Vq) (vs:List ByteArray),vo=o/\p=.int .i64 k/\k<=qp.length/\qf0 N w wr vo vs/\Qy wr (.slice pa qp.length pc) qp/\Hid (nmL vs (Qp ((qp.drop k).map (·.1)++Qt (qs.drop (i+1))))=T)) (λ_ p _=>qp.length - (intOf p).toNat)
   case atStart=>exact⟨0,_,vs,rfl,rfl,Nat.zero_le _,HN1.out,HAP.out,q6m⟩
   case round=>
    clear HN1 HAP q6m;obtain⟨k,vo,vs,rfl,rfl,qsz,hNm,hAp,hsk⟩:=hrel;by_cases hkl:k < qp.length
    ·rw[List.drop_eq_getElem_cons hkl] at hsk
     have HSK:Hid (nmL vs (qp[k].1.args++Qp ((qp.drop (k+1)).map (·.1)++Qt (qs.drop (i+1))))=T):=by
      have:=hsk.out;rw[List.map_cons,List.cons_append] at this;unfold Qp at this ⊢;rw[List.flatMap_cons] at this;exact this
     have HNM:Hid (qf0 N w wr vo vs):=hNm;have HAP:Hid (Qy wr (.slice pa qp.length pc) qp):=hAp;clear hsk hNm hAp;go_wp2
     go_loopw [3,7] (λo p wr=>∃(m:Nat) (vo:Vq) (vs:List ByteArray),vo=o/\p=.int .i64 m/\m<=qp[k].1.args.length/\qf0 N w wr vo vs/\Qy wr (.slice pa qp.length pc) qp/\Hid (nmL vs (qp[k].1.args.drop m++Qp ((qp.drop (k+1)).map (·.1)++Qt (qs.drop (i+1))))=T)) (λ_ p _=>qp[k].1.args.length - (intOf p).toNat)
     case atStart=>exact⟨0,_,vs,rfl,rfl,Nat.zero_le _,HNM.out,HAP.out,HSK⟩
     case round=>
      clear HNM HAP HSK;obtain⟨m,vo,vs,rfl,rfl,Qfn,hNm,hAp,hsm⟩:=hrel;obtain⟨g2,cap2,e2,hg2,d0,d1,⟨x1,x2,hx⟩,hAV⟩:=hAp.cell k hkl;cases e2;rw[hx] at d1;have hal:=hqm qp[k] (List.getElem_mem hkl);by_cases hml:m < qp[k].1.args.length
      ·obtain⟨g3,cap3,e3,_,f0,f1⟩:=hAV.cell m hml;rw[hx] at e3;cases e3;rw[List.drop_eq_getElem_cons hml] at hsm;generalize qp[k].1.args[m]=tm at *;simp only[List.cons_append,nmL,List.foldl_cons] at hsm;have HSM:Hid (nmL (qax vs tm) (qp[k].1.args.drop (m+1)++Qp ((qp.drop (k+1)).map (·.1)++Qt (qs.drop (i+1))))=T):=hsm;have hvl:=(qtc (qp[k].1.args.drop (m+1)++Qp ((qp.drop (k+1)).map (·.1)++Qt (qs.drop (i+1)))) (qax vs tm)).1;rw[HSM.out] at hvl;have q0i:=(qpo vs tm).1;have hvs:vs.length<=100000:=by omega
       clear hsm hvl q0i hx hAV d0;obtain⟨nm,nu⟩:=tm;simp only at f0 f1;by_cases h1:nm.toList.isEmpty=true
       ·have hst:qax vs ⟨nm,nu⟩=vs:=by unfold qax;rw[if_pos h1]
        rw[hst] at HSM;have HNM:Hid (qf0 N w wr vo vs):=hNm;have HAP:Hid (Qy wr (.slice (some ⟨g2,0,none⟩) qp.length pc) qp):=hAp;clear hNm hAp hst;go_wp2
        go_roundw
        case rel=>exact⟨m+1,vo,vs,rfl,by go_num,by omega,HNM.out,HAP.out,HSM⟩
        case measure=>simp[intOf];omega
       ·have h1':nm.toList.isEmpty=false:=by simpa using h1
        have hst:qax vs ⟨nm,nu⟩=Qc vs nm:=by unfold qax;rw[if_neg h1]
        rw[hst] at HSM;have had:=qq5 N vo vs nm wr hNm.size (by omega) hNm.own;have HNM:Hid (qf0 N w wr vo vs):=hNm;have HAP:Hid (Qy wr (.slice (some ⟨g2,0,none⟩) qp.length pc) qp):=hAp;clear hNm hAp hst h1
        go_wp2_with (go_at_call 119;refine had.mono ?_;rintro e w2 ⟨v2,rfl,ho2,hg2'⟩)
        have hN2:qf0 N w w2 v2 (Qc vs nm):=⟨HNM.out.below.grown hg2' HNM.out.size (λk e=>(Qh HNM.out.own k e).1),Nat.le_trans HNM.out.size hg2'.size,ho2⟩;have hA2:=HAP.out.grownStr HNM.out.own hg2';clear ho2 hg2'
        go_roundw
        case rel=>exact⟨m+1,v2,_,rfl,by go_num,by omega,hN2,hA2,HSM⟩
        case measure=>simp[intOf];omega
      ·rw[List.drop_eq_nil_of_le (by omega)] at hsm;simp only[List.nil_append] at hsm;have HNM:Hid (qf0 N w wr vo vs):=hNm;have HAP:Hid (Qy wr (.slice (some ⟨g2,0,none⟩) qp.length pc) qp):=hAp;clear hNm hAp hAV;go_wp2
       go_roundw
       case rel=>exact⟨k+1,vo,vs,rfl,by go_num,by omega,HNM.out,HAP.out,hsm⟩
       case measure=>simp[intOf];omega
    ·rw[List.drop_eq_nil_of_le (by omega)] at hsk;simp only[List.map_nil,List.nil_append] at hsk;have HNM:Hid (qf0 N w wr vo vs):=hNm;clear hNm hAp;go_wp2
     go_roundw
     case rel=>exact⟨i+1,vo,vs,rfl,by go_num,by omega,HNM.out,hsk⟩
     case measure=>simp[intOf];omega
  ·rw[List.drop_eq_nil_of_le (by omega)] at hsp;have hvT:vs=T:=by have:=hsp.out;simpa [nmL,Qp,Qt] using this
   subst hvT;go_wp2;go_ret;exact⟨vo,rfl,hNm⟩
def qap(rs:List Rl):List Am:=rs.flatMap qy
theorem qmc(qs:List (Rl×Vq×Vq)):Qt qs=qap (qs.map (·.1)):=by unfold Qt qap;rw[List.flatMap_map]
def qgz(all:List Am)(a:Am):Bool:=decide (qac all a.rel≠a.args.length)
def qb4(all:List Am)(r:Rl):Bool:=(qy r).any (qgz all)
def qgh(bd:List Am)(t:Tm):Bool:=t.name.toList.isEmpty && !qz bd t.num
def qdu(r:Rl):Bool:=r.head.args.any (qgh r.body)
def qba(p:Rl->Bool):List Rl->Nat->Option Nat
 | [],_=>none
 | r::l,i=>if p r=true then some i else qba p l (i+1)
def qa0:List ByteArray->List Rl->Nat->Option Nat
 | _,[],_=>none
 | vs,r::l,i=>if 8 < (nmL vs (Qp (qy r))).length then some i else qa0 (nmL vs (Qp (qy r))) l (i+1)
def qbh(rs:List Rl):Int×Nat:=
 match qba (qb4 (qap rs)) rs 0 with
 | some i=>(4,i)
 | none=>match qba qdu rs 0 with
  | some i=>(5,i)
  | none=>match qa0 [] rs 0 with
   | some i=>(3,i)
   | none=>(0,0)
structure qjz(qs:List (Rl×Vq×Vq)):Prop where
 few:qs.length<=1000
 body:∀q∈qs,q.1.body.length<=900
 tms:(Qp (Qt qs)).length<=100000
 args:∀a∈Qt qs,a.args.length<=1000/\∀t∈a.args,t.num<=1000000
theorem qjz.take(h:qjz qs)(k:Nat):qjz (qs.take k):=by
 have qix:∀a∈Qt (qs.take k),a∈Qt qs:=λa ha=>by
  obtain⟨q,hq,hqa⟩:=List.mem_flatMap.1 ha;exact List.mem_flatMap.2 ⟨q,List.mem_of_mem_take hq,hqa⟩
 refine⟨by rw[List.length_take];have:=h.few;omega,λq hq=>h.body q (List.mem_of_mem_take hq),?_,λa ha=>h.args a (qix a ha)⟩
 have e:Qp (Qt qs)=Qp (Qt (qs.take k))++Qp (Qt (qs.drop k)):=by
  unfold Qp Qt;rw[<- List.flatMap_append,<- List.flatMap_append,List.take_append_drop]
 have:=h.tms;rw[e,List.length_append] at this;omega
theorem qag.take{g n c:Nat}(h:qag W (.slice (some ⟨g,0,none⟩) qs.length c) qs)(k:Nat)(hk:k<=qs.length):qag W (.slice (some ⟨g,0,none⟩) k c) (qs.take k):=by
 refine⟨?_,λq hq=>h.each q (List.mem_of_mem_take hq)⟩;have Q7:(qs.take k).length=k:=by rw[List.length_take];omega
 obtain⟨h0,⟨hv,hn⟩ | ⟨g',cap,cur,hv,hb,hw,h1,h2,h3,h4⟩⟩:=h.row
 ·cases hv
 ·cases hv;refine⟨by rw[qow rlC 3 qtj],.inr ⟨g,c,cur,by rw[Q7],Nat.zero_le _,hw,by omega,h2,h3,?_⟩⟩;rw[Q7];have e:cur.toList.take (k*3)=(cur.toList.take (qs.length*3)).take (k*3):=by rw[List.take_take];congr 1;omega
  rw[e,h4];have e2:qs.flatMap rlC=(qs.take k).flatMap rlC++(qs.drop k).flatMap rlC:=by rw[<- List.flatMap_append,List.take_append_drop]
  rw[e2,List.take_left' (by rw[qow rlC 3 qtj,Q7])]
theorem qpn(vs:List ByteArray)(a b:List Tm):nmL vs (a++b)=nmL (nmL vs a) b:=by unfold nmL;rw[List.foldl_append]
theorem q0n{i:Nat}(hi:i < qs.length):Qp (Qt (qs.take (i+1)))=Qp (Qt (qs.take i))++Qp (qy qs[i].1):=by
 rw[List.take_succ_eq_append_getElem hi];unfold Qp Qt;simp only[List.flatMap_append,List.flatMap_cons,List.flatMap_nil,List.append_nil]
theorem qp0{va:Option Addr}{vc:Nat}(h:qag W (.slice va qs.length vc) qs)(i:Nat)(hi:i < qs.length)(hok:qjz qs) :
  ∃g ps,va=some ⟨g,0,none⟩/\g < W.heap.size/\W.cell? ⟨g,i*3,none⟩=some (.string qs[i].1.head.rel)/\W.cell? ⟨g,i*3+1,none⟩=some qs[i].2.1/\W.cell? ⟨g,i*3+2,none⟩=some qs[i].2.2/\
   qa7 W (qs[i].1.head,qs[i].2.1)/\ps.map (·.1)=qs[i].1.body/\Qy W qs[i].2.2 ps/\ps.length<=900/\(∃a c,qs[i].2.1=.slice a qs[i].1.head.args.length c)/\(∃a c,qs[i].2.2=.slice a ps.length c)/\
   ∀p∈(qs[i].1.head,qs[i].2.1)::ps,p.1∈Qt qs/\p.1.args.length<=1000/\∀t∈p.1.args,t.num<=1000000:=by
 obtain⟨g,cap,e1,hg,c0,c1,c2,hA,ps,hps,hAs⟩:=h.cell i hi;cases e1;have hbl:=hok.body qs[i] (List.getElem_mem hi);refine⟨g,ps,rfl,hg,c0,c1,c2,hA,hps,hAs,by have:=congrArg List.length hps;simp at this;omega,qd hA,qd hAs.row,λp hp=>?_⟩
 have hm:p.1∈Qt qs:=by
  refine List.mem_flatMap.2 ⟨qs[i],List.getElem_mem hi,?_⟩;rcases List.mem_cons.1 hp with rfl | hp
  ·exact List.mem_cons_self
  ·refine List.mem_cons_of_mem _ ?_;rw[<- hps];exact List.mem_map.2 ⟨p,hp,rfl⟩
 exact⟨hm,hok.args p.1 hm⟩
