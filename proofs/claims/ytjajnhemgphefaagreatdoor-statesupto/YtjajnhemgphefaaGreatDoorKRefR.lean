/- A part -/
import Derived.Test.YtjajnhemgphefaaGreatDoorKRefM
set_option linter.all false
set_option maxRecDepth 100000
set_option maxHeartbeats 8000000
namespace Go.Proofs.YtjajnhemgphefaaGreatDoor
open Go renaming World->Wq,Value->Vq
open Go.RowKit Go.Shelf
variable {S B:Nat} {X Y W W':Wq} {ps:List (Am×Vq)} {qs:List (Rl×Vq×Vq)} {xs:List Vq}
theorem Kp.ofBelow(h:Below X.heap.size X Y):Kp S X Y:=
 ⟨λk c hc=>h.block k (zg hc).1,λk c _ hc=>h.block k (zg hc).1⟩
structure Qz(W:Wq)(v:Vq)(ps:List (Am×Vq)):Prop where
 row:W.ownsRow 0 145 2 v ps.length (ps.flatMap amC)
 each:∀p∈ps,qa5 W p
structure qag(W:Wq)(v:Vq)(qs:List (Rl×Vq×Vq)):Prop where
 row:W.ownsRow 0 148 3 v qs.length (qs.flatMap rlC)
 each:∀q∈qs,qa5 W (q.1.head,q.2.1)/\∃ps,ps.map (·.1)=q.1.body/\Qz W q.2.2 ps
theorem Qz.below{v:Vq}(h:Qz W v ps)(hb:Below W.heap.size W W'):Qz W' v ps:=
 ⟨qk h.row hb,λp hp=>(h.each p hp).kept (Kp.ofBelow (S:=0) hb)⟩
theorem qag.below{v:Vq}(h:qag W v qs)(hb:Below W.heap.size W W'):qag W' v qs:=
 ⟨qk h.row hb,λq hq=>by
  obtain⟨h1,ps,h2,h3⟩:=h.each q hq
  exact⟨h1.kept (Kp.ofBelow (S:=0) hb),ps,h2,h3.below hb⟩⟩
theorem qll.rules{N:Nat}{w:Wq}{vl:Vq}(h:qll N w X vl qs):qag X vl qs:=
 ⟨Qa h.rows zz,λq hq=>by
  obtain⟨h1,ps,h2,h3,h4,h5⟩:=h.each q hq
  exact⟨h1,ps,h2,h3,h5⟩⟩
def rlV(q:Rl×Vq×Vq):Vq:=.agg #[.string q.1.head.rel,q.2.1,q.2.2]
theorem qmy(q:Rl×Vq×Vq)(ps:List (Am×Vq))(w:Wq)(hh:qa5 w (q.1.head,q.2.1))(hp:Qz w q.2.2 ps)(hl:ps.length<=1000) :
  Cs 178 #[rlV q] w λe w'=>∃v,e=.returned v/\Qz w' v ((q.1.head,q.2.1)::ps)/\Below w.heap.size w w':=by
 obtain⟨i0,hi,bu,b3,b5⟩:=info_parts Tryz.infoAm;obtain⟨⟨hd,bd⟩,va,vb⟩:=q;obtain⟨rel,args⟩:=hd;simp only at hh hp;unfold rlV;simp only;obtain⟨aa,ac,ci⟩:=qd hh;simp only at ci;subst ci
 have b8:Hid (((w.alloc (.cells #[.string rel,.slice aa args.length ac,vb] 148)).alloc (.cells #[.string rel,.slice aa args.length ac] 145)).ownsRow w.heap.size 145 2 (Sc (w.heap.size+1) 1 1) 1 [.string rel,.slice aa args.length ac]):=by
  refine⟨rfl,.inr ⟨w.heap.size+1,1,#[.string rel,.slice aa args.length ac],rfl,by omega,?_,Nat.le_refl _,by unfold maxLen;decide,rfl,rfl⟩⟩;have:=zn (w.alloc (.cells #[.string rel,.slice aa args.length ac,vb] 148)) (.cells #[.string rel,.slice aa args.length ac] 145);rw[World.size_alloc] at this;exact this
 have bt:Hid (Below w.heap.size w ((w.alloc (.cells #[.string rel,.slice aa args.length ac,vb] 148)).alloc (.cells #[.string rel,.slice aa args.length ac] 145))):=((Below.refl _ w).alloc zl _).alloc (by simp) _;have HH:Hid (qa5 w (⟨rel,args⟩,.slice aa args.length ac)):=hh;have HP:Hid (Qz w vb ps):=hp;have Qv:=hp.row;clear hh hp;have ce:=Qv
 have c3:vb=.slice none 0 0/\ps=[]\/∃g c,vb=Sc g ps.length c/\g < w.heap.size/\∀j u,(ps.flatMap amC)[j]?=some u->w.cell? ((⟨g,0,none⟩:Addr).add j)=some u:=by
  obtain⟨h0,⟨hv,hn⟩ | ⟨g,cap,bq,hv,hb,hw,h1,h2,h3,h4⟩⟩:=Qv
  .exact .inl ⟨hv,List.eq_nil_of_length_eq_zero hn⟩
  .refine .inr ⟨g,cap,hv,(zg hw).1,?_⟩;have:=World.ownsRow.cells ce (g:=g) (by rw[hv];rfl);exact this
 rcases c3 with⟨rfl,rfl⟩ | ⟨g,c,rfl,hg,bk⟩
 .go_enter Tryz.func178,Tryz.ntmps178;go_wp2;go_ret;refine⟨_,rfl,⟨Qa (by simpa [amC] using b8.out) zz,λp hp=>?_⟩,bt.out⟩;simp at hp;subst hp;exact HH.out.kept (Kp.ofBelow (S:=0) bt.out)
 .have dc:Hid (∀j u,(ps.flatMap amC)[j]?=some u->((w.alloc (.cells #[.string rel,.slice aa args.length ac,Sc g ps.length c] 148)).alloc (.cells #[.string rel,.slice aa args.length ac] 145)).cell? ((⟨g,0,none⟩:Addr).add j)=some u):=by
   intro j u hu;have b0:((⟨g,0,none⟩:Addr).add j).block=g:=by simp[Addr.add];split <;> rfl
   exact (Below.cell bt.out (by rw[b0];exact hg)).trans (bk j u hu)
  have cb:∀u∈ps.flatMap amC,u.oneCell'=true:=by
   intro u hu;obtain⟨p,hp,cg⟩:=List.mem_flatMap.1 hu;obtain⟨a',c',hf⟩:=qd (HP.out.each p hp);simp only[amC,List.mem_cons,List.not_mem_nil,or_false] at cg;rcases cg with rfl | rfl
   .rfl
   .rw[hf];rfl
  have cc:1+ps.length<=maxLen:=by unfold maxLen;omega
  have ca:(1+ps.length)*40<=140737488355328:=by omega
  have bj:Hid (∀O O',w.heap.size<=((w.alloc O).alloc O').heap.size):=λO O'=>by simp;omega
  have ap:(ps.flatMap amC).length=ps.length*2:=qpi amC 2 qy7 ps;clear bk Qv ce;go_enter Tryz.func178,Tryz.ntmps178
  go_wp2_with (at_builtin;refine wpList_append_own _ rfl (.tmp 7) (.tmp 9) 146 rfl w.heap.size 145 i0 (.agg #[.string ⟨#[]⟩,.slice none 0 0]) 2 40 Tryz.underlying146 hi bu b3 b5 rfl (by decide) _ _ _ rfl b8.out ⟨g,0,none⟩ ps.length c (ps.flatMap amC) rfl ap dc.out cb cc ca (bj.out _ _) ?_;intro v' w1 al ab _)
  have b6:Below w.heap.size w w1:=bt.out.grown ab (bj.out _ _) (λk hk=>by have:=(Qe b8.out k hk).1;omega);go_ret;refine⟨_,rfl,⟨?_,λp hp=>?_⟩,b6⟩
  .have e:((⟨rel,args⟩,Value.slice aa args.length ac)::ps).length=1+ps.length:=by simp;omega
   rw[e];refine Qa (B:=w.heap.size) ?_ zz;simpa [amC] using al
  .rcases List.mem_cons.1 hp with rfl | hp
   .exact HH.out.kept (Kp.ofBelow (S:=0) b6)
   .exact (HP.out.each p hp).kept (Kp.ofBelow (S:=0) b6)
theorem Qz.cell{v:Vq}(h:Qz W v ps)(k:Nat)(hk:k < ps.length) :
  ∃g cap,v=Sc g ps.length cap/\g < W.heap.size/\W.cell? (Ad g (k*2))=some (.string ps[k].1.rel)/\W.cell? (Ad g (k*2+1))=some ps[k].2/\(∃a c,ps[k].2=.slice a ps[k].1.args.length c)/\qa5 W ps[k]:=by
 obtain⟨g,cap,e1,e2,e3,e4,e5⟩:=qb0 h.row qy7 (by omega);have hA:=h.each ps[k] (zm hk);exact⟨g,cap,e1,e3,e5 k 0 hk _ (by decide) rfl,e5 k 1 hk _ (by decide) rfl,qd hA,hA⟩
theorem qag.cell{v:Vq}(h:qag W v qs)(k:Nat)(hk:k < qs.length) :
  ∃g cap,v=Sc g qs.length cap/\g < W.heap.size/\W.cell? (Ad g (k*3))=some (.string qs[k].1.head.rel)/\W.cell? (Ad g (k*3+1))=some qs[k].2.1/\W.cell? (Ad g (k*3+2))=some qs[k].2.2/\
   qa5 W (qs[k].1.head,qs[k].2.1)/\∃ps,ps.map (·.1)=qs[k].1.body/\Qz W qs[k].2.2 ps:=by
 obtain⟨g,cap,e1,e2,e3,e4,e5⟩:=qb0 h.row qt4 (by omega);have hA:=h.each qs[k] (zm hk);exact⟨g,cap,e1,e3,e5 k 0 hk _ (by decide) rfl,e5 k 1 hk _ (by decide) rfl,e5 k 2 hk _ (by decide) rfl,hA⟩
theorem qa5.cell{p:Am×Vq}(h:qa5 W p)(j:Nat)(hj:j < p.1.args.length) :
  ∃g cap,p.2=Sc g p.1.args.length cap/\g < W.heap.size/\W.cell? (Ad g (j*2))=some (.string p.1.args[j].name)/\W.cell? (Ad g (j*2+1))=some (.int .i64 p.1.args[j].num):=by
 obtain⟨g,cap,e1,e2,e3,e4,e5⟩:=qb0 h q8t (by omega);exact⟨g,cap,e1,e3,e5 j 0 hj _ (by decide) rfl,e5 j 1 hj _ (by decide) rfl⟩
def qac:List Am->By->Nat
 | [],_=>0
 | a::l,rel=>if Q5 rel a.rel=true then a.args.length else qac l rel
def Qt(qs:List (Rl×Vq×Vq)):List Am:=qs.flatMap (λq=>qx q.1)
theorem qhu(v:Vq)(qs:List (Rl×Vq×Vq))(rel:By)(w:Wq)(hR:qag w v qs)(hl:qs.length<=1000)(hb:∀q∈qs,q.1.body.length<=900) :
  Cs 117 #[v,.string rel] w λe w'=>e=.returned (.int .i64 (qac (Qt qs) rel))/\Below w.heap.size w w':=by
 obtain⟨N,hN⟩:∃N,N=w.heap.size:=⟨_,rfl⟩;have b9:=hN.symm;obtain⟨va,vc,hv⟩:=qd hR.row;rw[<- hN];have HR:Hid (qag w v qs):=hR;subst hv;clear hR hN;go_enter Tryz.func117,Tryz.ntmps117;go_wp2
 go_loopw [5] (λp wr=>∃i:Nat,p=.int .i64 i/\i<=qs.length/\Below N w wr/\Hid (qac (Qt (qs.drop i)) rel=qac (Qt qs) rel)) (λp _=>qs.length - (intOf p).toNat)
 case atStart=>exact⟨0,rfl,zz,zr,rfl⟩
 case round=>
  obtain⟨i,rfl,b7,bb,ag⟩:=hrel;by_cases ah:i < qs.length
  .have be:=HR.out.below (by rw[b9];exact bb);obtain⟨g,cap,e1,hg,c0,c1,c2,hA,ps,aj,aq⟩:=be.cell i ah;cases e1;have bi:N<=wr.heap.size:=by have:=bb.size;omega
   have cj:=hb qs[i] (zm ah);have cx:ps.length<=900:=by have:=congrArg List.length aj;simp at this;omega
   have am:=qmy qs[i] ps wr hA aq (by omega);have ax:=List.drop_eq_getElem_cons ah
   have a8:Qt (qs.drop i)=(qs[i].1.head::ps.map (·.1))++Qt (qs.drop (i+1)):=by
    rw[ax];unfold Qt qx;rw[List.flatMap_cons,aj]
   rw[a8] at ag;clear a8 ax aj be;unfold rlV at am;obtain⟨a1,a2,an⟩:=qd hA;simp only at an;obtain⟨b1,b2,aw⟩:=qd aq.row;rw[an] at c1 am;rw[aw] at c2 am;generalize qs[i]=q at *;generalize q.1.head.rel=hrl at *;generalize hq:((q.1.head,Value.slice a1 q.1.head.args.length a2)::ps)=qp at *
   have bo:Hid (qac (qp.map (·.1)++Qt (qs.drop (i+1))) rel=qac (Qt qs) rel):=by
    rw[<- hq];exact ag.out
   have Qei:qp.length<=901:=by rw[<- hq];simp;omega
   have c5:Hid (Below N w wr):=bb;clear bb ag hq hA aq an aw;go_wp2_with fail;refine am.mono ?_;rintro e W1 ⟨vp,rfl,af,az⟩;have ch:Below N w W1:=c5.out.trans (az.mono bi);obtain⟨pa,pc,bv⟩:=qd af.row;subst bv;have ak:Hid (Qz W1 (.slice pa qp.length pc) qp):=af;have cn:Hid (Below N w W1):=ch;clear af az ch am;go_wp2
   go_loopw [7] (λp wr=>∃k:Nat,p=.int .i64 k/\k<=qp.length/\wr=W1/\Hid (qac ((qp.drop k).map (·.1)++Qt (qs.drop (i+1))) rel=qac (Qt qs) rel)) (λp _=>qp.length - (intOf p).toNat)
   case atStart=>exact⟨0,rfl,zz,rfl,bo⟩
   case round=>
    obtain⟨k,rfl,cd,db,ad⟩:=hrel;obtain rfl:W1=wr:=db.symm;by_cases au:k < qp.length
    .obtain⟨g2,a9,e2,c4,d0,d1,⟨x1,x2,hx⟩,_⟩:=ak.out.cell k au;cases e2;rw[hx] at d1;have ax:=List.drop_eq_getElem_cons au;rw[ax] at ad;generalize qp[k]=pk at *;simp only[List.map_cons,List.cons_append,qac] at ad;by_cases hs:Q5 rel pk.1.rel=true
     .rw[if_pos hs] at ad;unfold Q5 at hs;generalize pk.1.rel=pr at *;go_wp2;go_ret;rw[<- ad.out];exact⟨rfl,cn.out⟩
     .have bn:Q5 rel pk.1.rel=false:=by simpa using hs
      rw[if_neg hs] at ad;unfold Q5 at bn;generalize pk.1.rel=pr at *;clear hs;go_wp2
      go_roundw
      case rel=>exact⟨k+1,by go_num,by omega,by trivial,ad⟩
      case measure=>simp[intOf];omega
    .rw[List.drop_eq_nil_of_le (by omega)] at ad;simp only[List.map_nil,List.nil_append] at ad;go_wp2
     go_roundw
     case rel=>exact⟨i+1,by go_num,by omega,cn.out,ad⟩
     case measure=>simp[intOf];omega
  .rw[List.drop_eq_nil_of_le (by omega)] at ag;go_wp2;go_ret;rw[<- ag.out];exact⟨rfl,bb⟩
theorem qrv(B:Nat)(v:Vq)(vs:List By)(x:By)(w:Wq)(hB:B<=w.heap.size)(hl:vs.length<=1000000)(qq:w.ownsRow B 9 1 v vs.length (vs.map Value.string)) :
  Cs 119 #[v,.string x] w λe w'=>∃v',e=.returned v'/\w'.ownsRow B 9 1 v' (Qh vs x).length ((Qh vs x).map Value.string)/\w.grownBy w' v.ownBlock:=by
 obtain⟨i0,hi,bu,b3,b5⟩:=info_parts Tryz.infoStr;obtain⟨a,c,hv⟩:=qd qq
 have ao:∀(j:Nat) (hj:j < vs.length),∃g,a=some ⟨g,0,none⟩/\w.cell? (Ad g j)=some (.string vs[j]):=by
  intro j hj;have h2:=qq;rw[qj3] at h2;obtain⟨g,cap,e1,e2,e3,e4,e5⟩:=qb0 h2 qmk (by omega);rw[hv] at e1;cases e1;have:=e5 j 0 hj (.string vs[j]) (by decide) rfl;rw[Nat.mul_one,Nat.add_zero] at this;exact⟨g,rfl,this⟩
 subst hv;have HO:Hid (w.ownsRow B 9 1 (.slice a vs.length c) vs.length (vs.map Value.string)):=qq;have HC:Hid _:=ao;clear qq ao;go_enter Tryz.func119,Tryz.ntmps119;go_wp2
 go_loopw [5] (λp wr=>∃i:Nat,p=.int .i64 i/\i<=vs.length/\wr=w/\Hid (∀(j:Nat) (hj:j < vs.length),j < i->Q5 x vs[j]=false)) (λp _=>vs.length - (intOf p).toNat)
 case atStart=>exact⟨0,rfl,zz,rfl,λj hj h=>by omega⟩
 case round=>
  obtain⟨i,rfl,b7,rfl,b4⟩:=hrel;by_cases ah:i < vs.length
  .obtain⟨g,rfl,Qj⟩:=HC.out i ah;obtain⟨y,hy⟩:∃y,vs[i]=y:=⟨_,rfl⟩;rw[hy] at Qj;have HY:Hid (vs[i]=y):=hy;clear hy;by_cases hs:Q5 x y=true
   .have hN:=qj2 vs x i ah (by rw[HY.out];exact hs) b4.out;have HN:Hid _:=hN;clear hN;unfold Q5 at hs;go_wp2;go_ret;have hL:Qh vs x=vs:=by unfold Qh;rw[if_pos (by rw[HN.out];exact ah)]
    rw[hL];exact⟨_,rfl,HO.out,World.grownBy.refl _ _⟩
   .have bn:Q5 x y=false:=by simpa using hs
    have cy:Hid (∀(j:Nat) (hj:j < vs.length),j < i+1->Q5 x vs[j]=false):=by
     intro j hj dl;by_cases e:j=i
     .subst e;rw[HY.out];exact bn
     .exact b4.out j hj (by omega)
    unfold Q5 at bn;clear hs;go_wp2
    go_roundw
    case rel=>exact⟨i+1,by go_num,by omega,by trivial,cy⟩
    case measure=>simp[intOf];omega
  .have hN:=qle vs x (λj hj=>b4.out j hj (by omega));have hL:Qh vs x=vs++[x]:=by unfold Qh;rw[if_neg (by omega)]
   have HL:Hid (Qh vs x=vs++[x]):=hL;have cc:vs.length+1<=maxLen:=by unfold maxLen;omega
   have ca:(vs.length+1)*16<=140737488355328:=by omega
   have bj:Hid (∀O,B<=(wr.alloc O).heap.size):=λO=>by simp;omega
   have cb:∀u∈[Value.string x],u.oneCell'=true:=by simp[Value.oneCell']
   clear hN hL
   go_wp2_with (at_builtin;refine wpList_append_own _ rfl (.tmp 19) (.tmp 21) 22 rfl B 9 i0 (.string ⟨#[]⟩) 1 16 Tryz.underlying22 hi bu b3 b5 rfl (by decide) _ _ _ rfl (HO.out.alloc _) ⟨wr.heap.size,0,none⟩ 1 1 [.string x] rfl rfl (qcl _ _ _) cb cc ca (bj.out _) ?_;intro v' w1 al ab _)
   go_ret;rw[HL.out];refine⟨_,rfl,?_,?_⟩
   .simpa using al
   .exact⟨ab.os,ab.tape,ab.output,by have:=ab.size;simp at this;omega,λk hk hn=>(ab.block k (by simp;omega) hn).trans (Below.heap_alloc _ _ _ hk)⟩
def qhm(n:Nat)(t:Tm):Bool:=t.name.toList.isEmpty && decide (t.num=n)
def qy(bd:List Am)(n:Nat):Bool:=bd.any (λa=>a.args.any (qhm n))
theorem q0o(q:Rl×Vq×Vq)(ps:List (Am×Vq))(n:Nat)(w:Wq)(hp:Qz w q.2.2 ps)(hA:qa5 w (q.1.head,q.2.1))(aj:ps.map (·.1)=q.1.body)(hl:ps.length<=1000)(hn:n<=1000000)(hm:∀p∈ps,p.1.args.length<=1000000/\∀t∈p.1.args,t.num<=1000000) :
  Cs 179 #[rlV q,.int .i64 n] w λe w'=>e=.returned (.bool (qy q.1.body n))/\Below w.heap.size w w':=by
 rw[<- aj];unfold rlV;obtain⟨a1,a2,an⟩:=qd hA;simp only at an;obtain⟨b1,b2,aw⟩:=qd hp.row;rw[an];rw[aw] at hp ⊢;clear aj an aw;generalize q.1.head.rel=hrl at *;generalize q.1.head.args.length=a7 at *;have HP:Hid (∀O,Qz (w.alloc O) (.slice b1 ps.length b2) ps):=λO=>hp.below ((Below.refl _ w).alloc zl O);have cr:Hid (∀O,Below w.heap.size w (w.alloc O)):=λO=>(Below.refl _ w).alloc zl O;clear hp hA;go_enter Tryz.func179,Tryz.ntmps179;go_wp2
 go_loopw [5] (λp wr=>∃i:Nat,p=.int .i64 i/\i<=ps.length/\wr=w.alloc (.cells #[.string hrl,.slice a1 a7 a2,.slice b1 ps.length b2] 148)/\Hid (qy ((ps.drop i).map (·.1)) n=qy (ps.map (·.1)) n)) (λp _=>ps.length - (intOf p).toNat)
 case atStart=>exact⟨0,rfl,zz,rfl,rfl⟩
 case round=>
  obtain⟨i,rfl,b7,rfl,ag⟩:=hrel;by_cases ah:i < ps.length
  .obtain⟨g,cap,e1,hg,c0,c1,⟨x1,x2,hx⟩,a6⟩:=(HP.out (.cells #[.string hrl,.slice a1 a7 a2,.slice b1 ps.length b2] 148)).cell i ah;cases e1;rw[List.drop_eq_getElem_cons ah] at ag;have dh:=hm ps[i] (zm ah);rw[hx] at c1;generalize ps[i]=p at *;simp only[List.map_cons,qy,List.any_cons] at ag
   have bk:Hid (∀(j:Nat) (hj:j < p.1.args.length),∃g2,x1=some ⟨g2,0,none⟩/\(w.alloc (.cells #[.string hrl,.slice a1 a7 a2,Sc g ps.length b2] 148)).cell? (Ad g2 (j*2))=some (.string p.1.args[j].name)/\(w.alloc (.cells #[.string hrl,.slice a1 a7 a2,Sc g ps.length b2] 148)).cell? (Ad g2 (j*2+1))=some (.int .i64 p.1.args[j].num)):=by
    intro j hj;obtain⟨g2,a9,e2,_,d0,d1⟩:=a6.cell j hj;rw[hx] at e2;cases e2;exact⟨g2,rfl,d0,d1⟩
   have df:Hid ((p.1.args.any (qhm n) || qy ((ps.drop (i+1)).map (·.1)) n)=qy (ps.map (·.1)) n):=ag;obtain⟨dj,cz⟩:=dh;clear ag a6 hx c0;generalize p.1.args=args at *;go_wp2
   go_loopw [6] (λp wr=>∃k:Nat,p=.int .i64 k/\k<=args.length/\wr=w.alloc (.cells #[.string hrl,.slice a1 a7 a2,.slice (some ⟨g,0,none⟩) ps.length b2] 148)/\Hid (((args.drop k).any (qhm n) || qy ((ps.drop (i+1)).map (·.1)) n)=qy (ps.map (·.1)) n)) (λp _=>args.length - (intOf p).toNat)
   case atStart=>exact⟨0,rfl,zz,rfl,df⟩
   case round=>
    obtain⟨k,rfl,cd,rfl,ad⟩:=hrel;by_cases au:k < args.length
    .obtain⟨g2,rfl,d0,d1⟩:=bk.out k au;have c7:=cz args[k] (zm au);rw[List.drop_eq_getElem_cons au] at ad;generalize args[k]=tm at *;obtain⟨nm,nu⟩:=tm;simp only[List.any_cons] at ad d0 d1 c7;by_cases h1:nm.toList.isEmpty=true
     .by_cases h2:nu=n
      .subst h2;have hT:qhm nu ⟨nm,nu⟩=true:=by unfold qhm;simp[h1]
       rw[hT] at ad;go_wp2;go_ret;rw[<- ad.out];exact⟨by simp,cr.out _⟩
      .have hT:qhm n ⟨nm,nu⟩=false:=by unfold qhm;simp[h2]
       rw[hT] at ad;have m2:((nu:Int) == (n:Int))=false:=by simp;omega
       go_wp2
       go_roundw
       case rel=>exact⟨k+1,by go_num,by omega,by trivial,by simpa using ad⟩
       case measure=>simp[intOf];omega
     .have cp:nm.toList.isEmpty=false:=by simpa using h1
      have hT:qhm n ⟨nm,nu⟩=false:=by unfold qhm;simp[cp]
      rw[hT] at ad;clear h1;go_wp2
      go_roundw
      case rel=>exact⟨k+1,by go_num,by omega,by trivial,by simpa using ad⟩
      case measure=>simp[intOf];omega
    .rw[List.drop_eq_nil_of_le (by omega)] at ad;simp only[List.any_nil,Bool.false_or] at ad;go_wp2
     go_roundw
     case rel=>exact⟨i+1,by go_num,by omega,by trivial,ad⟩
     case measure=>simp[intOf];omega
  .rw[List.drop_eq_nil_of_le (by omega)] at ag;go_wp2;go_ret;rw[<- ag.out];exact⟨rfl,cr.out _⟩
theorem qp9(vs:List By)(t:Tm):vs.length<=(qaw vs t).length/\(qaw vs t).length<=vs.length+1:=by
 unfold qaw Qh;split
 .omega
 .split <;> simp
theorem qty(l:List Tm):∀vs,vs.length<=(nmL vs l).length/\(nmL vs l).length<=vs.length+l.length:=by
 induction l with
 | nil=>intro vs;simp[nmL]
 | cons t l ih=>
  intro vs;have h1:=qp9 vs t;have h2:=ih (qaw vs t);simp only[nmL,List.foldl_cons,List.length_cons] at h2 ⊢;omega
theorem Kp.grownStr{n:Nat}{v:Vq}(ho:X.ownsRow B 9 1 v n xs)(hg:X.grownBy Y v.ownBlock):Kp S X Y:=by
 refine⟨λk c hc=>hg.block k (zg hc).1 (λe=>?_),λk c hk hc=>hg.block k (zg hc).1 (λe=>?_)⟩
 .obtain⟨c',bf⟩:=qh ho e.symm;rw[hc] at bf;cases bf
 .obtain⟨c',bf⟩:=qh ho e.symm;rw[hc] at bf;cases bf
theorem Qz.grownStr{n:Nat}{v va:Vq}(h:Qz X va ps)(ho:X.ownsRow B 9 1 v n xs)(hg:X.grownBy Y v.ownBlock):Qz Y va ps:=by
 refine⟨qm h.row (λg da ah=>?_),λp hp=>(h.each p hp).kept (Kp.grownStr (S:=0) ho hg)⟩;obtain⟨c,hc⟩:=qh h.row da;exact (Kp.grownStr (S:=X.heap.size) ho hg).atom g c ah hc
structure qgc(N:Nat)(w X:Wq)(vo:Vq)(vs:List By):Prop where
 below:Below N w X
 size:N<=X.heap.size
 own:X.ownsRow N 9 1 vo vs.length (vs.map Value.string)
theorem qso(v:Vq)(qs:List (Rl×Vq×Vq))(w:Wq)(hR:qag w v qs)(hl:qs.length<=1000)(hb:∀q∈qs,q.1.body.length<=900)(ht:(Qp (Qt qs)).length<=100000)(hm:∀a∈Qt qs,a.args.length<=1000) :
  Cs 112 #[v] w λe w'=>∃v',e=.returned v'/\qgc w.heap.size w w' v' (nmL [] (Qp (Qt qs))):=by
 obtain⟨N,hN⟩:∃N,N=w.heap.size:=⟨_,rfl⟩;have b9:=hN.symm;obtain⟨va,vc,hv⟩:=qd hR.row;rw[<- hN];have hT:=(qty (Qp (Qt qs)) []).2;have HR:Hid (qag w v qs):=hR;subst hv;clear hR hN;generalize hTT:nmL [] (Qp (Qt qs))=T at *;have dk:T.length<=100000:=by simp at hT;omega
 clear hT;go_enter Tryz.func112,Tryz.ntmps112;go_wp2
 go_loopw [3,4] (λo p wr=>∃(i:Nat) (vo:Vq) (vs:List ByteArray),vo=o/\p=.int .i64 i/\i<=qs.length/\qgc N w wr vo vs/\Hid (nmL vs (Qp (Qt (qs.drop i)))=T)) (λ_ p _=>qs.length - (intOf p).toNat)
 case atStart=>exact⟨0,_,[],rfl,rfl,zz,⟨zr,by omega,zo⟩,hTT⟩
 case round=>
  obtain⟨i,vo,vs,rfl,rfl,b7,ae,ag⟩:=hrel;by_cases ah:i < qs.length
  .have be:=HR.out.below (by rw[b9];exact ae.below);obtain⟨g,cap,e1,hg,c0,c1,c2,hA,ps,aj,aq⟩:=be.cell i ah;cases e1;have bi:N<=wr.heap.size:=ae.size;have cj:=hb qs[i] (zm ah);have cx:ps.length<=900:=by have:=congrArg List.length aj;simp at this;omega
   have am:=qmy qs[i] ps wr hA aq (by omega);have ax:=List.drop_eq_getElem_cons ah
   have a8:Qt (qs.drop i)=(qs[i].1.head::ps.map (·.1))++Qt (qs.drop (i+1)):=by
    rw[ax];unfold Qt qx;rw[List.flatMap_cons,aj]
   rw[a8] at ag
   have ct:∀p∈(qs[i].1.head,qs[i].2.1)::ps,p.1.args.length<=1000:=by
    intro p hp;refine hm p.1 (List.mem_flatMap.2 ⟨qs[i],List.getElem_mem ah,?_⟩);rcases List.mem_cons.1 hp with rfl | hp
    .exact zs
    .refine List.mem_cons_of_mem _ ?_;rw[<- aj];exact List.mem_map.2 ⟨p,hp,rfl⟩
   clear a8 ax aj be;unfold rlV at am;obtain⟨a1,a2,an⟩:=qd hA;simp only at an;obtain⟨b1,b2,aw⟩:=qd aq.row;rw[an] at c1 am ct;rw[aw] at c2 am;generalize qs[i]=q at *;generalize q.1.head.rel=hrl at *;generalize hq:((q.1.head,Value.slice a1 q.1.head.args.length a2)::ps)=qp at *
   have bo:Hid (nmL vs (Qp (qp.map (·.1)++Qt (qs.drop (i+1))))=T):=by
    rw[<- hq];exact ag.out
   have Qei:qp.length<=901:=by rw[<- hq];simp;omega
   have ai:Hid (qgc N w wr vo vs):=ae;clear ae ag hq hA aq an aw;go_wp2_with fail;refine am.mono ?_;rintro e W1 ⟨vp,rfl,af,az⟩;have cl:qgc N w W1 vo vs:=⟨ai.out.below.trans (az.mono bi),Nat.le_trans bi az.size,qk ai.out.own az⟩;obtain⟨pa,pc,bv⟩:=qd af.row;subst bv;have ak:Hid (Qz W1 (.slice pa qp.length pc) qp):=af;have cm:Hid (qgc N w W1 vo vs):=cl;clear af az cl am ai c0 c1 c2;go_wp2
   go_loopw [3,6] (λo p wr=>∃(k:Nat) (vo:Vq) (vs:List ByteArray),vo=o/\p=.int .i64 k/\k<=qp.length/\qgc N w wr vo vs/\Qz wr (.slice pa qp.length pc) qp/\Hid (nmL vs (Qp ((qp.drop k).map (·.1)++Qt (qs.drop (i+1))))=T)) (λ_ p _=>qp.length - (intOf p).toNat)
   case atStart=>exact⟨0,_,vs,rfl,rfl,zz,cm.out,ak.out,bo⟩
   case round=>
    clear cm ak bo;obtain⟨k,vo,vs,rfl,rfl,cd,ae,af,ad⟩:=hrel;by_cases au:k < qp.length
    .rw[List.drop_eq_getElem_cons au] at ad
     have cq:Hid (nmL vs (qp[k].1.args++Qp ((qp.drop (k+1)).map (·.1)++Qt (qs.drop (i+1))))=T):=by
      have:=ad.out;rw[List.map_cons,List.cons_append] at this;unfold Qp at this ⊢;rw[List.flatMap_cons] at this;exact this
     have ai:Hid (qgc N w wr vo vs):=ae;have ak:Hid (Qz wr (.slice pa qp.length pc) qp):=af;clear ad ae af;go_wp2
     go_loopw [3,7] (λo p wr=>∃(m:Nat) (vo:Vq) (vs:List ByteArray),vo=o/\p=.int .i64 m/\m<=qp[k].1.args.length/\qgc N w wr vo vs/\Qz wr (.slice pa qp.length pc) qp/\Hid (nmL vs (qp[k].1.args.drop m++Qp ((qp.drop (k+1)).map (·.1)++Qt (qs.drop (i+1))))=T)) (λ_ p _=>qp[k].1.args.length - (intOf p).toNat)
     case atStart=>exact⟨0,_,vs,rfl,rfl,zz,ai.out,ak.out,cq⟩
     case round=>
      clear ai ak cq;obtain⟨m,vo,vs,rfl,rfl,Qgu,ae,af,ay⟩:=hrel;obtain⟨g2,a9,e2,c4,d0,d1,⟨x1,x2,hx⟩,a6⟩:=af.cell k au;cases e2;rw[hx] at d1;have a7:=ct qp[k] (zm au);by_cases co:m < qp[k].1.args.length
      .obtain⟨g3,c6,e3,_,f0,f1⟩:=a6.cell m co;rw[hx] at e3;cases e3;rw[List.drop_eq_getElem_cons co] at ay;generalize qp[k].1.args[m]=tm at *;simp only[List.cons_append,nmL,List.foldl_cons] at ay;have bc:Hid (nmL (qaw vs tm) (qp[k].1.args.drop (m+1)++Qp ((qp.drop (k+1)).map (·.1)++Qt (qs.drop (i+1))))=T):=ay;have cu:=(qty (qp[k].1.args.drop (m+1)++Qp ((qp.drop (k+1)).map (·.1)++Qt (qs.drop (i+1)))) (qaw vs tm)).1;rw[bc.out] at cu;have cw:=(qp9 vs tm).1;have di:vs.length<=100000:=by omega
       clear ay cu cw hx a6 d0;obtain⟨nm,nu⟩:=tm;simp only at f0 f1;by_cases h1:nm.toList.isEmpty=true
       .have bh:qaw vs ⟨nm,nu⟩=vs:=by unfold qaw;rw[if_pos h1]
        rw[bh] at bc;have ai:Hid (qgc N w wr vo vs):=ae;have ak:Hid (Qz wr (Sc g2 qp.length pc) qp):=af;clear ae af bh;go_wp2
        go_roundw
        case rel=>exact⟨m+1,vo,vs,rfl,by go_num,by omega,ai.out,ak.out,bc⟩
        case measure=>simp[intOf];omega
       .have cp:nm.toList.isEmpty=false:=by simpa using h1
        have bh:qaw vs ⟨nm,nu⟩=Qh vs nm:=by unfold qaw;rw[if_neg h1]
        rw[bh] at bc;have cv:=qrv N vo vs nm wr ae.size (by omega) ae.own;have ai:Hid (qgc N w wr vo vs):=ae;have ak:Hid (Qz wr (Sc g2 qp.length pc) qp):=af;clear ae af bh h1
        go_wp2_with (go_at_call 119;refine cv.mono ?_;rintro e w2 ⟨v2,rfl,ck,av⟩)
        have dg:qgc N w w2 v2 (Qh vs nm):=⟨ai.out.below.grown av ai.out.size (λk e=>(Qe ai.out.own k e).1),Nat.le_trans ai.out.size av.size,ck⟩;have de:=ak.out.grownStr ai.out.own av;clear ck av
        go_roundw
        case rel=>exact⟨m+1,v2,_,rfl,by go_num,by omega,dg,de,bc⟩
        case measure=>simp[intOf];omega
      .rw[List.drop_eq_nil_of_le (by omega)] at ay;simp only[List.nil_append] at ay;have ai:Hid (qgc N w wr vo vs):=ae;have ak:Hid (Qz wr (Sc g2 qp.length pc) qp):=af;clear ae af a6;go_wp2
       go_roundw
       case rel=>exact⟨k+1,vo,vs,rfl,by go_num,by omega,ai.out,ak.out,ay⟩
       case measure=>simp[intOf];omega
    .rw[List.drop_eq_nil_of_le (by omega)] at ad;simp only[List.map_nil,List.nil_append] at ad;have ai:Hid (qgc N w wr vo vs):=ae;clear ae af;go_wp2
     go_roundw
     case rel=>exact⟨i+1,vo,vs,rfl,by go_num,by omega,ai.out,ad⟩
     case measure=>simp[intOf];omega
  .rw[List.drop_eq_nil_of_le (by omega)] at ag;have c8:vs=T:=by have:=ag.out;simpa [nmL,Qp,Qt] using this
   subst c8;go_wp2;go_ret;exact⟨vo,rfl,ae⟩
def qap(rs:List Rl):List Am:=rs.flatMap qx
theorem qmt(qs:List (Rl×Vq×Vq)):Qt qs=qap (qs.map (·.1)):=by unfold Qt qap;rw[List.flatMap_map]
def qg4(all:List Am)(a:Am):Bool:=decide (qac all a.rel≠a.args.length)
def qb5(all:List Am)(r:Rl):Bool:=(qx r).any (qg4 all)
def qgr(bd:List Am)(t:Tm):Bool:=t.name.toList.isEmpty && !qy bd t.num
def qdz(r:Rl):Bool:=r.head.args.any (qgr r.body)
def qa9(p:Rl->Bool):List Rl->Nat->Option Nat
 | [],_=>none
 | r::l,i=>if p r=true then some i else qa9 p l (i+1)
def qaz:List By->List Rl->Nat->Option Nat
 | _,[],_=>none
 | vs,r::l,i=>if 8 < (nmL vs (Qp (qx r))).length then some i else qaz (nmL vs (Qp (qx r))) l (i+1)
def qbg(rs:List Rl):Int×Nat:=
 match qa9 (qb5 (qap rs)) rs 0 with
 | some i=>(4,i)
 | none=>match qa9 qdz rs 0 with
  | some i=>(5,i)
  | none=>match qaz [] rs 0 with
   | some i=>(3,i)
   | none=>(0,0)
structure qkf(qs:List (Rl×Vq×Vq)):Prop where
 few:qs.length<=1000
 body:∀q∈qs,q.1.body.length<=900
 tms:(Qp (Qt qs)).length<=100000
 args:∀a∈Qt qs,a.args.length<=1000/\∀t∈a.args,t.num<=1000000
theorem qkf.take(h:qkf qs)(k:Nat):qkf (qs.take k):=by
 have dd:∀a∈Qt (qs.take k),a∈Qt qs:=λa ha=>by
  obtain⟨q,hq,c9⟩:=List.mem_flatMap.1 ha;exact List.mem_flatMap.2 ⟨q,List.mem_of_mem_take hq,c9⟩
 refine⟨by rw[List.length_take];have:=h.few;omega,λq hq=>h.body q (List.mem_of_mem_take hq),?_,λa ha=>h.args a (dd a ha)⟩
 have e:Qp (Qt qs)=Qp (Qt (qs.take k))++Qp (Qt (qs.drop k)):=by
  unfold Qp Qt;rw[<- List.flatMap_append,<- List.flatMap_append,List.take_append_drop]
 have:=h.tms;rw[e,List.length_append] at this;omega
theorem qag.take{g n c:Nat}(h:qag W (Sc g qs.length c) qs)(k:Nat)(hk:k<=qs.length):qag W (Sc g k c) (qs.take k):=by
 refine⟨?_,λq hq=>h.each q (List.mem_of_mem_take hq)⟩;have ap:(qs.take k).length=k:=by rw[List.length_take];omega
 obtain⟨h0,⟨hv,hn⟩ | ⟨g',cap,bq,hv,hb,hw,h1,h2,h3,h4⟩⟩:=h.row
 .cases hv
 .cases hv;refine⟨by rw[qpi rlC 3 qt4],.inr ⟨g,c,bq,by rw[ap],zz,hw,by omega,h2,h3,?_⟩⟩;rw[ap];have e:bq.toList.take (k*3)=(bq.toList.take (qs.length*3)).take (k*3):=by rw[List.take_take];congr 1;omega
  rw[e,h4];have e2:qs.flatMap rlC=(qs.take k).flatMap rlC++(qs.drop k).flatMap rlC:=by rw[<- List.flatMap_append,List.take_append_drop]
  rw[e2,List.take_left' (by rw[qpi rlC 3 qt4,ap])]
theorem qp8(vs:List By)(a b:List Tm):nmL vs (a++b)=nmL (nmL vs a) b:=by unfold nmL;rw[List.foldl_append]
theorem q1g{i:Nat}(hi:i < qs.length):Qp (Qt (qs.take (i+1)))=Qp (Qt (qs.take i))++Qp (qx qs[i].1):=by
 rw[List.take_succ_eq_append_getElem hi];unfold Qp Qt;simp only[List.flatMap_append,List.flatMap_cons,List.flatMap_nil,List.append_nil]
theorem qql{va:Option Addr}{vc:Nat}(h:qag W (.slice va qs.length vc) qs)(i:Nat)(hi:i < qs.length)(cf:qkf qs) :
  ∃g ps,va=some ⟨g,0,none⟩/\g < W.heap.size/\W.cell? (Ad g (i*3))=some (.string qs[i].1.head.rel)/\W.cell? (Ad g (i*3+1))=some qs[i].2.1/\W.cell? (Ad g (i*3+2))=some qs[i].2.2/\
   qa5 W (qs[i].1.head,qs[i].2.1)/\ps.map (·.1)=qs[i].1.body/\Qz W qs[i].2.2 ps/\ps.length<=900/\(∃a c,qs[i].2.1=.slice a qs[i].1.head.args.length c)/\(∃a c,qs[i].2.2=.slice a ps.length c)/\
   ∀p∈(qs[i].1.head,qs[i].2.1)::ps,p.1∈Qt qs/\p.1.args.length<=1000/\∀t∈p.1.args,t.num<=1000000:=by
 obtain⟨g,cap,e1,hg,c0,c1,c2,hA,ps,aj,aq⟩:=h.cell i hi;cases e1;have cj:=cf.body qs[i] (zm hi);refine⟨g,ps,rfl,hg,c0,c1,c2,hA,aj,aq,by have:=congrArg List.length aj;simp at this;omega,qd hA,qd aq.row,λp hp=>?_⟩
 have hm:p.1∈Qt qs:=by
  refine List.mem_flatMap.2 ⟨qs[i],List.getElem_mem hi,?_⟩;rcases List.mem_cons.1 hp with rfl | hp
  .exact zs
  .refine List.mem_cons_of_mem _ ?_;rw[<- aj];exact List.mem_map.2 ⟨p,hp,rfl⟩
 exact⟨hm,cf.args p.1 hm⟩
