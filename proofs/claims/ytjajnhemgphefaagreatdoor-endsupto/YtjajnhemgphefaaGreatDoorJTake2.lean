/- The parser takes a token: the whole of it. -/
import Derived.Test.YtjajnhemgphefaaGreatDoorJTerm2
set_option linter.unusedVariables false
set_option linter.unusedSimpArgs false
set_option maxRecDepth 100000
set_option maxHeartbeats 4000000
namespace Go.Proofs.YtjajnhemgphefaaGreatDoor
open Go renaming World->Wq,Value->Vq
open Go.RowKit Go.Shelf
variable {bp base bS b b45 b87 e size:Nat} {xs:List Vq} {ex:Nat->Prop} {W W':Wq} {l:List Rl} {s:PSt}
theorem qil(w:Wq)(a b d:Vq)(t:TypeId):∀j u,[a,b,d][j]?=some u->(w.alloc (.cells #[a,b,d] t)).cell? ((⟨w.heap.size,0,none⟩:Addr).add j)=some u:=by
 intro j u hj
 match j,hj with
 | 0,hj=>simp at hj;subst hj;simp[Addr.add]
 | 1,hj=>simp at hj;subst hj;simp[Addr.add]
 | 2,hj=>simp at hj;subst hj;simp[Addr.add]
 | j+3,hj=>simp at hj
def qna(g n c:Nat):Vq:=.slice (if c=1 then some ⟨g,0,none⟩ else some ⟨g,2,none⟩) (n - 1) (c - 1)
theorem qun{w w1:Wq}{n:Nat}{st:Int}{x y z v':Vq}(hh:w1.heap[bp]?=some (Obj.cells #[.int .i64 st,x,y,z] 179))(ho:w1.ownsRow base 136 3 v' n xs)(hc:Chg w w1 (λj=>j=bp\/ex j)) :
  ((((w1.setCell ⟨bp,1,none⟩ v').setCell ⟨bp,2,none⟩ (.slice none 0 0)).setCell ⟨bp,3,none⟩ (.slice none 0 0)).setCell ⟨bp,0,none⟩ (.int .i64 0)).heap[bp]?=some (Obj.cells #[.int .i64 0,v',.slice none 0 0,.slice none 0 0] 179)/\
  ((((w1.setCell ⟨bp,1,none⟩ v').setCell ⟨bp,2,none⟩ (.slice none 0 0)).setCell ⟨bp,3,none⟩ (.slice none 0 0)).setCell ⟨bp,0,none⟩ (.int .i64 0)).ownsRow base 136 3 v' n xs/\
  Chg w ((((w1.setCell ⟨bp,1,none⟩ v').setCell ⟨bp,2,none⟩ (.slice none 0 0)).setCell ⟨bp,3,none⟩ (.slice none 0 0)).setCell ⟨bp,0,none⟩ (.int .i64 0)) (λj=>j=bp\/ex j):=by
 refine⟨Qi (Qi (Qi (Qi hh 1 v') 2 _) 3 _) 0 _,?_,(((hc.setCell ⟨bp,1,none⟩ _ (λ_=>.inl rfl)).setCell ⟨bp,2,none⟩ _ (λ_=>.inl rfl)).setCell ⟨bp,3,none⟩ _ (λ_=>.inl rfl)).setCell ⟨bp,0,none⟩ _ (λ_=>.inl rfl)⟩;exact Qn (Qn (Qn (Qn ho _ _ (Qj ho hh (by decide))) _ _ (Qj ho hh (by decide))) _ _ (Qj ho hh (by decide))) _ _ (Qj ho hh (by decide))
theorem qug(bp:Nat)(st:Int)(xa:Option Addr)(xn xc:Nat)(ar:Option Addr)(nr cr g base:Nat)(xs:List Vq)(rel args:Vq)(hrel:∃s,rel=.string s)(qlh:∃a m q,args=.slice a m q)(hr:nr<=1000)(w:Wq)(qg6:base<=w.heap.size)(hh:w.heap[bp]?=some (Obj.cells #[.int .i64 st,.slice ar nr cr,.slice (some ⟨g,0,none⟩) 1 1,.slice xa xn xc] 179))(hg0:w.cell? ⟨g,0,none⟩=some rel)(hg1:w.cell? ⟨g,1,none⟩=some args)(qr:w.ownsRow base 136 3 (.slice ar nr cr) nr xs) :
  Calls Tryz.prog 236 #[.pointer (some ⟨bp,0,none⟩)] w λe w'=>e=.returned (.tuple #[])/\
   ∃v',w'.heap[bp]?=some (Obj.cells #[.int .i64 0,v',.slice none 0 0,.slice none 0 0] 179)/\w'.ownsRow base 136 3 v' (nr+1) (xs++[rel,args,qna g 1 1])/\
    Chg w w' (λj=>j=bp\/some j=(Value.slice ar nr cr).ownBlock):=by
 obtain⟨rs,rfl⟩:=hrel;obtain⟨aa,am,aq,rfl⟩:=qlh;have hbp:bp < w.heap.size:=(zg hh).1;have c0:w.cell? ⟨bp,0,none⟩=some (.int .i64 st):=by simp[World.cell?,hh]
 have c1:w.cell? ⟨bp,1,none⟩=some (.slice ar nr cr):=by simp[World.cell?,hh]
 have c2:w.cell? ⟨bp,2,none⟩=some (.slice (some ⟨g,0,none⟩) 1 1):=by simp[World.cell?,hh]
 have c3:w.cell? ⟨bp,3,none⟩=some (.slice xa xn xc):=by simp[World.cell?,hh]
 have f1:w.frozen? ⟨bp,1,none⟩=false:=by simp[World.frozen?,hh]
 obtain⟨i0,hi,hz0,hz1,hz2⟩:=info_parts Tryz.info48;have hA:Hid ((w.alloc (.cells #[.string rs,.slice aa am aq,.slice (some ⟨g,0,none⟩) 0 0] 136)).ownsRow base 136 3 (.slice ar nr cr) nr xs):=qr.alloc _;have hN:Hid (∀j u,[Value.string rs,.slice aa am aq,.slice (some ⟨g,0,none⟩) 0 0][j]?=some u->(w.alloc (.cells #[.string rs,.slice aa am aq,.slice (some ⟨g,0,none⟩) 0 0] 136)).cell? ((⟨w.heap.size,0,none⟩:Addr).add j)=some u):=qil w _ _ _ _
 have hG:Hid (∀w1,(w.alloc (.cells #[.string rs,.slice aa am aq,.slice (some ⟨g,0,none⟩) 0 0] 136)).drew.grownBy w1 (Value.slice ar nr cr).ownBlock->
   w1.heap[bp]?=some (Obj.cells #[.int .i64 st,.slice ar nr cr,.slice (some ⟨g,0,none⟩) 1 1,.slice xa xn xc] 179)/\Chg w w1 (λj=>j=bp\/some j=(Value.slice ar nr cr).ownBlock)):=by
  intro w1 hgr;have hc:Chg w w1 (λj=>some j=(Value.slice ar nr cr).ownBlock):=(((Chg.refl w _).alloc _).drew).grown hgr (λk e _=>e.symm);exact⟨(hc.block bp hbp (λe=>Qj qr hh (by decide) bp e.symm rfl)).trans hh,hc.mono (λ_ _ e=>.inr e)⟩
 have h1c:∀u∈[Value.string rs,.slice aa am aq,.slice (some ⟨g,0,none⟩) 0 0],u.oneCell'=true:=by simp[Value.oneCell']
 have hb1:nr+1<=maxLen:=by unfold maxLen;omega
 have hb2:(nr+1)*64<=140737488355328:=by omega
 have HB3:Hid (base<=(w.alloc (.cells #[.string rs,.slice aa am aq,.slice (some ⟨g,0,none⟩) 0 0] 136)).drew.heap.size):=by
  show base<=(w.alloc (.cells #[.string rs,.slice aa am aq,.slice (some ⟨g,0,none⟩) 0 0] 136)).heap.size;simp;omega
 clear hh qr;go_enter Tryz.func236,Tryz.ntmps236;go_wp2
 go_region_law (refine qbw rfl (.tmp 6) (.tmp 19) 75 rfl base 136 i0 (.agg #[.string ⟨#[]⟩,.slice none 0 0,.slice none 0 0]) 3 64 Tryz.underlying75 hi hz0 hz1 hz2 rfl (by decide) (.slice ar nr cr) nr xs (by simp[Act.eval,Act.put]) hA.out ⟨w.heap.size,0,none⟩ 1 1 [.string rs,.slice aa am aq,.slice (some ⟨g,0,none⟩) 0 0] (by simp[Act.eval,Act.put]) rfl hN.out h1c hb1 hb2 HB3.out ?_;intro v' w1 hown1 hgrow1;obtain⟨g',cap',hv'⟩:=ownsRow_succ hown1;subst hv';obtain⟨hhw,hch⟩:=hG.out w1 hgrow1;have d0:w1.cell? ⟨bp,0,none⟩=some (.int .i64 st):=(by simp[World.cell?,hhw]);have d1:w1.cell? ⟨bp,1,none⟩=some (.slice ar nr cr):=(by simp[World.cell?,hhw]);have d2:w1.cell? ⟨bp,2,none⟩=some (.slice (some ⟨g,0,none⟩) 1 1):=(by simp[World.cell?,hhw]);have d3:w1.cell? ⟨bp,3,none⟩=some (.slice xa xn xc):=(by simp[World.cell?,hhw]);have e3:w1.frozen? ⟨bp,3,none⟩=false:=(by simp[World.frozen?,hhw]);have e0:w1.frozen? ⟨bp,0,none⟩=false:=(by simp[World.frozen?,hhw]);have e1:w1.frozen? ⟨bp,1,none⟩=false:=(by simp[World.frozen?,hhw]);have e2:w1.frozen? ⟨bp,2,none⟩=false:=(by simp[World.frozen?,hhw]))
 all_goals
  clear hA hN hG HB3 h1c hgrow1 hb1 hb2 hg0 hg1;go_wp2
  go_end0
  refine⟨rfl,.slice (some ⟨g',0,none⟩) (nr+1) cap',?_⟩;have hbv:qna g 1 1=.slice (some ⟨g,0,none⟩) 0 0:=rfl;rw[hbv];exact qun hhw hown1 hch
def PAt(base bS:Nat)(W:Wq)(bp:Nat)(s:PSt):Prop:=
 ∃(vr va vv:Vq) (b45 b87:Nat),base<=b45/\base<=b87/\b45<=W.heap.size/\b87<=W.heap.size/\base<=bp/\base<=bS/\bS<=W.heap.size/\W.heap[bp]?=some (Obj.cells #[.int .i64 s.st,vr,va,vv] 179)/\
  W.ownsRow bS 9 1 vv s.vars.length (s.vars.map Value.string)/\Qa W base b45 b87 vr s.rules/\q8r W b45 b87 va s.atoms
def Qeh(o:Obj):Prop:=∀c t fz,o=Obj.cells c t fz->t≠179/\t≠136/\t≠92/\t≠166/\t≠9
structure PFr(base bS:Nat)(W W':Wq):Prop where
 low:Below base W W'
 same:∀(k:Nat) (o:Obj),W.heap[k]?=some o->Qeh o->W'.heap[k]?=some o
 str:∀(k:Nat) (c:Array Vq) (fz:Nat×Nat),k < bS->W.heap[k]?=some (Obj.cells c 9 fz)->W'.heap[k]?=some (Obj.cells c 9 fz)
theorem PFr.refl(base bS:Nat)(W:Wq):PFr base bS W W:=⟨Below.refl _ _,λ_ _ h _=>h,λ_ _ _ _ h=>h⟩
theorem PFr.trans{A B C:Wq}(h:PFr base bS A B)(k:PFr base bS B C):PFr base bS A C:=⟨h.1.trans k.1,λi o hi ho=>k.2 i o (h.2 i o hi ho) ho,λi c fz hi hc=>k.3 i c fz hi (h.3 i c fz hi hc)⟩
theorem PFr.ofChg(h:Chg W W' ex)(hB:base<=W.heap.size)(hx:∀k,k < W.heap.size->ex k->base<=k/\∃c t fz,W.heap[k]?=some (Obj.cells c t fz)/\(t=179\/t=136\/t=92\/t=166\/(t=9/\bS<=k))):PFr base bS W W':=by
 refine⟨⟨h.os,h.tape,h.output,h.size,λk hk=>h.block k (Nat.lt_of_lt_of_le hk hB) (λe=>?_)⟩,λk o hk ho=>?_,λk c fz hlt0 hk=>?_⟩
 ·have:=(hx k (Nat.lt_of_lt_of_le hk hB) e).1;omega
 ·have hlt:=(zg hk).1;rw[h.block k hlt (λe=>?_)]
  ·exact hk
  ·obtain⟨_,c,t,fz,hc,ht⟩:=hx k hlt e;rw[hk] at hc;cases hc;have:=ho c t fz rfl;rcases ht with h | h | h | h | h <;> simp_all
 ·have hlt:=(zg hk).1;rw[h.block k hlt (λe=>?_)]
  ·exact hk
  ·obtain⟨_,c',t,fz',hc,ht⟩:=hx k hlt e;rw[hk] at hc;cases hc;rcases ht with h | h | h | h | ⟨_,h⟩
   ·exact absurd h (by decide)
   ·exact absurd h (by decide)
   ·exact absurd h (by decide)
   ·exact absurd h (by decide)
   ·omega
theorem PFr.ofBelow(h:Below W.heap.size W W')(hB:base<=W.heap.size):PFr base bS W W':=
 ⟨h.mono hB,λk o hk _=>(h.block k (zg hk).1).trans hk,λk c fz _ hk=>(h.block k (zg hk).1).trans hk⟩
theorem Chg.keptT{t:TypeId}(h:Chg W W' ex)(hx:∀(k:Nat) (c:Array Vq),k < b->W.heap[k]?=some (Obj.cells c t (0,0))->¬ex k):qf7 t b W W':=
 λk c hk hc=>(h.block k (zg hc).1 (hx k c hk hc)).trans hc
theorem Qa.kept{v:Vq}(h:Qa W base b45 b87 v l)(h48:∀g c,v.ownBlock=some g->W.heap[g]?=some (Obj.cells c 136)->W'.heap[g]?=some (Obj.cells c 136))(h45:qf7 92 b45 W W')(h87:qf7 166 b87 W W'):Qa W' base b45 b87 v l:=by
 obtain⟨qs,h1,h2,h3⟩:=h;exact⟨qs,h1,q8 h2 h48,λq hq=>⟨(h3 q hq).1.kept h87,(h3 q hq).2.kept h45 h87⟩⟩
theorem Qa.mono{c45 c87:Nat}{v:Vq}(h:Qa W base b45 b87 v l)(h45:b45<=c45)(h87:b87<=c87):Qa W base c45 c87 v l:=by
 obtain⟨qs,h1,h2,h3⟩:=h;exact⟨qs,h1,h2,λq hq=>⟨(h3 q hq).1.mono h87,(h3 q hq).2.mono h45 h87⟩⟩
theorem qe{n:Nat}{v:Vq}(h:W.ownsRow b e size v n xs){g:Nat}(hg:v.ownBlock=some g):b<=g/\∃c,W.heap[g]?=some (Obj.cells c e (0,0)):=by
 obtain⟨_,⟨hv,hn⟩ | ⟨g',cap,cur,hv,hb,hw,_⟩⟩:=h
 ·rw[hv] at hg;simp[Value.ownBlock] at hg
 ·rw[hv] at hg;simp[Value.ownBlock] at hg;subst hg;exact⟨hb,cur,hw⟩
theorem qn{n:Nat}{v:Vq}(h:W.ownsRow b e size v n xs):∃a c,v=.slice a n c:=by
 obtain⟨_,⟨hv,hn⟩ | ⟨g,cap,cur,hv,_⟩⟩:=h
 ·exact⟨none,0,by rw[hv,hn]⟩
 ·exact⟨_,_,hv⟩
theorem PAt.state(h:PAt base bS W bp s)(x:Int):PAt base bS (W.setCell ⟨bp,0,none⟩ (.int .i64 x)) bp {s with st:=x}/\PFr base bS W (W.setCell ⟨bp,0,none⟩ (.int .i64 x)):=by
 obtain⟨vr,va,vv,b45,b87,h1,h2,h3,h4,h5,h6,h7,hh,hV,hR,hA⟩:=h
 have hk:∀(k:Nat) (c:Array Vq) (t:TypeId),t≠179->W.heap[k]?=some (Obj.cells c t (0,0))->(W.setCell ⟨bp,0,none⟩ (.int .i64 x)).heap[k]?=some (Obj.cells c t (0,0)):=by
  intro k c t ht hc;rw[Below.heap_setCell _ _ _ _ (λe=>?_)]
  ·exact hc
  ·simp at e;subst e;rw[hh] at hc;cases hc;exact ht rfl
 refine⟨⟨vr,va,vv,b45,b87,h1,h2,by simpa using h3,by simpa using h4,h5,h6,by simpa using h7,Qi hh 0 _,q8 hV (λg c _ hc=>hk g c _ (by decide) hc),hR.kept (λg c _ hc=>hk g c _ (by decide) hc) (λk c _ hc=>hk k c _ (by decide) hc) (λk c _ hc=>hk k c _ (by decide) hc),?_⟩,?_⟩
 ·obtain⟨ps,e1,e2,e3,e4⟩:=hA;exact⟨ps,e1,q8 e2 (λg c _ hc=>hk g c _ (by decide) hc),λp hp=>(e3 p hp).kept (λk c _ hc=>hk k c _ (by decide) hc),λp hp=>q8 (e4 p hp) (λg c _ hc=>hk g c _ (by decide) hc)⟩
 ·refine PFr.ofChg ((Chg.refl W (λj=>j=bp)).setCell ⟨bp,0,none⟩ _ (λ_=>rfl)) (by omega) (λk hk e=>?_);subst e;exact⟨h5,_,_,_,hh,.inl rfl⟩
theorem qzo(base bS bp:Nat)(s:PSt)(k:Int)(t:ByteArray)(ht:t.size<=1200)(p r:Int)(W:Wq)(hP:PAt base bS W bp s)(hk12:k=1\/k=2)(hnv:s.vars.length<=100)(hna:s.atoms.length<=100)(h3:s.st=3->s.atoms≠[])(hm:∀a∈s.atoms,a.args.length<=100) :
  Calls Tryz.prog 233 #[.pointer (some ⟨bp,0,none⟩),qbk k t p r] W λe W'=>e=.returned (.tuple #[])/\PAt base bS W' bp (qby s k t)/\PFr base bS W W':=by
 obtain⟨vr,va,vv,b45,b87,h1,h2,h4,h5,h6,hS1,hS2,hh,hV,hR,ps,e1,e2,e3,e4⟩:=hP;have Q7:ps.length=s.atoms.length:=by rw[<- e1];simp
 by_cases hst:s.st=3
 ·-- a term more of the last atom
  have hne:=h3 hst;have hps:ps≠[]:=by intro e;rw[e] at Q7;simp at Q7;exact hne (List.eq_nil_of_length_eq_zero Q7.symm)
  obtain⟨ps0,⟨la,lv⟩,rfl⟩:∃ps0 l,ps=ps0++[l]:=⟨ps.dropLast,ps.getLast hps,(List.dropLast_concat_getLast hps).symm⟩;have hl:=e4 (la,lv) (by simp);simp only[List.dropLast_concat] at e3;simp only at hl;obtain⟨aa,ca,rfl⟩:=qn hl;have hla:la∈s.atoms:=by rw[<- e1];simp
  rw[List.flatMap_append] at e2;have e2':W.ownsRow b45 92 2 va (ps0++[(la,Value.slice aa la.args.length ca)]).length (ps0.flatMap qbc++[.string la.rel,.slice aa la.args.length ca]):=by simpa [qbc] using e2
  have hgl:qcl s.atoms (qca s.vars k t)=ps0.map (·.1)++[{la with args:=la.args++[qca s.vars k t]}]:=by
   unfold qcl;rw[<- e1];simp
  rw[hst] at hh;refine (qsk bp vr va vv _ b45 b87 bS _ _ aa _ ca _ s.vars k t p r hk12 (by simp) (by rw[Q7];omega) (by have:=hm la hla;omega) hnv (by omega) W h5 hS2 hh e2' hl hV).mono ?_;rintro e W' ⟨rfl,v',vv',hh',hA',hT',hV',hc⟩;refine⟨rfl,?_,?_⟩
  ·unfold qby;rw[if_pos hst,hgl]
   have k45:qf7 92 b45 W W':=hc.keptT (λj c hj hcj hx=>by
    rcases hx with rfl | hx | hx | hx
    ·rw[hh] at hcj;cases hcj
    ·have:=(qe e2 hx.symm).1;omega
    ·obtain⟨_,c',hc'⟩:=qe hl hx.symm;rw[hcj] at hc';cases hc'
    ·obtain⟨_,c',hc'⟩:=qe hV hx.symm;rw[hcj] at hc';cases hc')
   have k87:qf7 166 b87 W W':=hc.keptT (λj c hj hcj hx=>by
    rcases hx with rfl | hx | hx | hx
    ·rw[hh] at hcj;cases hcj
    ·obtain⟨_,c',hc'⟩:=qe e2 hx.symm;rw[hcj] at hc';cases hc'
    ·have:=(qe hl hx.symm).1;omega
    ·obtain⟨_,c',hc'⟩:=qe hV hx.symm;rw[hcj] at hc';cases hc')
   refine⟨vr,va,vv',b45,b87,h1,h2,Nat.le_trans h4 hc.size,Nat.le_trans h5 hc.size,h6,hS1,Nat.le_trans hS2 hc.size,hh',hV',hR.kept (λg c hg hcg=>?_) k45 k87,ps0++[({la with args:=la.args++[qca s.vars k t]},v')],by simp,?_,?_,?_⟩
   ·rw[hc.block g (zg hcg).1 (λhx=>?_)]
    ·exact hcg
    ·rcases hx with rfl | hx | hx | hx
     ·rw[hh] at hcg;cases hcg
     ·obtain⟨_,c',hc'⟩:=qe e2 hx.symm;rw[hcg] at hc';cases hc'
     ·obtain⟨_,c',hc'⟩:=qe hl hx.symm;rw[hcg] at hc';cases hc'
     ·obtain⟨_,c',hc'⟩:=qe hV hx.symm;rw[hcg] at hc';cases hc'
   ·simpa [qbc] using hA'
   ·simp only[List.dropLast_concat];exact λq hq=>(e3 q hq).kept k87
   ·intro q hq;simp at hq;subst hq;simpa [qqb,tmC] using hT'
  ·refine PFr.ofChg hc (by omega) (λj hj hx=>?_);rcases hx with rfl | hx | hx | hx
   ·exact⟨h6,_,_,_,hh,.inl rfl⟩
   ·obtain⟨hb,c,hc⟩:=qe e2 hx.symm;exact⟨by omega,c,_,_,hc,.inr (.inr (.inl rfl))⟩
   ·obtain⟨hb,c,hc⟩:=qe hl hx.symm;exact⟨by omega,c,_,_,hc,.inr (.inr (.inr (.inl rfl)))⟩
   ·obtain⟨hb,c,hc⟩:=qe hV hx.symm;exact⟨by omega,c,_,_,hc,.inr (.inr (.inr (.inr ⟨rfl,hb⟩)))⟩
 ·-- an atom more
  refine (qsj bp s.st vr va vv _ b45 _ k t p r hst (by rw[Q7];omega) (by omega) W h4 hh e2).mono ?_;rintro e W' ⟨rfl,v',hh',hA',hc⟩;refine⟨rfl,?_,?_⟩
  ·unfold qby;rw[if_neg hst]
   have k45:qf7 92 b45 W W':=hc.keptT (λj c hj hcj hx=>by
    rcases hx with rfl | hx
    ·rw[hh] at hcj;cases hcj
    ·have:=(qe e2 hx.symm).1;omega)
   have k87:∀b,qf7 166 b W W':=λb=>hc.keptT (λj c hj hcj hx=>by
    rcases hx with rfl | hx
    ·rw[hh] at hcj;cases hcj
    ·obtain⟨_,c',hc'⟩:=qe e2 hx.symm;rw[hcj] at hc';cases hc')
   refine⟨vr,v',vv,b45,W.heap.size,h1,by omega,Nat.le_trans h4 hc.size,hc.size,h6,hS1,Nat.le_trans hS2 hc.size,hh',q8 hV (λg c hg hcg=>?_),(hR.kept (λg c hg hcg=>?_) k45 (k87 _)).mono zl h5,ps++[(⟨t,[]⟩,.slice none 0 0)],by simp[e1],?_,?_,?_⟩
   ·rw[hc.block g (zg hcg).1 (λhx=>?_)]
    ·exact hcg
    ·rcases hx with rfl | hx
     ·rw[hh] at hcg;cases hcg
     ·obtain⟨_,c',hc'⟩:=qe e2 hx.symm;rw[hcg] at hc';cases hc'
   ·rw[hc.block g (zg hcg).1 (λhx=>?_)]
    ·exact hcg
    ·rcases hx with rfl | hx
     ·rw[hh] at hcg;cases hcg
     ·obtain⟨_,c',hc'⟩:=qe e2 hx.symm;rw[hcg] at hc';cases hc'
   ·simpa [qbc] using hA'
   ·simp only[List.dropLast_concat];intro q hq;by_cases hps:ps=[]
    ·rw[hps] at hq;cases hq
    ·rw[<- List.dropLast_concat_getLast hps] at hq;rcases List.mem_append.1 hq with hq | hq
     ·exact ((e3 q hq).mono h5).kept (k87 _)
     ·simp at hq;have:=e4 q (by rw[hq];exact List.getLast?_eq_some_getLast hps);exact (Qd.ofOwns this).kept (k87 _)
   ·intro q hq;simp at hq;subst hq;exact World.ownsRow_nil W' _ _ _
  ·refine PFr.ofChg hc (by omega) (λj hj hx=>?_);rcases hx with rfl | hx
   ·exact⟨h6,_,_,_,hh,.inl rfl⟩
   ·obtain⟨hb,c,hc⟩:=qe e2 hx.symm;exact⟨by omega,c,_,_,hc,.inr (.inr (.inl rfl))⟩
theorem qsr(bp:Nat)(st:Int)(xa:Option Addr)(xn xc:Nat)(ar:Option Addr)(nr cr g n c base:Nat)(xs:List Vq)(rel args:Vq)(hrel:∃s,rel=.string s)(qlh:∃a m q,args=.slice a m q)(hn1:1<=n)(hnc:n<=c)(hc1:¬c=1)(hn:n<=1000)(hr:nr<=1000)(w:Wq)(qg6:base<=w.heap.size)(hh:w.heap[bp]?=some (Obj.cells #[.int .i64 st,.slice ar nr cr,.slice (some ⟨g,0,none⟩) n c,.slice xa xn xc] 179))(hg0:w.cell? ⟨g,0,none⟩=some rel)(hg1:w.cell? ⟨g,1,none⟩=some args)(qr:w.ownsRow base 136 3 (.slice ar nr cr) nr xs) :
  Calls Tryz.prog 236 #[.pointer (some ⟨bp,0,none⟩)] w λe w'=>e=.returned (.tuple #[])/\
   ∃v',w'.heap[bp]?=some (Obj.cells #[.int .i64 0,v',.slice none 0 0,.slice none 0 0] 179)/\w'.ownsRow base 136 3 v' (nr+1) (xs++[rel,args,qna g n c])/\
    Chg w w' (λj=>j=bp\/some j=(Value.slice ar nr cr).ownBlock):=by
 obtain⟨rs,rfl⟩:=hrel;obtain⟨aa,am,aq,rfl⟩:=qlh;have hbp:bp < w.heap.size:=(zg hh).1;have c0:w.cell? ⟨bp,0,none⟩=some (.int .i64 st):=by simp[World.cell?,hh]
 have c1:w.cell? ⟨bp,1,none⟩=some (.slice ar nr cr):=by simp[World.cell?,hh]
 have c2:w.cell? ⟨bp,2,none⟩=some (.slice (some ⟨g,0,none⟩) n c):=by simp[World.cell?,hh]
 have c3:w.cell? ⟨bp,3,none⟩=some (.slice xa xn xc):=by simp[World.cell?,hh]
 have f1:w.frozen? ⟨bp,1,none⟩=false:=by simp[World.frozen?,hh]
 obtain⟨i0,hi,hz0,hz1,hz2⟩:=info_parts Tryz.info48;have i4:0 < n:=by omega
 have i5:1<=n:=by omega
 have i1:(0:Int) < (n:Int):=by omega
 have i2:(1:Int)<=(n:Int):=by omega
 have i3:(n:Int)<=(c:Int):=by omega
 have hA:Hid ((w.alloc (.cells #[.string rs,.slice aa am aq,.slice (some ⟨g,2,none⟩) (n - 1) (c - 1)] 136)).ownsRow base 136 3 (.slice ar nr cr) nr xs):=qr.alloc _;have hN:Hid (∀j u,[Value.string rs,.slice aa am aq,.slice (some ⟨g,2,none⟩) (n - 1) (c - 1)][j]?=some u->(w.alloc (.cells #[.string rs,.slice aa am aq,.slice (some ⟨g,2,none⟩) (n - 1) (c - 1)] 136)).cell? ((⟨w.heap.size,0,none⟩:Addr).add j)=some u):=qil w _ _ _ _
 have hG:Hid (∀w1,(w.alloc (.cells #[.string rs,.slice aa am aq,.slice (some ⟨g,2,none⟩) (n - 1) (c - 1)] 136)).drew.grownBy w1 (Value.slice ar nr cr).ownBlock->
   w1.heap[bp]?=some (Obj.cells #[.int .i64 st,.slice ar nr cr,.slice (some ⟨g,0,none⟩) n c,.slice xa xn xc] 179)/\Chg w w1 (λj=>j=bp\/some j=(Value.slice ar nr cr).ownBlock)):=by
  intro w1 hgr;have hc:Chg w w1 (λj=>some j=(Value.slice ar nr cr).ownBlock):=(((Chg.refl w _).alloc _).drew).grown hgr (λk e _=>e.symm);exact⟨(hc.block bp hbp (λe=>Qj qr hh (by decide) bp e.symm rfl)).trans hh,hc.mono (λ_ _ e=>.inr e)⟩
 have h1c:∀u∈[Value.string rs,.slice aa am aq,.slice (some ⟨g,2,none⟩) (n - 1) (c - 1)],u.oneCell'=true:=by simp[Value.oneCell']
 have hb1:nr+1<=maxLen:=by unfold maxLen;omega
 have hb2:(nr+1)*64<=140737488355328:=by omega
 have HB3:Hid (base<=(w.alloc (.cells #[.string rs,.slice aa am aq,.slice (some ⟨g,2,none⟩) (n - 1) (c - 1)] 136)).drew.heap.size):=by
  show base<=(w.alloc (.cells #[.string rs,.slice aa am aq,.slice (some ⟨g,2,none⟩) (n - 1) (c - 1)] 136)).heap.size;simp;omega
 clear hh qr;go_enter Tryz.func236,Tryz.ntmps236;go_wp2
 go_region_law (refine qbw rfl (.tmp 6) (.tmp 19) 75 rfl base 136 i0 (.agg #[.string ⟨#[]⟩,.slice none 0 0,.slice none 0 0]) 3 64 Tryz.underlying75 hi hz0 hz1 hz2 rfl (by decide) (.slice ar nr cr) nr xs (by simp[Act.eval,Act.put]) hA.out ⟨w.heap.size,0,none⟩ 1 1 [.string rs,.slice aa am aq,.slice (some ⟨g,2,none⟩) (n - 1) (c - 1)] (by simp[Act.eval,Act.put]) rfl hN.out h1c hb1 hb2 HB3.out ?_;intro v' w1 hown1 hgrow1;obtain⟨g',cap',hv'⟩:=ownsRow_succ hown1;subst hv';obtain⟨hhw,hch⟩:=hG.out w1 hgrow1;have d0:w1.cell? ⟨bp,0,none⟩=some (.int .i64 st):=(by simp[World.cell?,hhw]);have d1:w1.cell? ⟨bp,1,none⟩=some (.slice ar nr cr):=(by simp[World.cell?,hhw]);have d2:w1.cell? ⟨bp,2,none⟩=some (.slice (some ⟨g,0,none⟩) n c):=(by simp[World.cell?,hhw]);have d3:w1.cell? ⟨bp,3,none⟩=some (.slice xa xn xc):=(by simp[World.cell?,hhw]);have e3:w1.frozen? ⟨bp,3,none⟩=false:=(by simp[World.frozen?,hhw]);have e0:w1.frozen? ⟨bp,0,none⟩=false:=(by simp[World.frozen?,hhw]);have e1:w1.frozen? ⟨bp,1,none⟩=false:=(by simp[World.frozen?,hhw]);have e2:w1.frozen? ⟨bp,2,none⟩=false:=(by simp[World.frozen?,hhw]))
 all_goals
  clear hA hN hG HB3 h1c hgrow1 hb1 hb2 hg0 hg1;go_wp2
  go_end0
  refine⟨rfl,.slice (some ⟨g',0,none⟩) (nr+1) cap',?_⟩;have hbv:qna g n c=.slice (some ⟨g,2,none⟩) (n - 1) (c - 1):=by unfold qna;rw[if_neg hc1]
  rw[hbv];exact qun hhw hown1 hch
theorem Qd.form{v:Vq}{l:List Tm}(h:Qd W b v l):∃a c,v=.slice a l.length c:=by
 rcases h with⟨rfl,rfl⟩ | ⟨g,cap,cur,h1,_⟩
 ·exact⟨none,0,rfl⟩
 ·exact⟨_,_,h1⟩
theorem q2o{ps:List (Am×Vq)}(h87:b87<=W.heap.size)(e3:∀p∈ps.dropLast,Qd W b87 p.2 p.1.args)(e4:∀p,ps.getLast?=some p->W.ownsRow b87 166 2 p.2 p.1.args.length (qqb p.1.args)):∀p∈ps,Qd W W.heap.size p.2 p.1.args:=by
 intro q hq;by_cases hps:ps=[]
 ·rw[hps] at hq;cases hq
 ·rw[<- List.dropLast_concat_getLast hps] at hq;rcases List.mem_append.1 hq with hq | hq
  ·exact (e3 q hq).mono h87
  ·simp at hq;exact Qd.ofOwns (e4 q (by rw[hq];exact List.getLast?_eq_some_getLast hps))
theorem qz5(base bS bp:Nat)(s:PSt)(W:Wq)(hP:PAt base bS W bp s)(hna:s.atoms.length<=100)(hne:s.atoms≠[])(hnr:s.rules.length<=100) :
  Calls Tryz.prog 236 #[.pointer (some ⟨bp,0,none⟩)] W λe W'=>e=.returned (.tuple #[])/\PAt base bS W' bp (qav s)/\PFr base bS W W':=by
 obtain⟨vr,va,vv,b45,b87,h1,h2,h4,h5,h6,hS1,hS2,hh,hV,⟨qs,r1,r2,r3⟩,ps,e1,e2,e3,e4⟩:=hP;obtain⟨xa,xc,rfl⟩:=qn hV;have Q7:ps.length=s.atoms.length:=by rw[<- e1];simp
 have qyz:qs.length=s.rules.length:=by rw[<- r1];simp
 have qny:=q2o h5 e3 e4
 cases ps with
 | nil=>simp at e1;exact absurd e1 hne
 | cons p0 pt=>
  obtain⟨a0,v0⟩:=p0;have hat:s.atoms=a0::pt.map (·.1):=by rw[<- e1];rfl
  have e2':=e2;obtain⟨hl,⟨_,hz⟩ | ⟨g,c,cur,rfl,hb,hw,hnc,hcm,hcs,htk⟩⟩:=e2'
  ·simp at hz
  have hgw:g < W.heap.size:=(zg hw).1;have hs0:=qny (a0,v0) (by simp);have q92:cur.toList.take ((pt.length+1)*2)=.string a0.rel::v0::pt.flatMap qbc:=by simpa [qbc] using htk
  have hc0:W.cell? ⟨g,0,none⟩=some (.string a0.rel):=by
   have:(cur.toList.take ((pt.length+1)*2))[0]?=some (.string a0.rel):=by rw[q92];rfl
   rw[List.getElem?_take,if_pos (by omega)] at this;simp only[World.cell?,hw];simpa using this
  have hc1:W.cell? ⟨g,1,none⟩=some v0:=by
   have:(cur.toList.take ((pt.length+1)*2))[1]?=some v0:=by rw[q92];rfl
   rw[List.getElem?_take,if_pos (by omega)] at this;simp only[World.cell?,hw];simpa using this
  have hv0:∃a m q,v0=.slice a m q:=by obtain⟨a,q,e⟩:=hs0.form;exact⟨a,_,q,e⟩
  obtain⟨ar,cr,rfl⟩:=qn r2
  have key:Calls Tryz.prog 236 #[.pointer (some ⟨bp,0,none⟩)] W λe w'=>e=.returned (.tuple #[])/\
   ∃v',w'.heap[bp]?=some (Obj.cells #[.int .i64 0,v',.slice none 0 0,.slice none 0 0] 179)/\w'.ownsRow base 136 3 v' (qs.length+1) (qs.flatMap qnq++[.string a0.rel,v0,qna g (pt.length+1) c])/\
    Chg W w' (λj=>j=bp\/some j=(Value.slice ar qs.length cr).ownBlock):=by
   simp only[List.length_cons] at hh hnc;by_cases qut:c=1
   ·subst qut;have hp0:pt.length=0:=by omega
    rw[hp0] at hh ⊢;exact qug bp s.st _ _ _ ar _ cr g base _ _ _ ⟨_,rfl⟩ hv0 (by omega) W (by omega) hh hc0 hc1 r2
   ·exact qsr bp s.st _ _ _ ar _ cr g _ c base _ _ _ ⟨_,rfl⟩ hv0 (by omega) (by omega) qut (by simp at Q7;omega) (by omega) W (by omega) hh hc0 hc1 r2
  refine key.mono ?_;rintro e W' ⟨rfl,v',hh',hR',hc⟩
  have k45:∀b,qf7 92 b W W':=λb=>hc.keptT (λj cc hj hcj hx=>by
   rcases hx with rfl | hx
   ·rw[hh] at hcj;cases hcj
   ·obtain⟨_,c',hc'⟩:=qe r2 hx.symm;rw[hcj] at hc';cases hc')
  have k87:∀b,qf7 166 b W W':=λb=>hc.keptT (λj cc hj hcj hx=>by
   rcases hx with rfl | hx
   ·rw[hh] at hcj;cases hcj
   ·obtain⟨_,c',hc'⟩:=qe r2 hx.symm;rw[hcj] at hc';cases hc')
  refine⟨rfl,?_,?_⟩
  ·have hes:qav s={st:=0,rules:=s.rules++[⟨a0,pt.map (·.1)⟩],atoms:=[],vars:=[]}:=by unfold qav;rw[hat]
   rw[hes];refine⟨v',.slice none 0 0,.slice none 0 0,W.heap.size,W.heap.size,by omega,by omega,hc.size,hc.size,h6,hS1,Nat.le_trans hS2 hc.size,hh',World.ownsRow_nil W' _ _ _,⟨qs++[(⟨a0,pt.map (·.1)⟩,v0,qna g (pt.length+1) c)],by simp[r1],?_,?_⟩,[],rfl,World.ownsRow_nil W' _ _ _,by simp,by simp⟩
   ·simpa [qnq] using hR'
   ·intro q hq;rcases List.mem_append.1 hq with hq | hq
    ·exact⟨((r3 q hq).1.mono h5).kept (k87 _),((r3 q hq).2.mono h4 h5).kept (k45 _) (k87 _)⟩
    ·simp at hq;subst hq;refine⟨hs0.kept (k87 _),qas.kept ⟨pt,if c=1 then some ⟨g,0,none⟩ else some ⟨g,2,none⟩,c - 1,rfl,by simp[qna],⟨λp hp=>qny p (by simp[hp]),by simp only[List.length_cons] at hnc;simp;omega⟩,λhne'=>?_⟩ (k45 _) (k87 _)⟩;have hpl:pt.length≠0:=by intro e;exact hne' (by simp[List.eq_nil_of_length_eq_zero e])
     refine⟨g,2,cur,by rw[if_neg (by simp only[List.length_cons] at hnc;omega)],hgw,hw,?_⟩;have:(cur.toList.take ((pt.length+1)*2)).drop 2=pt.flatMap qbc:=by rw[q92];rfl
     rw[List.drop_take] at this;rw[<- this];congr 1;simp;omega
  ·refine PFr.ofChg hc (by omega) (λj hj hx=>?_);rcases hx with rfl | hx
   ·exact⟨h6,_,_,_,hh,.inl rfl⟩
   ·obtain⟨hb,c,hc⟩:=qe r2 hx.symm;exact⟨by omega,c,_,_,hc,.inr (.inl rfl)⟩
theorem PAt.below(h:PAt base bS W bp s)(hb:Below W.heap.size W W'):PAt base bS W' bp s:=by
 obtain⟨vr,va,vv,b45,b87,h1,h2,h3,h4,h5,h6,h7,hh,hV,hR,ps,e1,e2,e3,e4⟩:=h;have hk:∀(k:Nat) (c:Array Vq) (t:TypeId),W.heap[k]?=some (Obj.cells c t (0,0))->W'.heap[k]?=some (Obj.cells c t (0,0)):=λk c t hc=>(hb.block k (zg hc).1).trans hc
 exact⟨vr,va,vv,b45,b87,h1,h2,Nat.le_trans h3 hb.size,Nat.le_trans h4 hb.size,h5,h6,Nat.le_trans h7 hb.size,hk _ _ _ hh,q8 hV (λg c _ hc=>hk g c _ hc),hR.kept (λg c _ hc=>hk g c _ hc) (λk c _ hc=>hk k c _ hc) (λk c _ hc=>hk k c _ hc),
  ps,e1,q8 e2 (λg c _ hc=>hk g c _ hc),λp hp=>(e3 p hp).kept (λk c _ hc=>hk k c _ hc),λp hp=>q8 (e4 p hp) (λg c _ hc=>hk g c _ hc)⟩
theorem PAt.base_le(h:PAt base bS W bp s):base<=W.heap.size:=by
 obtain⟨vr,va,vv,b45,b87,h1,h2,h3,_⟩:=h;omega
theorem qz4(base bS bp:Nat)(s:PSt)(W:Wq)(hP:PAt base bS W bp s) :
  Calls Tryz.prog 234 #[.pointer (some ⟨bp,0,none⟩)] W λe W'=>e=.returned (.tuple #[])/\PAt base bS W' bp (qdm s)/\PFr base bS W W':=by
 have hs:=λx=>hP.state x;obtain⟨vr,va,vv,b45,b87,h1,h2,h4,h5,h6,hS1,hS2,hh,hV,hR,ps,e1,e2,e3,e4⟩:=hP;have Q7:ps.length=s.atoms.length:=by rw[<- e1];simp
 obtain⟨a,c,rfl⟩:=qn e2;refine (quf bp s.st vr vv a _ c W hh).mono ?_;rintro e W' ⟨rfl,rfl⟩;rw[Q7];exact⟨rfl,hs _⟩
theorem qwm(base bS bp:Nat)(s:PSt)(W:Wq)(hP:PAt base bS W bp s) :
  Calls Tryz.prog 235 #[.pointer (some ⟨bp,0,none⟩)] W λe W'=>e=.returned (.tuple #[])/\PAt base bS W' bp {s with st:=if s.st=4 then 3 else 1}/\PFr base bS W W':=by
 have hs:=λx=>hP.state x;obtain⟨vr,va,vv,b45,b87,h1,h2,h4,h5,h6,hS1,hS2,hh,hV,hR⟩:=hP;refine (qsh bp s.st vr va vv W hh).mono ?_;rintro e W' ⟨rfl,rfl⟩;exact⟨rfl,hs _⟩
theorem Qa9(base bS bp:Nat)(s:PSt)(k:Int)(t:ByteArray)(ht:t.size<=1200)(p r:Int)(W:Wq)(hP:PAt base bS W bp s)(hnv:s.vars.length<=100)(hna:s.atoms.length<=100)(hnr:s.rules.length<=100)(h3:s.st=3->s.atoms≠[])(hm:∀a∈s.atoms,a.args.length<=100)(h6:k=6->s.atoms≠[]) :
  Calls Tryz.prog 197 #[.pointer (some ⟨bp,0,none⟩),qbk k t p r] W λe W'=>e=.returned (.tuple #[])/\PAt base bS W' bp (qau s k t)/\PFr base bS W W':=by
 have hbl:∀O,Below W.heap.size W (W.alloc O):=λO=>(Below.refl W.heap.size W).alloc zl O;have hPO:Hid (∀O,PAt base bS (W.alloc O) bp s/\PFr base bS W (W.alloc O)):=λO=>⟨hP.below (hbl O),PFr.ofBelow (hbl O) hP.base_le⟩
 have Qey:∃x,W.cell? ⟨bp,0,none⟩=some (.int .i64 x)/\W.frozen? ⟨bp,0,none⟩=false/\bp < W.heap.size:=by
  obtain⟨vr,va,vv,b45,b87,h1,h2,h4,h5,h6,hS1,hS2,hh,hV,hR⟩:=hP;exact⟨s.st,by simp[World.cell?,hh],by simp[World.frozen?,hh],(zg hh).1⟩
 obtain⟨x0,hc0,hf0,hbp⟩:=Qey
 have q8e:Hid (k=1\/k=2->∀O,Calls Tryz.prog 233 #[.pointer (some ⟨bp,0,none⟩),qbk k t p r] (W.alloc O) λe W'=>e=.returned (.tuple #[])/\PAt base bS W' bp (qby s k t)/\PFr base bS W W'):=λhk12 O=>
  (qzo base bS bp s k t ht p r _ (hPO.out O).1 hk12 hnv hna h3 hm).mono (λe W' ⟨a,b,c⟩=>⟨a,b,(hPO.out O).2.trans c⟩)
 have qg7:Hid (∀O,Calls Tryz.prog 234 #[.pointer (some ⟨bp,0,none⟩)] (W.alloc O) λe W'=>e=.returned (.tuple #[])/\PAt base bS W' bp (qdm s)/\PFr base bS W W'):=λO=>
  (qz4 base bS bp s _ (hPO.out O).1).mono (λe W' ⟨a,b,c⟩=>⟨a,b,(hPO.out O).2.trans c⟩)
 have Qe5:Hid (∀O,Calls Tryz.prog 235 #[.pointer (some ⟨bp,0,none⟩)] (W.alloc O) λe W'=>e=.returned (.tuple #[])/\PAt base bS W' bp {s with st:=if s.st=4 then 3 else 1}/\PFr base bS W W'):=λO=>
  (qwm base bS bp s _ (hPO.out O).1).mono (λe W' ⟨a,b,c⟩=>⟨a,b,(hPO.out O).2.trans c⟩)
 have Qfw:Hid (k=6->∀O,Calls Tryz.prog 236 #[.pointer (some ⟨bp,0,none⟩)] (W.alloc O) λe W'=>e=.returned (.tuple #[])/\PAt base bS W' bp (qav s)/\PFr base bS W W'):=λhk O=>
  (qz5 base bS bp s _ (hPO.out O).1 hna (h6 hk) hnr).mono (λe W' ⟨a,b,c⟩=>⟨a,b,(hPO.out O).2.trans c⟩)
 have hst:Hid (∀O x,PAt base bS ((W.alloc O).setCell ⟨bp,0,none⟩ (.int .i64 x)) bp {s with st:=x}/\PFr base bS W ((W.alloc O).setCell ⟨bp,0,none⟩ (.int .i64 x))):=λO x=>
  ⟨((hPO.out O).1.state x).1,(hPO.out O).2.trans ((hPO.out O).1.state x).2⟩
 clear hP h3 h6 hm hbl;unfold qbk qec at q8e ⊢;by_cases k1:k=1\/k=2
 ·have q9:Hid (qau s k t=qby s k t):=by show _=_;unfold qau;rw[if_pos k1]
  rcases k1 with rfl | rfl
  all_goals
   go_enter Tryz.func197,Tryz.ntmps197;go_wp2_with fail;refine (q8e.out (by first | exact .inl rfl | exact .inr rfl | exact .inl trivial | exact .inr trivial | decide | simp) _).mono ?_;rintro e W' ⟨rfl,qbr⟩;go_wp2
   go_end0
   rw[q9.out];exact⟨rfl,qbr⟩
 by_cases k3:k=3
 ·subst k3;go_enter Tryz.func197,Tryz.ntmps197;go_wp2
  go_end0
  refine⟨rfl,?_⟩;have:=hst.out (.cells #[.int .i64 3,.string t,.int .i64 p,.int .i64 r] 191) 3;rw[World.setCell_alloc_past _ _ _ _ hbp] at this;exact this
 by_cases k4:k=4
 ·subst k4;go_enter Tryz.func197,Tryz.ntmps197;go_wp2_with fail;refine (qg7.out _).mono ?_;rintro e W' ⟨rfl,qbr⟩;go_wp2
  go_end0
  exact⟨rfl,qbr⟩
 by_cases k5:k=5
 ·subst k5;go_enter Tryz.func197,Tryz.ntmps197;go_wp2_with fail;refine (Qe5.out _).mono ?_;rintro e W' ⟨rfl,qbr⟩;go_wp2
  go_end0
  exact⟨rfl,qbr⟩
 by_cases k7:k=7
 ·subst k7;go_enter Tryz.func197,Tryz.ntmps197;go_wp2
  go_end0
  refine⟨rfl,?_⟩;have:=hst.out (.cells #[.int .i64 7,.string t,.int .i64 p,.int .i64 r] 191) 1;rw[World.setCell_alloc_past _ _ _ _ hbp] at this;exact this
 by_cases k6:k=6
 ·subst k6;go_enter Tryz.func197,Tryz.ntmps197;go_wp2_with fail;refine (Qfw.out (by trivial) _).mono ?_;rintro e W' ⟨rfl,qbr⟩;go_wp2
  go_end0
  exact⟨rfl,qbr⟩
 ·have q9:Hid (qau s k t=s):=by show _=_;unfold qau;simp[k1,k3,k4,k5,k6,k7]
  have n1:(k == 1)=false:=by simp;omega
  have n2:(k == 2)=false:=by simp;omega
  have n3:(k == 3)=false:=by simp;omega
  have n4:(k == 4)=false:=by simp;omega
  have n5:(k == 5)=false:=by simp;omega
  have n6:(k == 6)=false:=by simp;omega
  have n7:(k == 7)=false:=by simp;omega
  clear k1 k3 k4 k5 k6 k7;go_enter Tryz.func197,Tryz.ntmps197;go_wp2
  go_end0
  rw[q9.out];exact⟨rfl,hPO.out _⟩
theorem PAt.cell0(h:PAt base bS W bp s):W.cell? ⟨bp,0,none⟩=some (.int .i64 s.st)/\bp < W.heap.size:=by
 obtain⟨vr,va,vv,b45,b87,h1,h2,h4,h5,h6,hS1,hS2,hh,hV,hR⟩:=h;exact⟨by simp[World.cell?,hh],(zg hh).1⟩
theorem qz6(base bS bp:Nat)(s:PSt)(k:Int)(t:ByteArray)(p r:Int)(W:Wq)(hP:PAt base bS W bp s)(hna:s.atoms.length<=100)(h3:s.st=3->s.atoms≠[]) :
  Calls Tryz.prog 196 #[.pointer (some ⟨bp,0,none⟩),qbk k t p r] W λe W'=>e=.returned (.bool (qv s.st r s.rules.length s.atoms.length (Qf s.atoms)))/\Below W.heap.size W W':=by
 obtain⟨vr,va,vv,b45,b87,h1,h2,h4,h5,h6,hS1,hS2,hh,hV,⟨qs,r1,r2,r3⟩,ps,e1,e2,e3,e4⟩:=hP;have Q7:ps.length=s.atoms.length:=by rw[<- e1];simp
 have qyz:qs.length=s.rules.length:=by rw[<- r1];simp
 obtain⟨aa,ca,rfl⟩:=qn e2;obtain⟨ar,cr,rfl⟩:=qn r2
 have hb:∀q O,Below W.heap.size W ((W.alloc O).drewN q):=by
  intro q O;exact⟨rfl,rfl,rfl,by show _<=(W.alloc O).heap.size;simp,λj hj=>Below.heap_alloc _ _ j hj⟩
 rw[<- Q7,<- qyz];by_cases hps:ps=[]
 ·have hat:s.atoms=[]:=by rw[<- e1,hps];rfl
  have hn3:s.st≠3:=λe=>h3 e hat;have hll:Qf s.atoms=0:=by rw[hat];rfl
  rw[hll];refine (qnc bp s.st ar _ cr aa _ ca vv none 0 0 k t p r (by omega) W hh (λe=>absurd e hn3)).mono ?_;rintro e W' ⟨rfl,q,rfl⟩;exact⟨rfl,hb q _⟩
 ·obtain⟨ps0,⟨la,lv⟩,rfl⟩:∃ps0 l,ps=ps0++[l]:=⟨ps.dropLast,ps.getLast hps,(List.dropLast_concat_getLast hps).symm⟩;have hl:=e4 (la,lv) (by simp);simp only at hl;obtain⟨at',cm,rfl⟩:=qn hl;have hll:Qf s.atoms=la.args.length:=by unfold Qf;rw[<- e1];simp
  rw[hll];have e2':W.ownsRow b45 92 2 (.slice aa (ps0++[(la,Value.slice at' la.args.length cm)]).length ca) (ps0++[(la,Value.slice at' la.args.length cm)]).length (ps0.flatMap qbc++[.string la.rel,.slice at' la.args.length cm]):=by simpa [qbc] using e2
  obtain⟨g,c,cur,hv,hg,hbg,hlt,hy,htk,hyl⟩:=qp1 e2' (by simp);have hpl:(ps0++[(la,Value.slice at' la.args.length cm)]).length=ps0.length+1:=by simp
  refine (qnc bp s.st ar _ cr aa _ ca vv at' la.args.length cm k t p r (by omega) W hh (λe=>⟨by omega,g,?_,?_,(zg hg).1⟩)).mono ?_
  ·cases hv;rfl
  ·simp only[World.cell?,hg];simpa using hy
  ·rintro e W' ⟨rfl,q,rfl⟩;exact⟨rfl,hb q _⟩
theorem Qao(base bS bp:Nat)(s:PSt)(k:Int)(t:ByteArray)(ht:t.size<=1200)(p r:Int)(W:Wq)(hP:PAt base bS W bp s)(hI:ql9 s) :
  Calls Tryz.prog 152 #[.pointer (some ⟨bp,0,none⟩),qbk k t p r] W λe W'=>e=.returned (.int .i64 (qaf s k t r).1)/\PAt base bS W' bp (qaf s k t r).2/\PFr base bS W W':=by
 have hna:s.atoms.length<=100:=by have:=hI.atoms;omega
 have hnr:s.rules.length<=100:=by have:=hI.rules;omega
 have h3:s.st=3->s.atoms≠[]:=λe=>hI.some (by omega);have hm:∀a∈s.atoms,a.args.length<=100:=λa ha=>by have:=(hI.ams a ha).args;omega
 have hnv:s.vars.length<=100:=by have:=hI.few;omega
 have hbl:∀O,Below W.heap.size W (W.alloc O):=λO=>(Below.refl W.heap.size W).alloc zl O
 have qlk:Hid (∀O,Calls Tryz.prog 195 #[.pointer (some ⟨bp,0,none⟩),.int .i64 k] (W.alloc O) λe w'=>e=.returned (.bool (Qe s.st k))/\w'=W.alloc O):=λO=>
  q2w bp s.st k _ (hP.below (hbl O)).cell0.1
 have q3c:Hid (∀O,Calls Tryz.prog 196 #[.pointer (some ⟨bp,0,none⟩),qbk k t p r] (W.alloc O) λe W'=>e=.returned (.bool (qv s.st r s.rules.length s.atoms.length (Qf s.atoms)))/\Below (W.alloc O).heap.size (W.alloc O) W'):=λO=>
  qz6 base bS bp s k t p r _ (hP.below (hbl O)) hna h3
 have qcv:Hid (Qe s.st k=true->∀O W1,Below (W.alloc O).heap.size (W.alloc O) W1->Calls Tryz.prog 197 #[.pointer (some ⟨bp,0,none⟩),qbk k t p r] W1 λe W'=>e=.returned (.tuple #[])/\PAt base bS W' bp (qau s k t)/\PFr base bS W W'):=λhf O W1 hb=>
  (Qa9 base bS bp s k t ht p r W1 ((hP.below (hbl O)).below hb) hnv hna hnr h3 hm (λhk=>hI.some (λh0=>by rw[h0,hk] at hf;simp[Qe] at hf))).mono
   (λe W' ⟨a,b,c⟩=>⟨a,b,((PFr.ofBelow (hbl O) hP.base_le).trans (PFr.ofBelow hb (hP.below (hbl O)).base_le)).trans c⟩)
 have qc8:Hid (∀O W1,Below (W.alloc O).heap.size (W.alloc O) W1->PAt base bS W1 bp s/\PFr base bS W W1):=λO W1 hb=>
  ⟨(hP.below (hbl O)).below hb,(PFr.ofBelow (hbl O) hP.base_le).trans (PFr.ofBelow hb (hP.below (hbl O)).base_le)⟩
 have hsz:Hid (∀O W1,Below (W.alloc O).heap.size (W.alloc O) W1->∀x,(W.alloc O).cell? ⟨W.heap.size,x,none⟩=W1.cell? ⟨W.heap.size,x,none⟩):=λO W1 hb x=>(hb.cell (p:=⟨W.heap.size,x,none⟩) (by simp)).symm;clear hP hI h3 hm hbl;have hts:Hid (qaf s k t r=if Qe s.st k=false then (2,s) else if qv s.st r s.rules.length s.atoms.length (Qf s.atoms)=true then (3,s) else (0,qau s k t)):=rfl;generalize hEX:qv s.st r s.rules.length s.atoms.length (Qf s.atoms)=ex at *;have HEX:Hid (qv s.st r s.rules.length s.atoms.length (Qf s.atoms)=ex):=hEX;clear hEX;by_cases hf:Qe s.st k=false
 ·rw[hts.out,if_pos hf];unfold qbk qec at q3c qcv ⊢;go_enter Tryz.func152,Tryz.ntmps152
  go_wp2_with (go_at_call 195;refine (qlk.out _).mono ?_;rintro e w' ⟨rfl,rfl⟩)
  go_ret;exact⟨rfl,qc8.out _ _ (Below.refl _ _)⟩
 ·have hf':Qe s.st k=true:=by simpa using hf
  clear hf
  cases ex with
  | true=>
   have q93:Hid (qaf s k t r=(3,s)):=by rw[hts.out,hf'];rfl
   rw[q93.out];unfold qbk qec at q3c qcv ⊢;go_enter Tryz.func152,Tryz.ntmps152
   go_wp2_with (first | (go_at_call 195;refine (qlk.out _).mono ?_;rintro e w' ⟨rfl,rfl⟩) | (go_at_call 196;refine (q3c.out _).mono ?_;rintro e W1 ⟨rfl,hb1⟩))
   go_ret;exact⟨rfl,qc8.out _ _ hb1⟩
  | false=>
   have q93:Hid (qaf s k t r=(0,qau s k t)):=by rw[hts.out,hf'];rfl
   rw[q93.out];unfold qbk qec at q3c qcv ⊢;have ha:=qcv.out hf' (.cells #[.int .i64 k,.string t,.int .i64 p,.int .i64 r] 191);have hs2:=hsz.out (.cells #[.int .i64 k,.string t,.int .i64 p,.int .i64 r] 191);have HA:Hid (∀W1,Below (W.alloc (.cells #[.int .i64 k,.string t,.int .i64 p,.int .i64 r] 191)).heap.size (W.alloc (.cells #[.int .i64 k,.string t,.int .i64 p,.int .i64 r] 191)) W1->_):=ha;have HS:Hid (∀W1,Below (W.alloc (.cells #[.int .i64 k,.string t,.int .i64 p,.int .i64 r] 191)).heap.size (W.alloc (.cells #[.int .i64 k,.string t,.int .i64 p,.int .i64 r] 191)) W1->_):=hs2;clear ha hs2;go_enter Tryz.func152,Tryz.ntmps152
   go_wp2_with (first | (go_at_call 195;refine (qlk.out _).mono ?_;rintro e w' ⟨rfl,rfl⟩))
   refine (q3c.out _).mono ?_;rintro e W1 ⟨rfl,hb1⟩;have hcs:=HS.out W1 hb1;have q0:=(hcs 0).symm;have q1:=(hcs 1).symm;have q2:=(hcs 2).symm;have q3:=(hcs 3).symm;simp at q0 q1 q2 q3;clear hcs;go_wp2_with fail;refine (HA.out W1 hb1).mono ?_;rintro e W2 ⟨rfl,qbr⟩;go_wp2;go_ret;exact⟨rfl,qbr⟩
