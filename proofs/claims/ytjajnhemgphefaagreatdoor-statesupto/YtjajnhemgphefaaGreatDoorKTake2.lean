/- A part -/
import Derived.Test.YtjajnhemgphefaaGreatDoorKTerm2
set_option linter.all false
set_option maxRecDepth 100000
set_option maxHeartbeats 4000000
namespace Go.Proofs.YtjajnhemgphefaaGreatDoor
open Go renaming World->Wq,Value->Vq
open Go.RowKit Go.Shelf
variable {bp ab bS b ad ae e size:Nat} {xs:List Vq} {ex:Nat->Prop} {W W':Wq} {l:List Rl} {s:PSt}
theorem qix(w:Wq)(a b d:Vq)(t:TypeId):∀j u,[a,b,d][j]?=some u->(w.alloc (.cells #[a,b,d] t)).cell? ((⟨w.heap.size,0,none⟩:Addr).add j)=some u:=by
 intro j u hj
 match j,hj with
 | 0,hj=>simp at hj;subst hj;simp[Addr.add]
 | 1,hj=>simp at hj;subst hj;simp[Addr.add]
 | 2,hj=>simp at hj;subst hj;simp[Addr.add]
 | j+3,hj=>simp at hj
def qnv(g n c:Nat):Vq:=.slice (if c=1 then some ⟨g,0,none⟩ else some ⟨g,2,none⟩) (n - 1) (c - 1)
theorem qu7{w w1:Wq}{n:Nat}{st:Int}{x y z v':Vq}(hh:w1.heap[bp]?=cC #[Ii st,x,y,z] 179)(ho:w1.ownsRow ab 136 3 v' n xs)(hc:Chg w w1 (λj=>j=bp\/ex j)) :
  ((((w1.setCell (Ad bp 1) v').setCell (Ad bp 2) (.slice none 0 0)).setCell (Ad bp 3) (.slice none 0 0)).setCell (Ad bp 0) (Ii 0)).heap[bp]?=cC #[Ii 0,v',.slice none 0 0,.slice none 0 0] 179/\
  ((((w1.setCell (Ad bp 1) v').setCell (Ad bp 2) (.slice none 0 0)).setCell (Ad bp 3) (.slice none 0 0)).setCell (Ad bp 0) (Ii 0)).ownsRow ab 136 3 v' n xs/\
  Chg w ((((w1.setCell (Ad bp 1) v').setCell (Ad bp 2) (.slice none 0 0)).setCell (Ad bp 3) (.slice none 0 0)).setCell (Ad bp 0) (Ii 0)) (λj=>j=bp\/ex j):=by
 refine⟨Qd (Qd (Qd (Qd hh 1 v') 2 _) 3 _) 0 _,?_,(((hc.setCell (Ad bp 1) _ (λ_=>.inl rfl)).setCell (Ad bp 2) _ (λ_=>.inl rfl)).setCell (Ad bp 3) _ (λ_=>.inl rfl)).setCell (Ad bp 0) _ (λ_=>.inl rfl)⟩;exact Qg (Qg (Qg (Qg ho _ _ (Qf ho hh (by decide))) _ _ (Qf ho hh (by decide))) _ _ (Qf ho hh (by decide))) _ _ (Qf ho hh (by decide))
theorem qu2(bp:Nat)(st:Int)(xa:Option Addr)(xn xc:Nat)(ar:Option Addr)(nr cr g ab:Nat)(xs:List Vq)(rel args:Vq)(hrel:∃s,rel=St s)(b9:∃a m q,args=.slice a m q)(hr:nr<=1000)(w:Wq)(dc:ab<=w.heap.size)(hh:w.heap[bp]?=cC #[Ii st,.slice ar nr cr,Sc g 1 1,.slice xa xn xc] 179)(ci:w.cell? (Ad g 0)=some rel)(ck:w.cell? (Ad g 1)=some args)(qq:w.ownsRow ab 136 3 (.slice ar nr cr) nr xs) :
  Cs 236 #[Pt bp] w λe w'=>e=.returned (.tuple #[])/\
   ∃v',w'.heap[bp]?=cC #[Ii 0,v',.slice none 0 0,.slice none 0 0] 179/\w'.ownsRow ab 136 3 v' (nr+1) (xs++[rel,args,qnv g 1 1])/\
    Chg w w' (λj=>j=bp\/some j=(Value.slice ar nr cr).ownBlock):=by
 obtain⟨rs,rfl⟩:=hrel;obtain⟨aa,am,aq,rfl⟩:=b9;have be:bp < w.heap.size:=(zg hh).1;have c0:w.cell? (Ad bp 0)=some (Ii st):=zc hh
 have c1:w.cell? (Ad bp 1)=some (.slice ar nr cr):=zc hh
 have c2:w.cell? (Ad bp 2)=some (Sc g 1 1):=zc hh
 have c3:w.cell? (Ad bp 3)=some (.slice xa xn xc):=zc hh
 have f1:w.frozen? (Ad bp 1)=false:=by simp[World.frozen?,hh]
 obtain⟨i0,hi,cl,ce,b5⟩:=info_parts Tryz.info48;have hA:Hid ((w.alloc (.cells #[St rs,.slice aa am aq,Sc g 0 0] 136)).ownsRow ab 136 3 (.slice ar nr cr) nr xs):=qq.alloc _;have hN:Hid (∀j u,[Value.string rs,.slice aa am aq,Sc g 0 0][j]?=some u->(w.alloc (.cells #[St rs,.slice aa am aq,Sc g 0 0] 136)).cell? ((⟨w.heap.size,0,none⟩:Addr).add j)=some u):=qix w _ _ _ _
 have hG:Hid (∀w1,(w.alloc (.cells #[St rs,.slice aa am aq,Sc g 0 0] 136)).drew.grownBy w1 (Value.slice ar nr cr).ownBlock->
   w1.heap[bp]?=cC #[Ii st,.slice ar nr cr,Sc g 1 1,.slice xa xn xc] 179/\Chg w w1 (λj=>j=bp\/some j=(Value.slice ar nr cr).ownBlock)):=by
  intro w1 cq;have hc:Chg w w1 (λj=>some j=(Value.slice ar nr cr).ownBlock):=(((Chg.refl w _).alloc _).drew).grown cq (λk e _=>e.symm);exact⟨(hc.block bp be (λe=>Qf qq hh (by decide) bp e.symm rfl)).trans hh,hc.mono (λ_ _ e=>.inr e)⟩
 have bq:∀u∈[Value.string rs,.slice aa am aq,Sc g 0 0],u.oneCell'=true:=by simp[Value.oneCell']
 have ax:nr+1<=maxLen:=by unfold maxLen;omega
 have bk:(nr+1)*64<=140737488355328:=by omega
 have bj:Hid (ab<=(w.alloc (.cells #[St rs,.slice aa am aq,Sc g 0 0] 136)).drew.heap.size):=by
  show ab<=(w.alloc (.cells #[St rs,.slice aa am aq,Sc g 0 0] 136)).heap.size;simp;omega
 clear hh qq;go_enter Tryz.func236,Tryz.ntmps236;go_wp2
 go_region_law (refine qbv rfl (.tmp 6) (.tmp 19) 75 rfl ab 136 i0 (.agg #[St ⟨#[]⟩,.slice none 0 0,.slice none 0 0]) 3 64 Tryz.underlying75 hi cl ce b5 rfl (by decide) (.slice ar nr cr) nr xs (by simp[Act.eval,Act.put]) hA.out ⟨w.heap.size,0,none⟩ 1 1 [St rs,.slice aa am aq,Sc g 0 0] (by simp[Act.eval,Act.put]) rfl hN.out bq ax bk bj.out ?_;intro v' w1 ak ah;obtain⟨g',bb,ch⟩:=ownsRow_succ ak;subst ch;obtain⟨ai,cb⟩:=hG.out w1 ah;have d0:w1.cell? (Ad bp 0)=some (Ii st):=(by simp[World.cell?,ai]);have d1:w1.cell? (Ad bp 1)=some (.slice ar nr cr):=(by simp[World.cell?,ai]);have d2:w1.cell? (Ad bp 2)=some (Sc g 1 1):=(by simp[World.cell?,ai]);have d3:w1.cell? (Ad bp 3)=some (.slice xa xn xc):=(by simp[World.cell?,ai]);have e3:w1.frozen? (Ad bp 3)=false:=(by simp[World.frozen?,ai]);have e0:w1.frozen? (Ad bp 0)=false:=(by simp[World.frozen?,ai]);have e1:w1.frozen? (Ad bp 1)=false:=(by simp[World.frozen?,ai]);have e2:w1.frozen? (Ad bp 2)=false:=(by simp[World.frozen?,ai]))
 all_goals
  clear hA hN hG bj bq ah ax bk ci ck;go_wp2
  go_end0
  refine⟨rfl,Sc g' (nr+1) bb,?_⟩;have cg:qnv g 1 1=Sc g 0 0:=rfl;rw[cg];exact qu7 ai ak cb
def PAt(ab bS:Nat)(W:Wq)(bp:Nat)(s:PSt):Prop:=
 ∃(vr va vv:Vq) (ad ae:Nat),ab<=ad/\ab<=ae/\ad<=W.heap.size/\ae<=W.heap.size/\ab<=bp/\ab<=bS/\bS<=W.heap.size/\W.heap[bp]?=cC #[Ii s.st,vr,va,vv] 179/\
  W.ownsRow bS 9 1 vv s.vars.length (s.vars.map Value.string)/\Qb W ab ad ae vr s.rules/\q95 W ad ae va s.atoms
def Qfo(o:Obj):Prop:=∀c t fz,o=Obj.cells c t fz->t≠179/\t≠136/\t≠92/\t≠166/\t≠9
structure PFr(ab bS:Nat)(W W':Wq):Prop where
 low:Below ab W W'
 same:∀(k:Nat) (o:Obj),W.heap[k]?=some o->Qfo o->W'.heap[k]?=some o
 str:∀(k:Nat) (c:Array Vq) (fz:Nat×Nat),k < bS->W.heap[k]?=some (Obj.cells c 9 fz)->W'.heap[k]?=some (Obj.cells c 9 fz)
theorem PFr.trans{A B C:Wq}(h:PFr ab bS A B)(k:PFr ab bS B C):PFr ab bS A C:=⟨h.1.trans k.1,λi o hi ho=>k.2 i o (h.2 i o hi ho) ho,λi c fz hi hc=>k.3 i c fz hi (h.3 i c fz hi hc)⟩
theorem PFr.ofChg(h:Chg W W' ex)(hB:ab<=W.heap.size)(hx:∀k,k < W.heap.size->ex k->ab<=k/\∃c t fz,W.heap[k]?=some (Obj.cells c t fz)/\(t=179\/t=136\/t=92\/t=166\/(t=9/\bS<=k))):PFr ab bS W W':=by
 refine⟨⟨h.os,h.tape,h.output,h.size,λk hk=>h.block k (Nat.lt_of_lt_of_le hk hB) (λe=>?_)⟩,λk o hk ho=>?_,λk c fz dm hk=>?_⟩
 .have:=(hx k (Nat.lt_of_lt_of_le hk hB) e).1;omega
 .have bf:=(zg hk).1;rw[h.block k bf (λe=>?_)]
  .exact hk
  .obtain⟨_,c,t,fz,hc,ht⟩:=hx k bf e;rw[hk] at hc;cases hc;have:=ho c t fz rfl;rcases ht with h | h | h | h | h <;> simp_all
 .have bf:=(zg hk).1;rw[h.block k bf (λe=>?_)]
  .exact hk
  .obtain⟨_,c',t,dq,hc,ht⟩:=hx k bf e;rw[hk] at hc;cases hc;rcases ht with h | h | h | h | ⟨_,h⟩
   .exact absurd h (by decide)
   .exact absurd h (by decide)
   .exact absurd h (by decide)
   .exact absurd h (by decide)
   .omega
theorem PFr.ofBelow(h:Below W.heap.size W W')(hB:ab<=W.heap.size):PFr ab bS W W':=
 ⟨h.mono hB,λk o hk _=>(h.block k (zg hk).1).trans hk,λk c fz _ hk=>(h.block k (zg hk).1).trans hk⟩
theorem Chg.keptT{t:TypeId}(h:Chg W W' ex)(hx:∀(k:Nat) (c:Array Vq),k < b->W.heap[k]?=cC c t->¬ex k):qh9 t b W W':=
 λk c hk hc=>(h.block k (zg hc).1 (hx k c hk hc)).trans hc
theorem Qb.kept{v:Vq}(h:Qb W ab ad ae v l)(de:∀g c,v.ownBlock=some g->W.heap[g]?=cC c 136->W'.heap[g]?=cC c 136)(b7:qh9 92 ad W W')(bc:qh9 166 ae W W'):Qb W' ab ad ae v l:=by
 obtain⟨qs,h1,h2,h3⟩:=h;exact⟨qs,h1,q8 h2 de,λq hq=>⟨(h3 q hq).1.kept bc,(h3 q hq).2.kept b7 bc⟩⟩
theorem Qb.mono{cu c6:Nat}{v:Vq}(h:Qb W ab ad ae v l)(b7:ad<=cu)(bc:ae<=c6):Qb W ab cu c6 v l:=by
 obtain⟨qs,h1,h2,h3⟩:=h;exact⟨qs,h1,h2,λq hq=>⟨(h3 q hq).1.mono bc,(h3 q hq).2.mono b7 bc⟩⟩
theorem qe{n:Nat}{v:Vq}(h:W.ownsRow b e size v n xs){g:Nat}(hg:v.ownBlock=some g):b<=g/\∃c,W.heap[g]?=cC c e:=by
 obtain⟨_,⟨hv,hn⟩ | ⟨g',cap,ay,hv,hb,hw,_⟩⟩:=h
 .rw[hv] at hg;simp[Value.ownBlock] at hg
 .rw[hv] at hg;simp[Value.ownBlock] at hg;subst hg;exact⟨hb,ay,hw⟩
theorem qo{n:Nat}{v:Vq}(h:W.ownsRow b e size v n xs):∃a c,v=.slice a n c:=by
 obtain⟨_,⟨hv,hn⟩ | ⟨g,cap,ay,hv,_⟩⟩:=h
 .exact⟨none,0,by rw[hv,hn]⟩
 .exact⟨_,_,hv⟩
theorem PAt.state(h:PAt ab bS W bp s)(x:Int):PAt ab bS (W.setCell (Ad bp 0) (Ii x)) bp {s with st:=x}/\PFr ab bS W (W.setCell (Ad bp 0) (Ii x)):=by
 obtain⟨vr,va,vv,ad,ae,h1,h2,h3,h4,h5,h6,h7,hh,hV,hR,hA⟩:=h
 have hk:∀(k:Nat) (c:Array Vq) (t:TypeId),t≠179->W.heap[k]?=cC c t->(W.setCell (Ad bp 0) (Ii x)).heap[k]?=cC c t:=by
  intro k c t ht hc;rw[Below.heap_setCell _ _ _ _ (λe=>?_)]
  .exact hc
  .simp at e;subst e;rw[hh] at hc;cases hc;exact ht rfl
 refine⟨⟨vr,va,vv,ad,ae,h1,h2,by simpa using h3,by simpa using h4,h5,h6,by simpa using h7,Qd hh 0 _,q8 hV (λg c _ hc=>hk g c _ (by decide) hc),hR.kept (λg c _ hc=>hk g c _ (by decide) hc) (λk c _ hc=>hk k c _ (by decide) hc) (λk c _ hc=>hk k c _ (by decide) hc),?_⟩,?_⟩
 .obtain⟨ps,e1,e2,e3,e4⟩:=hA;exact⟨ps,e1,q8 e2 (λg c _ hc=>hk g c _ (by decide) hc),λp hp=>(e3 p hp).kept (λk c _ hc=>hk k c _ (by decide) hc),λp hp=>q8 (e4 p hp) (λg c _ hc=>hk g c _ (by decide) hc)⟩
 .refine PFr.ofChg ((Chg.refl W (λj=>j=bp)).setCell (Ad bp 0) _ (λ_=>rfl)) (by omega) (λk hk e=>?_);subst e;exact⟨h5,_,_,_,hh,.inl rfl⟩
theorem q0a(ab bS bp:Nat)(s:PSt)(k:Int)(t:By)(ht:t.size<=1200)(p r:Int)(W:Wq)(hP:PAt ab bS W bp s)(a9:k=1\/k=2)(bn:s.vars.length<=100)(a7:s.atoms.length<=100)(h3:s.st=3->s.atoms≠[])(hm:∀a∈s.atoms,a.args.length<=100) :
  Cs 233 #[Pt bp,qbk k t p r] W λe W'=>e=.returned (.tuple #[])/\PAt ab bS W' bp (qbx s k t)/\PFr ab bS W W':=by
 obtain⟨vr,va,vv,ad,ae,h1,h2,h4,h5,h6,a6,aw,hh,hV,hR,ps,e1,e2,e3,e4⟩:=hP;have ag:ps.length=s.atoms.length:=by rw[<- e1];simp
 by_cases a8:s.st=3
 ·-- a term more of the last atom
  have co:=h3 a8;have ao:ps≠[]:=by intro e;rw[e] at ag;simp at ag;exact co (List.eq_nil_of_length_eq_zero ag.symm)
  obtain⟨al,⟨la,lv⟩,rfl⟩:∃al l,ps=al++[l]:=⟨ps.dropLast,ps.getLast ao,(List.dropLast_concat_getLast ao).symm⟩;have hl:=e4 (la,lv) (by simp);simp only[List.dropLast_concat] at e3;simp only at hl;obtain⟨aa,ca,rfl⟩:=qo hl;have dn:la∈s.atoms:=by rw[<- e1];simp
  rw[List.flatMap_append] at e2;have bi:W.ownsRow ad 92 2 va (al++[(la,Value.slice aa la.args.length ca)]).length (al.flatMap qbb++[St la.rel,.slice aa la.args.length ca]):=by simpa [qbb] using e2
  have dh:qco s.atoms (qca s.vars k t)=al.map (·.1)++[{la with args:=la.args++[qca s.vars k t]}]:=by
   unfold qco;rw[<- e1];simp
  rw[a8] at hh;refine (qta bp vr va vv _ ad ae bS _ _ aa _ ca _ s.vars k t p r a9 (by simp) (by rw[ag];omega) (by have:=hm la dn;omega) bn (by omega) W h5 aw hh bi hl hV).mono ?_;rintro e W' ⟨rfl,v',db,bt,cn,dj,dl,hc⟩;refine⟨rfl,?_,?_⟩
  .unfold qbx;rw[if_pos a8,dh]
   have bd:qh9 92 ad W W':=hc.keptT (λj c hj af hx=>by
    rcases hx with rfl | hx | hx | hx
    .rw[hh] at af;cases af
    .have:=(qe e2 hx.symm).1;omega
    .obtain⟨_,c',ac⟩:=qe hl hx.symm;rw[af] at ac;cases ac
    .obtain⟨_,c',ac⟩:=qe hV hx.symm;rw[af] at ac;cases ac)
   have av:qh9 166 ae W W':=hc.keptT (λj c hj af hx=>by
    rcases hx with rfl | hx | hx | hx
    .rw[hh] at af;cases af
    .obtain⟨_,c',ac⟩:=qe e2 hx.symm;rw[af] at ac;cases ac
    .have:=(qe hl hx.symm).1;omega
    .obtain⟨_,c',ac⟩:=qe hV hx.symm;rw[af] at ac;cases ac)
   refine⟨vr,va,db,ad,ae,h1,h2,Nat.le_trans h4 hc.size,Nat.le_trans h5 hc.size,h6,a6,Nat.le_trans aw hc.size,bt,dl,hR.kept (λg c hg aj=>?_) bd av,al++[({la with args:=la.args++[qca s.vars k t]},v')],by simp,?_,?_,?_⟩
   .rw[hc.block g (zg aj).1 (λhx=>?_)]
    .exact aj
    .rcases hx with rfl | hx | hx | hx
     .rw[hh] at aj;cases aj
     .obtain⟨_,c',ac⟩:=qe e2 hx.symm;rw[aj] at ac;cases ac
     .obtain⟨_,c',ac⟩:=qe hl hx.symm;rw[aj] at ac;cases ac
     .obtain⟨_,c',ac⟩:=qe hV hx.symm;rw[aj] at ac;cases ac
   .simpa [qbb] using cn
   .simp only[List.dropLast_concat];exact λq hq=>(e3 q hq).kept av
   .intro q hq;simp at hq;subst hq;simpa [qqy,tmC] using dj
  .refine PFr.ofChg hc (by omega) (λj hj hx=>?_);rcases hx with rfl | hx | hx | hx
   .exact⟨h6,_,_,_,hh,.inl rfl⟩
   .obtain⟨hb,c,hc⟩:=qe e2 hx.symm;exact⟨by omega,c,_,_,hc,.inr (.inr (.inl rfl))⟩
   .obtain⟨hb,c,hc⟩:=qe hl hx.symm;exact⟨by omega,c,_,_,hc,.inr (.inr (.inr (.inl rfl)))⟩
   .obtain⟨hb,c,hc⟩:=qe hV hx.symm;exact⟨by omega,c,_,_,hc,.inr (.inr (.inr (.inr ⟨rfl,hb⟩)))⟩
 ·-- an atom more
  refine (qs9 bp s.st vr va vv _ ad _ k t p r a8 (by rw[ag];omega) (by omega) W h4 hh e2).mono ?_;rintro e W' ⟨rfl,v',bt,cn,hc⟩;refine⟨rfl,?_,?_⟩
  .unfold qbx;rw[if_neg a8]
   have bd:qh9 92 ad W W':=hc.keptT (λj c hj af hx=>by
    rcases hx with rfl | hx
    .rw[hh] at af;cases af
    .have:=(qe e2 hx.symm).1;omega)
   have av:∀b,qh9 166 b W W':=λb=>hc.keptT (λj c hj af hx=>by
    rcases hx with rfl | hx
    .rw[hh] at af;cases af
    .obtain⟨_,c',ac⟩:=qe e2 hx.symm;rw[af] at ac;cases ac)
   refine⟨vr,v',vv,ad,W.heap.size,h1,by omega,Nat.le_trans h4 hc.size,hc.size,h6,a6,Nat.le_trans aw hc.size,bt,q8 hV (λg c hg aj=>?_),(hR.kept (λg c hg aj=>?_) bd (av _)).mono zl h5,ps++[(⟨t,[]⟩,.slice none 0 0)],by simp[e1],?_,?_,?_⟩
   .rw[hc.block g (zg aj).1 (λhx=>?_)]
    .exact aj
    .rcases hx with rfl | hx
     .rw[hh] at aj;cases aj
     .obtain⟨_,c',ac⟩:=qe e2 hx.symm;rw[aj] at ac;cases ac
   .rw[hc.block g (zg aj).1 (λhx=>?_)]
    .exact aj
    .rcases hx with rfl | hx
     .rw[hh] at aj;cases aj
     .obtain⟨_,c',ac⟩:=qe e2 hx.symm;rw[aj] at ac;cases ac
   .simpa [qbb] using cn
   .simp only[List.dropLast_concat];intro q hq;by_cases ao:ps=[]
    .rw[ao] at hq;cases hq
    .rw[<- List.dropLast_concat_getLast ao] at hq;rcases List.mem_append.1 hq with hq | hq
     .exact ((e3 q hq).mono h5).kept (av _)
     .simp at hq;have:=e4 q (by rw[hq];exact List.getLast?_eq_some_getLast ao);exact (Qi.ofOwns this).kept (av _)
   .intro q hq;simp at hq;subst hq;exact World.ownsRow_nil W' _ _ _
  .refine PFr.ofChg hc (by omega) (λj hj hx=>?_);rcases hx with rfl | hx
   .exact⟨h6,_,_,_,hh,.inl rfl⟩
   .obtain⟨hb,c,hc⟩:=qe e2 hx.symm;exact⟨by omega,c,_,_,hc,.inr (.inr (.inl rfl))⟩
theorem qtj(bp:Nat)(st:Int)(xa:Option Addr)(xn xc:Nat)(ar:Option Addr)(nr cr g n c ab:Nat)(xs:List Vq)(rel args:Vq)(hrel:∃s,rel=St s)(b9:∃a m q,args=.slice a m q)(du:1<=n)(bu:n<=c)(b4:¬c=1)(hn:n<=1000)(hr:nr<=1000)(w:Wq)(dc:ab<=w.heap.size)(hh:w.heap[bp]?=cC #[Ii st,.slice ar nr cr,Sc g n c,.slice xa xn xc] 179)(ci:w.cell? (Ad g 0)=some rel)(ck:w.cell? (Ad g 1)=some args)(qq:w.ownsRow ab 136 3 (.slice ar nr cr) nr xs) :
  Cs 236 #[Pt bp] w λe w'=>e=.returned (.tuple #[])/\
   ∃v',w'.heap[bp]?=cC #[Ii 0,v',.slice none 0 0,.slice none 0 0] 179/\w'.ownsRow ab 136 3 v' (nr+1) (xs++[rel,args,qnv g n c])/\
    Chg w w' (λj=>j=bp\/some j=(Value.slice ar nr cr).ownBlock):=by
 obtain⟨rs,rfl⟩:=hrel;obtain⟨aa,am,aq,rfl⟩:=b9;have be:bp < w.heap.size:=(zg hh).1;have c0:w.cell? (Ad bp 0)=some (Ii st):=zc hh
 have c1:w.cell? (Ad bp 1)=some (.slice ar nr cr):=zc hh
 have c2:w.cell? (Ad bp 2)=some (Sc g n c):=zc hh
 have c3:w.cell? (Ad bp 3)=some (.slice xa xn xc):=zc hh
 have f1:w.frozen? (Ad bp 1)=false:=by simp[World.frozen?,hh]
 obtain⟨i0,hi,cl,ce,b5⟩:=info_parts Tryz.info48;have i4:0 < n:=by omega
 have i5:1<=n:=by omega
 have i1:(0:Int) < (n:Int):=by omega
 have i2:(1:Int)<=(n:Int):=by omega
 have i3:(n:Int)<=(c:Int):=by omega
 have hA:Hid ((w.alloc (.cells #[St rs,.slice aa am aq,.slice (some ⟨g,2,none⟩) (n - 1) (c - 1)] 136)).ownsRow ab 136 3 (.slice ar nr cr) nr xs):=qq.alloc _;have hN:Hid (∀j u,[Value.string rs,.slice aa am aq,.slice (some ⟨g,2,none⟩) (n - 1) (c - 1)][j]?=some u->(w.alloc (.cells #[St rs,.slice aa am aq,.slice (some ⟨g,2,none⟩) (n - 1) (c - 1)] 136)).cell? ((⟨w.heap.size,0,none⟩:Addr).add j)=some u):=qix w _ _ _ _
 have hG:Hid (∀w1,(w.alloc (.cells #[St rs,.slice aa am aq,.slice (some ⟨g,2,none⟩) (n - 1) (c - 1)] 136)).drew.grownBy w1 (Value.slice ar nr cr).ownBlock->
   w1.heap[bp]?=cC #[Ii st,.slice ar nr cr,Sc g n c,.slice xa xn xc] 179/\Chg w w1 (λj=>j=bp\/some j=(Value.slice ar nr cr).ownBlock)):=by
  intro w1 cq;have hc:Chg w w1 (λj=>some j=(Value.slice ar nr cr).ownBlock):=(((Chg.refl w _).alloc _).drew).grown cq (λk e _=>e.symm);exact⟨(hc.block bp be (λe=>Qf qq hh (by decide) bp e.symm rfl)).trans hh,hc.mono (λ_ _ e=>.inr e)⟩
 have bq:∀u∈[Value.string rs,.slice aa am aq,.slice (some ⟨g,2,none⟩) (n - 1) (c - 1)],u.oneCell'=true:=by simp[Value.oneCell']
 have ax:nr+1<=maxLen:=by unfold maxLen;omega
 have bk:(nr+1)*64<=140737488355328:=by omega
 have bj:Hid (ab<=(w.alloc (.cells #[St rs,.slice aa am aq,.slice (some ⟨g,2,none⟩) (n - 1) (c - 1)] 136)).drew.heap.size):=by
  show ab<=(w.alloc (.cells #[St rs,.slice aa am aq,.slice (some ⟨g,2,none⟩) (n - 1) (c - 1)] 136)).heap.size;simp;omega
 clear hh qq;go_enter Tryz.func236,Tryz.ntmps236;go_wp2
 go_region_law (refine qbv rfl (.tmp 6) (.tmp 19) 75 rfl ab 136 i0 (.agg #[St ⟨#[]⟩,.slice none 0 0,.slice none 0 0]) 3 64 Tryz.underlying75 hi cl ce b5 rfl (by decide) (.slice ar nr cr) nr xs (by simp[Act.eval,Act.put]) hA.out ⟨w.heap.size,0,none⟩ 1 1 [St rs,.slice aa am aq,.slice (some ⟨g,2,none⟩) (n - 1) (c - 1)] (by simp[Act.eval,Act.put]) rfl hN.out bq ax bk bj.out ?_;intro v' w1 ak ah;obtain⟨g',bb,ch⟩:=ownsRow_succ ak;subst ch;obtain⟨ai,cb⟩:=hG.out w1 ah;have d0:w1.cell? (Ad bp 0)=some (Ii st):=(by simp[World.cell?,ai]);have d1:w1.cell? (Ad bp 1)=some (.slice ar nr cr):=(by simp[World.cell?,ai]);have d2:w1.cell? (Ad bp 2)=some (Sc g n c):=(by simp[World.cell?,ai]);have d3:w1.cell? (Ad bp 3)=some (.slice xa xn xc):=(by simp[World.cell?,ai]);have e3:w1.frozen? (Ad bp 3)=false:=(by simp[World.frozen?,ai]);have e0:w1.frozen? (Ad bp 0)=false:=(by simp[World.frozen?,ai]);have e1:w1.frozen? (Ad bp 1)=false:=(by simp[World.frozen?,ai]);have e2:w1.frozen? (Ad bp 2)=false:=(by simp[World.frozen?,ai]))
 all_goals
  clear hA hN hG bj bq ah ax bk ci ck;go_wp2
  go_end0
  refine⟨rfl,Sc g' (nr+1) bb,?_⟩;have cg:qnv g n c=.slice (some ⟨g,2,none⟩) (n - 1) (c - 1):=by unfold qnv;rw[if_neg b4]
  rw[cg];exact qu7 ai ak cb
theorem Qi.form{v:Vq}{l:List Tm}(h:Qi W b v l):∃a c,v=.slice a l.length c:=by
 rcases h with⟨rfl,rfl⟩ | ⟨g,cap,ay,h1,_⟩
 .exact⟨none,0,rfl⟩
 .exact⟨_,_,h1⟩
theorem q3m{ps:List (Am×Vq)}(bc:ae<=W.heap.size)(e3:∀p∈ps.dropLast,Qi W ae p.2 p.1.args)(e4:∀p,ps.getLast?=some p->W.ownsRow ae 166 2 p.2 p.1.args.length (qqy p.1.args)):∀p∈ps,Qi W W.heap.size p.2 p.1.args:=by
 intro q hq;by_cases ao:ps=[]
 .rw[ao] at hq;cases hq
 .rw[<- List.dropLast_concat_getLast ao] at hq;rcases List.mem_append.1 hq with hq | hq
  .exact (e3 q hq).mono bc
  .simp at hq;exact Qi.ofOwns (e4 q (by rw[hq];exact List.getLast?_eq_some_getLast ao))
theorem q0u(ab bS bp:Nat)(s:PSt)(W:Wq)(hP:PAt ab bS W bp s)(a7:s.atoms.length<=100)(co:s.atoms≠[])(b3:s.rules.length<=100) :
  Cs 236 #[Pt bp] W λe W'=>e=.returned (.tuple #[])/\PAt ab bS W' bp (qau s)/\PFr ab bS W W':=by
 obtain⟨vr,va,vv,ad,ae,h1,h2,h4,h5,h6,a6,aw,hh,hV,⟨qs,r1,r2,r3⟩,ps,e1,e2,e3,e4⟩:=hP;obtain⟨xa,xc,rfl⟩:=qo hV;have ag:ps.length=s.atoms.length:=by rw[<- e1];simp
 have cv:qs.length=s.rules.length:=by rw[<- r1];simp
 have c4:=q3m h5 e3 e4
 cases ps with
 | nil=>simp at e1;exact absurd e1 co
 | cons p0 pt=>
  obtain⟨a0,v0⟩:=p0;have b0:s.atoms=a0::pt.map (·.1):=by rw[<- e1];rfl
  have bi:=e2;obtain⟨hl,⟨_,hz⟩ | ⟨g,c,ay,rfl,hb,hw,bu,dv,bh,c5⟩⟩:=bi
  .simp at hz
  have dg:g < W.heap.size:=(zg hw).1;have cy:=c4 (a0,v0) (by simp);have Qbp:ay.toList.take ((pt.length+1)*2)=St a0.rel::v0::pt.flatMap qbb:=by simpa [qbb] using c5
  have cf:W.cell? (Ad g 0)=some (St a0.rel):=by
   have:(ay.toList.take ((pt.length+1)*2))[0]?=some (St a0.rel):=by rw[Qbp];rfl
   rw[List.getElem?_take,if_pos (by omega)] at this;simp only[World.cell?,hw];simpa using this
  have b4:W.cell? (Ad g 1)=some v0:=by
   have:(ay.toList.take ((pt.length+1)*2))[1]?=some v0:=by rw[Qbp];rfl
   rw[List.getElem?_take,if_pos (by omega)] at this;simp only[World.cell?,hw];simpa using this
  have cx:∃a m q,v0=.slice a m q:=by obtain⟨a,q,e⟩:=cy.form;exact⟨a,_,q,e⟩
  obtain⟨ar,cr,rfl⟩:=qo r2
  have key:Cs 236 #[Pt bp] W λe w'=>e=.returned (.tuple #[])/\
   ∃v',w'.heap[bp]?=cC #[Ii 0,v',.slice none 0 0,.slice none 0 0] 179/\w'.ownsRow ab 136 3 v' (qs.length+1) (qs.flatMap qoe++[St a0.rel,v0,qnv g (pt.length+1) c])/\
    Chg W w' (λj=>j=bp\/some j=(Value.slice ar qs.length cr).ownBlock):=by
   simp only[List.length_cons] at hh bu;by_cases ct:c=1
   .subst ct;have dd:pt.length=0:=by omega
    rw[dd] at hh ⊢;exact qu2 bp s.st _ _ _ ar _ cr g ab _ _ _ ⟨_,rfl⟩ cx (by omega) W (by omega) hh cf b4 r2
   .exact qtj bp s.st _ _ _ ar _ cr g _ c ab _ _ _ ⟨_,rfl⟩ cx (by omega) (by omega) ct (by simp at ag;omega) (by omega) W (by omega) hh cf b4 r2
  refine key.mono ?_;rintro e W' ⟨rfl,v',bt,di,hc⟩
  have bd:∀b,qh9 92 b W W':=λb=>hc.keptT (λj cc hj af hx=>by
   rcases hx with rfl | hx
   .rw[hh] at af;cases af
   .obtain⟨_,c',ac⟩:=qe r2 hx.symm;rw[af] at ac;cases ac)
  have av:∀b,qh9 166 b W W':=λb=>hc.keptT (λj cc hj af hx=>by
   rcases hx with rfl | hx
   .rw[hh] at af;cases af
   .obtain⟨_,c',ac⟩:=qe r2 hx.symm;rw[af] at ac;cases ac)
  refine⟨rfl,?_,?_⟩
  .have df:qau s={st:=0,rules:=s.rules++[⟨a0,pt.map (·.1)⟩],atoms:=[],vars:=[]}:=by unfold qau;rw[b0]
   rw[df];refine⟨v',.slice none 0 0,.slice none 0 0,W.heap.size,W.heap.size,by omega,by omega,hc.size,hc.size,h6,a6,Nat.le_trans aw hc.size,bt,World.ownsRow_nil W' _ _ _,⟨qs++[(⟨a0,pt.map (·.1)⟩,v0,qnv g (pt.length+1) c)],by simp[r1],?_,?_⟩,[],rfl,World.ownsRow_nil W' _ _ _,by simp,by simp⟩
   .simpa [qoe] using di
   .intro q hq;rcases List.mem_append.1 hq with hq | hq
    .exact⟨((r3 q hq).1.mono h5).kept (av _),((r3 q hq).2.mono h4 h5).kept (bd _) (av _)⟩
    .simp at hq;subst hq;refine⟨cy.kept (av _),qar.kept ⟨pt,if c=1 then some ⟨g,0,none⟩ else some ⟨g,2,none⟩,c - 1,rfl,by simp[qnv],⟨λp hp=>c4 p (by simp[hp]),by simp only[List.length_cons] at bu;simp;omega⟩,λcd=>?_⟩ (bd _) (av _)⟩;have dk:pt.length≠0:=by intro e;exact cd (by simp[List.eq_nil_of_length_eq_zero e])
     refine⟨g,2,ay,by rw[if_neg (by simp only[List.length_cons] at bu;omega)],dg,hw,?_⟩;have:(ay.toList.take ((pt.length+1)*2)).drop 2=pt.flatMap qbb:=by rw[Qbp];rfl
     rw[List.drop_take] at this;rw[<- this];congr 1;simp;omega
  .refine PFr.ofChg hc (by omega) (λj hj hx=>?_);rcases hx with rfl | hx
   .exact⟨h6,_,_,_,hh,.inl rfl⟩
   .obtain⟨hb,c,hc⟩:=qe r2 hx.symm;exact⟨by omega,c,_,_,hc,.inr (.inl rfl)⟩
theorem PAt.below(h:PAt ab bS W bp s)(hb:Below W.heap.size W W'):PAt ab bS W' bp s:=by
 obtain⟨vr,va,vv,ad,ae,h1,h2,h3,h4,h5,h6,h7,hh,hV,hR,ps,e1,e2,e3,e4⟩:=h;have hk:∀(k:Nat) (c:Array Vq) (t:TypeId),W.heap[k]?=cC c t->W'.heap[k]?=cC c t:=λk c t hc=>(hb.block k (zg hc).1).trans hc
 exact⟨vr,va,vv,ad,ae,h1,h2,Nat.le_trans h3 hb.size,Nat.le_trans h4 hb.size,h5,h6,Nat.le_trans h7 hb.size,hk _ _ _ hh,q8 hV (λg c _ hc=>hk g c _ hc),hR.kept (λg c _ hc=>hk g c _ hc) (λk c _ hc=>hk k c _ hc) (λk c _ hc=>hk k c _ hc),
  ps,e1,q8 e2 (λg c _ hc=>hk g c _ hc),λp hp=>(e3 p hp).kept (λk c _ hc=>hk k c _ hc),λp hp=>q8 (e4 p hp) (λg c _ hc=>hk g c _ hc)⟩
theorem PAt.base_le(h:PAt ab bS W bp s):ab<=W.heap.size:=by
 obtain⟨vr,va,vv,ad,ae,h1,h2,h3,_⟩:=h;omega
theorem q0t(ab bS bp:Nat)(s:PSt)(W:Wq)(hP:PAt ab bS W bp s) :
  Cs 234 #[Pt bp] W λe W'=>e=.returned (.tuple #[])/\PAt ab bS W' bp (qdq s)/\PFr ab bS W W':=by
 have hs:=λx=>hP.state x;obtain⟨vr,va,vv,ad,ae,h1,h2,h4,h5,h6,a6,aw,hh,hV,hR,ps,e1,e2,e3,e4⟩:=hP;have ag:ps.length=s.atoms.length:=by rw[<- e1];simp
 obtain⟨a,c,rfl⟩:=qo e2;refine (qu1 bp s.st vr vv a _ c W hh).mono ?_;rintro e W' ⟨rfl,rfl⟩;rw[ag];exact⟨rfl,hs _⟩
theorem qw8(ab bS bp:Nat)(s:PSt)(W:Wq)(hP:PAt ab bS W bp s) :
  Cs 235 #[Pt bp] W λe W'=>e=.returned (.tuple #[])/\PAt ab bS W' bp {s with st:=if s.st=4 then 3 else 1}/\PFr ab bS W W':=by
 have hs:=λx=>hP.state x;obtain⟨vr,va,vv,ad,ae,h1,h2,h4,h5,h6,a6,aw,hh,hV,hR⟩:=hP;refine (qs7 bp s.st vr va vv W hh).mono ?_;rintro e W' ⟨rfl,rfl⟩;exact⟨rfl,hs _⟩
theorem Qcu(ab bS bp:Nat)(s:PSt)(k:Int)(t:By)(ht:t.size<=1200)(p r:Int)(W:Wq)(hP:PAt ab bS W bp s)(bn:s.vars.length<=100)(a7:s.atoms.length<=100)(b3:s.rules.length<=100)(h3:s.st=3->s.atoms≠[])(hm:∀a∈s.atoms,a.args.length<=100)(h6:k=6->s.atoms≠[]) :
  Cs 197 #[Pt bp,qbk k t p r] W λe W'=>e=.returned (.tuple #[])/\PAt ab bS W' bp (qat s k t)/\PFr ab bS W W':=by
 have ap:∀O,Below W.heap.size W (W.alloc O):=λO=>(Below.refl W.heap.size W).alloc zl O;have au:Hid (∀O,PAt ab bS (W.alloc O) bp s/\PFr ab bS W (W.alloc O)):=λO=>⟨hP.below (ap O),PFr.ofBelow (ap O) hP.base_le⟩
 have Qf4:∃x,W.cell? (Ad bp 0)=some (Ii x)/\W.frozen? (Ad bp 0)=false/\bp < W.heap.size:=by
  obtain⟨vr,va,vv,ad,ae,h1,h2,h4,h5,h6,a6,aw,hh,hV,hR⟩:=hP;exact⟨s.st,zc hh,by simp[World.frozen?,hh],(zg hh).1⟩
 obtain⟨x0,cf,dt,be⟩:=Qf4
 have cz:Hid (k=1\/k=2->∀O,Cs 233 #[Pt bp,qbk k t p r] (W.alloc O) λe W'=>e=.returned (.tuple #[])/\PAt ab bS W' bp (qbx s k t)/\PFr ab bS W W'):=λa9 O=>
  (q0a ab bS bp s k t ht p r _ (au.out O).1 a9 bn a7 h3 hm).mono (λe W' ⟨a,b,c⟩=>⟨a,b,(au.out O).2.trans c⟩)
 have c9:Hid (∀O,Cs 234 #[Pt bp] (W.alloc O) λe W'=>e=.returned (.tuple #[])/\PAt ab bS W' bp (qdq s)/\PFr ab bS W W'):=λO=>
  (q0t ab bS bp s _ (au.out O).1).mono (λe W' ⟨a,b,c⟩=>⟨a,b,(au.out O).2.trans c⟩)
 have Qgd:Hid (∀O,Cs 235 #[Pt bp] (W.alloc O) λe W'=>e=.returned (.tuple #[])/\PAt ab bS W' bp {s with st:=if s.st=4 then 3 else 1}/\PFr ab bS W W'):=λO=>
  (qw8 ab bS bp s _ (au.out O).1).mono (λe W' ⟨a,b,c⟩=>⟨a,b,(au.out O).2.trans c⟩)
 have Qg3:Hid (k=6->∀O,Cs 236 #[Pt bp] (W.alloc O) λe W'=>e=.returned (.tuple #[])/\PAt ab bS W' bp (qau s)/\PFr ab bS W W'):=λhk O=>
  (q0u ab bS bp s _ (au.out O).1 a7 (h6 hk) b3).mono (λe W' ⟨a,b,c⟩=>⟨a,b,(au.out O).2.trans c⟩)
 have a8:Hid (∀O x,PAt ab bS ((W.alloc O).setCell (Ad bp 0) (Ii x)) bp {s with st:=x}/\PFr ab bS W ((W.alloc O).setCell (Ad bp 0) (Ii x))):=λO x=>
  ⟨((au.out O).1.state x).1,(au.out O).2.trans ((au.out O).1.state x).2⟩
 clear hP h3 h6 hm ap;unfold qbk qeh at cz ⊢;by_cases k1:k=1\/k=2
 .have q7:Hid (qat s k t=qbx s k t):=by show _=_;unfold qat;rw[if_pos k1]
  rcases k1 with rfl | rfl
  all_goals
   go_enter Tryz.func197,Tryz.ntmps197;go_wp2_with fail;refine (cz.out (by first | exact .inl rfl | exact .inr rfl | exact .inl trivial | exact .inr trivial | decide | simp) _).mono ?_;rintro e W' ⟨rfl,az⟩;go_wp2
   go_end0
   rw[q7.out];exact⟨rfl,az⟩
 by_cases k3:k=3
 .subst k3;go_enter Tryz.func197,Tryz.ntmps197;go_wp2
  go_end0
  refine⟨rfl,?_⟩;have:=a8.out (.cells #[Ii 3,St t,Ii p,Ii r] 191) 3;rw[World.setCell_alloc_past _ _ _ _ be] at this;exact this
 by_cases k4:k=4
 .subst k4;go_enter Tryz.func197,Tryz.ntmps197;go_wp2_with fail;refine (c9.out _).mono ?_;rintro e W' ⟨rfl,az⟩;go_wp2
  go_end0
  exact⟨rfl,az⟩
 by_cases k5:k=5
 .subst k5;go_enter Tryz.func197,Tryz.ntmps197;go_wp2_with fail;refine (Qgd.out _).mono ?_;rintro e W' ⟨rfl,az⟩;go_wp2
  go_end0
  exact⟨rfl,az⟩
 by_cases k7:k=7
 .subst k7;go_enter Tryz.func197,Tryz.ntmps197;go_wp2
  go_end0
  refine⟨rfl,?_⟩;have:=a8.out (.cells #[Ii 7,St t,Ii p,Ii r] 191) 1;rw[World.setCell_alloc_past _ _ _ _ be] at this;exact this
 by_cases k6:k=6
 .subst k6;go_enter Tryz.func197,Tryz.ntmps197;go_wp2_with fail;refine (Qg3.out (by trivial) _).mono ?_;rintro e W' ⟨rfl,az⟩;go_wp2
  go_end0
  exact⟨rfl,az⟩
 .have q7:Hid (qat s k t=s):=by show _=_;unfold qat;simp[k1,k3,k4,k5,k6,k7]
  have n1:(k == 1)=false:=by simp;omega
  have n2:(k == 2)=false:=by simp;omega
  have n3:(k == 3)=false:=by simp;omega
  have n4:(k == 4)=false:=by simp;omega
  have n5:(k == 5)=false:=by simp;omega
  have n6:(k == 6)=false:=by simp;omega
  have n7:(k == 7)=false:=by simp;omega
  clear k1 k3 k4 k5 k6 k7;go_enter Tryz.func197,Tryz.ntmps197;go_wp2
  go_end0
  rw[q7.out];exact⟨rfl,au.out _⟩
theorem PAt.cell0(h:PAt ab bS W bp s):W.cell? (Ad bp 0)=some (Ii s.st)/\bp < W.heap.size:=by
 obtain⟨vr,va,vv,ad,ae,h1,h2,h4,h5,h6,a6,aw,hh,hV,hR⟩:=h;exact⟨zc hh,(zg hh).1⟩
theorem q0v(ab bS bp:Nat)(s:PSt)(k:Int)(t:By)(p r:Int)(W:Wq)(hP:PAt ab bS W bp s)(a7:s.atoms.length<=100)(h3:s.st=3->s.atoms≠[]) :
  Cs 196 #[Pt bp,qbk k t p r] W λe W'=>e=.returned (.bool (qv s.st r s.rules.length s.atoms.length (Ql s.atoms)))/\Below W.heap.size W W':=by
 obtain⟨vr,va,vv,ad,ae,h1,h2,h4,h5,h6,a6,aw,hh,hV,⟨qs,r1,r2,r3⟩,ps,e1,e2,e3,e4⟩:=hP;have ag:ps.length=s.atoms.length:=by rw[<- e1];simp
 have cv:qs.length=s.rules.length:=by rw[<- r1];simp
 obtain⟨aa,ca,rfl⟩:=qo e2;obtain⟨ar,cr,rfl⟩:=qo r2
 have hb:∀q O,Below W.heap.size W ((W.alloc O).drewN q):=by
  intro q O;exact⟨rfl,rfl,rfl,by show _<=(W.alloc O).heap.size;simp,λj hj=>Below.heap_alloc _ _ j hj⟩
 rw[<- ag,<- cv];by_cases ao:ps=[]
 .have b0:s.atoms=[]:=by rw[<- e1,ao];rfl
  have da:s.st≠3:=λe=>h3 e b0;have cj:Ql s.atoms=0:=by rw[b0];rfl
  rw[cj];refine (qnx bp s.st ar _ cr aa _ ca vv none 0 0 k t p r (by omega) W hh (λe=>absurd e da)).mono ?_;rintro e W' ⟨rfl,q,rfl⟩;exact⟨rfl,hb q _⟩
 .obtain⟨al,⟨la,lv⟩,rfl⟩:∃al l,ps=al++[l]:=⟨ps.dropLast,ps.getLast ao,(List.dropLast_concat_getLast ao).symm⟩;have hl:=e4 (la,lv) (by simp);simp only at hl;obtain⟨at',cm,rfl⟩:=qo hl;have cj:Ql s.atoms=la.args.length:=by unfold Ql;rw[<- e1];simp
  rw[cj];have bi:W.ownsRow ad 92 2 (.slice aa (al++[(la,Value.slice at' la.args.length cm)]).length ca) (al++[(la,Value.slice at' la.args.length cm)]).length (al.flatMap qbb++[St la.rel,.slice at' la.args.length cm]):=by simpa [qbb] using e2
  obtain⟨g,c,ay,hv,hg,dr,bf,hy,c5,dw⟩:=qqm bi (by simp);have dk:(al++[(la,Value.slice at' la.args.length cm)]).length=al.length+1:=by simp
  refine (qnx bp s.st ar _ cr aa _ ca vv at' la.args.length cm k t p r (by omega) W hh (λe=>⟨by omega,g,?_,?_,(zg hg).1⟩)).mono ?_
  .cases hv;rfl
  .simp only[World.cell?,hg];simpa using hy
  .rintro e W' ⟨rfl,q,rfl⟩;exact⟨rfl,hb q _⟩
theorem Qca(ab bS bp:Nat)(s:PSt)(k:Int)(t:By)(ht:t.size<=1200)(p r:Int)(W:Wq)(hP:PAt ab bS W bp s)(hI:qmp s) :
  Cs 152 #[Pt bp,qbk k t p r] W λe W'=>e=.returned (Ii (qae s k t r).1)/\PAt ab bS W' bp (qae s k t r).2/\PFr ab bS W W':=by
 have a7:s.atoms.length<=100:=by have:=hI.atoms;omega
 have b3:s.rules.length<=100:=by have:=hI.rules;omega
 have h3:s.st=3->s.atoms≠[]:=λe=>hI.some (by omega);have hm:∀a∈s.atoms,a.args.length<=100:=λa ha=>by have:=(hI.ams a ha).args;omega
 have bn:s.vars.length<=100:=by have:=hI.few;omega
 have ap:∀O,Below W.heap.size W (W.alloc O):=λO=>(Below.refl W.heap.size W).alloc zl O
 have b6:Hid (∀O,Cs 195 #[Pt bp,Ii k] (W.alloc O) λe w'=>e=.returned (.bool (Qk s.st k))/\w'=W.alloc O):=λO=>
  q3t bp s.st k _ (hP.below (ap O)).cell0.1
 have bo:Hid (∀O,Cs 196 #[Pt bp,qbk k t p r] (W.alloc O) λe W'=>e=.returned (.bool (qv s.st r s.rules.length s.atoms.length (Ql s.atoms)))/\Below (W.alloc O).heap.size (W.alloc O) W'):=λO=>
  q0v ab bS bp s k t p r _ (hP.below (ap O)) a7 h3
 have bv:Hid (Qk s.st k=true->∀O W1,Below (W.alloc O).heap.size (W.alloc O) W1->Cs 197 #[Pt bp,qbk k t p r] W1 λe W'=>e=.returned (.tuple #[])/\PAt ab bS W' bp (qat s k t)/\PFr ab bS W W'):=λhf O W1 hb=>
  (Qcu ab bS bp s k t ht p r W1 ((hP.below (ap O)).below hb) bn a7 b3 h3 hm (λhk=>hI.some (λh0=>by rw[h0,hk] at hf;simp[Qk] at hf))).mono
   (λe W' ⟨a,b,c⟩=>⟨a,b,((PFr.ofBelow (ap O) hP.base_le).trans (PFr.ofBelow hb (hP.below (ap O)).base_le)).trans c⟩)
 have cw:Hid (∀O W1,Below (W.alloc O).heap.size (W.alloc O) W1->PAt ab bS W1 bp s/\PFr ab bS W W1):=λO W1 hb=>
  ⟨(hP.below (ap O)).below hb,(PFr.ofBelow (ap O) hP.base_le).trans (PFr.ofBelow hb (hP.below (ap O)).base_le)⟩
 have c8:Hid (∀O W1,Below (W.alloc O).heap.size (W.alloc O) W1->∀x,(W.alloc O).cell? (Ad W.heap.size x)=W1.cell? (Ad W.heap.size x)):=λO W1 hb x=>(hb.cell (p:=⟨W.heap.size,x,none⟩) (by simp)).symm;clear hP hI h3 hm ap;have b8:Hid (qae s k t r=if Qk s.st k=false then (2,s) else if qv s.st r s.rules.length s.atoms.length (Ql s.atoms)=true then (3,s) else (0,qat s k t)):=rfl;generalize hEX:qv s.st r s.rules.length s.atoms.length (Ql s.atoms)=ex at *;have dp:Hid (qv s.st r s.rules.length s.atoms.length (Ql s.atoms)=ex):=hEX;clear hEX;by_cases hf:Qk s.st k=false
 .rw[b8.out,if_pos hf];unfold qbk qeh at bo bv ⊢;go_enter Tryz.func152,Tryz.ntmps152
  go_wp2_with (go_at_call 195;refine (b6.out _).mono ?_;rintro e w' ⟨rfl,rfl⟩)
  go_ret;exact⟨rfl,cw.out _ _ zr⟩
 .have cp:Qk s.st k=true:=by simpa using hf
  clear hf
  cases ex with
  | true=>
   have Qbq:Hid (qae s k t r=(3,s)):=by rw[b8.out,cp];rfl
   rw[Qbq.out];unfold qbk qeh at bo bv ⊢;go_enter Tryz.func152,Tryz.ntmps152
   go_wp2_with (first | (go_at_call 195;refine (b6.out _).mono ?_;rintro e w' ⟨rfl,rfl⟩) | (go_at_call 196;refine (bo.out _).mono ?_;rintro e W1 ⟨rfl,ax⟩))
   go_ret;exact⟨rfl,cw.out _ _ ax⟩
  | false=>
   have Qbq:Hid (qae s k t r=(0,qat s k t)):=by rw[b8.out,cp];rfl
   rw[Qbq.out];unfold qbk qeh at bo bv ⊢;have ha:=bv.out cp (.cells #[Ii k,St t,Ii p,Ii r] 191);have c7:=c8.out (.cells #[Ii k,St t,Ii p,Ii r] 191);have HA:Hid (∀W1,Below (W.alloc (.cells #[Ii k,St t,Ii p,Ii r] 191)).heap.size (W.alloc (.cells #[Ii k,St t,Ii p,Ii r] 191)) W1->_):=ha;have HS:Hid (∀W1,Below (W.alloc (.cells #[Ii k,St t,Ii p,Ii r] 191)).heap.size (W.alloc (.cells #[Ii k,St t,Ii p,Ii r] 191)) W1->_):=c7;clear ha c7;go_enter Tryz.func152,Tryz.ntmps152
   go_wp2_with (first | (go_at_call 195;refine (b6.out _).mono ?_;rintro e w' ⟨rfl,rfl⟩))
   refine (bo.out _).mono ?_;rintro e W1 ⟨rfl,ax⟩;have bh:=HS.out W1 ax;have q0:=(bh 0).symm;have q1:=(bh 1).symm;have q2:=(bh 2).symm;have q3:=(bh 3).symm;simp at q0 q1 q2 q3;clear bh;go_wp2_with fail;refine (HA.out W1 ax).mono ?_;rintro e W2 ⟨rfl,az⟩;go_wp2;go_ret;exact⟨rfl,az⟩
