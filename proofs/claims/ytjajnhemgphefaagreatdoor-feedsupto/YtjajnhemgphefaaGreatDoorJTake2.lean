/- A part -/
import Derived.Test.YtjajnhemgphefaaGreatDoorJTerm2
set_option linter.all false
set_option maxRecDepth 100000
set_option maxHeartbeats 4000000
open List renaming length->aB,dropLast_concat_getLast->aX,dropLast_concat->aZ,mem_append->bD,getElem?_take->bE,length_cons->bF
open Go.World renaming cell?->aC,frozen?->aD,ownsRow->aE,ownsRow_nil->bB,setCell_alloc_past->bC
open Go.Value renaming ownBlock->aF,slice->aH,string->aI,agg->aJ,bool->aK,tuple->aL,int->aM,oneCell'->bG
open Go.Obj renaming cells->aN
open Go.Ending renaming returned->aO
open Go.IntKind renaming i64->aP
open Or renaming inl->aQ,inr->aR
open Option renaming some->aV,none->aW
open Nat renaming le_trans->aY
open Go.Proofs.Tryz renaming ntmps197->bH,func197->bI,ntmps152->bJ,func152->bL
namespace Go.Proofs.YtjajnhemgphefaaGreatDoor
open Go renaming World->Wq,Value->Vq
open Go.RowKit Go.Shelf
variable {bp ab bS b ad ae e size:Nat} {xs:List Vq} {ex:Nat->Prop} {W W':Wq} {l:List Rl} {s:eD}
theorem Bi(w:Wq)(a b d:Vq)(t:TypeId):∀j u,[a,b,d][j]?=aV u->aC (w.alloc (aN #[a,b,d] t)) ((⟨w.heap.size,0,aW⟩:Addr).add j)=aV u:=by
 intro j u z
 match j,z with
 |0,z=>simp at z;subst z;simp[Addr.add]
 |1,z=>simp at z;subst z;simp[Addr.add]
 |2,z=>simp at z;subst z;simp[Addr.add]
 |j+3,z=>simp at z
def nL(g n c:Nat):Vq:=aH (if c=1 then aV ⟨g,0,aW⟩ else aV ⟨g,2,aW⟩) (n-1) (c-1)
theorem Cj{w w1:Wq}{n:Nat}{st:Int}{x y z d:Vq}(A:w1.heap[bp]?=cC #[Ii st,x,y,z] 179)(C:aE w1 ab 136 3 d n xs)(E:dD w w1 (λj=>j=bp\/ex j)):((((w1.setCell (Ad bp 1) d).setCell (Ad bp 2) (aH aW 0 0)).setCell (Ad bp 3) (aH aW 0 0)).setCell (Ad bp 0) (Ii 0)).heap[bp]?=cC #[Ii 0,d,aH aW 0 0,aH aW 0 0] 179/\
  aE ((((w1.setCell (Ad bp 1) d).setCell (Ad bp 2) (aH aW 0 0)).setCell (Ad bp 3) (aH aW 0 0)).setCell (Ad bp 0) (Ii 0)) ab 136 3 d n xs/\
  dD w ((((w1.setCell (Ad bp 1) d).setCell (Ad bp 2) (aH aW 0 0)).setCell (Ad bp 3) (aH aW 0 0)).setCell (Ad bp 0) (Ii 0)) (λj=>j=bp\/ex j):=by
 refine⟨qw (qw (qw (qw A 1 d) 2 _) 3 _) 0 _,?_,(((E.setCell (Ad bp 1) _ (λ_=>aQ rfl)).setCell (Ad bp 2) _ (λ_=>aQ rfl)).setCell (Ad bp 3) _ (λ_=>aQ rfl)).setCell (Ad bp 0) _ (λ_=>aQ rfl)⟩;exact Qk (Qk (Qk (Qk C _ _ (Qe C A (by decide))) _ _ (Qe C A (by decide))) _ _ (Qe C A (by decide))) _ _ (Qe C A (by decide))
theorem Ey(bp:Nat)(st:Int)(G:Option Addr)(O M:Nat)(z:Option Addr)(d A g ab:Nat)(xs:List Vq)(rel args:Vq)(hrel:∃s,rel=St s)(ci:∃a m q,args=aH a m q)(hr:d<=1000)(w:Wq)(c7:ab<=w.heap.size)(E:w.heap[bp]?=cC #[Ii st,aH z d A,Sc g 1 1,aH G O M] 179)(b7:aC w (Ad g 0)=aV rel)(b9:aC w (Ad g 1)=aV args)(Z:aE w ab 136 3 (aH z d A) d xs):Cs 236 #[Pt bp] w λe w'=>e=aO (aL #[])/\
   ∃v',w'.heap[bp]?=cC #[Ii 0,v',aH aW 0 0,aH aW 0 0] 179/\aE w' ab 136 3 v' (d+1) (xs++[rel,args,nL g 1 1])/\
    dD w w' (λj=>j=bp\/aV j=aF (aH z d A)):=by
 obtain⟨rs,rfl⟩:=hrel;obtain⟨aa,C,aq,rfl⟩:=ci;have bf:bp<w.heap.size:=(zg E).1;have c0:∀j,aC w (Ad bp j)=([Ii st,aH z d A,Sc g 1 1,aH G O M]:List Vq)[j]?:=λj=>by simp[aC,E]
 have f1:aD w (Ad bp 1)=false:=by simp[aD,E]
 have⟨i0,hi,b8,co,cf⟩:=info_parts Tryz.info48;have hA:Hid (aE (w.alloc (aN #[St rs,aH aa C aq,Sc g 0 0] 136)) ab 136 3 (aH z d A) d xs):=Z.alloc _;have hN:Hid (∀j u,[aI rs,aH aa C aq,Sc g 0 0][j]?=aV u->aC (w.alloc (aN #[St rs,aH aa C aq,Sc g 0 0] 136)) ((⟨w.heap.size,0,aW⟩:Addr).add j)=aV u):=Bi w _ _ _ _
 have hG:Hid (∀w1,(w.alloc (aN #[St rs,aH aa C aq,Sc g 0 0] 136)).drew.grownBy w1 (aF (aH z d A))->
   w1.heap[bp]?=cC #[Ii st,aH z d A,Sc g 1 1,aH G O M] 179/\dD w w1 (λj=>j=bp\/aV j=aF (aH z d A))):=by
  intro w1 cp;have hc:dD w w1 (λj=>aV j=aF (aH z d A)):=(((dD.refl w _).alloc _).drew).grown cp (λk e _=>e.symm);exact⟨(hc.block bp bf (λe=>Qe Z E (by decide) bp e.symm rfl)).trans E,hc.mono (λ_ _ e=>aR e)⟩
 have bu:∀u∈[aI rs,aH aa C aq,Sc g 0 0],u.oneCell'=true:=by simp[bG]
 have ay:d+1<=maxLen:=by unfold maxLen;omega
 have bk:(d+1)*64<=140737488355328:=by omega
 have bq:Hid (ab<=(w.alloc (aN #[St rs,aH aa C aq,Sc g 0 0] 136)).drew.heap.size):=by show ab<=(w.alloc (aN #[St rs,aH aa C aq,Sc g 0 0] 136)).heap.size;simp;omega
 clear E Z;go_enter Tryz.func236,Tryz.ntmps236;go_wp2
 go_region_law (refine pV rfl (.tmp 6) (.tmp 19) 75 rfl ab 136 i0 (aJ #[St ⟨#[]⟩,aH aW 0 0,aH aW 0 0]) 3 64 Tryz.underlying75 hi b8 co cf rfl (by decide) (aH z d A) d xs (by simp[Act.eval,Act.put]) hA.o ⟨w.heap.size,0,aW⟩ 1 1 [St rs,aH aa C aq,Sc g 0 0] (by simp[Act.eval,Act.put]) rfl hN.o bu ay bk bq.o ?_;intro v' w1 ah af;have⟨g',a9,cn⟩:=ownsRow_succ ah;subst cn;have⟨ag,cj⟩:=hG.o w1 af;have d0:aC w1 (Ad bp 0)=aV (Ii st):=(by simp[aC,ag]);have d1:aC w1 (Ad bp 1)=aV (aH z d A):=(by simp[aC,ag]);have d2:aC w1 (Ad bp 2)=aV (Sc g 1 1):=(by simp[aC,ag]);have d3:aC w1 (Ad bp 3)=aV (aH G O M):=(by simp[aC,ag]);have e3:aD w1 (Ad bp 3)=false:=(by simp[aD,ag]);have e0:aD w1 (Ad bp 0)=false:=(by simp[aD,ag]);have e1:aD w1 (Ad bp 1)=false:=(by simp[aD,ag]);have e2:aD w1 (Ad bp 2)=false:=(by simp[aD,ag]))
 all_goals
  clear hA hN hG bq bu af ay bk b7 b9;go_wp2
  go_end0
  refine⟨rfl,Sc g' (d+1) a9,?_⟩;have ce:nL g 1 1=Sc g 0 0:=rfl;rw[ce];exact Cj ag ah cj
def eU(ab bS:Nat)(W:Wq)(bp:Nat)(s:eD):Prop:=
 ∃(vr va vv:Vq) (ad ae:Nat),ab<=ad/\ab<=ae/\ad<=W.heap.size/\ae<=W.heap.size/\ab<=bp/\ab<=bS/\bS<=W.heap.size/\W.heap[bp]?=aV (aN #[aM aP s.st,vr,va,vv] 179)/\
  aE W bS 9 1 vv (aB s.vars) (s.vars.map aI)/\Qn W ab ad ae vr s.rules/\uU W ad ae va s.atoms
def Dx(o:Obj):Prop:=∀c t fz,o=aN c t fz->t≠179/\t≠136/\t≠92/\t≠166/\t≠9
structure fG(ab bS:Nat)(W W':Wq):Prop where
 low:Below ab W W'
 same:∀(k:Nat) (o:Obj),W.heap[k]?=aV o->Dx o->W'.heap[k]?=aV o
 str:∀(k:Nat) (c:Array Vq) (fz:Nat×Nat),k<bS->W.heap[k]?=aV (aN c 9 fz)->W'.heap[k]?=aV (aN c 9 fz)
theorem fG.refl(ab bS:Nat)(W:Wq):fG ab bS W W:=⟨zr,λ_ _ h _=>h,λ_ _ _ _ h=>h⟩
theorem fG.trans{A B C:Wq}(h:fG ab bS A B)(k:fG ab bS B C):fG ab bS A C:=⟨h.1.trans k.1,λi o d E=>k.2 i o (h.2 i o d E) E,λi c z d G=>k.3 i c z d (h.3 i c z d G)⟩
theorem fG.ofChg(h:dD W W' ex)(C:ab<=W.heap.size)(G:∀k,k<W.heap.size->ex k->ab<=k/\∃c t A,W.heap[k]?=aV (aN c t A)/\(t=179\/t=136\/t=92\/t=166\/(t=9/\bS<=k))):fG ab bS W W':=by
 refine⟨⟨h.os,h.tape,h.output,h.size,λk d=>h.block k (Nat.lt_of_lt_of_le d C) (λe=>?_)⟩,λk o d E=>?_,λk c A di d=>?_⟩
 .grind
 .have z:=(zg d).1;rw[h.block k z (λe=>?_)];{exact d}
  .have⟨_,c,t,A,hc,ht⟩:=G k z e;rw[d] at hc;cases hc;have:=E c t A rfl;rcases ht with h|h|h|h|h<;>simp_all
 .have z:=(zg d).1;rw[h.block k z (λe=>?_)];{exact d};{grind}
theorem fG.ofBelow(h:Below W.heap.size W W')(z:ab<=W.heap.size):fG ab bS W W':=
 ⟨h.mono z,λk o d _=>(h.block k (zg d).1).trans d,λk c A _ d=>(h.block k (zg d).1).trans d⟩
theorem dD.keptT{t:TypeId}(h:dD W W' ex)(A:∀(k:Nat) (c:Array Vq),k<b->W.heap[k]?=cC c t->¬ex k):jD t b W W':=
 λk c z d=>(h.block k (zg d).1 (A k c z d)).trans d
theorem Qn.kept{v:Vq}(h:Qn W ab ad ae v l)(A:∀g c,aF v=aV g->W.heap[g]?=cC c 136->W'.heap[g]?=cC c 136)(cl:jD 92 ad W W')(d:jD 166 ae W W'):Qn W' ab ad ae v l:=by have⟨qs,h1,h2,h3⟩:=h;exact⟨qs,h1,Qc h2 A,λq z=>⟨(h3 q z).1.kept d,(h3 q z).2.kept cl d⟩⟩
theorem Qn.mono{z A:Nat}{v:Vq}(h:Qn W ab ad ae v l)(cl:ad<=z)(d:ae<=A):Qn W ab z A v l:=by have⟨qs,h1,h2,h3⟩:=h;exact⟨qs,h1,h2,λq C=>⟨(h3 q C).1.mono d,(h3 q C).2.mono cl d⟩⟩
theorem qd{n:Nat}{v:Vq}(h:aE W b e size v n xs){g:Nat}(d:aF v=aV g):b<=g/\∃c,W.heap[g]?=cC c e:=by
 obtain⟨_,⟨z,M⟩|⟨g',C,A,z,E,G,_⟩⟩:=h
 .rw[z] at d;simp[aF] at d
 .rw[z] at d;simp[aF] at d;subst d;exact⟨E,A,G⟩
theorem qq{n:Nat}{v:Vq}(h:aE W b e size v n xs):∃a c,v=aH a n c:=by
 obtain⟨_,⟨z,C⟩|⟨g,d,A,z,_⟩⟩:=h
 .grind
 .grind
theorem eU.state(h:eU ab bS W bp s)(x:Int):eU ab bS (W.setCell (Ad bp 0) (Ii x)) bp {s with st:=x}/\fG ab bS W (W.setCell (Ad bp 0) (Ii x)):=by
 have⟨vr,va,vv,ad,ae,h1,h2,h3,h4,h5,h6,h7,hh,hV,hR,hA⟩:=h
 have z:∀(k:Nat) (c:Array Vq) (t:TypeId),t≠179->W.heap[k]?=cC c t->(W.setCell (Ad bp 0) (Ii x)).heap[k]?=cC c t:=by
  intro k c t C d;rw[Below.heap_setCell _ _ _ _ (λe=>?_)];{exact d};{grind}
 refine⟨⟨vr,va,vv,ad,ae,h1,h2,by simpa using h3,by simpa using h4,h5,h6,by simpa using h7,qw hh 0 _,Qc hV (λg c _ d=>z g c _ (by decide) d),hR.kept (λg c _ d=>z g c _ (by decide) d) (λk c _ d=>z k c _ (by decide) d) (λk c _ d=>z k c _ (by decide) d),?_⟩,?_⟩
 .have⟨ps,e1,e2,e3,e4⟩:=hA;exact⟨ps,e1,Qc e2 (λg c _ d=>z g c _ (by decide) d),λp A=>(e3 p A).kept (λk c _ d=>z k c _ (by decide) d),λp A=>Qc (e4 p A) (λg c _ d=>z g c _ (by decide) d)⟩
 .refine fG.ofChg ((dD.refl W (λj=>j=bp)).setCell (Ad bp 0) _ (λ_=>rfl)) (by omega) (λk z e=>?_);subst e;exact⟨h5,_,_,_,hh,aQ rfl⟩
theorem Gj(ab bS bp:Nat)(s:eD)(k:Int)(t:ByteArray)(ht:t.size<=1200)(p r:Int)(W:Wq)(hP:eU ab bS W bp s)(bc:k=1\/k=2)(bi:aB s.vars<=100)(a7:aB s.atoms<=100)(h3:s.st=3->s.atoms≠[])(hm:∀a∈s.atoms,aB a.args<=100):Cs 233 #[Pt bp,dU k t p r] W λe W'=>e=aO (aL #[])/\eU ab bS W' bp (jR s k t)/\fG ab bS W W':=by
 have⟨vr,va,vv,ad,ae,h1,h2,h4,h5,h6,a6,ax,hh,hV,hR,ps,e1,e2,e3,e4⟩:=hP;have au:aB ps=aB s.atoms:=by grind
 by_cases Z:s.st=3
 ·-- a term more of the last atom
  have cq:=h3 Z;have aw:ps≠[]:=by{grind};obtain⟨M,⟨E,lv⟩,rfl⟩:∃M l,ps=M++[l]:=⟨ps.dropLast,ps.getLast aw,(aX aw).symm⟩;have G:=e4 (E,lv) (by simp);simp only[aZ] at e3;simp only at G;obtain⟨aa,ca,rfl⟩:=qq G;have dq:E∈s.atoms:=by{grind};rw[List.flatMap_append] at e2;have bh:aE W ad 92 2 va (aB (M++[(E,aH aa (aB E.args) ca)])) (M.flatMap fF++[St E.rel,aH aa (aB E.args) ca]):=by{grind [fF]};have c5:kJ s.atoms (gE s.vars k t)=M.map (·.1)++[{E with args:=E.args++[gE s.vars k t]}]:=by{grind [kJ]};rw[Z] at hh;refine (CD bp vr va vv _ ad ae bS _ _ aa _ ca _ s.vars k t p r bc (by simp) (by grind) (by grind) bi (by omega) W h5 ax hh bh G hV).mono ?_;rintro e W' ⟨rfl,v',dc,bn,dg,dp,c9,z⟩;refine⟨rfl,?_,?_⟩
  .unfold jR;rw[if_pos Z,c5]
   have bd:jD 92 ad W W':=z.keptT (λj c hj al d=>by
    rcases d with rfl|d|d|d
    .grind
    .have:=(qd e2 d.symm).1;omega
    .have⟨_,c',ac⟩:=qd G d.symm;rw[al] at ac;cases ac
    .have⟨_,c',ac⟩:=qd hV d.symm;rw[al] at ac;cases ac)
   have O:jD 166 ae W W':=z.keptT (λj c hj al d=>by
    rcases d with rfl|d|d|d
    .grind
    .have⟨_,c',ac⟩:=qd e2 d.symm;rw[al] at ac;cases ac
    .have:=(qd G d.symm).1;omega
    .have⟨_,c',ac⟩:=qd hV d.symm;rw[al] at ac;cases ac)
   refine⟨vr,va,dc,ad,ae,h1,h2,aY h4 z.size,aY h5 z.size,h6,a6,aY ax z.size,bn,c9,hR.kept (λg c hg A=>?_) bd O,M++[({E with args:=E.args++[gE s.vars k t]},v')],by simp,?_,?_,?_⟩
   .rw[z.block g (zg A).1 (λd=>?_)];{exact A}
    .rcases d with rfl|d|d|d
     .grind
     .have⟨_,c',ac⟩:=qd e2 d.symm;rw[A] at ac;cases ac
     .have⟨_,c',ac⟩:=qd G d.symm;rw[A] at ac;cases ac
     .have⟨_,c',ac⟩:=qd hV d.symm;rw[A] at ac;cases ac
   .grind [fF]
   .simp only[aZ];exact λq C=>(e3 q C).kept O
   .grind [mO,iV]
  .refine fG.ofChg z (by omega) (λj hj d=>?_);rcases d with rfl|d|d|d
   .grind
   .have⟨hb,c,z⟩:=qd e2 d.symm;exact⟨by omega,c,_,_,z,aR (aR (aQ rfl))⟩
   .have⟨hb,c,z⟩:=qd G d.symm;exact⟨by omega,c,_,_,z,aR (aR (aR (aQ rfl)))⟩
   .have⟨hb,c,z⟩:=qd hV d.symm;exact⟨by omega,c,_,_,z,aR (aR (aR (aR ⟨rfl,hb⟩)))⟩
 ·-- an atom more
  refine (GP bp s.st vr va vv _ ad _ k t p r Z (by grind) (by omega) W h4 hh e2).mono ?_;rintro e W' ⟨rfl,v',bn,dg,z⟩;refine⟨rfl,?_,?_⟩
  .unfold jR;rw[if_neg Z]
   have bd:jD 92 ad W W':=z.keptT (λj c hj al d=>by
    rcases d with rfl|d
    .grind
    .have:=(qd e2 d.symm).1;omega)
   have O:∀b,jD 166 b W W':=λb=>z.keptT (λj c hj al d=>by
    rcases d with rfl|d
    .grind
    .have⟨_,c',ac⟩:=qd e2 d.symm;rw[al] at ac;cases ac)
   refine⟨vr,v',vv,ad,W.heap.size,h1,by omega,aY h4 z.size,z.size,h6,a6,aY ax z.size,bn,Qc hV (λg c hg A=>?_),(hR.kept (λg c hg A=>?_) bd (O _)).mono zl h5,ps++[(⟨t,[]⟩,aH aW 0 0)],by simp[e1],?_,?_,?_⟩
   .rw[z.block g (zg A).1 (λd=>?_)];{exact A}
    .rcases d with rfl|d
     .grind
     .have⟨_,c',ac⟩:=qd e2 d.symm;rw[A] at ac;cases ac
   .rw[z.block g (zg A).1 (λd=>?_)];{exact A}
    .rcases d with rfl|d
     .grind
     .have⟨_,c',ac⟩:=qd e2 d.symm;rw[A] at ac;cases ac
   .grind [fF]
   .simp only[aZ];intro q C;by_cases aw:ps=[];{grind}
    .rw[<-aX aw] at C;rcases bD.1 C with C|C
     .exact ((e3 q C).mono h5).kept (O _)
     .simp at C;have:=e4 q (by grind);exact (Qh.ofOwns this).kept (O _)
   .intro q C;simp at C;subst C;exact bB W' _ _ _
  .refine fG.ofChg z (by omega) (λj hj d=>?_);rcases d with rfl|d
   .grind
   .have⟨hb,c,z⟩:=qd e2 d.symm;exact⟨by omega,c,_,_,z,aR (aR (aQ rfl))⟩
theorem F4(bp:Nat)(st:Int)(G:Option Addr)(O M:Nat)(z:Option Addr)(d A g n c ab:Nat)(xs:List Vq)(rel args:Vq)(hrel:∃s,rel=St s)(ci:∃a m q,args=aH a m q)(dj:1<=n)(cg:n<=c)(b3:¬c=1)(hn:n<=1000)(hr:d<=1000)(w:Wq)(c7:ab<=w.heap.size)(E:w.heap[bp]?=cC #[Ii st,aH z d A,Sc g n c,aH G O M] 179)(b7:aC w (Ad g 0)=aV rel)(b9:aC w (Ad g 1)=aV args)(Z:aE w ab 136 3 (aH z d A) d xs):Cs 236 #[Pt bp] w λe w'=>e=aO (aL #[])/\
   ∃v',w'.heap[bp]?=cC #[Ii 0,v',aH aW 0 0,aH aW 0 0] 179/\aE w' ab 136 3 v' (d+1) (xs++[rel,args,nL g n c])/\
    dD w w' (λj=>j=bp\/aV j=aF (aH z d A)):=by
 obtain⟨rs,rfl⟩:=hrel;obtain⟨aa,C,aq,rfl⟩:=ci;have bf:bp<w.heap.size:=(zg E).1;have c0:∀j,aC w (Ad bp j)=([Ii st,aH z d A,Sc g n c,aH G O M]:List Vq)[j]?:=λj=>by simp[aC,E]
 have f1:aD w (Ad bp 1)=false:=by simp[aD,E]
 have⟨i0,hi,b8,co,cf⟩:=info_parts Tryz.info48;have i4:0<n:=by omega
 have i5:1<=n:=by omega
 have i1:(0:Int)<(n:Int):=by omega
 have i2:(1:Int)<=(n:Int):=by omega
 have i3:(n:Int)<=(c:Int):=by omega
 have hA:Hid (aE (w.alloc (aN #[St rs,aH aa C aq,aH (aV ⟨g,2,aW⟩) (n-1) (c-1)] 136)) ab 136 3 (aH z d A) d xs):=Z.alloc _;have hN:Hid (∀j u,[aI rs,aH aa C aq,aH (aV ⟨g,2,aW⟩) (n-1) (c-1)][j]?=aV u->aC (w.alloc (aN #[St rs,aH aa C aq,aH (aV ⟨g,2,aW⟩) (n-1) (c-1)] 136)) ((⟨w.heap.size,0,aW⟩:Addr).add j)=aV u):=Bi w _ _ _ _
 have hG:Hid (∀w1,(w.alloc (aN #[St rs,aH aa C aq,aH (aV ⟨g,2,aW⟩) (n-1) (c-1)] 136)).drew.grownBy w1 (aF (aH z d A))->
   w1.heap[bp]?=cC #[Ii st,aH z d A,Sc g n c,aH G O M] 179/\dD w w1 (λj=>j=bp\/aV j=aF (aH z d A))):=by
  intro w1 cp;have hc:dD w w1 (λj=>aV j=aF (aH z d A)):=(((dD.refl w _).alloc _).drew).grown cp (λk e _=>e.symm);exact⟨(hc.block bp bf (λe=>Qe Z E (by decide) bp e.symm rfl)).trans E,hc.mono (λ_ _ e=>aR e)⟩
 have bu:∀u∈[aI rs,aH aa C aq,aH (aV ⟨g,2,aW⟩) (n-1) (c-1)],u.oneCell'=true:=by simp[bG]
 have ay:d+1<=maxLen:=by unfold maxLen;omega
 have bk:(d+1)*64<=140737488355328:=by omega
 have bq:Hid (ab<=(w.alloc (aN #[St rs,aH aa C aq,aH (aV ⟨g,2,aW⟩) (n-1) (c-1)] 136)).drew.heap.size):=by show ab<=(w.alloc (aN #[St rs,aH aa C aq,aH (aV ⟨g,2,aW⟩) (n-1) (c-1)] 136)).heap.size;simp;omega
 clear E Z;go_enter Tryz.func236,Tryz.ntmps236;go_wp2
 go_region_law (refine pV rfl (.tmp 6) (.tmp 19) 75 rfl ab 136 i0 (aJ #[St ⟨#[]⟩,aH aW 0 0,aH aW 0 0]) 3 64 Tryz.underlying75 hi b8 co cf rfl (by decide) (aH z d A) d xs (by simp[Act.eval,Act.put]) hA.o ⟨w.heap.size,0,aW⟩ 1 1 [St rs,aH aa C aq,aH (aV ⟨g,2,aW⟩) (n-1) (c-1)] (by simp[Act.eval,Act.put]) rfl hN.o bu ay bk bq.o ?_;intro v' w1 ah af;have⟨g',a9,cn⟩:=ownsRow_succ ah;subst cn;have⟨ag,cj⟩:=hG.o w1 af;have d0:aC w1 (Ad bp 0)=aV (Ii st):=(by simp[aC,ag]);have d1:aC w1 (Ad bp 1)=aV (aH z d A):=(by simp[aC,ag]);have d2:aC w1 (Ad bp 2)=aV (Sc g n c):=(by simp[aC,ag]);have d3:aC w1 (Ad bp 3)=aV (aH G O M):=(by simp[aC,ag]);have e3:aD w1 (Ad bp 3)=false:=(by simp[aD,ag]);have e0:aD w1 (Ad bp 0)=false:=(by simp[aD,ag]);have e1:aD w1 (Ad bp 1)=false:=(by simp[aD,ag]);have e2:aD w1 (Ad bp 2)=false:=(by simp[aD,ag]))
 all_goals
  clear hA hN hG bq bu af ay bk b7 b9;go_wp2
  go_end0
  refine⟨rfl,Sc g' (d+1) a9,?_⟩;have ce:nL g n c=aH (aV ⟨g,2,aW⟩) (n-1) (c-1):=by{unfold nL;rw[if_neg b3]};rw[ce];exact Cj ag ah cj
theorem Qh.form{v:Vq}{l:List Tm}(h:Qh W b v l):∃a c,v=aH a (aB l) c:=by
 rcases h with⟨rfl,rfl⟩|⟨g,d,z,A,_⟩
 .simp_all
 .grind
theorem FQ{ps:List (Am×Vq)}(A:ae<=W.heap.size)(C:∀p∈ps.dropLast,Qh W ae p.2 p.1.args)(E:∀p,ps.getLast?=aV p->aE W ae 166 2 p.2 (aB p.1.args) (mO p.1.args)):∀p∈ps,Qh W W.heap.size p.2 p.1.args:=by
 intro q d;by_cases z:ps=[]
 .grind
 .rw[<-aX z] at d;rcases bD.1 d with d|d
  .exact (C q d).mono A
  .grind [Qh.ofOwns]
theorem Jp(ab bS bp:Nat)(s:eD)(W:Wq)(hP:eU ab bS W bp s)(a7:aB s.atoms<=100)(cq:s.atoms≠[])(b0:aB s.rules<=100):Cs 236 #[Pt bp] W λe W'=>e=aO (aL #[])/\eU ab bS W' bp (jm s)/\fG ab bS W W':=by
 have⟨vr,va,vv,ad,ae,h1,h2,h4,h5,h6,a6,ax,hh,hV,⟨qs,r1,r2,r3⟩,ps,e1,e2,e3,e4⟩:=hP;obtain⟨xa,xc,rfl⟩:=qq hV;have au:aB ps=aB s.atoms:=by grind
 have cz:aB qs=aB s.rules:=by grind
 have cx:=FQ h5 e3 e4
 cases ps with
 |nil=>simp at e1;exact absurd e1 cq
 |cons p0 pt=>
  have⟨a0,v0⟩:=p0;have b5:s.atoms=a0::pt.map (·.1):=by{rw[<-e1];rfl};have bh:=e2;obtain⟨hl,⟨_,hz⟩|⟨g,c,E,rfl,hb,M,cg,dl,be,df⟩⟩:=bh;{simp at hz};have c3:g<W.heap.size:=(zg M).1;have cy:=cx (a0,v0) (by simp);have A:E.toList.take ((aB pt+1)*2)=St a0.rel::v0::pt.flatMap fF:=by grind [fF]
  have cd:aC W (Ad g 0)=aV (St a0.rel):=by
   have:(E.toList.take ((aB pt+1)*2))[0]?=aV (St a0.rel):=by{rw[A];rfl};rw[bE,if_pos (by omega)] at this;simp only[aC,M];simpa using this
  have b3:aC W (Ad g 1)=aV v0:=by
   have:(E.toList.take ((aB pt+1)*2))[1]?=aV v0:=by{rw[A];rfl};rw[bE,if_pos (by omega)] at this;simp only[aC,M];simpa using this
  have c1:∃a m q,v0=aH a m q:=by{have⟨a,q,e⟩:=cy.form;exact⟨a,_,q,e⟩};obtain⟨Z,cr,rfl⟩:=qq r2
  have key:Cs 236 #[Pt bp] W λe w'=>e=aO (aL #[])/\
   ∃O,w'.heap[bp]?=cC #[Ii 0,O,aH aW 0 0,aH aW 0 0] 179/\aE w' ab 136 3 O (aB qs+1) (qs.flatMap nC++[St a0.rel,v0,nL g (aB pt+1) c])/\
    dD W w' (λj=>j=bp\/aV j=aF (aH Z (aB qs) cr)):=by
   simp only[bF] at hh cg;by_cases c2:c=1
   .subst c2;have dh:aB pt=0:=by{omega};rw[dh] at hh ⊢;exact Ey bp s.st _ _ _ Z _ cr g ab _ _ _ ⟨_,rfl⟩ c1 (by omega) W (by omega) hh cd b3 r2
   .exact F4 bp s.st _ _ _ Z _ cr g _ c ab _ _ _ ⟨_,rfl⟩ c1 (by omega) (by omega) c2 (by grind) (by omega) W (by omega) hh cd b3 r2
  refine key.mono ?_;rintro e W' ⟨rfl,O,bn,dk,z⟩
  have bd:∀b,jD 92 b W W':=λb=>z.keptT (λj cc hj al d=>by
   rcases d with rfl|d
   .grind
   .have⟨_,c',ac⟩:=qd r2 d.symm;rw[al] at ac;cases ac)
  have G:∀b,jD 166 b W W':=λb=>z.keptT (λj cc hj al d=>by
   rcases d with rfl|d
   .grind
   .have⟨_,c',ac⟩:=qd r2 d.symm;rw[al] at ac;cases ac)
  refine⟨rfl,?_,?_⟩
  .have dd:jm s={st:=0,rules:=s.rules++[⟨a0,pt.map (·.1)⟩],atoms:=[],vars:=[]}:=by{unfold jm;rw[b5]};rw[dd];refine⟨O,aH aW 0 0,aH aW 0 0,W.heap.size,W.heap.size,by omega,by omega,z.size,z.size,h6,a6,aY ax z.size,bn,bB W' _ _ _,⟨qs++[(⟨a0,pt.map (·.1)⟩,v0,nL g (aB pt+1) c)],by simp[r1],?_,?_⟩,[],rfl,bB W' _ _ _,by simp,by simp⟩;{grind [nC]}
   .intro q C;rcases bD.1 C with C|C
    .exact⟨((r3 q C).1.mono h5).kept (G _),((r3 q C).2.mono h4 h5).kept (bd _) (G _)⟩
    .simp at C;subst C;refine⟨cy.kept (G _),eW.kept ⟨pt,if c=1 then aV ⟨g,0,aW⟩ else aV ⟨g,2,aW⟩,c-1,rfl,by simp[nL],⟨λp hp=>cx p (by simp[hp]),by simp only[bF] at cg;simp;omega⟩,λc6=>?_⟩ (bd _) (G _)⟩;have db:aB pt≠0:=by{grind};refine⟨g,2,E,by rw[if_neg (by grind)],c3,M,?_⟩;have:(E.toList.take ((aB pt+1)*2)).drop 2=pt.flatMap fF:=by{rw[A];rfl};rw[List.drop_take] at this;rw[<-this];congr 1;simp;omega
  .refine fG.ofChg z (by omega) (λj hj d=>?_);rcases d with rfl|d
   .grind
   .have⟨hb,c,z⟩:=qd r2 d.symm;exact⟨by omega,c,_,_,z,aR (aQ rfl)⟩
theorem eU.below(h:eU ab bS W bp s)(A:Below W.heap.size W W'):eU ab bS W' bp s:=by
 have⟨vr,va,vv,ad,ae,h1,h2,h3,h4,h5,h6,h7,hh,hV,hR,ps,e1,e2,e3,e4⟩:=h;have z:∀(k:Nat) (c:Array Vq) (t:TypeId),W.heap[k]?=cC c t->W'.heap[k]?=cC c t:=λk c t d=>(A.block k (zg d).1).trans d
 exact⟨vr,va,vv,ad,ae,h1,h2,aY h3 A.size,aY h4 A.size,h5,h6,aY h7 A.size,z _ _ _ hh,Qc hV (λg c _ d=>z g c _ d),hR.kept (λg c _ d=>z g c _ d) (λk c _ d=>z k c _ d) (λk c _ d=>z k c _ d),
  ps,e1,Qc e2 (λg c _ d=>z g c _ d),λp C=>(e3 p C).kept (λk c _ d=>z k c _ d),λp C=>Qc (e4 p C) (λg c _ d=>z g c _ d)⟩
theorem eU.base_le(h:eU ab bS W bp s):ab<=W.heap.size:=by have⟨vr,va,vv,ad,ae,h1,h2,h3,_⟩:=h;omega
theorem Ig(ab bS bp:Nat)(s:eD)(W:Wq)(d:eU ab bS W bp s):Cs 234 #[Pt bp] W λe W'=>e=aO (aL #[])/\eU ab bS W' bp (mD s)/\fG ab bS W W':=by
 have hs:=λx=>d.state x;have⟨vr,va,vv,ad,ae,h1,h2,h4,h5,h6,a6,ax,hh,hV,hR,ps,e1,e2,e3,e4⟩:=d;have z:aB ps=aB s.atoms:=by grind
 obtain⟨a,c,rfl⟩:=qq e2;refine (I4 bp s.st vr vv a _ c W hh).mono ?_;rintro e W' ⟨rfl,rfl⟩;rw[z];exact⟨rfl,hs _⟩
theorem D5(ab bS bp:Nat)(s:eD)(W:Wq)(d:eU ab bS W bp s):Cs 235 #[Pt bp] W λe W'=>e=aO (aL #[])/\eU ab bS W' bp {s with st:=if s.st=4 then 3 else 1}/\fG ab bS W W':=by have hs:=λx=>d.state x;have⟨vr,va,vv,ad,ae,h1,h2,h4,h5,h6,a6,ax,hh,hV,hR⟩:=d;refine (DY bp s.st vr va vv W hh).mono ?_;rintro e W' ⟨rfl,rfl⟩;exact⟨rfl,hs _⟩
theorem F8(ab bS bp:Nat)(s:eD)(k:Int)(t:ByteArray)(ht:t.size<=1200)(p r:Int)(W:Wq)(C:eU ab bS W bp s)(bi:aB s.vars<=100)(a7:aB s.atoms<=100)(b0:aB s.rules<=100)(h3:s.st=3->s.atoms≠[])(hm:∀a∈s.atoms,aB a.args<=100)(h6:k=6->s.atoms≠[]):Cs 197 #[Pt bp,dU k t p r] W λe W'=>e=aO (aL #[])/\eU ab bS W' bp (dQ s k t)/\fG ab bS W W':=by
 have ak:∀O,Below W.heap.size W (W.alloc O):=λO=>(Below.refl W.heap.size W).alloc zl O;have d:Hid (∀O,eU ab bS (W.alloc O) bp s/\fG ab bS W (W.alloc O)):=λO=>⟨C.below (ak O),fG.ofBelow (ak O) C.base_le⟩;have M:∃x,aC W (Ad bp 0)=aV (Ii x)/\aD W (Ad bp 0)=false/\bp<W.heap.size:=by have⟨vr,va,vv,ad,ae,h1,h2,h4,h5,h6,a6,ax,hh,hV,hR⟩:=C;exact⟨s.st,zc hh,by simp[aD,hh],(zg hh).1⟩
 have⟨x0,cd,dt,bf⟩:=M;have A:Hid (k=1\/k=2->∀O,Cs 233 #[Pt bp,dU k t p r] (W.alloc O) λe W'=>e=aO (aL #[])/\eU ab bS W' bp (jR s k t)/\fG ab bS W W'):=λbc O=>(Gj ab bS bp s k t ht p r _ (d.o O).1 bc bi a7 h3 hm).mono (λe W' ⟨a,b,c⟩=>⟨a,b,(d.o O).2.trans c⟩);have c8:Hid (∀O,Cs 234 #[Pt bp] (W.alloc O) λe W'=>e=aO (aL #[])/\eU ab bS W' bp (mD s)/\fG ab bS W W'):=λO=>(Ig ab bS bp s _ (d.o O).1).mono (λe W' ⟨a,b,c⟩=>⟨a,b,(d.o O).2.trans c⟩);have Z:Hid (∀O,Cs 235 #[Pt bp] (W.alloc O) λe W'=>e=aO (aL #[])/\eU ab bS W' bp {s with st:=if s.st=4 then 3 else 1}/\fG ab bS W W'):=λO=>(D5 ab bS bp s _ (d.o O).1).mono (λe W' ⟨a,b,c⟩=>⟨a,b,(d.o O).2.trans c⟩);have Qlb:Hid (k=6->∀O,Cs 236 #[Pt bp] (W.alloc O) λe W'=>e=aO (aL #[])/\eU ab bS W' bp (jm s)/\fG ab bS W W'):=λhk O=>(Jp ab bS bp s _ (d.o O).1 a7 (h6 hk) b0).mono (λe W' ⟨a,b,c⟩=>⟨a,b,(d.o O).2.trans c⟩);have a8:Hid (∀O x,eU ab bS ((W.alloc O).setCell (Ad bp 0) (Ii x)) bp {s with st:=x}/\fG ab bS W ((W.alloc O).setCell (Ad bp 0) (Ii x))):=λO x=>⟨((d.o O).1.state x).1,(d.o O).2.trans ((d.o O).1.state x).2⟩;clear C h3 h6 hm ak;unfold dU fL at A ⊢;by_cases E:k=1\/k=2
 .have G:Hid (dQ s k t=jR s k t):=by show _=_;unfold dQ;rw[if_pos E]
  rcases E with rfl|rfl
  all_goals
   go_enter bI,bH;go_wp2_with fail;refine (A.o (by first|exact aQ rfl|exact aR rfl|exact aQ trivial|exact aR trivial|decide|simp) _).mono ?_;rintro e W' ⟨rfl,z⟩;go_wp2
   go_end0
   rw[G.o];exact⟨rfl,z⟩
 by_cases k3:k=3
 .subst k3;go_enter bI,bH;go_wp2
  go_end0
  refine⟨rfl,?_⟩;have:=a8.o (aN #[Ii 3,St t,Ii p,Ii r] 191) 3;rw[bC _ _ _ _ bf] at this;exact this
 by_cases k4:k=4
 .subst k4;go_enter bI,bH;go_wp2_with fail;refine (c8.o _).mono ?_;rintro e W' ⟨rfl,z⟩;go_wp2
  go_end0
  exact⟨rfl,z⟩
 by_cases k5:k=5
 .subst k5;go_enter bI,bH;go_wp2_with fail;refine (Z.o _).mono ?_;rintro e W' ⟨rfl,z⟩;go_wp2
  go_end0
  exact⟨rfl,z⟩
 by_cases k7:k=7
 .subst k7;go_enter bI,bH;go_wp2
  go_end0
  refine⟨rfl,?_⟩;have:=a8.o (aN #[Ii 7,St t,Ii p,Ii r] 191) 1;rw[bC _ _ _ _ bf] at this;exact this
 by_cases k6:k=6
 .subst k6;go_enter bI,bH;go_wp2_with fail;refine (Qlb.o (by trivial) _).mono ?_;rintro e W' ⟨rfl,z⟩;go_wp2
  go_end0
  exact⟨rfl,z⟩
 .have G:Hid (dQ s k t=s):=by{show _=_;unfold dQ;simp[E,k3,k4,k5,k6,k7]};have n1:(k == 1)=false:=by{simp;omega};have n2:(k == 2)=false:=by{simp;omega};have n3:(k == 3)=false:=by{simp;omega};have n4:(k == 4)=false:=by{simp;omega};have n5:(k == 5)=false:=by{simp;omega};have n6:(k == 6)=false:=by{simp;omega};have n7:(k == 7)=false:=by{simp;omega};clear E k3 k4 k5 k6 k7;go_enter bI,bH;go_wp2
  go_end0
  rw[G.o];exact⟨rfl,d.o _⟩
theorem eU.cell0(h:eU ab bS W bp s):aC W (Ad bp 0)=aV (Ii s.st)/\bp<W.heap.size:=by have⟨vr,va,vv,ad,ae,h1,h2,h4,h5,h6,a6,ax,hh,hV,hR⟩:=h;exact⟨zc hh,(zg hh).1⟩
theorem Dr(ab bS bp:Nat)(s:eD)(k:Int)(t:ByteArray)(p r:Int)(W:Wq)(hP:eU ab bS W bp s)(a7:aB s.atoms<=100)(h3:s.st=3->s.atoms≠[]):Cs 196 #[Pt bp,dU k t p r] W λe W'=>e=aO (aK (Qb s.st r (aB s.rules) (aB s.atoms) (Qw s.atoms)))/\Below W.heap.size W W':=by
 have⟨vr,va,vv,ad,ae,h1,h2,h4,h5,h6,a6,ax,hh,hV,⟨qs,r1,r2,r3⟩,ps,e1,e2,e3,e4⟩:=hP;have au:aB ps=aB s.atoms:=by grind
 have cz:aB qs=aB s.rules:=by grind
 obtain⟨aa,E,rfl⟩:=qq e2;obtain⟨M,cr,rfl⟩:=qq r2;have hb:∀q O,Below W.heap.size W ((W.alloc O).drewN q):=by intro q O;exact⟨rfl,rfl,rfl,by show _<=(W.alloc O).heap.size;simp,λj hj=>Below.heap_alloc _ _ j hj⟩
 rw[<-au,<-cz];by_cases C:ps=[]
 .have Z:s.atoms=[]:=by{rw[<-e1,C];rfl};have da:s.st≠3:=λe=>h3 e Z;have G:Qw s.atoms=0:=by{rw[Z];rfl};rw[G];refine (Ay bp s.st M _ cr aa _ E vv aW 0 0 k t p r (by omega) W hh (λe=>absurd e da)).mono ?_;rintro e W' ⟨rfl,q,rfl⟩;exact⟨rfl,hb q _⟩
 .obtain⟨z,⟨d,lv⟩,rfl⟩:∃z l,ps=z++[l]:=⟨ps.dropLast,ps.getLast C,(aX C).symm⟩;have hl:=e4 (d,lv) (by simp);simp only at hl;obtain⟨at',A,rfl⟩:=qq hl;have G:Qw s.atoms=aB d.args:=by{grind [Qw]};rw[G];have bh:aE W ad 92 2 (aH aa (aB (z++[(d,aH at' (aB d.args) A)])) E) (aB (z++[(d,aH at' (aB d.args) A)])) (z.flatMap fF++[St d.rel,aH at' (aB d.args) A]):=by{grind [fF]};have⟨g,c,av,hv,hg,dn,bj,hy,df,dr⟩:=wX bh (by simp);have db:aB (z++[(d,aH at' (aB d.args) A)])=aB z+1:=by{simp};refine (Ay bp s.st M _ cr aa _ E vv at' (aB d.args) A k t p r (by omega) W hh (λe=>⟨by omega,g,?_,?_,(zg hg).1⟩)).mono ?_
  .cases hv;rfl
  .simp only[aC,hg];simpa using hy
  .grind
theorem Ih(ab bS bp:Nat)(s:eD)(k:Int)(t:ByteArray)(ht:t.size<=1200)(p r:Int)(W:Wq)(d:eU ab bS W bp s)(hI:kZ s):Cs 152 #[Pt bp,dU k t p r] W λe W'=>e=aO (Ii (dX s k t r).1)/\eU ab bS W' bp (dX s k t r).2/\fG ab bS W W':=by
 have a7:aB s.atoms<=100:=by have:=hI.atoms;omega
 have b0:aB s.rules<=100:=by have:=hI.rules;omega
 have h3:s.st=3->s.atoms≠[]:=λe=>hI.some (by omega);have hm:∀a∈s.atoms,aB a.args<=100:=λa ha=>by have:=(hI.ams a ha).args;omega
 have bi:aB s.vars<=100:=by have:=hI.few;omega
 have ak:∀O,Below W.heap.size W (W.alloc O):=λO=>(Below.refl W.heap.size W).alloc zl O;have cb:Hid (∀O,Cs 195 #[Pt bp,Ii k] (W.alloc O) λe w'=>e=aO (aK (Qz s.st k))/\w'=W.alloc O):=λO=>Ek bp s.st k _ (d.below (ak O)).cell0.1;have G:Hid (∀O,Cs 196 #[Pt bp,dU k t p r] (W.alloc O) λe W'=>e=aO (aK (Qb s.st r (aB s.rules) (aB s.atoms) (Qw s.atoms)))/\Below (W.alloc O).heap.size (W.alloc O) W'):=λO=>Dr ab bS bp s k t p r _ (d.below (ak O)) a7 h3
 have Z:Hid (Qz s.st k=true->∀O W1,Below (W.alloc O).heap.size (W.alloc O) W1->Cs 197 #[Pt bp,dU k t p r] W1 λe W'=>e=aO (aL #[])/\eU ab bS W' bp (dQ s k t)/\fG ab bS W W'):=λC O W1 A=>
  (F8 ab bS bp s k t ht p r W1 ((d.below (ak O)).below A) bi a7 b0 h3 hm (λhk=>hI.some (λh0=>by rw[h0,hk] at C;simp[Qz] at C))).mono
   (λe W' ⟨a,b,c⟩=>⟨a,b,((fG.ofBelow (ak O) d.base_le).trans (fG.ofBelow A (d.below (ak O)).base_le)).trans c⟩)
 have ct:Hid (∀O W1,Below (W.alloc O).heap.size (W.alloc O) W1->eU ab bS W1 bp s/\fG ab bS W W1):=λO W1 A=>⟨(d.below (ak O)).below A,(fG.ofBelow (ak O) d.base_le).trans (fG.ofBelow A (d.below (ak O)).base_le)⟩;have c4:Hid (∀O W1,Below (W.alloc O).heap.size (W.alloc O) W1->∀x,aC (W.alloc O) (Ad W.heap.size x)=aC W1 (Ad W.heap.size x)):=λO W1 A x=>(A.cell (p:=⟨W.heap.size,x,aW⟩) (by simp)).symm;clear d hI h3 hm ak;have ch:Hid (dX s k t r=if Qz s.st k=false then (2,s) else if Qb s.st r (aB s.rules) (aB s.atoms) (Qw s.atoms)=true then (3,s) else (0,dQ s k t)):=rfl;generalize hEX:Qb s.st r (aB s.rules) (aB s.atoms) (Qw s.atoms)=ex at *;have dm:=aA hEX;clear hEX;by_cases C:Qz s.st k=false
 .rw[ch.o,if_pos C];unfold dU fL at G Z ⊢;go_enter bL,bJ
  go_wp2_with (go_at_call 195;refine (cb.o _).mono ?_;rintro e w' ⟨rfl,rfl⟩)
  go_ret;exact⟨rfl,ct.o _ _ zr⟩
 .have b6:Qz s.st k=true:=by{simpa using C};clear C
  cases ex with
  |true=>
   have z:Hid (dX s k t r=(3,s)):=by{rw[ch.o,b6];rfl};rw[z.o];unfold dU fL at G Z ⊢;go_enter bL,bJ
   go_wp2_with (first|(go_at_call 195;refine (cb.o _).mono ?_;rintro e w' ⟨rfl,rfl⟩)|(go_at_call 196;refine (G.o _).mono ?_;rintro e W1 ⟨rfl,M⟩))
   go_ret;exact⟨rfl,ct.o _ _ M⟩
  |false=>
   have z:Hid (dX s k t r=(0,dQ s k t)):=by{rw[ch.o,b6];rfl};rw[z.o];unfold dU fL at G Z ⊢;have ha:=Z.o b6 (aN #[Ii k,St t,Ii p,Ii r] 191);have cu:=c4.o (aN #[Ii k,St t,Ii p,Ii r] 191);have HA:=aA ha;have HS:=aA cu;clear ha cu;go_enter bL,bJ
   go_wp2_with (first|(go_at_call 195;refine (cb.o _).mono ?_;rintro e w' ⟨rfl,rfl⟩))
   refine (G.o _).mono ?_;rintro e W1 ⟨rfl,M⟩;have E:=HS.o W1 M;have q0:=(E 0).symm;have q1:=(E 1).symm;have q2:=(E 2).symm;have q3:=(E 3).symm;simp at q0 q1 q2 q3;clear E;go_wp2_with fail;refine (HA.o W1 M).mono ?_;rintro e W2 ⟨rfl,az⟩;go_wp2;go_ret;exact⟨rfl,az⟩
