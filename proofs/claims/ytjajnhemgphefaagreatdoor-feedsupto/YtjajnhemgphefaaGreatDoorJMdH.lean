/- A part -/
import Derived.Test.YtjajnhemgphefaaGreatDoorJMdB
import Derived.Deep.RegionLawGrows
import Derived.Maps.AppendAt
import Derived.BigRegion
set_option linter.all false
set_option maxRecDepth 100000
set_option maxHeartbeats 8000000
open List renaming length->aB,drop_eq_getElem_cons->aZ,drop_eq_nil_of_le->bB,replicate->bI,map_cons->bJ,any_cons->bL,append_nil->bQ,map_nil->bU,any_nil->bX
open Go.World renaming cell?->aC,frozen?->aD,ownsRow->aE,size_alloc->bD,setCell_alloc_past->bE
open Go.Value renaming ownBlock->aF,slice->aH,string->aI,agg->aJ,bool->aK,tuple->aL,int->aM,oneCell'->bT
open Go.Obj renaming cells->aN
open Go.Ending renaming returned->aO
open Go.IntKind renaming i64->aP
open Option renaming some->aV,none->aW
open Go.RowKit.Below renaming heap_alloc->aX,heap_setCell->aY,cell->bF,refl->bG
open ByteArray renaming size_append->bC,append_assoc->bH
open Nat renaming zero_add->bO,le_refl->bZ
open Go.RowKit renaming Below->cA
open Go renaming bodyPost_ret->cD,Ending->cF,ownsRow_succ->cJ
open Go.Proofs.Tryz renaming underlying22->cE,results114->cG,ntmps114->cH,func114->cI
namespace Go.Proofs.YtjajnhemgphefaaGreatDoor
open Go renaming World->Wq,Value->Vq
open Go.RowKit Go.Shelf
variable {N:Nat} {X W:Wq} {rel:ByteArray} {va vg:Vq} {aa:List ByteArray} {a:Option Addr} {ps:List (Am×Vq)}
def je(b:List ByteArray)(t:Tm):ByteArray:=if t.name.toList.isEmpty=true then b.getD t.num ⟨#[]⟩ else t.name
def gz(a:Am)(b:List ByteArray):Gr:=⟨a.rel,a.args.map (je b)⟩
structure lZ(N:Nat)(w X:Wq)(rel:ByteArray)(va vg:Vq)(aa:List ByteArray):Prop where
 below:cA N w X
 box:X.heap[N]?=cC #[aI rel,va] 145
 res:X.heap[N+1]?=cC #[aI ⟨#[]⟩,aH aW 0 0] 226
 gd:X.heap[N+2]?=cC #[aI rel,vg] 226
 own:aE X (N+3) 9 1 vg (aB aa) (aa.map aI)
theorem lZ.app{w Y:Wq}{x:ByteArray}{d:Vq}{o:Obj}(h:lZ N w X rel va vg aa)(Z:w.heap.size=N)(C:(X.alloc o).grownBy Y (aF vg))(E:aE Y (N+3) 9 1 d (aB aa+1) (aa.map aI++[aI x])):lZ N w (Y.setCell (Ad (N+2) 1) d) rel va d (aa++[x]):=by
 have O:N+3<=X.heap.size:=(zg h.gd).1;have A:∀k,aF vg=aV k->N+3<=k:=λk e=>(Qp h.own k e).1;have z:∀k,k<N+3->Y.heap[k]?=X.heap[k]?:=λk z=>(C.block k (by simp;omega) (λe=>by have:=A k e.symm;omega)).trans (aX _ _ _ (by omega));refine⟨((h.below.alloc (by omega) o).grown C (by simp;omega) (λk e=>by have:=A k e;omega)).setCell (by simp) _,(aY _ _ _ _ (by simp)).trans ((z N (by omega)).trans h.box),(aY _ _ _ _ (by simp)).trans ((z (N+1) (by omega)).trans h.res),Qo ((z (N+2) (by omega)).trans h.gd) 1 d,?_⟩;have M:aE Y (N+3) 9 1 d (aB (aa++[x])) ((aa++[x]).map aI):=by simpa using E
 exact qn M (λg G _=>aY _ _ _ _ (λe=>by have:=(Qp E g G).1;simp at e;omega))
theorem lZ.fin{w:Wq}(h:lZ N w X rel va vg aa)(A:w.heap.size=N)(a b:Vq):aE ((X.setCell (Ad (N+1) 0) a).setCell (Ad (N+1) 1) b) N 9 1 vg (aB aa) (aa.map aI)/\cA N w ((X.setCell (Ad (N+1) 0) a).setCell (Ad (N+1) 1) b):=by have z:∀g,g≠N+1->((X.setCell (Ad (N+1) 0) a).setCell (Ad (N+1) 1) b).heap[g]?=X.heap[g]?:=λg d=>(aY _ _ _ _ d).trans (aY _ _ _ _ d);exact⟨Qj (qn h.own (λg d _=>z g (by have:=(Qp h.own g d).1;omega))) (by omega),(h.below.setCell (by simp) _).setCell (by simp) _⟩
theorem H8(p:Am×Vq)(vb:Vq)(b:List ByteArray)(w:Wq)(hA:fI w p)(hb:qv w vb b)(hl:aB p.1.args<=1000)(hn:∀t∈p.1.args,t.name.toList.isEmpty=true->t.num<aB b)(ej:aB b<=1000000):Cs 181 #[aJ #[aI p.1.rel,p.2],vb] w λe w'=>∃vg,e=aO (aJ #[aI p.1.rel,vg])/\aE w' w.heap.size 9 1 vg (aB (gz p.1 b).args) ((gz p.1 b).args.map aI)/\cA w.heap.size w w':=by
 have⟨i0,hi,bi,bh,bd⟩:=info_parts Tryz.infoStr;have⟨⟨rel,args⟩,va⟩:=p;simp only at hl hn ⊢;have⟨a1,a2,hq⟩:=qe hA;simp only at hq;subst hq;obtain⟨b1,b2,rfl⟩:=qe hb;obtain⟨N,hN⟩:∃N,N=w.heap.size:=⟨_,rfl⟩;have E:=hN.symm
 have HC:Hid (∀(X:Wq),cA N w X->∀(j:Nat) (hj:j<aB args),∃g,a1=aV ⟨g,0,aW⟩/\g<N/\aC X (Ad g (j*2))=aV (aI args[j].name)/\aC X (Ad g (j*2+1))=aV (aM aP args[j].num)):=by
  intro X hX j hj;have⟨g,cap,e1,hg,Z,c1⟩:=hA.cell j hj;cases e1;have aq:g<N:=by rw[hN];exact hg
  exact⟨g,rfl,aq,(bF hX aq).trans Z,(bF hX aq).trans c1⟩
 have dn:Hid (∀(X:Wq),cA N w X->∀(j:Nat) (hj:j<aB b),∃g,b1=aV ⟨g,0,aW⟩/\g<N/\aC X (Ad g j)=aV (aI b[j])):=by
  intro X hX j hj;have⟨g,cap,e1,hg,Z⟩:=hb.cell j hj;cases e1;have aq:g<N:=by rw[hN];exact hg
  exact⟨g,rfl,aq,(bF hX aq).trans Z⟩
 have HT:Hid ((gz ⟨rel,args⟩ b).args=args.map (je b)):=rfl;generalize (gz ⟨rel,args⟩ b).args=T at *;rw[<-hN];clear hA hb hN;go_enter Tryz.func181,Tryz.ntmps181;go_wp2
 go_loopw [6] (λx wr=>∃(k:Nat) (vg:Vq) (aa:List ByteArray),x=aM aP k/\k<=aB args/\lZ N w wr rel (aH a1 (aB args) a2) vg aa/\aB aa<=k/\Hid (aa++(args.drop k).map (je b)=T)) (λx _=>aB args-(intOf x).toNat)
 case atStart=>
  refine⟨0,_,[],rfl,zz,⟨(((bG _ w).alloc (by omega) _).alloc (by simp;omega) _).alloc (by simp;omega) _,?_,?_,?_,zo⟩,bZ _,HT.o.symm⟩
  .rw[aX _ _ _ (by simp;omega),aX _ _ _ (by simp;omega),<-E];exact zn w _
  .rw[aX _ _ _ (by simp;omega)];have:=zn (w.alloc (aN #[aI rel,aH a1 (aB args) a2] 145)) (aN #[aI ⟨#[]⟩,aH aW 0 0] 226);rw[bD,E] at this;exact this
  .have:=zn ((w.alloc (aN #[aI rel,aH a1 (aB args) a2] 145)).alloc (aN #[aI ⟨#[]⟩,aH aW 0 0] 226)) (aN #[aI rel,aH aW 0 0] 226);rw[bD,bD,E] at this;exact this
 case round=>
  obtain⟨k,vg,aa,rfl,cq,d,d3,z⟩:=hrel;have b0:aC wr (Ad N 0)=aV (aI rel):=by simp[aC,d.box]
  have dv:aC wr (Ad N 1)=aV (aH a1 (aB args) a2):=by simp[aC,d.box]
  have g0:aC wr (Ad (N+2) 0)=aV (aI rel):=by simp[aC,d.gd]
  have g1:aC wr (Ad (N+2) 1)=aV vg:=by simp[aC,d.gd]
  by_cases ai:k<aB args
  .obtain⟨g,rfl,aq,Z,c1⟩:=HC.o wr d.below k ai;have dd:=hn args[k] (zm ai);rw[aZ ai,bJ] at z;generalize args[k]=tm at *;have⟨nm,nu⟩:=tm;simp only at Z c1 dd;obtain⟨y,hy⟩:∃y,je b ⟨nm,nu⟩=y:=⟨_,rfl⟩;rw[hy] at z;have Qlj:N+3<=wr.heap.size:=(zg d.gd).1;have cd:aB aa+1<=maxLen:=by unfold maxLen;omega
   have cc:(aB aa+1)*16<=140737488355328:=by omega
   have cg:Hid (∀O,N+3<=(wr.alloc O).heap.size):=λO=>by simp;omega
   have bj:∀u∈[aI y],u.oneCell'=true:=by simp[bT]
   have C:Hid (lZ N w wr rel (Sc g (aB args) a2) vg aa):=d;have hF:Hid (∀(O:Obj) (w1:Wq),(wr.alloc O).grownBy w1 (aF vg)->aC w1 (Ad (N+2) 1)=aV vg/\∀o,aD w1 (Ad (N+2) o)=false):=by intro O w1 hg;have A:w1.heap[N+2]?=cC #[aI rel,vg] 226:=(hg.block (N+2) (by simp;omega) (λe=>by have:=(Qp C.o.own _ e.symm).1;omega)).trans ((aX _ _ _ (by omega)).trans C.o.gd);exact⟨zc A,λo=>by simp[aD,A]⟩
   have b6:Hid ((aa++[y])++(args.drop (k+1)).map (je b)=T):=by show _=_;rw[<-z.o];simp
   by_cases A:nm.toList.isEmpty=true
   .have c5:=dd A;have⟨g2,e2,Qhd,d0⟩:=dn.o wr d.below nu c5;have b7:y=b[nu]:=by rw[<-hy];unfold je;rw[if_pos A];simp[List.getD,List.getElem?_eq_getElem c5]
    rw[<-b7] at d0;subst e2;clear d z hy b7
    go_wp2_with (at_builtin;refine wpList_append_own _ rfl (.tmp 36) (.tmp 38) 22 rfl (N+3) 9 i0 (aI ⟨#[]⟩) 1 16 cE hi bi bh bd rfl (by decide) _ _ _ rfl (C.o.own.alloc _) ⟨wr.heap.size,0,aW⟩ 1 1 [aI y] rfl rfl (ku _ _ _) bj cd cc (cg.o _) ?_;intro G w1 ae ab _;have⟨f1,f2⟩:=hF.o _ w1 ab;have HA:Hid (lZ N w (w1.setCell (Ad (N+2) 1) G) rel (Sc g (aB args) a2) G (aa++[y])):=C.o.app E ab ae;have⟨gg,gc,b4⟩:=cJ ae;subst b4)
    go_roundw
    case rel=>exact⟨k+1,_,aa++[y],by go_num,by omega,HA.o,by simp;omega,b6⟩
    case measure=>simp[intOf];omega
   .have ch:nm.toList.isEmpty=false:=by simpa using A
    have b7:y=nm:=by rw[<-hy];unfold je;rw[if_neg A]
    subst b7;clear d z hy A
    go_wp2_with (at_builtin;refine wpList_append_own _ rfl (.tmp 36) (.tmp 38) 22 rfl (N+3) 9 i0 (aI ⟨#[]⟩) 1 16 cE hi bi bh bd rfl (by decide) _ _ _ rfl (C.o.own.alloc _) ⟨wr.heap.size,0,aW⟩ 1 1 [aI y] rfl rfl (ku _ _ _) bj cd cc (cg.o _) ?_;intro G w1 ae ab _;have⟨f1,f2⟩:=hF.o _ w1 ab;have HA:Hid (lZ N w (w1.setCell (Ad (N+2) 1) G) rel (Sc g (aB args) a2) G (aa++[y])):=C.o.app E ab ae;have⟨gg,gc,b4⟩:=cJ ae;subst b4)
    go_roundw
    case rel=>exact⟨k+1,_,aa++[y],by go_num,by omega,HA.o,by simp;omega,b6⟩
    case measure=>simp[intOf];omega
  .rw[bB (by omega)] at z;simp only[bU,bQ] at z;have hf:=d.fin E (aI rel) vg;have M:=d.res;obtain⟨ay,az,rfl⟩:=qe d.own;have r0:aC wr (Ad (N+1) 0)=aV (aI ⟨#[]⟩):=zc M;have r1:aC wr (Ad (N+1) 1)=aV (aH aW 0 0):=zc M;have rf:∀o,aD wr (Ad (N+1) o)=false:=λo=>by simp[aD,M]
   have ak:aC (wr.setCell (Ad (N+1) 0) (aI rel)) (Ad (N+1) 0)=aV (aI rel):=by simp[aC,Qo M 0 (aI rel)]
   have am:aC ((wr.setCell (Ad (N+1) 0) (aI rel)).setCell (Ad (N+1) 1) (aH ay (aB aa) az)) (Ad (N+1) 1)=aV (aH ay (aB aa) az):=by simp[aC,Qo (Qo M 0 (aI rel)) 1 (aH ay (aB aa) az)]
   have HF:Hid _:=hf;have bn:Hid _:=ak;have b3:Hid _:=am;clear d hf ak am;go_wp2;have ak:=bn.o;have am:=b3.o;refine cD (v:=aJ #[aI rel,aH ay (aB aa) az]) (by simp[results,Tryz.results181,go_sem,ak,am]) rfl ?_;rw[<-z.o];exact⟨_,rfl,HF.o⟩
theorem DK{P:Program}{G:Array Oper}{o:Oper}{a:Act}{w:Wq}{K:Act->Wq->Prop}{Q:Exit->Act->Wq->Prop}{E:Prop}(hg:o.guard=aW)(s x:Operand)(t:TypeId)(d5:o.op=Op.call {callee:=Callee.builtin Builtin.append,args:=#[s,x],argTypes:=#[t,t]})(ax:Nat)(e:TypeId)(i:TypeInfo)(z:Vq)(size d:Nat)(h1:P.underlying t=aV (.slice e))(h2:P.info? e=aV i)(h3:i.zero=aV z)(h4:i.size=size)(h5:i.bytes=d)(h6:z.cells.size=size)(h7:0<size)(v:Vq)(n:Nat)(xs:List Vq)(hs:a.eval s=v)(qt:aE w ax e size v n xs)(ad:Addr)(m c:Nat)(A:List Vq)(hx:a.eval x=aH (aV ad) m c)(hn:aB A=m*size)(hc:∀j u,A[j]?=aV u->aC w (ad.add j)=aV u)(Z:∀u∈A,u.oneCell'=true)(M:n+m<=maxLen)(O:(n+m)*d<=140737488355328)(dr:ax<=w.heap.size)(hK:∀C w',aE w' ax e size C (n+m) (xs++A)->w.grownBy w' (aF v)->K (a.put o.dst C) w'):if Region.wanted o (yielded G a.tmps)=true then Oper.wp P o a w K Q else E:=by
 have hw:Region.wanted o (yielded G a.tmps)=true:=by simp[Region.wanted,hg]
 rw[if_pos hw];have⟨C,w',dm,r1,r2,_⟩:=run_append_own (P:=P) w ax t o.type e i z size d h1 h2 h3 h4 h5 h6 h7 v n xs qt ad m c A hn hc Z M O dr;unfold Oper.wp;simp[execOp,d5,resolve,invoke,builtin,hs,hx,dm,Result.andThen];exact hK C w' r1 r2
def oB(t:Tm):Bool:=t.name.toList.isEmpty
def lX(a:Am):Option Gr:=if a.args.any oB=true then aW else aV ⟨a.rel,a.args.map (·.name)⟩
def oN(a:Am)(N:Nat)(e:cF)(w':Wq):Prop:=
 match lX a with
 |none=>e=aO (aL #[aJ #[aI ⟨#[]⟩,aH aW 0 0],aK false])
 |some g=>∃vg,e=aO (aL #[aJ #[aI g.rel,vg],aK true])/\aE w' N 9 1 vg (aB g.args) (g.args.map aI)
theorem I7(p:Am×Vq)(w:Wq)(hA:fI w p)(hl:aB p.1.args<=1000):Cs 115 #[aJ #[aI p.1.rel,p.2]] w λe w'=>oN p.1 w.heap.size e w'/\cA w.heap.size w w':=by
 have⟨i0,hi,bi,bh,bd⟩:=info_parts Tryz.infoStr;have⟨⟨rel,args⟩,va⟩:=p;simp only at hl ⊢;have⟨a1,a2,hq⟩:=qe hA;simp only at hq;subst hq;obtain⟨N,hN⟩:∃N,N=w.heap.size:=⟨_,rfl⟩;have Z:=hN.symm
 have HC:Hid (∀(X:Wq),cA N w X->∀(j:Nat) (hj:j<aB args),∃g,a1=aV ⟨g,0,aW⟩/\g<N/\aC X (Ad g (j*2))=aV (aI args[j].name)):=by
  intro X hX j hj;have⟨g,cap,e1,G,c0,c1⟩:=hA.cell j hj;cases e1;have aq:g<N:=by{rw[hN];exact G};exact⟨g,rfl,aq,(bF hX aq).trans c0⟩
 have dx:Hid (args.any oB=true->∀(e:cF) (w':Wq),e=aO (aL #[aJ #[aI ⟨#[]⟩,aH aW 0 0],aK false])->oN ⟨rel,args⟩ N e w'):=by intro h e w' he;unfold oN lX;rw[if_pos h];exact he
 have dp:Hid (args.any oB=false->∀(e:cF) (w':Wq),(∃vg,e=aO (aL #[aJ #[aI rel,vg],aK true])/\aE w' N 9 1 vg (aB (args.map (·.name))) ((args.map (·.name)).map aI))->oN ⟨rel,args⟩ N e w'):=by intro h e w' he;unfold oN lX;rw[if_neg (by rw[h];simp)];exact he
 rw[<-hN];clear hA hN;go_enter Tryz.func115,Tryz.ntmps115;go_wp2
 go_loopw [5] (λx wr=>∃(k:Nat) (vg:Vq) (aa:List ByteArray),x=aM aP k/\k<=aB args/\lZ N w wr rel (aH a1 (aB args) a2) vg aa/\aB aa<=k/\Hid ((args.drop k).any oB=args.any oB)/\Hid (aa++(args.drop k).map (·.name)=args.map (·.name))) (λx _=>aB args-(intOf x).toNat)
 case atStart=>
  refine⟨0,_,[],rfl,zz,⟨(((bG _ w).alloc (by omega) _).alloc (by simp;omega) _).alloc (by simp;omega) _,?_,?_,?_,zo⟩,bZ _,rfl,rfl⟩;{rw[aX _ _ _ (by simp;omega),aX _ _ _ (by simp;omega),<-Z];exact zn w _};{rw[aX _ _ _ (by simp;omega)];have:=zn (w.alloc (aN #[aI rel,aH a1 (aB args) a2] 145)) (aN #[aI ⟨#[]⟩,aH aW 0 0] 226);rw[bD,Z] at this;exact this};{have:=zn ((w.alloc (aN #[aI rel,aH a1 (aB args) a2] 145)).alloc (aN #[aI ⟨#[]⟩,aH aW 0 0] 226)) (aN #[aI rel,aH aW 0 0] 226);rw[bD,bD,Z] at this;exact this}
 case round=>
  obtain⟨k,vg,aa,rfl,cq,d,d3,z,C⟩:=hrel;have dv:aC wr (Ad N 1)=aV (aH a1 (aB args) a2):=by{simp[aC,d.box]};have g0:aC wr (Ad (N+2) 0)=aV (aI rel):=by{simp[aC,d.gd]};have g1:aC wr (Ad (N+2) 1)=aV vg:=by{simp[aC,d.gd]};have A:=d.res;have r0:aC wr (Ad (N+1) 0)=aV (aI ⟨#[]⟩):=zc A;have r1:aC wr (Ad (N+1) 1)=aV (aH aW 0 0):=zc A;have rf:∀o,aD wr (Ad (N+1) o)=false:=λo=>by{simp[aD,A]};by_cases ai:k<aB args
  .obtain⟨g,rfl,aq,c0⟩:=HC.o wr d.below k ai;rw[aZ ai] at C z;simp only[bJ,bL] at C z;generalize args[k]=tm at *;have⟨nm,nu⟩:=tm;simp only[oB] at c0 C z;have Qlj:N+3<=wr.heap.size:=(zg d.gd).1;by_cases h1:nm.toList.isEmpty=true
   .rw[h1] at z;have db:args.any oB=true:=by{rw[<-z.o];simp};have Qf:Hid (∀(e:cF) (w':Wq),e=aO (aL #[aJ #[aI ⟨#[]⟩,aH aW 0 0],aK false])->oN ⟨rel,args⟩ N e w'):=dx.o db;have hf:=d.fin Z (aI ⟨#[]⟩) (aH aW 0 0);have ak:aC (wr.setCell (Ad (N+1) 0) (aI ⟨#[]⟩)) (Ad (N+1) 0)=aV (aI ⟨#[]⟩):=by{simp[aC,Qo A 0 (aI ⟨#[]⟩)]};have E:aC ((wr.setCell (Ad (N+1) 0) (aI ⟨#[]⟩)).setCell (Ad (N+1) 1) (aH aW 0 0)) (Ad (N+1) 1)=aV (aH aW 0 0):=by{simp[aC,Qo (Qo A 0 (aI ⟨#[]⟩)) 1 (aH aW 0 0)]};have b9:=aA hf;have bn:=aA ak;have b3:=aA E;clear d C z db hf ak E A;go_wp2;have ak:=bn.o;have E:=b3.o;refine cD (v:=aL #[aJ #[aI ⟨#[]⟩,aH aW 0 0],aK false]) (by simp[results,Tryz.results115,go_sem,ak,E]) rfl ?_;exact⟨Qf.o _ _ rfl,b9.o.2⟩
   .have ch:nm.toList.isEmpty=false:=by{simpa using h1};rw[ch] at z;simp only[Bool.false_or] at z;have ei:∀O,aC (wr.alloc O) (Ad (N+1+1) 1)=aV vg:=λO=>(bF ((bG wr.heap.size wr).alloc zl O) (by show N+2<wr.heap.size;omega)).trans g1;have cd:aB aa+1<=maxLen:=by{unfold maxLen;omega};have cc:(aB aa+1)*16<=140737488355328:=by{omega};have bj:∀u∈[aI nm],u.oneCell'=true:=by{simp[bT]};have HP:=aA d;have hA:Hid (aE (wr.alloc (aN #[aI nm] 9)) (N+3) 9 1 vg (aB aa) (aa.map aI)):=d.own.alloc _;have d7:Hid (∀j u,[aI nm][j]?=aV u->aC (wr.alloc (aN #[aI nm] 9)) ((⟨wr.heap.size,0,aW⟩:Addr).add j)=aV u):=ku wr _ _;have cg:Hid (N+3<=(wr.alloc (aN #[aI nm] 9)).drew.heap.size):=by{show N+3<=(wr.alloc _).heap.size;simp;omega};have hF:Hid (∀(w1:Wq),(wr.alloc (aN #[aI nm] 9)).drew.grownBy w1 (aF vg)->aC w1 (Ad (N+2) 1)=aV vg/\∀o,aD w1 (Ad (N+2) o)=false):=by{intro w1 G;have h1:w1.heap[N+2]?=cC #[aI rel,vg] 226:=(G.block (N+2) (by show N+2<(wr.alloc _).heap.size;simp;omega) (λe=>by have:=(Qp HP.o.own _ e.symm).1;omega)).trans ((aX _ _ _ (by omega)).trans HP.o.gd);exact⟨zc h1,λo=>by simp[aD,h1]⟩};have dq:Hid (∀(w1:Wq) (M:Vq),(wr.alloc (aN #[aI nm] 9)).drew.grownBy w1 (aF vg)->aE w1 (N+3) 9 1 M (aB aa+1) (aa.map aI++[aI nm])->lZ N w (w1.setCell (Ad (N+2) 1) M) rel (Sc g (aB args) a2) M (aa++[nm])):=by{intro w1 M G ho;exact HP.o.app Z (o:=aN #[aI nm] 9) ⟨G.os,G.tape,G.output,G.size,G.block⟩ ho};have b6:Hid ((aa++[nm])++(args.drop (k+1)).map (·.name)=args.map (·.name)):=by{show _=_;rw[<-C.o];simp};clear d C h1 A;go_wp2
    go_region_law (refine DK rfl (.tmp 25) (.tmp 32) 22 rfl (N+3) 9 i0 (aI ⟨#[]⟩) 1 16 cE hi bi bh bd rfl (by decide) vg (aB aa) (aa.map aI) (by simp[Act.eval,Act.put]) hA.o ⟨wr.heap.size,0,aW⟩ 1 1 [aI nm] (by simp[Act.eval,Act.put]) rfl d7.o bj cd cc cg.o ?_;intro M w1 ae ab;have⟨f1,f2⟩:=hF.o w1 ab;have HA:Hid (lZ N w (w1.setCell (Ad (N+2) 1) M) rel (Sc g (aB args) a2) M (aa++[nm])):=dq.o w1 M ab ae;have⟨gg,gc,b4⟩:=cJ ae;subst b4)
    all_goals
     go_wp2
     go_roundw
     case rel=>exact⟨k+1,_,aa++[nm],by go_num,by omega,HA.o,by simp;omega,z,b6⟩
     case measure=>simp[intOf];omega
  .rw[bB (by omega)] at C z;simp only[bU,bQ,bX] at C z;have Qf:=dp.o z.o.symm;have hf:=d.fin Z (aI rel) vg;obtain⟨ay,az,rfl⟩:=qe d.own;have ak:aC (wr.setCell (Ad (N+1) 0) (aI rel)) (Ad (N+1) 0)=aV (aI rel):=by{simp[aC,Qo A 0 (aI rel)]};have E:aC ((wr.setCell (Ad (N+1) 0) (aI rel)).setCell (Ad (N+1) 1) (aH ay (aB aa) az)) (Ad (N+1) 1)=aV (aH ay (aB aa) az):=by{simp[aC,Qo (Qo A 0 (aI rel)) 1 (aH ay (aB aa) az)]};have b9:=aA hf;have d9:=aA Qf;have bn:=aA ak;have b3:=aA E;clear d hf ak E A Qf z;go_wp2;have ak:=bn.o;have E:=b3.o;refine cD (v:=aL #[aJ #[aI rel,aH ay (aB aa) az],aK true]) (by simp[results,Tryz.results115,go_sem,ak,E]) rfl ?_;refine⟨d9.o _ _ ⟨_,rfl,?_⟩,b9.o.2⟩;rw[<-C.o];exact b9.o.1
theorem El{l:Lk}{t:RT}(z:l.want=4)(d:l.alone=true)(h:(Qg l t).e=0):(t.kind=44/\Qg l t={l with want:=3})\/(t.kind=41/\Qg l t={l with want:=6}):=by grind [Qg,eJ]
theorem xT:∀(n:Nat) (ts:List RT) (l:Lk) (d:List ByteArray),aB ts<=n->l.want=3->l.e=0->l.alone=true->kB ts->jG l ts->
  ∃L A k,eH d ts=aV (L,A,k)/\l.args+aB L<=2/\1<=aB L/\jG {l with want:=6,args:=l.args+aB L} (ts.drop k)/\kB (ts.drop k)/\(∀t∈L,t.num<=aB d+aB L)/\aB A<=aB d+aB L
 |0,ts,l,d,hn,_,_,_,hE,_=>by grind [lm]
 |n+1,[],l,d,hn,_,_,_,hE,_=>absurd hE lm
 |n+1,t::us,l,d,hn,hw,he,hal,hE,cj=>by
  have⟨h1,h2⟩:=lO cj (mB (by rw[hw];decide) (by rw[hw];decide));have⟨hk,hg,hr,dt⟩:=ze hw h1;have E:=jY hE (by omega);rw[dt] at h2
  have O:(ij d t).num<=aB d:=by
   unfold ij;split;{exact List.findIdx_le_length};{simp}
  have G:=sO d t
  cases us with
  |nil=>exact absurd E lm
  |cons b us=>
   have⟨h3,h4⟩:=lO h2 (mB (by simp) (by simp));rcases El (l:={l with args:=l.args+1,want:=4}) rfl (by simpa using hal) h3 with⟨M,z⟩|⟨M,z⟩
   .rw[z] at h4;have C:=jY E (by omega);have⟨L,A,k,r1,r2,r0,r3,r4,r5,r6⟩:=xT n us {l with args:=l.args+1,want:=3} (iL d t) (by simp at hn;omega) rfl he hal C h4;refine⟨ij d t::L,A,k+2,?_,?_,by simp,?_,?_,?_,?_⟩;{grind [eH]};{grind};{grind};{grind};{grind};{grind}
   .rw[z] at h4;have C:=jY E (by omega);refine⟨[ij d t],iL d t,2,?_,by simpa using hg,by simp,by simpa using h4,by simpa using C,?_,by simpa using G⟩;{grind [eH]};{grind}
def oQ:List RT->Option Am
 |t::_::us=>match eH [] us with
  |some (l,_,_)=>aV ⟨t.text,l⟩
  |none=>aW
 |_=>aW
def lw(s:ByteArray):Option Am:=
 if 300<aB (R s 0) then aW
 else if (dW (fA true) (Q3 s)).1≠0 then aW
 else oQ (Q3 s)
theorem AZ(ts:List RT)(A:kB ts)(E:jG (fA true) ts):∃t p us L d k,ts=t::p::us/\eH [] us=aV (L,d,k)/\aB L<=2/\1<=aB L/\(∀t∈L,t.num<=2):=by
 cases ts with
 |nil=>exact absurd A lm
 |cons t ts=>
  have M:iQ (fA true) t=false:=by{unfold iQ fA;simp};have⟨h1,h2⟩:=lO E M;have⟨kt,kr,ec,dy⟩:=zN (l:=fA true) rfl h1;have z:=jY A (by omega);rw[dy] at h2
  cases ts with
  |nil=>exact absurd z lm
  |cons p us=>have⟨g3,g4⟩:=lO h2 (mB (by simp) (by simp));have⟨kp,ck⟩:=uq (l:={fA true with rules:=(fA true).rules+1,body:=false,want:=2}) rfl g3;have C:=jY z (by omega);rw[ck] at g4;have⟨L,d,k,q1,q2,q0,q3,q4,q5,q6⟩:=xT (aB us) us {fA true with rules:=(fA true).rules+1,body:=false,args:=0,want:=3} [] zl rfl rfl rfl C g4;simp only[bO,List.length_nil] at q2 q5;exact⟨t,p,us,L,d,k,rfl,q1,q2,q0,λO G=>by have:=q5 O G;omega⟩
def mK(s:ByteArray)(N:Nat)(e:cF)(w':Wq):Prop:=
 match lw s with
 |none=>e=aO (aL #[aJ #[aI ⟨#[]⟩,aH aW 0 0],aK false])
 |some a=>∃va,e=aO (aL #[aJ #[aI a.rel,va],aK true])/\aE w' N 215 2 va (aB a.args) (a.args.flatMap iV)/\aB a.args<=2/\1<=aB a.args/\(∀t∈a.args,t.num<=2)/\s7 1200 a
theorem ve{T:Nat}{x y a b:Vq}(h:X.heap[N]?=cC #[x,y] T):aC (X.setCell (Ad N 0) a) (Ad N 0)=aV a/\aC ((X.setCell (Ad N 0) a).setCell (Ad N 1) b) (Ad N 1)=aV b:=by refine⟨by simp[aC,Qo h 0 a],by simp[aC,Qo (Qo h 0 a) 1 b]⟩
theorem DH(s:ByteArray)(w:Wq)(hs:s.size<=1048576):Cs 114 #[aI s] w λe w'=>mK s w.heap.size e w'/\cA w.heap.size w w':=by
 obtain⟨N,hN⟩:∃N,N=w.heap.size:=⟨_,rfl⟩;have ah:=hN.symm;rw[<-hN];obtain⟨W0,G⟩:∃W0,W0=w.alloc (aN #[aI ⟨#[]⟩,aH aW 0 0] 145):=⟨_,rfl⟩;have c6:W0.heap.size=N+1:=by rw[G];simp[ah]
 have c7:cA N w W0:=by rw[G];exact (bG _ w).alloc (by omega) _
 have c9:W0.heap[N]?=cC #[aI ⟨#[]⟩,aH aW 0 0] 145:=by rw[G,<-ah];exact zn w _
 have be:=vB s W0 hs;have cr:Hid (∀X,cA W0.heap.size W0 X->X.heap[N]?=cC #[aI ⟨#[]⟩,aH aW 0 0] 145/\aC X (Ad N 0)=aV (aI ⟨#[]⟩)/\aC X (Ad N 1)=aV (aH aW 0 0)/\(∀o,aD X (Ad N o)=false)/\cA N w X):=by intro X hX;have C:X.heap[N]?=cC #[aI ⟨#[]⟩,aH aW 0 0] 145:=(hX.block N (by omega)).trans c9;exact⟨C,zc C,zc C,λo=>by simp[aD,C],c7.trans (hX.mono (by omega))⟩
 have dl:Hid (W0.heap.size=N+1):=c6;have en:Hid _:=G;clear hN c6 c7 c9;rw[G] at be;by_cases al:300<aB (R s 0)
 .have HD:Hid (∀(e:cF) (w':Wq),e=aO (aL #[aJ #[aI ⟨#[]⟩,aH aW 0 0],aK false])->mK s N e w'):=by intro e w' he;unfold mK lw;rw[if_pos al];exact he
  generalize R s 0=L at *;go_enter cI,cH;go_wp2_with fail;refine be.mono ?_;rintro e W1 ⟨v1,rfl,Z,A⟩;rw[<-G] at A;have⟨k1,k2,k3,k4,k5⟩:=cr.o W1 A;have bk:=ve (a:=aI ⟨#[]⟩) (b:=aH aW 0 0) k1;have ct:Hid _:=bk;have HB:Hid (cA N w ((W1.setCell (Ad N 0) (aI ⟨#[]⟩)).setCell (Ad N 1) (aH aW 0 0))):=(k5.setCell zl _).setCell zl _;obtain⟨a1,c1,rfl⟩:=qe Z;clear Z be k1 k5 bk A;go_wp2;have⟨q1,q2⟩:=ct.o;refine cD (v:=aL #[aJ #[aI ⟨#[]⟩,aH aW 0 0],aK false]) (by simp[results,cG,go_sem,q1,q2]) rfl ?_;exact⟨HD.o _ _ rfl,HB.o⟩
 .have hL:aB (R s 0)<=300:=by omega
  have cf:=λW1=>uw s W1 hs (by omega);have ef:=yI s;have cb:=sj s;have b5:=uM s hL;have hD:lw s=if (dW (fA true) (Q3 s)).1≠0 then aW else oQ (Q3 s):=by unfold lw;rw[if_neg al]
  generalize Q3 s=ts at *;have cx:0<aB ts:=by have⟨pre,E,C,_⟩:=cb;rw[C];simp
  have ca:=λ(g d:Nat) (W:Wq) (h:mX W g ts)=>zQ g d ts true W h (by omega);by_cases bf:(dW (fA true) ts).1=0
  .obtain⟨t,p,us,LL,av,k,rfl,bq,cy,d2,da⟩:=AZ ts cb bf;rw[if_neg (by simpa using bf)] at hD;unfold oQ at hD;simp only[bq] at hD;have b8:=sp 1200 us _ _ _ _ (λu hu=>b5 u (zt (zt hu))) bq;have c2:=b5 t zs;have HD:Hid (∀(e:cF) (w':Wq),(∃va,e=aO (aL #[aJ #[aI t.text,va],aK true])/\aE w' N 215 2 va (aB LL) (LL.flatMap iV))->mK s N e w'):=by rintro e w' ⟨va,C,h2⟩;unfold mK;rw[hD];exact⟨va,C,h2,cy,d2,da,c2,b8⟩
   have dh:Hid (∀(g d:Nat) (W:Wq),me W g (t::p::us)->Cs 177 #[Sc g (aB (t::p::us)) d,aM aP 0,aH aW 0 0] W λe w'=>∃va v' M,e=aO (aL #[aJ #[aI t.text,va],aM aP M,v'])/\aE w' W.heap.size 215 2 va (aB LL) (LL.flatMap iV)/\cA W.heap.size W w'):=by intro g d W h;refine (wV g d (t::p::us) 0 W.heap.size (aH aW 0 0) [] LL av k W h (by omega) (by simp) zl (by simp) zo bq).mono ?_;rintro e w' ⟨va,v',rfl,C,h2,h3⟩;exact⟨va,v',_,rfl,C,vY h3 zl⟩
   have de:Hid (∀(g d:Nat) (W:Wq),mX W g (t::p::us)->Cs 108 #[Sc g (aB (t::p::us)) d,aK true] W λe w'=>(∃p:Nat,e=aO (aL #[aM aP 0,aM aP p]))/\cA W.heap.size W w'):=by intro g d W h;refine (ca g d W h).mono ?_;rintro e w' ⟨rfl,hb⟩;refine⟨⟨(dW (fA true) (t::p::us)).2,?_⟩,hb⟩;have e0:(dW ⟨0,false,true,0,0,0,0⟩ (t::p::us)).1=0:=bf;rw[e0];rfl
   clear ca hD bq cy da bf cb al b5 b8 c2;generalize t.text=tx at *;generalize (t::p::us)=ts at *;generalize R s 0=L at *;go_enter cI,cH;go_wp2_with fail;refine be.mono ?_;rintro e W1 ⟨v1,rfl,Z,A⟩;rw[<-G] at A;obtain⟨a1,c1,rfl⟩:=qe Z;clear Z be;go_wp2_with fail;refine (cf W1).mono ?_;rintro e W2 ⟨v2,rfl,bv,bb⟩;obtain⟨g,d,rfl,bc⟩:=tY bv cx;have a9:cA W0.heap.size W0 W2:=A.trans (bb.mono A.size);clear bv cf A bb;go_wp2_with fail;refine (de.o g d W2 bc.1).mono ?_;rintro e W3 ⟨⟨p3,rfl⟩,aw⟩;have cz:=bc.below aw bc.1.1;have a8:cA W0.heap.size W0 W3:=a9.trans (aw.mono a9.size);clear aw bc de a9;go_wp2_with fail;refine (dh.o g d W3 cz).mono ?_;rintro e W4 ⟨va,v4,M,rfl,ce,dg⟩;have c8:cA W0.heap.size W0 W4:=a8.trans (dg.mono a8.size);have⟨k1,k2,k3,k4,k5⟩:=cr.o W4 c8;have ee:N+1<=W3.heap.size:=by have:=a8.size;rw[dl.o] at this;exact this
   have bu:N<W4.heap.size:=(zg k1).1;obtain⟨a4,z,rfl⟩:=qe ce;have kA:Hid (∀O,(W4.alloc O).heap[N]?=cC #[aI ⟨#[]⟩,aH aW 0 0] 145):=λO=>(aX _ _ _ bu).trans k1;have bk:Hid (∀O,aC ((W4.alloc O).setCell (Ad N 0) (aI tx)) (Ad N 0)=aV (aI tx)/\aC (((W4.alloc O).setCell (Ad N 0) (aI tx)).setCell (Ad N 1) (aH a4 (aB LL) z)) (Ad N 1)=aV (aH a4 (aB LL) z)):=λO=>ve (kA.o O);have Qf:Hid (∀O,aE (((W4.alloc O).setCell (Ad N 0) (aI tx)).setCell (Ad N 1) (aH a4 (aB LL) z)) N 215 2 (aH a4 (aB LL) z) (aB LL) (LL.flatMap iV)/\cA N w (((W4.alloc O).setCell (Ad N 0) (aI tx)).setCell (Ad N 1) (aH a4 (aB LL) z))):=by intro O;refine⟨Qj (B:=W3.heap.size) (qn (ce.alloc O) (λg' cn _=>?_)) (by omega),((k5.alloc (by omega) O).setCell zl _).setCell zl _⟩;have C:=(Qp ce g' cn).1;rw[aY _ _ _ _ (by simp;omega),aY _ _ _ _ (by simp;omega)]
   have eb:∀O,aC (W4.alloc O) (Ad N 0)=aV (aI ⟨#[]⟩):=λO=>by simp[aC,kA.o O]
   have ed:∀O,aC (W4.alloc O) (Ad N 1)=aV (aH aW 0 0):=λO=>by simp[aC,kA.o O]
   have eg:∀O o,aD (W4.alloc O) (Ad N o)=false:=λO o=>by simp[aD,kA.o O]
   clear dh ce dg c8 a8 cz k1 k5;have em:N≠W4.heap.size:=by omega
   go_wp2;have cu:=Qo (Qo (kA.o (aN #[aI tx,aH a4 (aB LL) z] 145)) 0 (aI tx)) 1 (aH a4 (aB LL) z);rw[bE _ _ _ _ bu,bE _ _ _ _ (by simpa using bu)] at cu;have co:=Qf.o (aN #[aI tx,aH a4 (aB LL) z] 145);rw[bE _ _ _ _ bu,bE _ _ _ _ (by simpa using bu)] at co;have q1:aC (((W4.setCell (Ad N 0) (aI tx)).setCell (Ad N 1) (aH a4 (aB LL) z)).alloc (aN #[aI tx,aH a4 (aB LL) z] 145)) (Ad N 0)=aV (aI tx):=by simp only[aC,cu];rfl
   have q2:aC (((W4.setCell (Ad N 0) (aI tx)).setCell (Ad N 1) (aH a4 (aB LL) z)).alloc (aN #[aI tx,aH a4 (aB LL) z] 145)) (Ad N 1)=aV (aH a4 (aB LL) z):=by simp only[aC,cu];rfl
   refine cD (v:=aL #[aJ #[aI tx,aH a4 (aB LL) z],aK true]) (by simp[results,cG,go_sem,q1,q2]) rfl ?_;exact⟨HD.o _ _ ⟨_,rfl,co.1⟩,co.2⟩
  .rw[if_pos bf] at hD;have HD:Hid (∀(e:cF) (w':Wq),e=aO (aL #[aJ #[aI ⟨#[]⟩,aH aW 0 0],aK false])->mK s N e w'):=by intro e w' he;unfold mK;rw[hD];exact he
   have dc:Hid (∀(g d:Nat) (W:Wq),mX W g ts->Cs 108 #[Sc g (aB ts) d,aK true] W λe w'=>e=aO (aL #[aM aP (dW (fA true) ts).1,aM aP (dW (fA true) ts).2])/\cA W.heap.size W w'):=ca;clear ca hD cb al b5;generalize (dW (fA true) ts).1=oe at *;generalize (dW (fA true) ts).2=op at *;generalize R s 0=L at *;have m0:(oe == 0)=false:=by simpa using bf
   have m1:(oe != 0)=true:=by simpa using bf
   go_enter cI,cH;go_wp2_with fail;refine be.mono ?_;rintro e W1 ⟨v1,rfl,Z,A⟩;rw[<-G] at A;obtain⟨a1,c1,rfl⟩:=qe Z;clear Z be;go_wp2_with fail;refine (cf W1).mono ?_;rintro e W2 ⟨v2,rfl,bv,bb⟩;obtain⟨g,d,rfl,bc⟩:=tY bv cx;have a9:cA W0.heap.size W0 W2:=A.trans (bb.mono A.size);clear bv cf A bb;go_wp2_with fail;refine (dc.o g d W2 bc.1).mono ?_;rintro e W3 ⟨rfl,aw⟩;have a8:cA W0.heap.size W0 W3:=a9.trans (aw.mono a9.size);have⟨k1,k2,k3,k4,k5⟩:=cr.o W3 a8;have bk:=ve (a:=aI ⟨#[]⟩) (b:=aH aW 0 0) k1;have ct:Hid _:=bk;have HB:Hid (cA N w ((W3.setCell (Ad N 0) (aI ⟨#[]⟩)).setCell (Ad N 1) (aH aW 0 0))):=(k5.setCell zl _).setCell zl _;clear aw bc dc a9 k1 k5 bk a8;go_wp2;have⟨q1,q2⟩:=ct.o;refine cD (v:=aL #[aJ #[aI ⟨#[]⟩,aH aW 0 0],aK false]) (by simp[results,cG,go_sem,q1,q2]) rfl ?_;exact⟨HD.o _ _ rfl,HB.o⟩
def mA:Nat->List ByteArray->ByteArray
 |_,[]=>⟨#[]⟩
 |i,x::l=>(if 0<i then ⟨#[44]⟩ else ⟨#[]⟩)++x++mA (i+1) l
def j8(g:Gr):ByteArray:=(g.rel ++ ⟨#[40]⟩)++mA 0 g.args ++ ⟨#[41]⟩
theorem FW(p:Gr×Vq)(w:Wq)(A:qv w p.2 p.1.args)(hr:p.1.rel.size<=2000)(hl:aB p.1.args<=1000)(hn:∀t∈p.1.args,t.size<=2000):Cs 125 #[lM p] w λe w'=>e=aO (aI (j8 p.1))/\cA w.heap.size w w':=by
 have⟨⟨rel,args⟩,va⟩:=p;unfold lM;simp only at hr hl hn A ⊢;obtain⟨a1,a2,rfl⟩:=qe A;have HC:Hid (∀(O:Obj) (j:Nat) (Z:j<aB args),∃g,a1=aV ⟨g,0,aW⟩/\aC (w.alloc O) (Ad g j)=aV (aI args[j])):=by intro O j Z;have⟨g,cap,e1,hg,M⟩:=A.cell j Z;cases e1;have hb:cA w.heap.size w (w.alloc O):=(bG _ w).alloc zl O;exact⟨g,rfl,(bF hb hg).trans M⟩
 have dw:Hid (∀O,cA w.heap.size w (w.alloc O)):=λO=>(bG _ w).alloc zl O;clear A;have bh:(⟨#[40]⟩:ByteArray).size=1:=rfl;have bd:(⟨#[44]⟩:ByteArray).size=1:=rfl;have ep:(⟨#[41]⟩:ByteArray).size=1:=rfl;have bq:rel.size+1<=3000:=by omega
 have hW:Hid (j8 ⟨rel,args⟩=(rel ++ ⟨#[40]⟩)++mA 0 args ++ ⟨#[41]⟩):=rfl;generalize j8 ⟨rel,args⟩=T at *;go_enter Tryz.func125,Tryz.ntmps125;go_wp2
 go_loopw [3,4] (λx p wr=>∃(k:Nat) (d:ByteArray),x=aI d/\p=aM aP k/\k<=aB args/\wr=w.alloc (aN #[aI rel,aH a1 (aB args) a2] 226)/\d.size<=2001+k*4000/\Hid (T=d++mA k (args.drop k) ++ ⟨#[41]⟩)) (λ_ p _=>aB args-(intOf p).toNat)
 case atStart=>exact⟨0,_,rfl,rfl,zz,rfl,by rw[bC];omega,hW⟩
 case round=>
  obtain⟨k,d,rfl,rfl,cq,rfl,b8,z⟩:=hrel;by_cases C:k<aB args
  .obtain⟨g,rfl,M⟩:=HC.o (aN #[aI rel,aH a1 (aB args) a2] 226) k C;have hm:=hn args[k] (zm C);rw[aZ C] at z;generalize args[k]=nm at *;simp only[mA] at z;have aj:d.size+1<=100000000:=by omega
   by_cases h0:k=0
   .subst h0;rw[if_neg (by decide)] at z;have G:Hid (T=d++nm++mA 1 (args.drop 1) ++ ⟨#[41]⟩):=by show _=_;rw[z.o,It];simp only[bH]
    have bb:d.size+nm.size<=100000000:=by omega
    have E:Hid ((d++nm).size<=2001+1*4000):=by show _<=_;rw[bC];omega
    clear z;go_wp2
    go_roundw
    case rel=>exact⟨1,_,rfl,by go_num,by omega,by trivial,E.o,G⟩
    case measure=>simp[intOf];omega
   .rw[if_pos (by omega)] at z;have G:Hid (T=d ++ ⟨#[44]⟩++nm++mA (k+1) (args.drop (k+1)) ++ ⟨#[41]⟩):=by show _=_;rw[z.o];simp only[bH]
    have eh:0<k:=by omega
    have bb:(d ++ ⟨#[44]⟩).size+nm.size<=100000000:=by rw[bC];omega
    have E:Hid ((d ++ ⟨#[44]⟩++nm).size<=2001+(k+1)*4000):=by show _<=_;rw[bC,bC];omega
    clear z;go_wp2
    go_roundw
    case rel=>exact⟨k+1,_,rfl,by go_num,by omega,by trivial,E.o,G⟩
    case measure=>simp[intOf];omega
  .rw[bB (by omega)] at z;simp only[mA,Ep] at z;have aj:d.size+1<=100000000:=by omega
   go_wp2;go_ret;rw[z.o];exact⟨rfl,dw.o _⟩
def gP:List ByteArray:=bI 8 ⟨#[]⟩
theorem AX(z:Vq)(n:Nat):(madeCells #[z] (n*1)).toList=bI n z:=by
 unfold madeCells;rw[Nat.mul_one];apply List.ext_getElem
 .simp
 .grind
theorem wI(n:Nat):(madeCells (aI ⟨#[]⟩).cells (n*1)).toList=(bI n (⟨#[]⟩:ByteArray)).map aI:=by have:(aI ⟨#[]⟩).cells=#[aI ⟨#[]⟩]:=rfl;rw[this,AX];simp
theorem GT:(madeCells (aI ⟨#[]⟩).cells (8*1)).toList=gP.map aI:=wI 8
theorem zB(w:Wq):Cs 124 #[] w λe w'=>∃v,e=aO v/\aE w' w.heap.size 9 1 v 8 (gP.map aI)/\cA w.heap.size w w':=by
 have⟨i0,hi,bi,bh,bd⟩:=info_parts Tryz.infoStr;have d:i0.bytes*8<=281474976710656:=by rw[bd];decide
 have A:8<=maxLen:=by unfold maxLen;decide
 go_enter Tryz.func124,Tryz.ntmps124
 go_wp2_with (at_make;refine wpList_make_full _ rfl _ _ 22 rfl w.heap.size 9 i0 (aI ⟨#[]⟩) 1 cE hi bi bh aP aP _ _ 8 rfl rfl rfl rfl d A zl ?_;intro w1 ae ab)
 go_ret;rw[GT] at ae;exact⟨_,rfl,ae,(bG _ w).grown ab zl (λk z=>by cases z)⟩
structure gW(W:Wq)(a:Option Addr)(ps:List (Am×Vq)):Prop where
 cells:∀(k:Nat) (hk:k<aB ps),∃g ao,a=aV ⟨g,ao,aW⟩/\g<W.heap.size/\aC W (Ad g (ao+k*2))=aV (aI ps[k].1.rel)/\aC W (Ad g (ao+k*2+1))=aV ps[k].2
 each:∀p∈ps,fI W p
theorem gW.below{W':Wq}(h:gW W a ps)(d:cA W.heap.size W W'):gW W' a ps:=
 ⟨λk z=>by
  have⟨g,ao,e,hg,c0,c1⟩:=h.cells k z
  exact⟨g,ao,e,Nat.lt_of_lt_of_le hg d.size,(bF d hg).trans c0,(bF d hg).trans c1⟩,λp A=>(h.each p A).kept (Kp.ofBelow (S:=0) d)⟩
theorem ip.at{c:Nat}(h:ip W (aH a (aB ps) c) ps):gW W a ps:=
 ⟨λk d=>by
  have⟨g,cap,e,hg,c0,c1,_⟩:=h.cell k d;cases e
  exact⟨g,0,rfl,hg,by rw[bO];exact c0,by rw[bO];exact c1⟩,h.each⟩
theorem gW.drop{g d:Nat}(h:gW W (aV ⟨g,d,aW⟩) ps)(i:Nat):gW W (aV ⟨g,d+i*2,aW⟩) (ps.drop i):=
 ⟨λk z=>by
  rw[List.length_drop] at z;have⟨g',di,e,hg,c0,c1⟩:=h.cells (i+k) (by omega);cases e;refine⟨g,d+i*2,rfl,hg,?_,?_⟩;{grind}
  .rw[List.getElem_drop];have e:d+i*2+k*2+1=d+(i+k)*2+1:=by omega
   rw[e];exact c1,λp A=>h.each p (List.mem_of_mem_drop A)⟩
theorem rA(a:Option Addr)(c:Nat)(ps:List (Am×Vq))(n:Nat)(w:Wq)(hp:gW w a ps)(hl:aB ps<=1000)(hn:n<=1000000)(hm:∀p∈ps,aB p.1.args<=1000000/\∀t∈p.1.args,t.num<=1000000):Cs 246 #[aH a (aB ps) c,aM aP n] w λe w'=>e=aO (aK (Qd (ps.map (·.1)) n))/\w'=w:=by
 have HP:=aA hp;clear hp;go_enter Tryz.func246,Tryz.ntmps246;go_wp2
 go_loopw [5] (λp wr=>∃i:Nat,p=aM aP i/\i<=aB ps/\wr=w/\Hid (Qd ((ps.drop i).map (·.1)) n=Qd (ps.map (·.1)) n)) (λp _=>aB ps-(intOf p).toNat)
 case atStart=>exact⟨0,rfl,zz,rfl,rfl⟩
 case round=>
  obtain⟨i,rfl,cq,cl,z⟩:=hrel;obtain rfl:w=wr:=cl.symm;by_cases G:i<aB ps
  .obtain⟨g,ao,rfl,hg,c0,c1⟩:=HP.o.cells i G;have O:=HP.o.each ps[i] (zm G);have⟨x1,x2,hx⟩:=qe O;rw[aZ G] at z;have dz:=hm ps[i] (zm G);rw[hx] at c1;generalize ps[i]=p at *;simp only[bJ,Qd,bL] at z;have ea:Hid (∀(j:Nat) (hj:j<aB p.1.args),∃A,x1=aV ⟨A,0,aW⟩/\aC w (Ad A (j*2))=aV (aI p.1.args[j].name)/\aC w (Ad A (j*2+1))=aV (aM aP p.1.args[j].num)):=by{intro j hj;have⟨A,d8,e2,_,Z,d1⟩:=O.cell j hj;rw[hx] at e2;cases e2;exact⟨A,rfl,Z,d1⟩};have dk:=aA z;have⟨eo,du⟩:=dz;clear z O hx c0;generalize p.1.args=args at *;go_wp2
   go_loopw [6] (λp wr=>∃k:Nat,p=aM aP k/\k<=aB args/\wr=w/\Hid (((args.drop k).any (jk n) || Qd ((ps.drop (i+1)).map (·.1)) n)=Qd (ps.map (·.1)) n)) (λp _=>aB args-(intOf p).toNat)
   case atStart=>exact⟨0,rfl,zz,rfl,dk⟩
   case round=>
    obtain⟨k,rfl,ek,cl,d⟩:=hrel;obtain rfl:w=wr:=cl.symm;by_cases M:k<aB args
    .obtain⟨A,rfl,Z,d1⟩:=ea.o k M;have d6:=du args[k] (zm M);rw[aZ M] at d;generalize args[k]=tm at *;have⟨nm,C⟩:=tm;simp only[bL] at d Z d1 d6;by_cases h1:nm.toList.isEmpty=true
     .by_cases h2:C=n
      .subst h2;have E:jk C ⟨nm,C⟩=true:=by{unfold jk;simp[h1]};rw[E] at d;go_wp2;go_ret;rw[<-d.o];exact⟨by simp,rfl⟩
      .have E:jk n ⟨nm,C⟩=false:=by{unfold jk;simp[h2]};rw[E] at d;have m2:((C:Int) == (n:Int))=false:=by{simp;omega};go_wp2
       go_roundw
       case rel=>exact⟨k+1,by go_num,by omega,by trivial,by simpa using d⟩
       case measure=>simp[intOf];omega
     .have ch:nm.toList.isEmpty=false:=by{simpa using h1};have E:jk n ⟨nm,C⟩=false:=by{unfold jk;simp[ch]};rw[E] at d;clear h1;go_wp2
      go_roundw
      case rel=>exact⟨k+1,by go_num,by omega,by trivial,by simpa using d⟩
      case measure=>simp[intOf];omega
    .rw[bB (by omega)] at d;simp only[bX,Bool.false_or] at d;go_wp2
     go_roundw
     case rel=>exact⟨i+1,by go_num,by omega,by trivial,d⟩
     case measure=>simp[intOf];omega
  .rw[bB (by omega)] at z;go_wp2;go_ret;rw[<-z.o];exact⟨rfl,rfl⟩
