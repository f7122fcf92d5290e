/- A part -/
import Derived.Test.YtjajnhemgphefaaGreatDoorJEgO
import Derived.Maps.AppendAt
set_option linter.all false
set_option maxRecDepth 100000
set_option maxHeartbeats 4000000
open List renaming length->aB,length_filter_le->aZ,mem_map->bB,getElem?_eq_getElem->bC,mem_filter->bD,not_mem_nil->bF,mem_append->bG,mem_cons->bI
open Go.World renaming cell?->aC,frozen?->aD,ownsRow->aE
open Go.Value renaming ownBlock->aF,slice->aH,string->aI,agg->aJ,bool->aK,tuple->aL,int->aM,oneCell'->bH
open Go.Obj renaming cells->aN
open Go.Ending renaming returned->aO
open Go.IntKind renaming i64->aP
open Or renaming inl->aQ,inr->aR
open Option renaming some->aV,none->aW
open Go.Calls renaming mono->aX
open Go.RowKit.Below renaming refl->aY
open Nat renaming le_trans->bE
open Go.RowKit renaming Below->bJ
namespace Go.Proofs.YtjajnhemgphefaaGreatDoor
open Go renaming World->Wq,Value->Vq
open Go.RowKit Go.Shelf Go.Maps
variable {e e':Eg} {a:Am} {rs:List Rl}
theorem G5(d:List ByteArray)(x y:ByteArray):y∈Qq d x↔y∈d\/y=x:=by grind [Qq,dS,dO,tt]
theorem rY:∀(l:List Tm) (d:List ByteArray) (y:ByteArray),y∈dG d l↔y∈d\/∃t∈l,t.name≠eB/\y=t.name
 |[],d,y=>by simp[dG]
 |t::l,d,y=>by
  have A:=rY l (gI d t) y;have z:dG d (t::l)=dG (gI d t) l:=rfl;rw[z,A];unfold gI;by_cases h:t.name.toList.isEmpty=true;{grind [iz]};{grind [G5,eB,iz]}
def lK(e:Eg)(a:Am)(t:Int):Int×Eg:=
 if eZ e.win e.mark t=true then (8,e) else if lg e.kept (qb Qs a,t)=true then (9,e)
 else if aB e.kept=24\/8<aB (dG e.names a.args) then (10,e)
 else (0,{e with names:=dG e.names a.args,kept:=e.kept++[(qb Qs a,t)]})
def iM(e:Eg)(s:ByteArray)(t:Int):Int×Eg:=
 match iX s with
 |none=>(2,e)
 |some a=>if iG a=false then (2,e) else if lu e.rs a.rel=true then (7,e) else if iH e.rs a≠0 then (iH e.rs a,e) else if ¬(0<=t/\t<=1000000) then (6,e) else lK e a t
def iF(e:Eg)(s:ByteArray):Int×Int×Eg:=
 if jT s=false then (0,2,e) else if dH e.rs s=0 then (0,7,e) else if aB e.fds=3 then (0,10,e)
 else (aB e.fds,0,{e with fds:=e.fds++[⟨fP s (dH e.rs s),true,[],[],0⟩]})
def mQ(e:Eg)(m:Int):List (Gd×Int):=((e.kept.filter (λd=>!eZ e.win m d.2)).filter (λd=>decide (d.2<=m))).map (λd=>(d.1,d.2+e.win))
def wg(M M':Gd->Option Int)(m q:Int)(f f':Fs):Prop:=
 (f.behind=true/\f'=f)\/(f.behind=false/\∃g1 g2,lR M M' f.form g1/\lR M' M f.form g2/\((q<(aB (f.que++Qr 3 g1++Qr 2 g2):Int)+1/\f'={f with behind:=true,snap:=[],que:=[]})\/((aB (f.que++Qr 3 g1++Qr 2 g2):Int)+1<=q/\f'={f with que:=f.que++Qr 3 g1++Qr 2 g2++[⟨4,0,⟨#[]⟩,m⟩]})))
def qX(e:Eg)(m:Int)(e':Eg):Prop:=∃M' ak,ia e.rs (mQ e m++Qx e.rs) M'/\aB ak=aB e.fds/\(∀i (h:i<aB e.fds) (h':i<aB ak),wg e.M M' m e.que e.fds[i] ak[i])/\e'={e with mark:=m,kept:=e.kept.filter (λd=>!eZ e.win m d.2),M:=M',fds:=ak}
def oF(e:Eg)(c:Int)(e':Eg)(r:Int×Int):Prop:=
 (¬(0<=c/\c<=1000000)/\e'=e/\r=(0,6))\/((0<=c/\c<=1000000)/\r=(e'.mark,0)/\((c-e.lat<=e.mark/\e'=e)\/(e.mark<c-e.lat/\qX e (c-e.lat) e')))
theorem dV.mono(h:dV e)(z:e'.rs=e.rs)(A:e'.win=e.win)(C:e'.lat=e.lat)(E:e'.que=e.que)(G:e'.mark=e.mark)(O:e'.names=e.names)(Z:e'.kept=e.kept)(h8:e'.M=e.M)(d:aB e'.fds<=3)(fds:∀f∈e'.fds,nT f.form/\aB f.snap<=1000/\aB f.que<=50):dV e':=by have⟨rs,win,lat,que,mark,names,kept,M,ak⟩:=e';simp only at *;subst z A C E G O Z h8;exact⟨h.rs,h.win,h.lat,h.que,h.mark,h.n8,h.nsz,h.nrs,h.k24,h.kept,h.md,d,fds⟩
theorem FE{s:ByteArray}(h:jT s=true):s.size<=32:=by grind [jT,mG]
theorem Et(h:dV e)(s:ByteArray):dV (iF e s).2.2:=by
 unfold iF;split
 .exact h
 rename_i C;split
 .exact h
 split
 .exact h
 rename_i E;have hs:=FE (s:=s) (by simpa using C);have d:=h.f3;refine h.mono rfl rfl rfl rfl rfl rfl rfl rfl (by simp;omega) (λf d=>?_);rcases bG.1 d with d|d
 .exact h.fds f d
 .simp only[bI,bF,or_false] at d;subst d;refine⟨⟨?_,?_,?_,?_⟩,by simp,by simp⟩
  .show (aB (fP s _).args)<=2;rw[ry];rcases og h.rs s with e|e|e<;>omega
  .intro t z;obtain⟨k,A,rfl⟩:=bB.1 z;have:=List.mem_range.1 A;rcases og h.rs s with e|e|e
   .grind
   .grind
   .grind
  .show s.size<=2000;omega
  .intro t z;obtain⟨k,A,rfl⟩:=bB.1 z;show (0:Nat)<=2000;decide
theorem rK(h:iG a=true):∀t∈a.args,t.name≠eB:=by intro t d e;unfold iG at h;simp only[Bool.not_eq_true',List.any_eq_false] at h;exact h t d ((iz _).2 e)
theorem xV(h:iH rs a=0):dH rs a.rel≠0/\dH rs a.rel=aB a.args:=by grind [iH]
theorem tI{x:ByteArray}(h:dH rs x≠0):x∈gF rs:=by
 unfold dH at h
 cases ha:fB (rs.flatMap qz) x.data.toList with
 |none=>rw[ha] at h;exact absurd rfl h
 |some n=>have⟨a,h1,h2,_⟩:=xo ha;exact bB.2 ⟨a,h1,nJ h2⟩
theorem GZ(h:jv rs){a:Am}(d:iG a=true)(M:iH rs a=0){ns:List ByteArray}(C:∀t∈a.args,t.name∈ns):qb Qs a∈gD (gF rs) ns/\eO (dH rs) (qb Qs a):=by
 have⟨h0,h1⟩:=xV M;have E:=rK d;have z:aB a.args=1\/aB a.args=2:=by grind [og]
 rcases z with z|z
 .match ha:a.args,z with
  |[t],_=>
   have A:=E t (by rw[ha];simp);have d:qb Qs a=⟨a.rel,t.name,eB⟩:=by{unfold qb;rw[ha];show (⟨a.rel,dI Qs t,eB⟩:Gd)=_;rw[mi A]};rw[d];exact⟨lF.2 ⟨tI h0,C t (by rw[ha];simp),aQ rfl⟩,A,aQ ⟨by show dH rs a.rel=1;rw[h1,ha];rfl,rfl⟩⟩
 .match ha:a.args,z with
  |[t,u],_=>
   have A:=E t (by rw[ha];simp);have G:=E u (by rw[ha];simp);have d:qb Qs a=⟨a.rel,t.name,u.name⟩:=by{unfold qb;rw[ha];show (⟨a.rel,dI Qs t,dI Qs u⟩:Gd)=_;rw[mi A,mi G]};rw[d];exact⟨lF.2 ⟨tI h0,C t (by rw[ha];simp),aR (C u (by rw[ha];simp))⟩,A,aR ⟨by show dH rs a.rel=2;rw[h1,ha];rfl,G⟩⟩
theorem Jr(h:dV e){a:Am}(Z:kC a)(z:iG a=true)(hc:iH e.rs a=0){t:Int}(M:0<=t/\t<=1000000):dV (lK e a t).2:=by
 unfold lK;split
 .exact h
 split
 .exact h
 split
 .exact h
 rename_i O;have G:=rY a.args e.names;have E:∀x∈e.names,x∈dG e.names a.args:=λx A=>(G x).2 (aQ A);have d3:=rK z;have d8:=h.k24;refine⟨h.rs,h.win,h.lat,h.que,h.mark,by show aB (dG e.names a.args)<=8;omega,λx A=>?_,λr hr t M bh=>E _ (h.nrs r hr t M bh),by show aB (e.kept++_)<=24;simp;omega,λd hd=>?_,λg z=>⟨(h.md g z).1,yU E (h.md g z).2⟩,h.f3,h.fds⟩
 .rcases (G x).1 A with A|⟨u,C,_,rfl⟩
  .exact h.nsz x A
  .exact (Z.tms u C).name
 .rcases bG.1 hd with hd|hd
  .have:=h.kept d hd;exact⟨yU E this.1,this.2⟩
  .simp only[bI,bF,or_false] at hd;subst hd;have:=GZ h.rs z hc (ns:=dG e.names a.args) (λu C=>(G _).2 (aR ⟨u,C,d3 u C,rfl⟩));exact⟨this.1,this.2,M⟩
theorem Gq(h:dV e)(s:ByteArray)(d:∀a,iX s=aV a->kC a)(t:Int):dV (iM e s t).2:=by grind [iM,iX,Jr]
theorem wh(h:dV e)(m:Int):tq e.rs e.names (mQ e m):=by
 unfold mQ;refine⟨?_,λx A=>?_⟩
 .rw[List.length_map];have C:=aZ (λd:Gd×Int=>decide (d.2<=m)) (e.kept.filter (λd=>!eZ e.win m d.2));have E:=aZ (λd:Gd×Int=>!eZ e.win m d.2) e.kept;have:=h.k24;omega
 .obtain⟨d,hd,rfl⟩:=bB.1 A;have z:=h.kept d ((bD.1 (bD.1 hd).1).1);have G:=h.win;exact⟨z.1,z.2.1,by show 0<=d.2+e.win;omega,by show d.2+e.win<=2000000;omega⟩
theorem Jc(h:dV e){m:Int}(O:0<=m/\m<=1000000)(Z:qX e m e'):dV e':=by
 obtain⟨M',ak,C,h2,E,rfl⟩:=Z;have dj:=h.f3;refine⟨h.rs,h.win,h.lat,h.que,O,h.n8,h.nsz,h.nrs,bE (aZ _ _) h.k24,λd hd=>h.kept d (bD.1 hd).1,uC h.rs h.nrs (wh h m) C,by show aB ak<=3;omega,λf G=>?_⟩;obtain⟨i,M,rfl⟩:=List.getElem_of_mem G;have z:i<aB e.fds:=by grind
 have bk:=h.fds _ (zm z);have hq:=h.que;rcases E i z M with⟨_,A⟩|⟨_,g1,g2,_,_,⟨_,A⟩|⟨h5,A⟩⟩
 .grind
 .grind
 .grind
theorem ws(h:dV e){c:Int}{r:Int×Int}(z:oF e c e' r):dV e':=by
 rcases z with⟨_,rfl,_⟩|⟨E,_,⟨_,rfl⟩|⟨C,d⟩⟩
 .exact h
 .exact h
 .have G:=h.lat;have A:=h.mark;exact Jc h ⟨by omega,by omega⟩ d
theorem GV(h:dV e){k:Nat}(E:k<aB e.fds){r:Rc}{f':Fs}(O:mM e.M e.mark e.fds[k] r f'):dV {e with fds:=e.fds.set k f'}:=by
 refine h.mono rfl rfl rfl rfl rfl rfl rfl rfl (by simp;exact h.f3) (λf z=>?_);have d:=h.fds _ (zm E);rcases List.mem_or_eq_of_mem_set z with z|rfl
 .exact h.fds f z
 have⟨r0,f0,hn,hc⟩:=O
 have h0:nT f0.form/\aB f0.snap<=1000/\aB f0.que<=50:=by
  rcases hn with⟨l,C,rfl⟩|⟨_,_,_,gs,A,rfl⟩|⟨_,_,l,C,rfl⟩|⟨_,_,_,_,rfl⟩
  .grind
  .refine⟨d.1,?_,d.2.2⟩;have Z:=xS A (λg A=>(h.md g A).2) h.n8;have G:aB (iO 2 (fO (gs.map (λg=>(dY g).data.toList))))=aB gs:=oR 2 gs;show aB (_++[_])<=1000;rw[List.length_append,G];simp only[List.length_cons,List.length_nil];omega
  .grind
  .exact d
 rcases hc with⟨_,_,rfl⟩|⟨_,_,rfl⟩
 .exact h0
 .exact h0
theorem Ir(v:Vq)(ns:List ByteArray)(b:Nat)(w:Wq)(h:aE w b 9 1 v (aB ns) (ns.map aI))(hl:aB ns<=1000):Cs 83 #[v] w λe w'=>∃(E:Option Addr) (G:Nat),e=aO (aH E (aB ns) G)/\aE w' w.heap.size 9 1 (aH E (aB ns) G) (aB ns) (ns.map aI)/\bJ w.heap.size w w':=by
 obtain⟨h0,⟨z,hn⟩|⟨g,d,M,z,hb,hw,h1,h2,h3,Z⟩⟩:=h
 .subst z;have hz:ns=[]:=List.eq_nil_of_length_eq_zero hn;subst hz;refine (Tryz.slices_Clone_string_nil 0 0 w).mono ?_;rintro e w' ⟨rfl,rfl⟩;exact⟨aW,0,rfl,⟨rfl,aQ ⟨rfl,rfl⟩⟩,zr⟩
 .subst z;refine (Tryz.slices_Clone_string g 0 (aB ns) d ns w zl (by omega) (λj C=>?_)).mono ?_
  .have A:(ns.map aI)[j]?=aV (aI ns[j]):=by{rw[List.getElem?_map,bC C];rfl};rw[<-Z,List.getElem?_take,if_pos (by omega)] at A;simp only[aC,hw,Nat.zero_add];have O:M[j]?=aV (aI ns[j]):=by{simpa using A};rw[O,List.getD_eq_getElem?_getD,bC C];rfl
  .grind [qq]
theorem DU(f:Vq)(w:Wq):Cs 145 #[aH aW 0 0,.func (.func 86) #[] #[f]] w λe w'=>e=aO (aM aP (-1))/\bJ w.heap.size w w':=by
 go_enter Tryz.func145,Tryz.ntmps145;go_wp2
 go_loopw [8] (λi wr=>i=aM aP 0/\bJ w.heap.size w wr) (λi _=>0)
 case atStart=>exact⟨rfl,zr⟩
 case round=>obtain⟨rfl,d⟩:=hrel;go_wp2;go_ret;exact⟨rfl,d⟩
theorem FX(f:Vq)(w:Wq):Cs 85 #[aH aW 0 0,.func (.func 86) #[] #[f]] w λe w'=>e=aO (aH aW 0 0)/\bJ w.heap.size w w':=by
 have hI:Hid (∀W,Cs 145 #[aH aW 0 0,.func (.func 86) #[] #[f]] W λe w'=>e=aO (aM aP (-1))/\bJ W.heap.size W w'):=λW=>DU f W;go_enter Tryz.func85,Tryz.ntmps85
 go_wp2_with (go_at_call 145;refine (hI.o _).mono ?_;rintro e W1 ⟨rfl,ae⟩)
 go_ret;exact⟨rfl,ae⟩
theorem Ev(v:Vq)(ns:List ByteArray)(ab z b:Nat)(E:Vq)(ts:List Tm)(w:Wq)(aq:w.heap[z]?=cC #[E] 90)(hs:Qh w b E ts)(hl:aB ts<=2)(qt:aE w ab 9 1 v (aB ns) (ns.map aI))(Z:ab<=w.heap.size)(hn:aB ns<=900):Cs 76 #[v,.func (.func 144) #[] #[Pt z]] w λe w'=>∃(A:Option Addr) (C:Nat),e=aO (aH A (aB (dG ns ts)) C)/\aE w' ab 9 1 (aH A (aB (dG ns ts)) C) (aB (dG ns ts)) ((dG ns ts).map aI)/\bJ ab w w':=by
 refine (Jv 144 #[Pt z] ts (λ_=>True) (aB ts) v ns ab w (enters_of Tryz.func144 (by kernel_rfl) rfl) (λO=>?_) (by omega) qt Z hn).mono ?_
 .have G:bJ w.heap.size w (w.alloc O):=(aY _ w).alloc zl O;exact Cx z b E ts (w.alloc O) ((G.block _ (zg aq).1).trans aq) (hs.rk (qf.ofBelow G)) (by omega)
 .rintro e w' ⟨v',rfl,M,d⟩;have⟨A,C,cl⟩:=qq M;subst cl;exact⟨A,C,rfl,M,⟨d.os,d.tape,d.output,d.size,λk hk=>d.block k (by omega) (aQ hk)⟩⟩
theorem Fd(x:ByteArray)(C:Vq)(d:Option Addr)(A z:Nat)(E:C=aH d A z)(w:Wq):Cs 54 #[aJ #[aI x,C]] w λe w'=>∃B,e=aO (Pt B)/\w.heap.size<=B/\w'.heap[B]?=cC #[aI x,C,aK true,aH aW 0 0,aH aW 0 0,aM aP 0] 198/\bJ w.heap.size w w':=by subst E;go_enter Tryz.func54,Tryz.ntmps54;go_wp2;go_ret;refine⟨w.heap.size+1,rfl,by omega,?_,((aY _ w).alloc zl _).alloc (by simp) _⟩;have:=zn (w.alloc (aN #[aI x,aH d A z] 92)) (aN #[aI x,aH d A z,aK true,aH aW 0 0,aH aW 0 0,aM aP 0] 198);rw[World.size_alloc] at this;exact this
theorem EV:(Tryz.prog.info? 161).map (λi=>(i.zero,i.size,i.bytes))=aV (aV (aJ #[aI ⟨#[]⟩,aI ⟨#[]⟩,aI ⟨#[]⟩,aM aP 0]),4,56):=by kernel_rfl
theorem tV{P:Program}{G:Array Oper}{o:Oper}{a:Act}{w:Wq}{K:Act->Wq->Prop}{Q:Exit->Act->Wq->Prop}{E:Prop}(hg:o.guard=aW)(s x:Operand)(t:TypeId)(eg:o.op=Op.call {callee:=Callee.builtin Builtin.append,args:=#[s,x],argTypes:=#[t,t]})(ab:Nat)(e:TypeId)(i:TypeInfo)(z:Vq)(size d:Nat)(h1:P.underlying t=aV (.slice e))(h2:P.info? e=aV i)(h3:i.zero=aV z)(h4:i.size=size)(h5:i.bytes=d)(h6:z.cells.size=size)(h7:0<size)(v:Vq)(n:Nat)(xs:List Vq)(hs:a.eval s=v)(qt:aE w ab e size v n xs)(ad:Addr)(m c:Nat)(C:List Vq)(hx:a.eval x=aH (aV ad) m c)(hn:aB C=m*size)(hc:∀j u,C[j]?=aV u->aC w (ad.add j)=aV u)(ec:∀u∈C,u.oneCell'=true)(M:n+m<=maxLen)(O:(n+m)*d<=140737488355328)(Z:ab<=w.heap.size)(hK:∀A w',aE w' ab e size A (n+m) (xs++C)->w.grownBy w' (aF v)->(aF A=aF v\/aF A=aV w.heap.size)->K (a.put o.dst A) w'):if Region.wanted o (yielded G a.tmps)=true then Oper.wp P o a w K Q else E:=by
 have hw:Region.wanted o (yielded G a.tmps)=true:=by simp[Region.wanted,hg]
 rw[if_pos hw];have⟨A,w',dy,r1,r2,_,r3⟩:=run_append_own_at (P:=P) w ab t o.type e i z size d h1 h2 h3 h4 h5 h6 h7 v n xs qt ad m c C hn hc ec M O Z;unfold Oper.wp;simp[execOp,eg,resolve,invoke,builtin,hs,hx,dy,Result.andThen];exact hK A w' r1 r2 r3
theorem Jh(S:Nat->Prop)(z:Nat)(e:Eg)(a:Am)(ta:Option Addr)(tc b:Nat)(t:Int)(w:Wq)(h:gN w S z e)(ag:dV e)(au:kC a)(am:Qh w b (aH ta (aB a.args) tc) a.args)(hn:∀t∈a.args,t.num<6)(ht:0<=t/\t<=1000000):Cs 44 #[Pt z,aJ #[aI a.rel,aH ta (aB a.args) tc],aM aP t] w λen w'=>en=aO (aM aP (lK e a t).1)/\Qm S z (lK e a t).2 w w':=by
 have HE:Hid (gN w S z e):=h;have⟨vr,vn,vk,vf,bm,rb,bi,bn,ac,Sf,hv⟩:=h;obtain⟨N,hN⟩:∃N,w.heap.size=N:=⟨_,rfl⟩;have dv:=hv.lt;have⟨na,nc,d6⟩:=qq hv.names;subst d6;have⟨ka,kc,ee⟩:=qq hv.kept;subst ee;have⟨fa,fc,c4⟩:=qq hv.frow;subst c4;have aj:Hid (∀W,bJ w.heap.size w W->W.heap[z]?=cC #[vr,aM aP e.win,aM aP e.lat,aM aP e.que,aM aP e.mark,aH na (aB e.names) nc,aH ka (aB e.kept) kc,.map (aV bm),aH fa (aB ac) fc] 101):=λW A=>(hv.below A).blk;have ah:Hid (∀W,bJ w.heap.size w W->aC W (Ad z 5)=aV (aH na (aB e.names) nc)/\aD W (Ad z 5)=false/\aC W (Ad z 6)=aV (aH ka (aB e.kept) kc)/\aD W (Ad z 6)=false):=λW A=>by have:=aj.o W A;refine⟨zc this,by simp[aD,this],zc this,by simp[aD,this]⟩
 have b5:Hid (∀W,bJ w.heap.size w W->Cs 81 #[Pt z,aM aP t] W λe' w'=>e'=aO (aK (eZ e.win e.mark t))/\W.drew=w'):=λW A=>by have:=aj.o W A;refine (xt z t e.win e.mark W (by simp[aC,this]) (by simp[aC,this]) ht ⟨by have:=ag.win;omega,ag.win.2⟩).mono ?_;rintro e' w' ⟨E,G⟩;exact⟨E,G.symm⟩
 have cl:Hid (∀W,bJ w.heap.size w W->Cs 48 #[aJ #[aI a.rel,aH ta (aB a.args) tc]] W λe' w'=>e'=aO (aJ #[aI (qb Qs a).rel,aI (qb Qs a).x,aI (qb Qs a).y])/\bJ W.heap.size W w'):=λW A=>Ar a _ b W (am.rk (qf.ofBelow A)) au.args hn;have bc:Hid (∀W,bJ w.heap.size w W->Cs 82 #[aH ka (aB e.kept) kc,aJ #[aI (qb Qs a).rel,aI (qb Qs a).x,aI (qb Qs a).y,aM aP t]] W λe' w'=>e'=aO (aK (lg e.kept (qb Qs a,t)))/\bJ W.heap.size W w'):=λW A=>EG _ e.kept 0 (qb Qs a,t) W (qj hv.kept A) (by have:=ag.k24;omega);have dg:Hid (∀W,bJ w.heap.size w W->Cs 83 #[aH na (aB e.names) nc] W λe' w'=>∃(Z:Option Addr) (oc:Nat),e'=aO (aH Z (aB e.names) oc)/\aE w' W.heap.size 9 1 (aH Z (aB e.names) oc) (aB e.names) (e.names.map aI)/\bJ W.heap.size W w'):=λW A=>Ir _ e.names 0 W (qj hv.names A) (by have:=ag.n8;omega);have ca:Hid (∀W,Cs 84 #[aH ta (aB a.args) tc] W λe' w'=>e'=aO (.func (.func 144) #[] #[Pt W.heap.size])/\W.alloc (aN #[aH ta (aB a.args) tc] 90)=w'):=λW=>by grind [Du]
 have c2:Hid (∀W3 ab (Z:Option Addr) (oc:Nat),bJ w.heap.size w W3->ab<=W3.heap.size->w.heap.size<=ab->aE W3 ab 9 1 (aH Z (aB e.names) oc) (aB e.names) (e.names.map aI)->Cs 76 #[aH Z (aB e.names) oc,.func (.func 144) #[] #[Pt W3.heap.size]] (W3.alloc (aN #[aH ta (aB a.args) tc] 90)) λe' w'=>∃(Z:Option Addr) (oc:Nat),e'=aO (aH Z (aB (dG e.names a.args)) oc)/\aE w' ab 9 1 (aH Z (aB (dG e.names a.args)) oc) (aB (dG e.names a.args)) ((dG e.names a.args).map aI)/\bJ ab W3 w'):=λW3 ab Z oc A E G ho=>by have aa:bJ W3.heap.size W3 (W3.alloc (aN #[aH ta (aB a.args) tc] 90)):=(aY _ W3).alloc zl _;refine (Ev _ e.names ab W3.heap.size b _ a.args _ (zn W3 _) ((am.rk (qf.ofBelow A)).rk (qf.ofBelow aa)) au.args (qj ho aa) (by simp;omega) (by have:=ag.n8;omega)).mono ?_;rintro e' w' ⟨Z,oc,k1,k2,k3⟩;exact⟨Z,oc,k1,k2,(aa.mono E).trans k3⟩
 have hV:Hid (fR w S z e vr (aH na (aB e.names) nc) (aH ka (aB e.kept) kc) (aH fa (aB ac) fc) bm rb bi bn ac Sf):=hv;have d8:aB e.kept<=24:=ag.k24;have ap:Hid (lK e a t=if eZ e.win e.mark t=true then (8,e) else if lg e.kept (qb Qs a,t)=true then (9,e) else if aB e.kept=24\/8<aB (dG e.names a.args) then (10,e) else (0,{e with names:=dG e.names a.args,kept:=e.kept++[(qb Qs a,t)]})):=rfl;have dk:∀O,bJ w.heap.size w (w.alloc O):=λO=>(aY _ w).alloc zl O;have ci:Hid _:=dk;clear hv ag am hn dk
 cases hob:eZ e.win e.mark t with
 |true=>
  rw[hob,if_pos rfl] at ap;rw[hob] at b5;rw[ap.o];clear hob;go_enter Tryz.func44,Tryz.ntmps44
  go_wp2_with (go_at_call 81;refine (b5.o _ (ci.o _)).mono ?_;rintro e' w' ⟨rfl,ao⟩;subst ao)
  go_ret;exact⟨rfl,Qm.same HE.o (ci.o _).drew⟩
 |false=>
  rw[hob,if_neg (by decide)] at ap;rw[hob] at b5;clear hob;go_enter Tryz.func44,Tryz.ntmps44
  go_wp2_with (go_at_call 81;refine (b5.o _ (ci.o _)).mono ?_;rintro e' w' ⟨rfl,ao⟩;subst ao)
  have dm:Hid (bJ w.heap.size w (w.alloc (aN #[aI a.rel,aH ta (aB a.args) tc] 92)).drew):=(ci.o _).drew
  have cy:Hid (∀W,bJ (w.alloc (aN #[aI a.rel,aH ta (aB a.args) tc] 92)).drew.heap.size (w.alloc (aN #[aI a.rel,aH ta (aB a.args) tc] 92)).drew W->bJ w.heap.size w W/\aC W (Ad N 0)=aV (aI a.rel)/\aC W (Ad N 1)=aV (aH ta (aB a.args) tc)/\N+1<=W.heap.size):=λW A=>by
   have E:=(A.block w.heap.size (by show _<(w.alloc _).heap.size;simp)).trans (zn w _);rw[hN] at E;have G:(w.alloc (aN #[aI a.rel,aH ta (aB a.args) tc] 92)).drew.heap.size=w.heap.size+1:=by show (w.alloc _).heap.size=_;simp
   have h3:=A.size;exact⟨dm.o.trans (A.mono (by omega)),zc E,zc E,by omega⟩
  generalize (w.alloc (aN #[aI a.rel,aH ta (aB a.args) tc] 92)).drew=WD at *;refine (cl.o WD dm.o).mono ?_;rintro e' W1 ⟨rfl,ae⟩;have⟨cn,c0,c1,es⟩:=cy.o W1 ae;have⟨c5,y5,c6,y6⟩:=ah.o W1 cn;obtain⟨C,cp⟩:∃C,qb Qs a=C:=⟨_,rfl⟩;rw[cp] at bc ap;simp only[cp];obtain⟨W2,c7⟩:∃W2,W1.alloc (aN #[aI C.rel,aI C.x,aI C.y,aM aP t] 161)=W2:=⟨_,rfl⟩;have af:bJ W1.heap.size W1 W2:=by rw[<-c7];exact (aY _ W1).alloc zl _
  have dp:bJ w.heap.size w W2:=cn.trans (af.mono cn.size);have di:W2.heap.size=W1.heap.size+1:=by rw[<-c7];simp
  obtain⟨M,dr⟩:∃M,W1.heap.size=M:=⟨_,rfl⟩
  have aq:Hid (∀W,bJ W2.heap.size W2 W->bJ w.heap.size w W/\aC W (Ad N 0)=aV (aI a.rel)/\aC W (Ad N 1)=aV (aH ta (aB a.args) tc)/\aC W (Ad M 0)=aV (aI C.rel)/\aC W (Ad M 1)=aV (aI C.x)/\aC W (Ad M 2)=aV (aI C.y)/\aC W (Ad M 3)=aV (aM aP t)):=λW A=>by
   have E:W.heap[M]?=cC #[aI C.rel,aI C.x,aI C.y,aM aP t] 161:=by refine (A.block M (by omega)).trans ?_;rw[<-c7,<-dr];exact zn W1 _
   have G:bJ W1.heap.size W1 W:=af.trans (A.mono (by omega));have h3:=cy.o W (ae.trans (G.mono ae.size));exact⟨h3.1,h3.2.1,h3.2.2.1,zc E,zc E,zc E,zc E⟩
  have⟨_,d0,d1,q0,q1,q2,q3⟩:=aq.o W2 zr;have⟨k5,z5,k6,z6⟩:=ah.o W2 dp;have ay:Hid (bJ w.heap.size w W2.drew):=dp.drew;have d7:Hid _:=dr;have ek:Hid _:=di;have HN:Hid _:=hN;clear di af ae cy c0 c1 c5 y5 c6 y6 cl b5 cp
  cases hhd:lg e.kept (C,t) with
  |true=>
   rw[hhd,if_pos rfl] at ap;rw[hhd] at bc;clear hhd;go_wp2_with fail
   first|(go_region_with (go_at_call 82;refine (bc.o _ ay.o).mono ?_;rintro e' W3 ⟨rfl,aa⟩))|fail
   all_goals go_wp2
   all_goals go_ret
   all_goals (rw[ap.o];exact⟨rfl,Qm.same HE.o (ay.o.trans (aa.mono ay.o.size))⟩)
  |false=>
   rw[hhd,if_neg (by decide)] at ap;rw[hhd] at bc;clear hhd;have cq:Hid (∀W3,bJ W2.drew.heap.size W2.drew W3->bJ w.heap.size w W3/\aC W3 (Ad N 1)=aV (aH ta (aB a.args) tc)/\aC W3 (Ad z 5)=aV (aH na (aB e.names) nc)/\aD W3 (Ad z 5)=false/\Hid (bJ w.heap.size w W3.drew)):=λW3 aa=>by have a7:bJ W2.heap.size W2 W3:=⟨aa.os,aa.tape,aa.output,aa.size,aa.block⟩;have E:=aq.o W3 a7;have G:=ah.o W3 E.1;exact⟨E.1,E.2.2.1,G.1,G.2.1,E.1.drew⟩
   have c8:Hid (∀W3,bJ W2.drew.heap.size W2.drew W3->∀W4,bJ W3.drew.heap.size W3.drew W4->aC W4 (Ad N 1)=aV (aH ta (aB a.args) tc)/\bJ w.heap.size w W4/\W3.drew.heap.size<=W4.heap.size/\w.heap.size<=W3.drew.heap.size):=λW3 aa W4 A=>by have a7:bJ W2.heap.size W2 W3:=⟨aa.os,aa.tape,aa.output,aa.size,aa.block⟩;have E:bJ W2.heap.size W2 W4:=a7.trans ⟨A.os,A.tape,A.output,A.size,λk hk=>A.block k (by have:=a7.size;show k<W3.heap.size;omega)⟩;have G:=aq.o W4 E;exact⟨G.2.2.1,G.1,A.size,(aq.o W3 a7).1.size⟩
   have bh:z≠M:=by have:=cn.size;have:=d7.o;omega
   have dd:Hid (∀W3,bJ W2.drew.heap.size W2.drew W3->∀W4 W5,bJ W3.drew.heap.size W3.drew W4->bJ W3.drew.heap.size W4 W5->bJ w.heap.size w W5/\aC W5 (Ad z 5)=aV (aH na (aB e.names) nc)/\aD W5 (Ad z 5)=false/\aC W5 (Ad z 6)=aV (aH ka (aB e.kept) kc)/\aD W5 (Ad z 6)=false/\(∀v,aC (W5.setCell (Ad z 5) v) (Ad z 6)=aV (aH ka (aB e.kept) kc))/\(∀v,aC (W5.setCell (Ad z 5) v) (Ad M 0)=aV (aI C.rel))/\(∀v,aC (W5.setCell (Ad z 5) v) (Ad M 1)=aV (aI C.x))/\(∀v,aC (W5.setCell (Ad z 5) v) (Ad M 2)=aV (aI C.y))/\(∀v,aC (W5.setCell (Ad z 5) v) (Ad M 3)=aV (aM aP t))):=λW3 aa W4 W5 E G=>by
    have a7:bJ W2.heap.size W2 W3:=⟨aa.os,aa.tape,aa.output,aa.size,aa.block⟩;have h3:=E.trans G;have h4:=aq.o W5 (a7.trans ⟨h3.os,h3.tape,h3.output,h3.size,λk hk=>h3.block k (by have:=a7.size;show k<W3.heap.size;omega)⟩);have h5:=ah.o W5 h4.1;have h6:=aj.o W5 h4.1;have h7:∀v,aC (W5.setCell (Ad z 5) v) (Ad z 6)=aV (aH ka (aB e.kept) kc):=λv=>by have:=qw h6 5 v;simp[aC,this]
    exact⟨h4.1,h5.1,h5.2.1,h5.2.2.1,h5.2.2.2,h7,λv=>(Qv _ _ _ _ _ _ (Ne.symm bh)).trans h4.2.2.2.1,λv=>(Qv _ _ _ _ _ _ (Ne.symm bh)).trans h4.2.2.2.2.1,λv=>(Qv _ _ _ _ _ _ (Ne.symm bh)).trans h4.2.2.2.2.2.1,λv=>(Qv _ _ _ _ _ _ (Ne.symm bh)).trans h4.2.2.2.2.2.2⟩
   by_cases hf:aB e.kept=24\/8<aB (dG e.names a.args)
   .rw[if_pos hf] at ap;by_cases du:aB e.kept=24
    .have i2:((aB e.kept:Int) == 24)=true:=by simp[du]
     clear hf du;go_wp2_with fail
     first|(go_region_with (go_at_call 82;refine (bc.o _ ay.o).mono ?_;rintro e' W3 ⟨rfl,aa⟩))|fail
     all_goals go_wp2_with fail
     all_goals (
      have⟨b3,r1,m5,x5,cc⟩:=cq.o W3 aa;have a8:Hid _:=c8.o W3 aa;have bv:Hid _:=dd.o W3 aa;clear aa
      first|(go_region_with (first|(go_at_call 83;refine (dg.o _ cc.o).mono ?_;rintro e' W4 ⟨Z,oc,rfl,cd,an⟩;have⟨s1,bu,ce,bj⟩:=a8.o W4 an)|(go_at_call 84;refine (ca.o _).mono ?_;rintro e' w' ⟨rfl,ao⟩;subst ao)|(go_at_call 76;refine (c2.o W4 W3.drew.heap.size Z oc bu ce bj cd).mono ?_;rintro e' W5 ⟨pa,pc,rfl,cg,aw⟩;have⟨bb,f5,y5,f6,y6,g6,g0,g1,g2,g3⟩:=bv.o W4 W5 an aw;clear a8)))|fail)
     all_goals go_wp2
     all_goals go_ret
     all_goals (rw[ap.o];exact⟨rfl,Qm.same HE.o bb⟩)
    .have i1:¬(aB e.kept:Int)=24:=by omega
     have i2:((aB e.kept:Int) == 24)=false:=by simp[i1]
     have i3:(8:Int)<(aB (dG e.names a.args):Int):=by omega
     clear hf;go_wp2_with fail
     first|(go_region_with (go_at_call 82;refine (bc.o _ ay.o).mono ?_;rintro e' W3 ⟨rfl,aa⟩))|fail
     all_goals go_wp2_with fail
     all_goals (
      have⟨b3,r1,m5,x5,cc⟩:=cq.o W3 aa;have a8:Hid _:=c8.o W3 aa;have bv:Hid _:=dd.o W3 aa;clear aa
      first|(go_region_with (first|(go_at_call 83;refine (dg.o _ cc.o).mono ?_;rintro e' W4 ⟨Z,oc,rfl,cd,an⟩;have⟨s1,bu,ce,bj⟩:=a8.o W4 an)|(go_at_call 84;refine (ca.o _).mono ?_;rintro e' w' ⟨rfl,ao⟩;subst ao)|(go_at_call 76;refine (c2.o W4 W3.drew.heap.size Z oc bu ce bj cd).mono ?_;rintro e' W5 ⟨pa,pc,rfl,cg,aw⟩;have⟨bb,f5,y5,f6,y6,g6,g0,g1,g2,g3⟩:=bv.o W4 W5 an aw;clear a8)))|fail)
     all_goals go_wp2
     all_goals go_ret
     all_goals (rw[ap.o];exact⟨rfl,Qm.same HE.o bb⟩)
   .rw[if_neg hf] at ap;have i1:¬(aB e.kept:Int)=24:=by omega
    have i2:((aB e.kept:Int) == 24)=false:=by simp[i1]
    have i3:¬(8:Int)<(aB (dG e.names a.args):Int):=by omega
    clear hf;have⟨j0,hi,cu,dc,da⟩:=info_parts EV;have b9:aB e.kept+1<=maxLen:=by unfold maxLen;omega
    have cr:(aB e.kept+1)*56<=140737488355328:=by omega
    have dx:Hid (∀W5,bJ w.heap.size w W5->∀v,aE (W5.setCell (Ad z 5) v).drew 0 161 4 (aH ka (aB e.kept) kc) (aB e.kept) (e.kept.flatMap qx)):=λW5 A v=>by have h5:=hV.o.below A;have:=Qk h5.kept ⟨z,5,aW⟩ v (Qe h5.kept h5.blk (by decide));exact⟨this.1,this.2⟩
    have Qed:Hid (∀W5,bJ w.heap.size w W5->∀v,z<(W5.setCell (Ad z 5) v).drew.heap.size):=λW5 A v=>by have:=A.size;show z<(W5.setCell (Ad z 5) v).heap.size;simp;omega
    have cx:Hid (∀W5 nb (pa:Option Addr) (pc:Nat),w.heap.size<=nb->bJ w.heap.size w W5->aE W5 nb 9 1 (aH pa (aB (dG e.names a.args)) pc) (aB (dG e.names a.args)) ((dG e.names a.args).map aI)->∀(O:Obj) (w1:Wq) (v':Vq),aE w1 0 161 4 v' (aB e.kept+1) (e.kept.flatMap qx++[aI C.rel,aI C.x,aI C.y,aM aP t])->((W5.setCell (Ad z 5) (aH pa (aB (dG e.names a.args)) pc)).drew.alloc O).grownBy w1 (aF (aH ka (aB e.kept) kc))->(aF v'=aF (aH ka (aB e.kept) kc)\/aF v'=aV ((W5.setCell (Ad z 5) (aH pa (aB (dG e.names a.args)) pc)).drew.alloc O).heap.size)->aC w1 (Ad z 6)=aV (aH ka (aB e.kept) kc)/\aD w1 (Ad z 6)=false/\Qm S z {e with names:=dG e.names a.args,kept:=e.kept++[(C,t)]} w (w1.setCell (Ad z 6) v')):=λW5 nb pa pc d9 A ho O w1 v' E G h3=>E8 hV.o A (d:=(C,t)) d9 ho O E ⟨G.os,G.tape,G.output,G.size,G.block⟩ h3;go_wp2_with fail
    first|(go_region_with (go_at_call 82;refine (bc.o _ ay.o).mono ?_;rintro e' W3 ⟨rfl,aa⟩))|fail
    all_goals go_wp2_with fail
    all_goals (
     have⟨b3,r1,m5,x5,cc⟩:=cq.o W3 aa;have a8:Hid _:=c8.o W3 aa;have bv:Hid _:=dd.o W3 aa;clear aa
     first|(go_region_with (first|(go_at_call 83;refine (dg.o _ cc.o).mono ?_;rintro e' W4 ⟨Z,oc,rfl,cd,an⟩;have⟨s1,bu,ce,bj⟩:=a8.o W4 an)|(go_at_call 84;refine (ca.o _).mono ?_;rintro e' w' ⟨rfl,ao⟩;subst ao)|(go_at_call 76;refine (c2.o W4 W3.drew.heap.size Z oc bu ce bj cd).mono ?_;rintro e' W5 ⟨pa,pc,rfl,cg,aw⟩;have⟨bb,f5,y5,f6,y6,g6,g0,g1,g2,g3⟩:=bv.o W4 W5 an aw;clear a8)))|fail)
    all_goals go_wp2_with fail
    all_goals (
     have eb:aE (W5.setCell (Ad z 5) (aH pa (aB (dG e.names a.args)) pc)).drew 0 161 4 (aH ka (aB e.kept) kc) (aB e.kept) (e.kept.flatMap qx):=dx.o W5 bb _;have Qf:Hid _:=cx.o W5 _ pa pc bj bb cg;have ej:z<(W5.setCell (Ad z 5) (aH pa (aB (dG e.names a.args)) pc)).drew.heap.size:=Qed.o W5 bb _;have v0:aC (W5.setCell (Ad z 5) (aH pa (aB (dG e.names a.args)) pc)).drew (Ad M 0)=aV (aI C.rel):=g0 _;have v1:aC (W5.setCell (Ad z 5) (aH pa (aB (dG e.names a.args)) pc)).drew (Ad M 1)=aV (aI C.x):=g1 _;have v2:aC (W5.setCell (Ad z 5) (aH pa (aB (dG e.names a.args)) pc)).drew (Ad M 2)=aV (aI C.y):=g2 _;have v3:aC (W5.setCell (Ad z 5) (aH pa (aB (dG e.names a.args)) pc)).drew (Ad M 3)=aV (aM aP t):=g3 _;have v6:aC (W5.setCell (Ad z 5) (aH pa (aB (dG e.names a.args)) pc)).drew (Ad z 6)=aV (aH ka (aB e.kept) kc):=g6 _;clear g0 g1 g2 g3 g6 f5 y5 f6 y6 cg aw bv;generalize hV5:(W5.setCell (Ad z 5) (aH pa (aB (dG e.names a.args)) pc)).drew=V5 at *;have eu:∀O,aC (V5.alloc O) (Ad z 6)=aV (aH ka (aB e.kept) kc):=λO=>cell_later ((aY V5.heap.size V5).alloc zl O) v6
     go_region_law (first|(refine tV rfl (.tmp 50) (.tmp 52) 96 rfl 0 161 j0 (aJ #[aI ⟨#[]⟩,aI ⟨#[]⟩,aI ⟨#[]⟩,aM aP 0]) 4 56 Tryz.underlying96 hi cu dc da rfl (by decide) (aH ka (aB e.kept) kc) (aB e.kept) (e.kept.flatMap qx) (by simp[Act.eval,Act.put]) (aE.alloc eb _) ⟨V5.heap.size,0,aW⟩ 1 1 [aI C.rel,aI C.x,aI C.y,aM aP t] (by simp[Act.eval,Act.put]) rfl (mF _ _ _ _ _ _) (by simp[bH]) b9 cr zz ?_;intro v' w1 ai al a9;have⟨g',cw,a6⟩:=ownsRow_succ ai;subst a6;have⟨s6,t6,b7⟩:=Qf.o _ w1 _ ai al a9)|go_simp))
    all_goals (
     go_wp2;go_ret;rw[ap.o]
     exact⟨rfl,b7⟩)
theorem Jw:(Tryz.prog.info? 120).map (λi=>(i.zero,i.size,i.bytes))=aV (aV (.pointer aW),1,8):=by kernel_rfl
theorem GA(S:Nat->Prop)(d:Nat)(e:Eg)(s:ByteArray)(w:Wq)(h:gN w S d e)(G:dV e)(hs:s.size<=4611686018427387904)(hT:Lib.Utf8Tabs 0 1 w):Cs 26 #[Pt d,aI s] w λen w'=>en=aO (aL #[aM aP (iF e s).1,aM aP (iF e s).2.1])/\Qm S d (iF e s).2.2 w w':=by
 have bf:Hid _:=JR s w hs hT;have HE:Hid (gN w S d e):=h;by_cases hn:jT s=false
 .have hu:Hid (iF e s=(0,2,e)):=by show _=_;unfold iF;rw[if_pos hn]
  rw[hn] at bf;have bq:Hid (Cs 52 #[aI s] w λe w'=>e=aO (aL #[aI ⟨#[]⟩,aK false])/\bJ w.heap.size w w'):=bf.o;clear bf hn h G;rw[hu.o];go_enter Tryz.func26,Tryz.ntmps26
  go_wp2_with (go_at_call 52;refine aX bq.o ?_;rintro e' W1 ⟨rfl,ae⟩)
  go_ret2;exact⟨rfl,Qm.same HE.o ae⟩
 have b6:jT s=true:=by simpa using hn
 rw[b6] at bf;have bq:Hid (Cs 52 #[aI s] w λe w'=>e=aO (aL #[aI s,aK true])/\bJ w.heap.size w w'):=bf.o;have HN:Hid (jT s=true):=b6;clear bf hn b6;have⟨vr,vn,vk,vf,bm,rb,bi,bn,ac,Sf,hv⟩:=h;have dv:=hv.lt;have⟨ra,rc,c9⟩:=hv.rules.form;subst c9;have⟨fa,fc,c4⟩:=qq hv.frow;subst c4;have ax:Hid (aB ac=aB e.fds):=hv.len;have b0:Hid (∀W,bJ w.heap.size w W->Cs 53 #[aH ra (aB e.rs) rc,aI s] W λe' w'=>e'=aO (aM aP (dH e.rs s))/\bJ W.heap.size W w'):=λW C=>by have a6:=hv.below C;exact AK _ e.rs s rb bi bn _ a6.rules (sy a6.rules) G.rs.r8 G.rs.rok
 have aj:Hid (∀W,bJ w.heap.size w W->W.heap[d]?=cC #[aH ra (aB e.rs) rc,aM aP e.win,aM aP e.lat,aM aP e.que,aM aP e.mark,vn,vk,.map (aV bm),aH fa (aB ac) fc] 101):=λW C=>(hv.below C).blk;have M:Hid (∀W,bJ w.heap.size w W->aC W (Ad d 0)=aV (aH ra (aB e.rs) rc)/\aC W (Ad d 8)=aV (aH fa (aB ac) fc)/\aD W (Ad d 8)=false):=λW C=>by have:=aj.o W C;refine⟨zc this,zc this,by simp[aD,this]⟩
 have dj:aB ac<=3:=by rw[ax.o];exact G.f3
 have hV:Hid (fR w S d e (aH ra (aB e.rs) rc) vn vk (aH fa (aB ac) fc) bm rb bi bn ac Sf):=hv;have ei:Hid (dV e):=G;by_cases h0:dH e.rs s=0
 .have hu:Hid (iF e s=(0,7,e)):=by show _=_;unfold iF;rw[HN.o,if_neg (by decide),if_pos h0]
  rw[h0] at b0;rw[hu.o];clear hv h0 G;go_enter Tryz.func26,Tryz.ntmps26
  go_wp2_with (first|(go_at_call 52;refine aX bq.o ?_;rintro e' W1 ⟨rfl,ae⟩;have⟨q0,q8,y8⟩:=M.o W1 ae)|(go_at_call 53;refine aX (b0.o W1 ae) ?_;rintro e' W2 ⟨rfl,af⟩;have aa:bJ w.heap.size w W2:=ae.trans (af.mono ae.size)))
  go_ret2;exact⟨rfl,Qm.same HE.o aa⟩
 have ef:((dH e.rs s:Int) == 0)=false:=by simp[h0]
 have Qgb:¬(dH e.rs s:Int)=0:=by omega
 by_cases h3:aB e.fds=3
 .have hu:Hid (iF e s=(0,10,e)):=by show _=_;unfold iF;rw[HN.o,if_neg (by decide),if_neg h0,if_pos h3]
  have db:Hid (aB ac=3):=ax.o.trans h3;rw[db.o] at M;rw[hu.o];clear hv G hV aj;go_enter Tryz.func26,Tryz.ntmps26
  go_wp2_with (first|(go_at_call 52;refine aX bq.o ?_;rintro e' W1 ⟨rfl,ae⟩;have⟨q0,q8,y8⟩:=M.o W1 ae)|(go_at_call 53;refine aX (b0.o W1 ae) ?_;rintro e' W2 ⟨rfl,af⟩;have aa:bJ w.heap.size w W2:=ae.trans (af.mono ae.size);have⟨p0,p8,z8⟩:=M.o W2 aa))
  go_ret2;exact⟨rfl,Qm.same HE.o aa⟩
 have hu:Hid (iF e s=((aB e.fds:Int),0,{e with fds:=e.fds++[⟨fP s (dH e.rs s),true,[],[],0⟩]})):=by show _=_;unfold iF;rw[HN.o,if_neg (by decide),if_neg h0,if_neg h3]
 have db:¬(aB ac:Int)=3:=by rw[ax.o];omega
 have Qjr:((aB ac:Int) == 3)=false:=by simpa using db
 rw[hu.o];have eh:Hid (dH e.rs s<=2):=by show _<=_;rcases og G.rs s with x|x|x<;>omega
 have bk:Hid (∀W,Cs 55 #[aI s,aM aP (dH e.rs s)] W λe' w'=>∃(z:Option Addr) (A:Nat),e'=aO (aJ #[aI s,aH z (aB (fP s (dH e.rs s)).args) A])/\Qh w' w'.heap.size (aH z (aB (fP s (dH e.rs s)).args) A) (fP s (dH e.rs s)).args/\bJ W.heap.size W w'):=λW=>by refine (IY s _ eh.o W).mono ?_;rintro e' w' ⟨va,E,h2,h3⟩;have⟨z,A,b8⟩:=h2.form;subst b8;exact⟨z,A,E,h2,h3⟩
 have⟨i0,hi,cu,dc,da⟩:=info_parts Jw;have b9:aB ac+1<=maxLen:=by unfold maxLen;omega
 have cr:(aB ac+1)*8<=140737488355328:=by omega
 clear hv G;go_enter Tryz.func26,Tryz.ntmps26
 go_wp2_with (first|(go_at_call 52;refine aX bq.o ?_;rintro e' W1 ⟨rfl,ae⟩;have⟨q0,q8,y8⟩:=M.o W1 ae)|(go_at_call 53;refine aX (b0.o W1 ae) ?_;rintro e' W2 ⟨rfl,af⟩;have aa:bJ w.heap.size w W2:=ae.trans (af.mono ae.size);have⟨p0,p8,z8⟩:=M.o W2 aa))
 have ay:Hid (bJ w.heap.size w W2.drew):=aa.drew;have ed:Hid (∀W (z:Option Addr) (xn A:Nat),Cs 54 #[aJ #[aI s,aH z xn A]] W λe' w'=>∃B,e'=aO (Pt B)/\W.heap.size<=B/\w'.heap[B]?=cC #[aI s,aH z xn A,aK true,aH aW 0 0,aH aW 0 0,aM aP 0] 198/\bJ W.heap.size W w'):=λW z xn A=>Fd s _ z xn A rfl W;have Qj0:Hid (∀W3,bJ W2.drew.heap.size W2.drew W3->bJ w.heap.size w W3/\aC W3 (Ad d 8)=aV (aH fa (aB ac) fc)):=λW3 C=>by have E:bJ w.heap.size w W3:=ay.o.trans (C.mono ay.o.size);exact⟨E,(M.o W3 E).2.1⟩
 have Qj1:Hid (∀W3 W4,bJ w.heap.size w W3->bJ W3.heap.size W3 W4->bJ w.heap.size w W4/\aC W4 (Ad d 8)=aV (aH fa (aB ac) fc)/\(∀O,aC (W4.alloc O) (Ad d 8)=aV (aH fa (aB ac) fc))/\aE W4 0 120 1 (aH fa (aB ac) fc) (aB ac) (ac.map lD)):=λW3 W4 E C=>by have h2:bJ w.heap.size w W4:=E.trans (C.mono E.size);refine⟨h2,(M.o W4 h2).2.1,λO=>(M.o _ (h2.alloc h2.size O)).2.1,(hV.o.below h2).frow⟩
 have cx:Hid (∀W3 W4 (z:Option Addr) (A B:Nat),bJ w.heap.size w W3->bJ W3.heap.size W3 W4->Qh W3 W3.heap.size (aH z (aB (fP s (dH e.rs s)).args) A) (fP s (dH e.rs s)).args->W3.heap.size<=B->W4.heap[B]?=cC #[aI s,aH z (aB (fP s (dH e.rs s)).args) A,aK true,aH aW 0 0,aH aW 0 0,aM aP 0] 198->∀(O:Obj) (w1:Wq) (Z:Vq),aE w1 0 120 1 Z (aB ac+1) (ac.map lD++[Pt B])->(W4.alloc O).grownBy w1 (aF (aH fa (aB ac) fc))->(aF Z=aF (aH fa (aB ac) fc)\/aF Z=aV (W4.alloc O).heap.size)->aC w1 (Ad d 8)=aV (aH fa (aB ac) fc)/\aD w1 (Ad d 8)=false/\Qm S d {e with fds:=e.fds++[⟨fP s (dH e.rs s),true,[],[],0⟩]} w (w1.setCell (Ad d 8) Z)):=λW3 W4 z A B E C am hB cz O w1 Z k1 k2 k3=>Hn (a:=fP s (dH e.rs s)) (bt:=W3.heap.size) hV.o (E.trans (C.mono E.size)) (by have:=E.size;omega) cz (am.rk (qf.ofBelow C)) O k1 k2 k3;have em:Hid (aB (fP s (dH e.rs s)).args=dH e.rs s):=ry _ _;clear p0 q0 q8 y8 z8 b0 bq h0 ef Qgb Qjr ae af dj;generalize (aB (fP s (dH e.rs s)).args)=fl at *;refine wp_mono (Q:=λen a' W'=>match en with|Exit.normal=>(Qm S d {e with fds:=e.fds++[⟨fP s (dH e.rs s),true,[],[],0⟩]} w W'/\∃(z:Option Addr) (A B n4:Nat) (Z:Vq),a'={tmps:=#[Pt d,aI s,undef,undef,aM aP 0,aM aP 0,aI s,aK true,aM aP (dH e.rs s),aM aP (aB ac),aL #[aI s,aK true],aI s,aL #[aI s,aK true],aI s,aK true,aK true,aK false,Pt d,Pt d,Pt d,aH ra (aB e.rs) rc,aI s,aM aP (dH e.rs s),aM aP (dH e.rs s),aK false,Pt d,Pt d,.pointer (aV ⟨d,8,aW⟩),aH fa (aB ac) fc,aM aP (aB ac),aM aP (aB ac),aK false,Pt d,Pt d,Pt d,.pointer (aV ⟨d,8,aW⟩),aH fa (aB ac) fc,aI s,aM aP (dH e.rs s),aJ #[aI s,aH z fl A],Pt B,Sc n4 1 1,Z,Pt d,.pointer (aV ⟨d,8,aW⟩),undef],defers:=[]})|_=>False) ?reg ?rest
 case reg=>
  go_region_law (first|(refine tV rfl (.tmp 36) (.tmp 41) 99 rfl 0 120 i0 (.pointer aW) 1 8 Tryz.underlying99 hi cu dc da rfl (by decide) (aH fa (aB ac) fc) (aB ac) (ac.map lD) (by simp[Act.eval,Act.put]) (aE.alloc Qic _) ⟨W4.heap.size,0,aW⟩ 1 1 [Pt B] (by simp[Act.eval,Act.put]) rfl (cell_one_new _ _ _) (by simp[bH]) b9 cr zz ?_;intro Z w1 ai al a9;have⟨g',cw,a6⟩:=ownsRow_succ ai;subst a6;have⟨s8,t8,b7⟩:=cx.o W3 W4 z A B b3 an am hB cz _ w1 _ ai al a9)|(go_simp;go_wp2_with (first|(go_at_call 55;refine (bk.o _).mono ?_;rintro e' W3 ⟨z,A,rfl,am,an⟩;have⟨b3,s8⟩:=Qj0.o W3 an;clear an)|(go_at_call 54;refine (ed.o W3 z _ A).mono ?_;rintro e' W4 ⟨B,rfl,hB,cz,an⟩;have⟨bu,t8,u8,Qic⟩:=Qj1.o W3 W4 b3 an))))
  all_goals exact⟨b7,_,_,_,_,_,rfl⟩
 case rest=>
  rintro (_|_|_|_|_|_) a' W' hq
  all_goals first|exact hq.elim|skip
  obtain⟨b7,z,A,B,n4,Z,rfl⟩:=hq;go_wp2;go_ret2;refine⟨?_,b7⟩;rw[ax.o];rfl
theorem Qm.after{w w1 w2:Wq}{S:Nat->Prop}{z:Nat}(d:bJ w.heap.size w w1)(h:Qm S z e w1 w2):Qm S z e w w2:=by have⟨S',h1,h2,h3⟩:=h;refine⟨S',h1,λk C=>(h2 k C).imp id (λh=>bE d.size h),h3.os.trans d.os,h3.tape.trans d.tape,h3.output.trans d.output,bE d.size h3.size,λj A hs=>(h3.block j (Nat.lt_of_lt_of_le A d.size) hs).trans (d.block j A)⟩
theorem EO(S:Nat->Prop)(z:Nat)(e:Eg)(s:ByteArray)(t:Int)(w:Wq)(h:gN w S z e)(ag:dV e)(hs:s.size<=4611686018427387904)(hT:Lib.Utf8Tabs 0 1 w)(hn:∀a,iX s=aV a->∀t∈a.args,t.num<6):Cs 20 #[Pt z,aI s,aM aP t] w λen w'=>en=aO (aM aP (iM e s t).1)/\Qm S z (iM e s t).2 w w':=by
 have Z:=CN s w hs hT;unfold tG at Z;have G:=aA h
 cases ha:iX s with
 |none=>
  rw[ha] at Z;have d:Hid (iM e s t=(2,e)):=by{show _=_;unfold iM;rw[ha]};have HR:=aA Z;clear Z ha h ag;rw[d.o];go_enter Tryz.func20,Tryz.ntmps20
  go_wp2_with (go_at_call 40;refine aX HR.o ?_;rintro e' W1 ⟨ae,rfl⟩)
  go_ret;exact⟨rfl,Qm.same G.o (ae.alloc ae.size _)⟩
 |some a=>
  rw[ha] at Z;have b6:=hn a ha;have d:Hid (iM e s t=if iG a=false then (2,e) else if lu e.rs a.rel=true then (7,e) else if iH e.rs a≠0 then (iH e.rs a,e) else if ¬(0<=t/\t<=1000000) then (6,e) else lK e a t):=by{show _=_;unfold iM;rw[ha]};obtain⟨gb,df⟩:∃gb,iG a=gb:=⟨_,rfl⟩;have HR:Hid (Cs 40 #[aI s] w λe' w'=>bJ w.heap.size w w'/\∃va,e'=aO (aL #[aJ #[aI a.rel,va],aK gb])/\kC a/\Qh w' w'.heap.size va a.args):=by{show Calls _ _ _ _ _;rw[<-df];exact Z};rw[df] at d;have⟨vr,vn,vk,vf,bm,rb,bi,bn,ac,Sf,hv⟩:=h;have⟨ra,rc,c9⟩:=hv.rules.form;subst c9;have dv:=hv.lt;have aj:Hid (∀W,bJ w.heap.size w W->aC W (Ad z 0)=aV (aH ra (aB e.rs) rc)):=λW C=>by{have:=(hv.below C).blk;simp[aC,this]};have cj:Hid (∀W,bJ w.heap.size w W->Cs 41 #[aH ra (aB e.rs) rc,aI a.rel] W λe' w'=>e'=aO (aK (lu e.rs a.rel))/\bJ W.heap.size W w'):=λW C=>by{have a6:=hv.below C;exact Ed _ e.rs a.rel rb bi bn _ a6.rules (sy a6.rules) ag.rs.r8};have ch:Hid (∀W,Cs 43 #[aM aP t,aM aP 0,aM aP 1000000] W λe' w'=>e'=aO (aK (decide (0<=t) && decide (t<=1000000)))/\W=w'):=λW=>by{refine (qI t 0 1000000 W).mono ?_;rintro e' w' ⟨h1,h2⟩;exact⟨h1,h2.symm⟩};have dl:=aA ag;clear Z ha hv ag hT hn;clear df
  cases gb with
  |false=>
   rw[if_pos rfl] at d;rw[d.o];clear d;go_enter Tryz.func20,Tryz.ntmps20
   go_wp2_with (go_at_call 40;refine aX HR.o ?_;rintro e' W1 ⟨ae,va,rfl,au,O⟩;have⟨xa,xc,b8⟩:=O.form;subst b8;have el:=aA au;have et:=aA O;clear au O)
   go_ret;exact⟨rfl,Qm.same G.o (ae.alloc ae.size _)⟩
  |true=>
   rw[if_neg (by decide)] at d;go_enter Tryz.func20,Tryz.ntmps20;go_wp2_with fail;refine aX HR.o ?_;rintro e' W1 ⟨ae,va,rfl,au,O⟩;have⟨xa,xc,b8⟩:=O.form;subst b8;have M:Hid (∀W,bJ w.heap.size w W->Cs 42 #[Pt z,aJ #[aI a.rel,aH xa (aB a.args) xc]] W λen w'=>en=aO (aM aP (iH e.rs a))/\bJ W.heap.size W w'):=λW C=>Fx S z e W (G.o.below C) dl.o.rs a _ _ _ rfl au.args;have d2:Hid (∀W,bJ w.heap.size w W->bJ W1.heap.size W1 W->0<=t/\t<=1000000->Cs 44 #[Pt z,aJ #[aI a.rel,aH xa (aB a.args) xc],aM aP t] W λen w'=>en=aO (aM aP (lK e a t).1)/\Qm S z (lK e a t).2 w w'):=λW C b9 E=>by{refine (Jh S z e a xa xc W1.heap.size t W (G.o.below C) dl.o au (O.rk (qf.ofBelow b9)) b6 E).mono ?_;rintro en w' ⟨h1,h2⟩;exact⟨h1,Qm.after C h2⟩};have ep:w.heap.size<=W1.heap.size:=ae.size;have cv:Hid (bJ w.heap.size w (W1.alloc (aN #[aI a.rel,aH xa (aB a.args) xc] 92))/\bJ W1.heap.size W1 (W1.alloc (aN #[aI a.rel,aH xa (aB a.args) xc] 92))):=⟨ae.alloc ae.size _,(aY _ W1).alloc zl _⟩;have aq:Hid (∀W2,bJ (W1.alloc (aN #[aI a.rel,aH xa (aB a.args) xc] 92)).heap.size (W1.alloc (aN #[aI a.rel,aH xa (aB a.args) xc] 92)) W2->aC W2 (Ad W1.heap.size 0)=aV (aI a.rel)/\aC W2 (Ad W1.heap.size 1)=aV (aH xa (aB a.args) xc)/\bJ w.heap.size w W2/\bJ W1.heap.size W1 W2/\aC W2 (Ad z 0)=aV (aH ra (aB e.rs) rc)):=λW2 C=>by{have h1:=(C.block _ (by simp)).trans (zn W1 _);have h2:=cv.o.1.trans (C.mono (by simp;omega));exact⟨zc h1,zc h1,h2,cv.o.2.trans (C.mono (by simp)),aj.o W2 h2⟩};have⟨r0,r1,r2,r3,r4⟩:=aq.o _ zr;have co:=aA cv.o.1.drew;clear au O
   cases hdb:lu e.rs a.rel with
   |true=>
    rw[hdb,if_pos rfl] at d;rw[hdb] at cj;clear hdb;go_wp2_with fail
    first|(go_region_with (go_at_call 41;refine (cj.o _ co.o).mono ?_;rintro e' W2 ⟨rfl,A⟩))|fail
    all_goals go_wp2
    all_goals go_ret
    all_goals (rw[d.o];exact⟨rfl,Qm.same G.o (co.o.trans (A.mono co.o.size))⟩)
   |false=>
    rw[hdb,if_neg (by decide)] at d;rw[hdb] at cj;clear hdb;go_wp2_with fail;refine wp_mono (Q:=λe' a' w'=>match e' with|Exit.normal=>(bJ (W1.alloc (aN #[aI a.rel,aH xa (aB a.args) xc] 92)).heap.size (W1.alloc (aN #[aI a.rel,aH xa (aB a.args) xc] 92)) w'/\a'={tmps:=#[Pt z,aI s,aM aP t,undef,undef,undef,aM aP 0,Pt W1.heap.size,aK true,undef,aL #[aJ #[aI a.rel,aH xa (aB a.args) xc],aK true],aI s,aL #[aJ #[aI a.rel,aH xa (aB a.args) xc],aK true],aJ #[aI a.rel,aH xa (aB a.args) xc],aK true,aK true,aK false,Pt z,Pt z,Pt z,aH ra (aB e.rs) rc,Pt W1.heap.size,aI a.rel,aK false,undef,undef,undef,undef,undef,undef,undef,undef,undef,undef,undef,undef,undef],defers:=[]})|_=>False) ?reg ?rest
    case reg=>
     first|(go_region_with (go_at_call 41;refine (cj.o _ co.o).mono ?_;rintro e' W2 ⟨rfl,A⟩))|fail
     all_goals exact⟨⟨A.os,A.tape,A.output,A.size,A.block⟩,rfl⟩
    case rest=>
     rintro (_|_|_|_|_|_) a' W2 hq
     all_goals first|exact hq.elim|skip
     obtain⟨A,rfl⟩:=hq;have⟨d0,d1,aa,an,d4⟩:=aq.o W2 A;by_cases b4:iH e.rs a=0
     .have Qkd:Hid (¬iH e.rs a≠0):=λh=>h b4;rw[if_neg Qkd.o] at d;rw[b4] at M;clear b4;go_wp2_with fail;refine (M.o W2 aa).mono ?_;rintro e' W3 ⟨rfl,aw⟩;have dn:bJ (W1.alloc (aN #[aI a.rel,aH xa (aB a.args) xc] 92)).heap.size (W1.alloc (aN #[aI a.rel,aH xa (aB a.args) xc] 92)) W3:=A.trans (aw.mono A.size);have⟨g0,g1,dt,dz,g4⟩:=aq.o W3 dn;clear dn aw A;by_cases E:0<=t/\t<=1000000
      .have cf:(decide (0<=t) && decide (t<=1000000))=true:=by{simp[E.1,E.2]};rw[cf] at ch;rw[if_neg (λh=>h E)] at d;have HT:=aA E;clear E cf
       go_wp2_with (first|(go_at_call 43;refine (ch.o _).mono ?_;rintro e' w' ⟨rfl,ao⟩;subst ao)|(go_at_call 44;refine (d2.o W3 dt dz HT.o).mono ?_;rintro e' W4 ⟨rfl,hp⟩))
       go_ret;rw[d.o];exact⟨rfl,hp⟩
      .have cf:(decide (0<=t) && decide (t<=1000000))=false:=by{rw[Bool.and_eq_false_iff];simp only[decide_eq_false_iff_not];omega};rw[cf] at ch;rw[if_pos E] at d;clear E cf
       go_wp2_with (go_at_call 43;refine (ch.o _).mono ?_;rintro e' w' ⟨rfl,ao⟩;subst ao)
       go_ret;rw[d.o];exact⟨rfl,Qm.same G.o dt⟩
     .rw[if_pos b4] at d;have Ql4:(iH e.rs a == 0)=false:=by{simp[b4]};generalize iH e.rs a=ck at *
      go_wp2_with (go_at_call 42;refine (M.o W2 aa).mono ?_;rintro e' W3 ⟨rfl,aw⟩)
      go_ret;rw[d.o];exact⟨rfl,Qm.same G.o (aa.trans (aw.mono aa.size))⟩
