/- A part -/
import Derived.Test.YtjajnhemgphefaaGreatDoorKMoG
import Derived.Shelf.Slices.In.SortNone
set_option linter.all false
set_option maxRecDepth 100000
set_option maxHeartbeats 4000000
namespace Go.Proofs.YtjajnhemgphefaaGreatDoor
open Go renaming World->Wq,Value->Vq
open Go.RowKit Go.Shelf Go.Maps
attribute [local go_sem] Oper.semAt_some
variable {p:Nms} {a:Am}
theorem q1i(B:Nat)(a:Am)(va:Vq)(w:Wq)(ta:Option Addr)(tn tc:Nat)(bd:va=.slice ta tn tc) :
  Cs 51 #[.map (some B),.agg #[St a.rel,va]] w λe w'=>e=.returned (.func (.func 93) #[] #[.pointer (some ⟨w.heap.size,0,none⟩),.pointer (some ⟨w.heap.size+1,0,none⟩)])/\
   w'=(w.alloc (.cells #[.map (some B)] 98)).alloc (.cells #[St a.rel,va] 92):=by
 subst bd;go_enter Tryz.func51,Tryz.ntmps51;go_wp2;go_ret;exact⟨rfl,rfl⟩
def GdX:={g:Gd // qik g}
def gdX(g:Gd)(h:qik g):GdX:=⟨g,h⟩
theorem q04(hp:∀k,(p.get k).size<=maxLen)(hr:a.rel.size<=maxLen)(ht:∀t∈a.args,t.name.size<=maxLen):qik (qb p a):=by
 have ao:∀t∈a.args,(ofT p t).size<=maxLen:=by
  intro t h;unfold ofT;split
  .exact hp _
  .exact ht t h
 have he:(⟨#[]⟩:By).size<=maxLen:=by show 0<=maxLen;exact zz
 refine⟨hr,?_,?_⟩
 .show (xOf p a.args).size<=maxLen;unfold xOf;split
  .exact he
  .rename_i t l h;exact ao t (by rw[h];simp)
 .show (yOf p a.args).size<=maxLen;unfold yOf;split
  .rename_i t u l h;exact ao u (by rw[h];simp)
  .exact he
structure GdS(g:Gd):Prop where
 rel:g.rel.size<=2000
 x:g.x.size<=2000
 y:g.y.size<=2000
def GdY:={g:Gd // GdS g}
def gdY(g:Gd)(h:GdS g):GdY:=⟨g,h⟩
theorem qtn(hp:∀k,(p.get k).size<=2000)(hr:a.rel.size<=2000)(ht:∀t∈a.args,t.name.size<=2000):GdS (qb p a):=by
 have ao:∀t∈a.args,(ofT p t).size<=2000:=by
  intro t h;unfold ofT;split
  .exact hp _
  .exact ht t h
 have he:(⟨#[]⟩:By).size<=2000:=by show 0<=2000;exact zz
 refine⟨hr,?_,?_⟩
 .show (xOf p a.args).size<=2000;unfold xOf;split
  .exact he
  .rename_i t l h;exact ao t (by rw[h];simp)
 .show (yOf p a.args).size<=2000;unfold yOf;split
  .rename_i t u l h;exact ao u (by rw[h];simp)
  .exact he
theorem q3u(n0:Nat)(Bm Ba B nn az:Nat)(M:Gd->Option Int)(a:Am)(va:Vq)(w:Wq)(hm:w.heap[Bm]?=cC #[.map (some B)] 98)(ha:w.heap[Ba]?=cC #[St a.rel,va] 92)(hM:qd4 w B nn M)(hS:Qi w az va a.args)(a9:a.args.length<=2)(cn:∀t∈a.args,t.num < 6)(hrel:a.rel.size<=2000)(ed:∀t∈a.args,t.name.size<=2000)(dv:∀x y,(M ⟨a.rel,x,y⟩).isSome=true->x.size<=2000/\y.size<=2000)(m:Nat) :
  qey m n0 93 #[.pointer (some ⟨Bm,0,none⟩),.pointer (some ⟨Ba,0,none⟩)] (λg:GdY=>#[g.1.v]) (qn m)
   (λgs=>∃ks:List (By×By),ks.Nodup/\(∀x y,(x,y)∈ks↔(x.size<=maxLen/\y.size<=maxLen/\(M ⟨a.rel,x,y⟩).isSome=true))/\ks.length<=nn/\gs.map (·.1)=(ks.filterMap (λk=>Q3 Qm a k.1 k.2)).map (λp=>qb p a)) (λ_=>True) nn w:=by
 obtain⟨n,hn⟩:∃n,12<=n:=⟨12,Nat.le_refl _⟩;refine qey.any (n:=n) ?_ n0;have n1:1<=n:=by omega
 have n2:1<=n - 1:=by omega
 have n3:1<=n - 1 - 1:=by omega
 intro l J Jx W hW cl hJ a7 hY h0;have be:qn m w W:=qn.ofBelow hW;have b9:=be.cells _ _ _ (by unfold qcc;decide) hm;have ax:=be.cells _ _ _ (by unfold qcc;decide) ha;have di:=hM.mk be;have b7:=hS.mk be;clear hm ha hM hS be hW;obtain⟨fa,fc,bd⟩:=b7.form;subst bd;have bk:∀O,Below W.heap.size W (W.alloc O):=λO=>(Below.refl _ W).alloc zl O;have c0:∀O,(W.alloc O).cell? (Ad Bm 0)=some (.map (some B)):=λO=>cell_later (bk O) (by simp[World.cell?,b9]);have c1:∀O,(W.alloc O).cell? (Ad Ba 0)=some (St a.rel):=λO=>cell_later (bk O) (by simp[World.cell?,ax]);have c2:∀O,(W.alloc O).cell? (Ad Ba 1)=some (.slice fa a.args.length fc):=λO=>cell_later (bk O) (by simp[World.cell?,ax]);have e0:W.cell? (Ad Bm 0)=some (.map (some B)):=zc b9
 have e1:W.cell? (Ad Ba 0)=some (St a.rel):=zc ax
 have e2:W.cell? (Ad Ba 1)=some (.slice fa a.args.length fc):=zc ax
 have bq:Hid (∀W,Cs 94 #[.map (some B),.agg #[St a.rel,.slice fa a.args.length fc],.agg #[St ⟨#[]⟩,St ⟨#[]⟩,St ⟨#[]⟩,St ⟨#[]⟩,St ⟨#[]⟩,St ⟨#[]⟩]] W λe w'=>e=.returned (.func (.func 156) #[] #[.pointer (some ⟨W.heap.size,0,none⟩),.pointer (some ⟨W.heap.size+1,0,none⟩),.pointer (some ⟨W.heap.size+2,0,none⟩)])/\
   w'=((W.alloc (.cells #[.map (some B)] 98)).alloc (.cells #[St a.rel,.slice fa a.args.length fc] 92)).alloc (.cells #[St ⟨#[]⟩,St ⟨#[]⟩,St ⟨#[]⟩,St ⟨#[]⟩,St ⟨#[]⟩,St ⟨#[]⟩] 176)):=λW=>qpc B a _ Qm W _ _ _ rfl
 have HY:Hid _:=hY;have HJ:Hid (OwnFrom W.heap.size J):=hJ;have HJx:Hid (OwnFrom W.heap.size Jx):=a7;have H0:Hid _:=h0;clear hY hJ a7 h0 bk;refine callsIn_of_wp_marks Tryz.func93 rfl trivial ?_ rfl;simp only[Tryz.ntmps93,List.size_toArray,List.length_cons,List.length_nil,Nat.reduceAdd,Nat.reduceSub,Array.replicate_succ,Array.replicate_zero,List.push_toArray,List.append_toArray,List.nil_append,List.cons_append]
 gi_wp2_with (refine⟨trivial,?_⟩;gi_at_call 94;refine (callsIn_wide.2 (bq.out _)).mono ?_;rintro e w' ⟨rfl,rfl⟩)
 obtain⟨NB,aw⟩:∃NB,W.heap.size=NB:=⟨_,rfl⟩;obtain⟨W0,ag⟩:∃W0,(((W.alloc (.cells #[.func (.yield l) #[] #[]] 181)).alloc (.cells #[.map (some B)] 98)).alloc (.cells #[St a.rel,.slice fa a.args.length fc] 92)).alloc (.cells #[St ⟨#[]⟩,St ⟨#[]⟩,St ⟨#[]⟩,St ⟨#[]⟩,St ⟨#[]⟩,St ⟨#[]⟩] 176)=W0:=⟨_,rfl⟩;have au:Below W.heap.size W W0:=by rw[<- ag];exact ((((Below.refl _ W).alloc zl _).alloc (by simp) _).alloc (by simp;omega) _).alloc (by simp;omega) _
 have dy:W0.heap.size=NB+4:=by rw[<- ag,<- aw];simp
 have bY:W0.heap[NB]?=cC #[.func (.yield l) #[] #[]] 181:=by
  rw[<- ag,<- aw];exact (Below.heap_alloc _ _ _ (by simp;omega)).trans ((Below.heap_alloc _ _ _ (by simp;omega)).trans ((Below.heap_alloc _ _ _ (by simp)).trans (zn W _)))
 have bM:W0.heap[NB+1]?=cC #[.map (some B)] 98:=by
  rw[<- ag,<- aw];refine (Below.heap_alloc _ _ _ (by simp)).trans ((Below.heap_alloc _ _ _ (by simp)).trans ?_);have:=zn (W.alloc (.cells #[.func (.yield l) #[] #[]] 181)) (.cells #[.map (some B)] 98);rw[World.size_alloc] at this;exact this
 have bA:W0.heap[NB+1+1]?=cC #[St a.rel,.slice fa a.args.length fc] 92:=by
  rw[<- ag,<- aw];refine (Below.heap_alloc _ _ _ (by simp)).trans ?_;have:=zn ((W.alloc (.cells #[.func (.yield l) #[] #[]] 181)).alloc (.cells #[.map (some B)] 98)) (.cells #[St a.rel,.slice fa a.args.length fc] 92);rw[World.size_alloc,World.size_alloc] at this;exact this
 have bP:W0.heap[NB+1+2]?=some (Obj.cells Qm.c 176):=by
  rw[<- ag,<- aw];have:=zn (((W.alloc (.cells #[.func (.yield l) #[] #[]] 181)).alloc (.cells #[.map (some B)] 98)).alloc (.cells #[St a.rel,.slice fa a.args.length fc] 92)) (.cells #[St ⟨#[]⟩,St ⟨#[]⟩,St ⟨#[]⟩,St ⟨#[]⟩,St ⟨#[]⟩,St ⟨#[]⟩] 176);rw[World.size_alloc,World.size_alloc,World.size_alloc] at this;exact this
 have cc:qn m W W0:=qn.ofBelow au;have d2:J [] W0:=HJ.out _ _ _ none H0.out (qi au) (λr e=>by cases e);have ee:=di.mk cc;have cq:=b7.mk cc;have dm:=cc.cells _ _ _ (by unfold qcc;decide) ax;have ew:m<=W0.heap.size:=by have:=au.size;omega
 have hz:∀k,(Qm.get k).size<=2000:=by
  intro k;have:(Qm.get k)=⟨#[]⟩:=by unfold Qm Nms.get;split <;> rfl
  rw[this];exact zz
 simp only[aw];rw[ag];clear ag di b7 b9 ax
 refine qd1 (n:=n) (gf:=156) (lb:=#[.pointer (some ⟨NB+1,0,none⟩),.pointer (some ⟨NB+1+1,0,none⟩),.pointer (some ⟨NB+1+2,0,none⟩)]) rfl (enters_of Tryz.func156 (by kernel_rfl) rfl)
  (qny 2000 (n - 1) (NB+1) (NB+1+1) (NB+1+2) B nn az M a (.slice fa a.args.length fc) Qm W0 bM bA bP ee cq a9 cn (Nat.le_trans hrel (by unfold maxLen;decide)) hz (λx y _ _ h=>dv x y h) (W0.heap.size+2)) qn.tr (λV rc o' ho=>qn.put V _ _ o' (by omega) ho rfl (λ_ _ h=>by cases h)) (λ_=>rfl)
  (λpre V=>∃gs:List GdY,J gs V/\gs.map (·.1)=(pre.map (·.1)).map (λp=>qb p a)/\qn m W0 V)
  (λc pre V=>c=.ret/\∃gs,Jx gs V)
  ?hI ?hIx ⟨[],d2,rfl,qn.ofBelow zr⟩
  (λx a' V=>∃Bx,V.heap[Bx]?=some (Obj.cells x.1.c 176)/\a'={tmps:=#[.func (.yield l) #[] #[],.pointer (some ⟨Bm,0,none⟩),.pointer (some ⟨Ba,0,none⟩),.pointer (some ⟨NB,0,none⟩),.pointer (some ⟨Bx,0,none⟩),.map (some B),.agg #[St a.rel,.slice fa a.args.length fc],.agg #[St ⟨#[]⟩,St ⟨#[]⟩,St ⟨#[]⟩,St ⟨#[]⟩,St ⟨#[]⟩,St ⟨#[]⟩],.func (.func 156) #[] #[.pointer (some ⟨NB+1,0,none⟩),.pointer (some ⟨NB+1+1,0,none⟩),.pointer (some ⟨NB+1+2,0,none⟩)],.agg #[St x.1.a0,St x.1.a1,St x.1.a2,St x.1.a3,St x.1.a4,St x.1.a5],undef,undef,undef,undef,undef,undef],defers:=[]})
  ?hAx ?assign ?body ?done ?stop
 case hI=>
  rintro pre V V' row ⟨gs,h1,h2,h4⟩ hg hr;exact⟨gs,HJ.out _ _ _ row h1 hg (λr e=>⟨by have:=(hr r e).1;omega,(hr r e).2⟩),h2,h4.own hg (λr e=>(hr r e).1)⟩
 case hIx=>
  rintro c pre V V' row ⟨rfl,gs,h1⟩ hg hr;exact⟨rfl,gs,HJx.out _ _ _ row h1 hg (λr e=>⟨by have:=(hr r e).1;omega,(hr r e).2⟩)⟩
 case hAx=>
  rintro x a' _ V V' row ⟨Bx,h2,h3⟩ hg hr;exact⟨Bx,qj hg (λr e=>(hr r e).2) _ _ _ _ h2,h3⟩
 case assign=>
  rintro l' pre x V K hl du ⟨gs,h1,h2,h4⟩ hK;have HK:Hid _:=hK;clear hK;unfold Nms.v Nms.c
  gi_wp2
  have ak:Below V.heap.size V (V.alloc (.cells #[St x.1.a0,St x.1.a1,St x.1.a2,St x.1.a3,St x.1.a4,St x.1.a5] 176)):=(Below.refl _ V).alloc zl _;exact HK.out _ _ (KeepsFrom.ofBelow ak) (qn.ofBelow ak) ⟨gs,HJ.out _ _ _ none h1 (qi ak) (λr e=>by cases e),h2,h4.tr (qn.ofBelow ak)⟩ ⟨V.heap.size,zn V _,rfl⟩
 case done=>
  rintro D xs V hD ⟨ks,k1,k2,k3,k4⟩ ⟨gs,h1,h2,h4⟩ hK
  have q7:Hid (∃ks:List (By×By),ks.Nodup/\(∀x y,(x,y)∈ks↔(x.size<=maxLen/\y.size<=maxLen/\(M ⟨a.rel,x,y⟩).isSome=true))/\ks.length<=nn/\gs.map (·.1)=(ks.filterMap (λk=>Q3 Qm a k.1 k.2)).map (λp=>qb p a)):=
   ⟨ks,k1,k2,k3,by rw[h2,k4]⟩
  clear h2 k2 k4
  gi_wp2
  refine⟨by simp,.inl ⟨_,_,rfl,run_takeDeferred hK,?_⟩⟩;refine⟨_,results_none rfl _ _ _,⟨_,rfl⟩,.inl ⟨gs,q7.out,?_⟩⟩;exact HJ.out _ _ _ (some D) h1 (grownBy_putObj' V D (.deferred none)) (λr e=>by cases e;exact⟨by omega,_,hK,rfl⟩)
 case stop=>
  rintro D c pre V hD _ ⟨rfl,gs,h1⟩ hK
  gi_wp2
  refine⟨by simp,.inl ⟨_,_,rfl,run_takeDeferred hK,?_⟩⟩;refine⟨_,results_none rfl _ _ _,⟨_,rfl⟩,.inr ⟨gs,trivial,?_⟩⟩;exact HJx.out _ _ _ (some D) h1 (grownBy_putObj' V D (.deferred none)) (λr e=>by cases e;exact⟨by omega,_,hK,rfl⟩)
 case body=>
  rintro l' pre x a' V dp ⟨rc,et⟩ ⟨gs,h1,h2,h4⟩ ⟨Bx,cj,rfl⟩ al;have d5:=h4.cells _ _ _ (by unfold qcc;decide) bY;have cu:=h4.cells _ _ _ (by unfold qcc;decide) dm;have dj:=cq.mk h4;have cy:V.cell? (Ad NB 0)=some (.func (.yield l) #[] #[]):=zc d5
  have z1:V.cell? (Ad Ba 0)=some (St a.rel):=zc cu
  have z2:V.cell? (Ad Ba 1)=some (.slice fa a.args.length fc):=zc cu
  have af:=cj;unfold Nms.c at af;have q0:V.cell? (Ad Bx 0)=some (St x.1.a0):=zc af
  have q1:V.cell? (Ad Bx 1)=some (St x.1.a1):=zc af
  have q2:V.cell? (Ad Bx 2)=some (St x.1.a2):=zc af
  have q3:V.cell? (Ad Bx 3)=some (St x.1.a3):=zc af
  have q4:V.cell? (Ad Bx 4)=some (St x.1.a4):=zc af
  have q5:V.cell? (Ad Bx 5)=some (St x.1.a5):=zc af
  have d6:Hid (∀W1,Below V.heap.size V W1->W1.cell? (Ad NB 0)=some (.func (.yield l) #[] #[])):=λW1 hb=>cell_later hb cy;have ay:GdS (qb x.1 a):=qtn x.2 hrel ed
  have ap:gs.length < nn:=by
   have:=congrArg List.length h2;simp at this;omega
  have dn:Hid (∀W,(∀(k:Nat) (c:Array Vq),V.heap[k]?=cC c 166->W.heap[k]?=cC c 166)->Cs 89 #[.agg #[St x.1.a0,St x.1.a1,St x.1.a2,St x.1.a3,St x.1.a4,St x.1.a5],.agg #[St a.rel,.slice fa a.args.length fc]] W λe w'=>e=.returned (.agg #[St (qb x.1 a).rel,St (qb x.1 a).x,St (qb x.1 a).y])/\Below W.heap.size W w'):=λW hk=>
   qkw x.1 a _ az W (dj.kept (λk c _ hc=>hk k c hc)) a9 cn
  have b5:Hid (∀W1,Below V.heap.size V W1->YieldAt Fence.wide (n - 1) Tryz.prog l #[.agg #[St (qb x.1 a).rel,St (qb x.1 a).x,St (qb x.1 a).y]] W1 λe W'=>∃b:Bool,e=.returned (.bool b)/\((b=true/\J (gs++[⟨qb x.1 a,ay⟩]) W'/\qn m V W')\/(b=false/\Jx (gs++[⟨qb x.1 a,ay⟩]) W'/\KeepsFrom m V W'))):=by
   intro W1 hb;obtain⟨fn,tmps,assign,body,hy,hR⟩:=HY.out gs ⟨qb x.1 a,ay⟩ W1 (HJ.out _ _ _ none h1 (qi hb) (λr e=>by cases e)) ap;refine⟨fn,tmps,assign,body,hy,hR.mono ?_⟩;rintro e W' (⟨rfl,k1,k2⟩ | ⟨rfl,k1,k2⟩)
   .exact⟨true,rfl,.inl ⟨rfl,k1,(qn.ofBelow hb).tr k2⟩⟩
   .exact⟨false,rfl,.inr ⟨rfl,k1,KeepsFrom.tr (KeepsFrom.ofBelow hb) k2⟩⟩
  have dw:Hid ((gs++[gdY (qb x.1 a) ay]).map (·.1)=((pre++[x]).map (·.1)).map (λp=>qb p a)):=by
   show _=_;rw[List.map_append,List.map_append,List.map_append,h2];rfl
  generalize hGr:(qb x.1 a).rel=gr at *;generalize hGx:(qb x.1 a).x=gx at *;generalize hGy:(qb x.1 a).y=gy at *;clear hGr hGx hGy af dj h2
  gi_wp2
  refine wpIn_mono (Q:=λe a' w'=>e=Exit.normal/\∃b:Bool,a'={tmps:=#[.func (.yield l) #[] #[],.pointer (some ⟨Bm,0,none⟩),.pointer (some ⟨Ba,0,none⟩),.pointer (some ⟨NB,0,none⟩),.pointer (some ⟨Bx,0,none⟩),.map (some B),.agg #[St a.rel,.slice fa a.args.length fc],.agg #[St ⟨#[]⟩,St ⟨#[]⟩,St ⟨#[]⟩,St ⟨#[]⟩,St ⟨#[]⟩,St ⟨#[]⟩],.func (.func 156) #[] #[.pointer (some ⟨NB+1,0,none⟩),.pointer (some ⟨NB+1+1,0,none⟩),.pointer (some ⟨NB+1+2,0,none⟩)],.agg #[St x.1.a0,St x.1.a1,St x.1.a2,St x.1.a3,St x.1.a4,St x.1.a5],.func (.yield l) #[] #[],.agg #[St x.1.a0,St x.1.a1,St x.1.a2,St x.1.a3,St x.1.a4,St x.1.a5],.agg #[St a.rel,.slice fa a.args.length fc],.agg #[St gr,St gx,St gy],.bool b,.bool (!b)],defers:=[]}/\((b=true/\J (gs++[⟨qb x.1 a,ay⟩]) w'/\qn m V w')\/(b=false/\Jx (gs++[⟨qb x.1 a,ay⟩]) w'/\KeepsFrom m V w'))) ?reg ?rest
  case reg=>
   gi_region_with (first | (refine⟨trivial,?_⟩;(try refine⟨λh=>(by cases h),?_⟩);refine (CallsIn.inRound l' (callsIn_wide.2 (dn.out V.drew (λ_ _ h=>h)))).mono ?_;rintro e W1 ⟨rfl,ae⟩;obtain⟨ey,c3,assign2,body2,ep,ec⟩:=b5.out W1 (Below.trans (Below.drew (Below.refl V.heap.size V)) ae);have ev:=d6.out W1 (Below.trans (Below.drew (Below.refl V.heap.size V)) ae)) | (refine (qe3 ec).mono ?_;rintro e W2 ⟨b,rfl,ai⟩))
   all_goals exact⟨rfl,b,rfl,ai⟩
  case rest=>
   rintro e a' X' ⟨rfl,b,rfl,ai⟩;rcases ai with⟨rfl,k1,k2⟩ | ⟨rfl,k1,k2⟩
   .gi_wp2
    exact⟨KeepsFrom.up k2.from' (by omega),k2.up (by omega),_,k1,dw.out,h4.tr k2⟩
   .gi_wp2
    exact⟨KeepsFrom.up k2 (by omega),rfl,_,k1⟩
attribute [local go_sem] Oper.semAt_some
theorem qn9(a:Am)(va:Vq)(b:Nat)(w:Wq)(hS:Qi w b va a.args)(hl:a.args.length<=2)(hn:∀t∈a.args,t.num < 6) :
  Cs 48 #[.agg #[St a.rel,va]] w λe w'=>e=.returned (qb Qm a).v/\Below w.heap.size w w':=by
 obtain⟨ta,tc,dq⟩:=hS.form;subst dq
 have hg:Hid (∀W,Below w.heap.size w W->Cs 89 #[.agg #[St ⟨#[]⟩,St ⟨#[]⟩,St ⟨#[]⟩,St ⟨#[]⟩,St ⟨#[]⟩,St ⟨#[]⟩],.agg #[St a.rel,.slice ta a.args.length tc]] W λe w'=>e=.returned (.agg #[St (qb Qm a).rel,St (qb Qm a).x,St (qb Qm a).y])/\Below W.heap.size W w'):=λW hk=>
  qkw Qm a _ b W (hS.kept (λk c _ hc=>(hk.block k (zg hc).1).trans hc)) hl hn
 clear hS hn;unfold Gd.v Gd.c;generalize hGr:(qb Qm a).rel=gr at *;generalize hGx:(qb Qm a).x=gx at *;generalize hGy:(qb Qm a).y=gy at *;clear hGr hGx hGy
 have hH:Hid (∀W1,Below ((w.alloc (.cells #[St a.rel,.slice ta a.args.length tc] 92)).alloc (.cells #[St ⟨#[]⟩,St ⟨#[]⟩,St ⟨#[]⟩] 111)).heap.size ((w.alloc (.cells #[St a.rel,.slice ta a.args.length tc] 92)).alloc (.cells #[St ⟨#[]⟩,St ⟨#[]⟩,St ⟨#[]⟩] 111)) W1->W1.heap[w.heap.size+1]?=cC #[St ⟨#[]⟩,St ⟨#[]⟩,St ⟨#[]⟩] 111):=by
  intro W1 hb;refine (hb.block _ (by simp)).trans ?_;have:=zn (w.alloc (.cells #[St a.rel,.slice ta a.args.length tc] 92)) (.cells #[St ⟨#[]⟩,St ⟨#[]⟩,St ⟨#[]⟩] 111);rw[World.size_alloc] at this;exact this
 go_enter Tryz.func48,Tryz.ntmps48
 go_wp2_with (go_at_call 89;refine (hg.out _ (((Below.refl _ w).alloc zl _).alloc (by simp) _)).mono ?_;rintro e W1 ⟨rfl,ae⟩;have hh:=hH.out W1 ae;have c0:W1.cell? (Ad (w.heap.size+1) 0)=some (St ⟨#[]⟩):=(by simp[World.cell?,hh]);have c1:W1.cell? (Ad (w.heap.size+1) 1)=some (St ⟨#[]⟩):=(by simp[World.cell?,hh]);have c2:W1.cell? (Ad (w.heap.size+1) 2)=some (St ⟨#[]⟩):=(by simp[World.cell?,hh]);have f0:W1.frozen? (Ad (w.heap.size+1) 0)=false:=(by simp[World.frozen?,hh]);have f1:W1.frozen? (Ad (w.heap.size+1) 1)=false:=(by simp[World.frozen?,hh]);have f2:W1.frozen? (Ad (w.heap.size+1) 2)=false:=(by simp[World.frozen?,hh]))
 refine bodyPost_ret (v:=.agg #[St gr,St gx,St gy]) (by simp[results,Tryz.results48,go_sem,c0,c1,c2]) rfl ?_;exact⟨rfl,((((((Below.refl _ w).alloc zl _).alloc (by simp) _).trans (ae.mono (by simp;omega))).setCell (p:=⟨w.heap.size+1,0,none⟩) (by simp) _).setCell (p:=⟨w.heap.size+1,1,none⟩) (by simp) _).setCell (p:=⟨w.heap.size+1,2,none⟩) (by simp) _⟩
theorem q00(v:Vq)(w:Wq)(ta:Option Addr)(tn tc:Nat)(bd:v=.slice ta tn tc) :
  Cs 135 #[v] w λe w'=>e=.returned (.func (.func 188) #[] #[.pointer (some ⟨w.heap.size,0,none⟩)])/\w'=w.alloc (.cells #[v] 75):=by
 subst bd;go_enter Tryz.func135,Tryz.ntmps135;go_wp2;go_ret;exact⟨rfl,rfl⟩
def Qo(R:List Rl):List (Gd×Int):=R.filterMap (λr=>if r.body=[] then some (qb Qm r.head,2000000) else none)
theorem qvb{R:List Rl}{k:Nat}(h:k < R.length):Qo (R.take (k+1))=Qo (R.take k)++(if (R[k]).body=[] then [(qb Qm (R[k]).head,2000000)] else []):=by
 unfold Qo;rw[List.take_succ_eq_append_getElem h,List.filterMap_append];congr 1;by_cases hb:(R[k]).body=[]
 .simp[hb]
 .simp[hb]
def q97(r:Rl):Prop:=r.head.args.length<=2/\∀t∈r.head.args,t.num < 6
theorem q01(ac Bl rb em az:Nat)(v:Vq)(R:List Rl)(w:Wq)(Qs:w.heap[Bl]?=cC #[v] 75)(hR:Qb w rb em az v R)(dl:∀r∈R,q97 r)(h8:R.length<=8)(m n0:Nat) :
  qey m n0 188 #[.pointer (some ⟨Bl,0,none⟩)] (λx:Gd×Int=>#[.agg (qr x).toArray]) (qc4 w.heap.size ac m) (λys=>ys=Qo R) (λ_=>True) R.length w:=by
 obtain⟨n,hn⟩:∃n,12<=n:=⟨12,Nat.le_refl _⟩;refine qey.any (n:=n) ?_ n0;have n1:1<=n:=by omega
 intro l J Jx W hW cl hJ a7 hY h0;have ej:=(hW.block Bl (zg Qs).1).trans Qs;obtain⟨va,vc,rfl⟩:=hR.form;have c0:W.cell? (Ad Bl 0)=some (.slice va R.length vc):=zc ej
 have HY:Hid _:=hY;have HJ:Hid (OwnFrom W.heap.size J):=hJ;have HJx:Hid (OwnFrom W.heap.size Jx):=a7;have HR:Hid _:=hR;have HW:Hid _:=hW;clear hY hJ a7 hR hW Qs;refine callsIn_of_wp_marks Tryz.func188 rfl trivial ?_ rfl;simp only[Tryz.ntmps188,List.size_toArray,List.length_cons,List.length_nil,Nat.reduceAdd,Nat.reduceSub,Array.replicate_succ,Array.replicate_zero,List.push_toArray,List.append_toArray,List.nil_append,List.cons_append]
 gi_wp2
 refine wpIn_loop (λA V=>∃(k:Nat) (u4 u8 u9 c9 c8 cw cp c5 cz c4 de dh co c6 ct cr da cx:Vq),A={tmps:=#[.func (.yield l) #[] #[],.pointer (some ⟨Bl,0,none⟩),undef,undef,u4,.slice va R.length vc,Ii R.length,Ii k,u8,u9,c9,c8,cw,cp,c5,cz,c4,de,dh,co,c6,ct,cr,da,cx],defers:=[]}/\k<=R.length/\J (Qo (R.take k)) V/\qc4 w.heap.size ac m W V) (λA _=>R.length - (intOf (A.tmps.getD 7 undef)).toNat) ⟨0,_,_,_,_,_,_,_,_,_,_,_,_,_,_,_,_,_,_,rfl,zz,by simpa [Qo] using h0,qc4.ofBelow zr⟩ ?_;rintro A V ⟨k,u4,u8,u9,c9,c8,cw,cp,c5,cz,c4,de,dh,co,c6,ct,cr,da,cx,rfl,hk,bo,ca⟩;by_cases al:k < R.length
 .have dk:qf w V:=λi c t ht hi=>by
   have c7:=(zg hi).1;refine ca.block i _ c7 ((HW.out.block i c7).trans hi) (.inr (λc' fz e=>?_));cases e;rcases ht with h | h | h <;> revert h <;> decide
  obtain⟨g,c,v0,vb,e0,x0,x1,x2,ck,dc⟩:=qdb (Qb.rk HR.out dk) al;cases e0;obtain⟨fa,fc,ei⟩:=ck.form;obtain⟨ga,gc,en⟩:=qar.form dc;subst ei en;have a9:∀O,Below V.heap.size V (V.alloc O):=λO=>(Below.refl _ V).alloc zl O
  have ao:Hid (∀W1,Below V.heap.size V W1->Cs 48 #[.agg #[St (R[k]).head.rel,.slice fa (R[k]).head.args.length fc]] W1 λe w'=>e=.returned (.agg #[St (qb Qm (R[k]).head).rel,St (qb Qm (R[k]).head).x,St (qb Qm (R[k]).head).y])/\Below W1.heap.size W1 w'):=λW1 hb=>
   qn9 (R[k]).head _ az W1 (ck.kept (λi c _ hc=>(hb.block i (zg hc).1).trans hc)) (dl _ (zm al)).1 (dl _ (zm al)).2
  have b6:=qvb al
  have ap:(Qo (R.take k)).length<=k:=by
   refine Nat.le_trans (List.length_filterMap_le _ _) ?_;simp;omega
  have b5:Hid (∀W1,Below V.heap.size V W1->YieldAt Fence.wide (n - 1) Tryz.prog l #[.agg #[St (qb Qm (R[k]).head).rel,St (qb Qm (R[k]).head).x,St (qb Qm (R[k]).head).y,Ii 2000000]] W1 λe W'=>∃b:Bool,e=.returned (.bool b)/\((b=true/\J (Qo (R.take k)++[(qb Qm (R[k]).head,2000000)]) W'/\qc4 w.heap.size ac m V W')\/(b=false/\Jx (Qo (R.take k)++[(qb Qm (R[k]).head,2000000)]) W'))):=by
   intro W1 hb;obtain⟨fn,tmps,assign,body,hy,hR⟩:=HY.out (Qo (R.take k)) (qb Qm (R[k]).head,2000000) W1 (HJ.out _ _ _ none bo (qi hb) (λr e=>by cases e)) (by omega);refine⟨fn,tmps,assign,body,hy,hR.mono ?_⟩;rintro e W' (⟨rfl,k1,k2⟩ | ⟨rfl,k1,k2⟩)
   .exact⟨true,rfl,.inl ⟨rfl,k1,(qc4.ofBelow hb).tr k2⟩⟩
   .exact⟨false,rfl,.inr ⟨rfl,k1⟩⟩
  generalize hxk:R[k]=rk at *;have cm:Hid _:=ca;have bv:Hid (Qo (R.take (k+1))=Qo (R.take k)++(if rk.body=[] then [(qb Qm rk.head,2000000)] else [])):=b6;have HB:Hid _:=a9;clear a9 ca hxk dk ck dc b6
  cases hbd:rk.body with
  | nil=>
   have ce:Hid (Qo (R.take (k+1))=Qo (R.take k)++[(qb Qm rk.head,2000000)]):=by show _=_;rw[bv.out,if_pos hbd]
   rw[hbd] at x2;clear hbd bv;generalize hGr:(qb Qm rk.head).rel=gr at *;generalize hGx:(qb Qm rk.head).x=gx at *;generalize hGy:(qb Qm rk.head).y=gy at *;clear hGr hGx hGy
   gi_wp2_with (first | (refine⟨trivial,?_⟩;gi_at_call 48;refine (callsIn_wide.2 (ao.out _ (HB.out _))).mono ?_;rintro e W1 ⟨rfl,ae⟩;obtain⟨fn,tmps,assign,body,hy,hR⟩:=b5.out W1 ((HB.out _).trans (ae.mono (by simp)))))
   refine hR.mono ?_;rintro e W2 ⟨b,rfl,⟨rfl,dx,dz⟩ | ⟨rfl,ch⟩⟩
   .clear hy hR
    gi_wp2
    refine⟨⟨k+1,_,_,_,_,_,_,_,_,_,_,_,_,_,_,_,_,_,_,rfl,by omega,by rw[ce.out];exact dx,cm.out.tr dz⟩,?_⟩;simp[intOf];omega
   .clear hy hR
    gi_wp2
    exact⟨_,results_none rfl _ _ _,⟨_,rfl⟩,.inr ⟨_,trivial,ch⟩⟩
  | cons a0 at2=>
   have ce:Hid (Qo (R.take (k+1))=Qo (R.take k)):=by show _=_;rw[bv.out,if_neg (by rw[hbd];simp),List.append_nil]
   rw[hbd] at x2;clear hbd bv;have hz:((at2.length:Int)+1 == 0)=false:=by simp;omega
   gi_wp2
   refine⟨trivial,?_⟩
   gi_wp2
   refine⟨λf h=>(by cases h),?_⟩
   gi_wp2
   refine⟨⟨k+1,_,_,_,_,_,_,_,_,_,_,_,_,_,_,_,_,_,_,rfl,by omega,by rw[ce.out];exact HJ.out _ _ _ none bo (qi (HB.out _)) (λr e=>by cases e),cm.out.tr (qc4.ofBelow (HB.out _))⟩,?_⟩;simp[intOf];omega
 .have d9:k=R.length:=by omega
  subst d9;rw[List.take_length] at bo
  gi_wp2
  exact⟨_,results_none rfl _ _ _,⟨_,rfl⟩,.inl ⟨_,rfl,bo⟩⟩
theorem qeg{F:Fence}{nF:Nat}{P:Program}(w:Wq){o:Oper}{a:Act}{K:Act->Wq->Prop}{Q:Exit->Act->Wq->Prop}(s x:Operand)(t:TypeId)(ho:o.op=.call {callee:=.builtin .append,args:=#[s,x],argTypes:=#[t,t]})(ac:Nat)(e:TypeId)(i:TypeInfo)(z:Vq)(size bytes:Nat)(ht:P.underlying t=some (.slice e))(hi:P.info? e=some i)(hz:i.zero=some z)(a6:i.size=size)(eo:i.bytes=bytes)(d3:z.cells.size=size)(cl:0 < size)(v:Vq)(n:Nat)(xs:List Vq)(hs:a.eval s=v)(qq:w.ownsRow ac e size v n xs)(ad:Addr)(m c:Nat)(ah:List Vq)(hx:a.eval x=.slice (some ad) m c)(hl:ah.length=m*size)(a8:∀j u,ah[j]?=some u->w.cell? (ad.add j)=some u)(h1:∀u∈ah,u.oneCell'=true)(d8:n+m<=maxLen)(am:(n+m)*bytes<=140737488355328)(dr:ac<=w.heap.size)(h:∀v' w',w'.ownsRow ac e size v' (n+m) (xs++ah)->w.grownBy w' v.ownBlock->(v'.ownBlock=v.ownBlock\/v'.ownBlock=some w.heap.size)->K (a.put o.dst v') w') :
  Oper.wpIn F nF P o a w K Q:=by
 obtain⟨v',w',hr,h2,h3,h4,h5⟩:=run_append_own_at (P:=P) w ac t o.type e i z size bytes ht hi hz a6 eo d3 cl v n xs qq ad m c ah hl a8 h1 d8 am dr;unfold Oper.wpIn;refine⟨by simp[Oper.about,ho,resolve,Target.leads,Sem.run_pure],?_⟩;rw[Oper.semAt_plain F _ _ (by rw[ho];intro c d7;cases d7)];simp[execOp,ho,resolve,invoke,builtin,hs,hx,hr,Result.andThen];exact h _ _ h2 h3 h5
attribute [local go_sem] Oper.semAt_some
def qdj(l:List (List UInt8)):List (List UInt8):=l.mergeSort λx y=>decide (x<=y)
def qjj(l:List UInt8):Vq:=St ⟨l.toArray⟩
theorem q19(v:Vq)(l:List (List UInt8))(b:Nat)(w:Wq)(qq:w.ownsRow b 9 1 v l.length (l.map qjj))(hl:l.length<=2000000) :
  Cs 92 #[v] w λe w'=>e=.returned (.tuple #[])/\w'.ownsRow b 9 1 v l.length ((qdj l).map qjj)/\Chg w w' (λk=>some k=v.ownBlock):=by
 have eb:=qq;obtain⟨ap,⟨hv,hn⟩ | ⟨g,cap,bh,hv,hb,hh,h1,h2,h3,h4⟩⟩:=qq
 .subst hv;have:l=[]:=List.eq_nil_of_length_eq_zero hn;subst this;refine (Any.slices_Sort_string_none Tryz.lays190 none 0 w).mono ?_;rintro e w' ⟨rfl,rfl⟩;have e0:qdj []=[]:=by simp[qdj]
  rw[e0];exact⟨rfl,eb,Chg.refl _ _⟩
 .subst hv;have al:=(zg hh).1
  have hH:Sort.Holds encStr w g 0 l.toArray:=by
   intro j hj;have df:j < l.length:=by simpa using hj
   refine⟨?_,by simp[World.frozen?,hh]⟩
   have e1:bh.toList[j]?=(l.map qjj)[j]?:=by
    rw[<- h4,List.getElem?_take,if_pos (by omega)]
   have e2:bh[j]?=some (qjj l[j]):=by
    rw[List.getElem?_map,List.getElem?_eq_getElem df] at e1;simpa using e1
   simp only[World.cell?,hh];have e3:l.toArray[j]! = l[j]:=by simp[df]
   rw[e3];have e4:bh[0+j]?=some (qjj l[j]):=by rw[Nat.zero_add];exact e2
   exact e4
  refine (Tryz.slices_Sort_string g 0 cap l w hH al (by omega)).mono ?_;rintro e w' ⟨rfl,n,os,rfl⟩;have cf:(qdj l).length=l.length:=(List.mergeSort_perm l _).length_eq;have hF:((qdj l).toArray.map encStr).size<=bh.size:=by simp[cf];omega
  have dt:Sort.grow (Sort.putRow encStr (Sort.ahead w n) g 0 (qdj l).toArray) os=Sort.grow (Sort.putRow id (Sort.ahead w n) g 0 ((qdj l).toArray.map encStr)) os:=by
   unfold Sort.putRow;congr 2;funext c;unfold Sort.putCells;refine Array.ext (by simp) (λi h1 h2=>?_);simp only[Array.getElem_mapIdx,Array.size_map];by_cases hi:0<=i/\i < 0+(qdj l).toArray.size
   .rw[if_pos hi,if_pos hi];have:i < (qdj l).length:=by simpa using hi
    simp[this]
   .rw[if_neg hi,if_neg hi]
  obtain⟨s1,s2,s3,s4⟩:=qnm (n:=n) ((qdj l).toArray.map encStr) os hh hF;show _/\(Sort.grow (Sort.putRow encStr (Sort.ahead w n) g 0 (qdj l).toArray) os).ownsRow _ _ _ _ _ _/\Chg w (Sort.grow (Sort.putRow encStr (Sort.ahead w n) g 0 (qdj l).toArray) os) _;rw[dt];refine⟨rfl,⟨by simp[cf],.inr ⟨g,cap,_,rfl,hb,s1,h1,h2,s3.trans h3,?_⟩⟩,⟨rfl,rfl,rfl,?_,λk hk hx=>s2 k hk (λe=>hx (by rw[e];rfl))⟩⟩
  .have e1:l.length*1=((qdj l).toArray.map encStr).size:=by simp[cf]
   rw[e1,s4];simp[qjj]
  .simp[Sort.grow,Sort.putRow,Sort.mapBlock,Sort.ahead]
theorem q2g{gf:Nat}{lb:Array Vq}{S Sp:List GdY->Prop}{N:Nat}(w:Wq)(eu:N<=1000000)(eg:∀args w,(callFunc gf args).run Tryz.prog w=.ok (.enter gf args) w)(cg:∀m n,qey m n gf lb (λg:GdY=>#[g.1.v]) (qn m) S Sp N w) :
  Cs 50 #[.func (.func gf) #[] lb] w λe w'=>∃v gs,e=.returned v/\S gs/\w'.ownsRow w.heap.size 9 1 v gs.length ((qdj (gs.map (λg=>(qcb g.1).data.toList))).map qjj)/\Below w.heap.size w w'/\gs.length<=N:=by
 obtain⟨NB,hN⟩:∃N,w.heap.size=N:=⟨_,rfl⟩;obtain⟨i0,hi,b0,bi,bn⟩:=info_parts Tryz.info9;refine (callsIn_wide (n:=8)).1 ?_;refine callsIn_of_wp_marks Tryz.func50 rfl trivial ?_ rfl;simp only[Tryz.ntmps50,List.size_toArray,List.length_cons,List.length_nil,Nat.reduceAdd,Nat.reduceSub,Array.replicate_succ,Array.replicate_zero,List.push_toArray,List.append_toArray,List.nil_append,List.cons_append]
 gi_wp2
 obtain⟨W0,ag⟩:∃W0,w.alloc (.cells #[.slice none 0 0] 22)=W0:=⟨_,rfl⟩;have au:Below w.heap.size w W0:=by rw[<- ag];exact (Below.refl _ w).alloc zl _
 have dy:W0.heap.size=NB+1:=by rw[<- ag,<- hN];simp
 have bV:Boxed W0 NB 22 (.slice none 0 0):=by
  have:=Boxed.new w 22 (.slice none 0 0);rw[hN,ag] at this;exact this
 (try simp only[hN])
 rw[ag];clear ag
 refine qd1 (n:=8) (gf:=gf) (lb:=lb) rfl eg ((cg _ _).later au) qn.tr (λV rc o' ho=>qn.put V _ _ o' (by omega) ho rfl (λ_ _ h=>by cases h)) (λ_=>rfl)
  (λpre V=>∃v,Boxed V NB 22 v/\V.ownsRow NB 9 1 v pre.length (pre.map (λg=>St (qcb g.1)))/\Below NB w V/\NB < V.heap.size/\pre.length<=N)
  (λ_ _ _=>False)
  ?hI (λ_ _ _ _ _ h _ _=>h) ⟨_,bV,⟨rfl,.inl ⟨rfl,rfl⟩⟩,by rw[hN] at au;exact au,by omega,zz⟩
  (λx a' V=>∃Bx,V.heap[Bx]?=some (Obj.cells x.1.c 111)/\a'={tmps:=#[.func (.func gf) #[] lb,undef,.slice none 0 0,.pointer (some ⟨NB,0,none⟩),.pointer (some ⟨Bx,0,none⟩),.func (.func gf) #[] lb,.agg #[St x.1.rel,St x.1.x,St x.1.y],undef,undef,undef,undef,undef,undef,undef,undef],defers:=[]})
  ?hAx ?assign ?body ?done (λ_ _ _ _ _ _ h _=>h.elim)
 case hI=>
  rintro pre V V' row ⟨v,h1,h2,h3,h4,h5⟩ hg hr;have hk:=qj hg (λr e=>(hr r e).2);exact⟨v,hk _ _ _ _ h1,q8 h2 (λg c _ hc=>hk g c _ _ hc),h3.grown hg (by omega) (λk e=>by have:=(hr k e).1;omega),by have:=hg.size;omega,h5⟩
 case hAx=>
  rintro x a' _ V V' row ⟨Bx,h2,h5⟩ hg hr;exact⟨Bx,qj hg (λr e=>(hr r e).2) _ _ _ _ h2,h5⟩
 case assign=>
  rintro l' pre t V K hl du ⟨v,h1,h2,h3,h4,h5⟩ hK;have HK:Hid _:=hK;clear hK;unfold Gd.v Gd.c
  gi_wp2
  have ak:Below V.heap.size V (V.alloc (.cells #[St t.1.rel,St t.1.x,St t.1.y] 111)):=(Below.refl _ V).alloc zl _;exact HK.out _ _ (KeepsFrom.ofBelow ak) (qn.ofBelow ak) ⟨v,h1.alloc _,h2.alloc _,h3.trans (ak.mono (by omega)),by simp;omega,h5⟩ ⟨V.heap.size,zn V _,rfl⟩
 case done=>
  rintro D gs V hD hS ⟨v,h1,h2,h3,h4,h5⟩ hK;have c1:=h1.cell;obtain⟨va,vc,rfl⟩:=qo h2;have b6:gs.length<=2000000:=by omega
  have d1:Hid (Cs 92 #[.slice va gs.length vc] V λe w'=>e=.returned (.tuple #[])/\w'.ownsRow NB 9 1 (.slice va gs.length vc) gs.length ((qdj (gs.map (λg=>(qcb g.1).data.toList))).map qjj)/\Below NB w w'/\Boxed w' NB 22 (.slice va gs.length vc)/\w'.heap[D]?=some (.deferred (some []))/\NB < w'.heap.size):=by
   have d0:gs.map (λg=>Value.string (qcb g.1))=(gs.map (λg=>(qcb g.1).data.toList)).map qjj:=by
    rw[List.map_map];refine List.map_congr_left (λg _=>?_);show Value.string (qcb g.1)=qjj (qcb g.1).data.toList;unfold qjj;rw[Array.toArray_toList]
   have db:(gs.map (λg=>(qcb g.1).data.toList)).length=gs.length:=by simp
   have dd:=h2;rw[d0] at dd;have ea:=q19 (.slice va gs.length vc) (gs.map (λg=>(qcb g.1).data.toList)) NB V (by rw[db];exact dd) (by omega);refine ea.mono ?_;rintro e w' ⟨rfl,ho,hc⟩;rw[db] at ho;refine⟨rfl,ho,h3.trans ⟨hc.os,hc.tape,hc.output,hc.size,λk hk=>hc.block k (by omega) (λe=>?_)⟩,(hc.block _ h1.lt (λe=>Qf h2 h1 (by decide) _ e.symm rfl)).trans h1,(hc.block _ (zg hK).1 (λe=>?_)).trans hK,by have:=hc.size;omega⟩
   .have:=(qe h2 e.symm).1;omega
   .obtain⟨_,c,el⟩:=qe h2 e.symm;rw[el] at hK;cases hK
  gi_wp2_with (refine⟨trivial,?_⟩;gi_at_call 92;refine (callsIn_wide.2 d1.out).mono ?_;rintro e W2 ⟨rfl,k1,k2,k3,k4,k5⟩;have kc:=k3.cell)
  refine⟨by simp,.inl ⟨_,_,rfl,run_takeDeferred k4,?_⟩⟩;have hk:=qj (grownBy_putObj' W2 D (.deferred none)) (λr e=>by cases e;exact⟨_,k4,rfl⟩);refine⟨_,results_tmp rfl _ _ _,.slice va gs.length vc,gs,rfl,hS,?_,?_,h5⟩
  .rw[hN];exact q8 k1 (λg c _ hc=>hk g c _ _ hc)
  .rw[hN];exact qjq k2 (by omega) (by omega)
 case body=>
  rintro l' pre t a' V dp ⟨r,hr⟩ ⟨v,h1,h2,h3,h4,h5⟩ ⟨Bx,cj,rfl⟩ al;obtain⟨va,vc,rfl⟩:=qo h2;have af:=cj;unfold Gd.c at af;have c0:V.cell? (Ad Bx 0)=some (St t.1.rel):=zc af
  have c1:V.cell? (Ad Bx 1)=some (St t.1.x):=zc af
  have c2:V.cell? (Ad Bx 2)=some (St t.1.y):=zc af
  have cb:=h1.cell;have bu:pre.length+1<=maxLen:=by unfold maxLen;omega
  have b3:(pre.length+1)*16<=140737488355328:=by omega
  have cd:Hid (Cs 91 #[.agg #[St t.1.rel,St t.1.x,St t.1.y]] V.drew λe w'=>e=.returned (St (qcb t.1))/\Below V.heap.size V w'):=(q6h t.1 V.drew t.2.rel t.2.x t.2.y).mono (λe w' h=>⟨h.1,((Below.refl _ V).drew).trans h.2⟩);have av:Hid (∀V1,Below V.heap.size V V1->V1.cell? (Ad NB 0)=some (.slice va pre.length vc)):=λV1 hb=>cell_later hb cb;have bf:Hid (∀V1,Below V.heap.size V V1->(V1.alloc (.cells #[St (qcb t.1)] 9)).ownsRow NB 9 1 (.slice va pre.length vc) pre.length (pre.map (λg=>St (qcb g.1)))):=λV1 hb=>(qk h2 hb).alloc _
  have bt:Hid (∀V1,Below V.heap.size V V1->NB<=(V1.alloc (.cells #[St (qcb t.1)] 9)).heap.size):=λV1 hb=>by
   have:=hb.size;show NB<=_;simp;omega
  have q7:Hid (∀V1 v' w1,Below V.heap.size V V1->w1.ownsRow NB 9 1 v' (pre.length+1) (pre.map (λg=>St (qcb g.1))++[St (qcb t.1)])->(V1.alloc (.cells #[St (qcb t.1)] 9)).grownBy w1 (Value.slice va pre.length vc).ownBlock->∃g' ab,v'=.slice (some ⟨g',0,none⟩) (pre.length+1) ab/\(∃cv,w1.cell? (Ad NB 0)=some cv)/\w1.frozen? (Ad NB 0)=false/\
    (KeepsFrom W0.heap.size V (w1.setCell (Ad NB 0) v')/\qn (W0.heap.size+2) V (w1.setCell (Ad NB 0) v')/\∃v,Boxed (w1.setCell (Ad NB 0) v') NB 22 v/\(w1.setCell (Ad NB 0) v').ownsRow NB 9 1 v (pre++[t]).length ((pre++[t]).map (λg=>St (qcb g.1)))/\Below NB w (w1.setCell (Ad NB 0) v')/\NB < (w1.setCell (Ad NB 0) v').heap.size/\(pre++[t]).length<=N)):=by
   intro V1 v' w1 ae ho hg;obtain⟨g',ab,ek⟩:=ownsRow_succ ho;subst ek;have k1:Boxed V1 NB 22 (.slice va pre.length vc):=(ae.block _ h1.lt).trans h1;have k2:=qk h2 ae;have hc:Chg V1 w1 (λj=>some j=(Value.slice va pre.length vc).ownBlock):=((Chg.refl V1 _).alloc _).grown hg (λk e _=>e.symm);have bj:Boxed w1 NB 22 (.slice va pre.length vc):=(hc.block _ k1.lt (λe=>Qf k2 k1 (by decide) _ e.symm rfl)).trans k1;have aj:Chg V1 (w1.setCell (Ad NB 0) (.slice (some ⟨g',0,none⟩) (pre.length+1) ab)) (λj=>j=NB\/some j=(Value.slice va pre.length vc).ownBlock):=(hc.mono (λ_ _ e=>.inr e)).setCell (Ad NB 0) _ (λ_=>.inl rfl)
   have dg:∀m',KeepsFrom m' V1 (w1.setCell (Ad NB 0) (.slice (some ⟨g',0,none⟩) (pre.length+1) ab)):=λm'=>qjb aj (λj hj hx=>by
    rcases hx with rfl | hx
    .exact⟨_,_,k1⟩
    .obtain⟨_,c,hc⟩:=qe k2 hx.symm;exact⟨c,_,hc⟩)
   have bq:∀(k:Nat) (o:Obj),V1.heap[k]?=some o->(∀c fz,o≠Obj.cells c 9 fz)->(∀c fz,o≠Obj.cells c 22 fz)->(w1.setCell (Ad NB 0) (.slice (some ⟨g',0,none⟩) (pre.length+1) ab)).heap[k]?=some o:=λk o an eh d4=>by
    refine (aj.block k (zg an).1 (λe=>?_)).trans an;rcases e with e | e
    .rw[e] at an;have hj:=k1;unfold Boxed at hj;rw[hj] at an;cases an;exact d4 _ _ rfl
    .obtain⟨_,c,hc⟩:=qe k2 e.symm;rw[hc] at an;cases an;exact eh _ _ rfl
   have ef:∀m',qn m' V1 (w1.setCell (Ad NB 0) (.slice (some ⟨g',0,none⟩) (pre.length+1) ab)):=λm'=>⟨λk c t ht hk=>bq k _ hk (λc' fz e=>by cases e;exact ht.1 rfl) (λc' fz e=>by cases e;exact ht.2.1 rfl),λk es c hk=>bq k _ hk (λ_ _ e=>by cases e) (λ_ _ e=>by cases e),dg m'⟩;refine⟨g',ab,rfl,⟨_,bj.cell⟩,bj.frozen,KeepsFrom.tr (KeepsFrom.ofBelow ae) (dg _),(qn.ofBelow ae).tr (ef _),_,qbj bj _,?_,?_,?_,by simp;omega⟩
   .have:=Qg ho ⟨NB,0,none⟩ (.slice (some ⟨g',0,none⟩) (pre.length+1) ab) (Qf ho bj (by decide));simpa using this
   .refine (h3.trans (ae.mono (by omega))).trans ⟨aj.os,aj.tape,aj.output,aj.size,λk hk=>?_⟩;refine aj.block k (by have:=ae.size;omega) (λe=>?_);rcases e with rfl | e
    .omega
    .have:=(qe k2 e.symm).1;omega
   .have:=aj.size;have:=ae.size;omega
  have Qgt:Tryz.prog.follows .mixedOrders=true:=by kernel_rfl
  clear af h1 h2
  gi_wp2
  generalize qcb t.1=tx at *;refine wpIn_region_any Qgt ?_
  (try (change wpAnyIn _ _ _ _ _ _ _ _ _ (World.drew _)))
  refine wpAnyIn_ready (rs:=[0,1]) (by kernel_rfl) (by simp) (AllReadyIn.cons rfl (λK hK=>?_) (AllReadyIn.cons rfl (λK hK=>?_) AllReadyIn.nil))
  .go_simp
   refine hK _ _ ?_;clear hK K;refine wpAnyIn_ready (rs:=[1]) (by kernel_rfl) (by simp) (AllReadyIn.cons rfl (λK hK=>?_) AllReadyIn.nil)
   go_simp
   refine hK _ _ ?_;clear hK K;refine wpAnyIn_ready (rs:=[2]) (by kernel_rfl) (by simp) (AllReadyIn.cons rfl (λK hK=>?_) AllReadyIn.nil)
   go_simp
   refine⟨trivial,?_⟩;refine (CallsIn.inRound l' (callsIn_wide.2 cd.out)).mono ?_;rintro e V1 ⟨rfl,aa⟩;have bc:=av.out V1 aa;have bb:∀O,(V1.alloc O).cell? (Ad NB 0)=some (.slice va pre.length vc):=λO=>av.out _ (aa.alloc aa.size O);refine hK _ _ ?_;clear hK K;refine wpAnyIn_ready (rs:=[3]) (by kernel_rfl) (by simp) (AllReadyIn.cons rfl (λK hK=>?_) AllReadyIn.nil)
   go_simp
   refine hK _ _ ?_;clear hK K;refine wpAnyIn_ready (rs:=[4]) (by kernel_rfl) (by simp) (BigFrame.allReadyIn_want rfl rfl (λK hK=>?_) AllReadyIn.nil);refine qeg _ (.tmp 7) (.tmp 10) 22 rfl NB 9 i0 (St ⟨#[]⟩) 1 16 Tryz.underlying22 hi b0 bi bn rfl (by decide) (.slice va pre.length vc) _ _ rfl (bf.out V1 aa) ⟨V1.heap.size,0,none⟩ 1 1 [St tx] rfl rfl (cell_one_new _ _ _) (by simp[Value.oneCell']) bu b3 (bt.out V1 aa) ?_;intro v' w1 ho aq b8;obtain⟨g',ab,rfl,⟨cv,ci⟩,b4,ai⟩:=q7.out V1 v' w1 aa ho aq;refine hK _ _ ?_;clear hK K;refine wpAnyIn_ready (rs:=[5]) (by kernel_rfl) (by simp) (AllReadyIn.cons rfl (λK hK=>?_) AllReadyIn.nil)
   go_simp
   refine hK _ _ ?_;clear hK K;refine wpAnyIn_done (by kernel_rfl) ?_ _;exact ai
  .go_simp
   refine hK _ _ ?_;clear hK K;refine wpAnyIn_ready (rs:=[0,2]) (by kernel_rfl) (by simp) (AllReadyIn.cons rfl (λK hK=>?_) (AllReadyIn.cons rfl (λK hK=>?_) AllReadyIn.nil))
   .go_simp
    refine hK _ _ ?_;clear hK K;refine wpAnyIn_ready (rs:=[2]) (by kernel_rfl) (by simp) (AllReadyIn.cons rfl (λK hK=>?_) AllReadyIn.nil)
    go_simp
    refine⟨trivial,?_⟩;refine (CallsIn.inRound l' (callsIn_wide.2 cd.out)).mono ?_;rintro e V1 ⟨rfl,aa⟩;have bc:=av.out V1 aa;have bb:∀O,(V1.alloc O).cell? (Ad NB 0)=some (.slice va pre.length vc):=λO=>av.out _ (aa.alloc aa.size O);refine hK _ _ ?_;clear hK K;refine wpAnyIn_ready (rs:=[3]) (by kernel_rfl) (by simp) (AllReadyIn.cons rfl (λK hK=>?_) AllReadyIn.nil)
    go_simp
    refine hK _ _ ?_;clear hK K;refine wpAnyIn_ready (rs:=[4]) (by kernel_rfl) (by simp) (BigFrame.allReadyIn_want rfl rfl (λK hK=>?_) AllReadyIn.nil);refine qeg _ (.tmp 7) (.tmp 10) 22 rfl NB 9 i0 (St ⟨#[]⟩) 1 16 Tryz.underlying22 hi b0 bi bn rfl (by decide) (.slice va pre.length vc) _ _ rfl (bf.out V1 aa) ⟨V1.heap.size,0,none⟩ 1 1 [St tx] rfl rfl (cell_one_new _ _ _) (by simp[Value.oneCell']) bu b3 (bt.out V1 aa) ?_;intro v' w1 ho aq b8;obtain⟨g',ab,rfl,⟨cv,ci⟩,b4,ai⟩:=q7.out V1 v' w1 aa ho aq;refine hK _ _ ?_;clear hK K;refine wpAnyIn_ready (rs:=[5]) (by kernel_rfl) (by simp) (AllReadyIn.cons rfl (λK hK=>?_) AllReadyIn.nil)
    go_simp
    refine hK _ _ ?_;clear hK K;refine wpAnyIn_done (by kernel_rfl) ?_ _;exact ai
   .go_simp
    refine⟨trivial,?_⟩;refine (CallsIn.inRound l' (callsIn_wide.2 cd.out)).mono ?_;rintro e V1 ⟨rfl,aa⟩;have bc:=av.out V1 aa;have bb:∀O,(V1.alloc O).cell? (Ad NB 0)=some (.slice va pre.length vc):=λO=>av.out _ (aa.alloc aa.size O);refine hK _ _ ?_;clear hK K;refine wpAnyIn_ready (rs:=[0,3]) (by kernel_rfl) (by simp) (AllReadyIn.cons rfl (λK hK=>?_) (AllReadyIn.cons rfl (λK hK=>?_) AllReadyIn.nil))
    .go_simp
     refine hK _ _ ?_;clear hK K;refine wpAnyIn_ready (rs:=[3]) (by kernel_rfl) (by simp) (AllReadyIn.cons rfl (λK hK=>?_) AllReadyIn.nil)
     go_simp
     refine hK _ _ ?_;clear hK K;refine wpAnyIn_ready (rs:=[4]) (by kernel_rfl) (by simp) (BigFrame.allReadyIn_want rfl rfl (λK hK=>?_) AllReadyIn.nil);refine qeg _ (.tmp 7) (.tmp 10) 22 rfl NB 9 i0 (St ⟨#[]⟩) 1 16 Tryz.underlying22 hi b0 bi bn rfl (by decide) (.slice va pre.length vc) _ _ rfl (bf.out V1 aa) ⟨V1.heap.size,0,none⟩ 1 1 [St tx] rfl rfl (cell_one_new _ _ _) (by simp[Value.oneCell']) bu b3 (bt.out V1 aa) ?_;intro v' w1 ho aq b8;obtain⟨g',ab,rfl,⟨cv,ci⟩,b4,ai⟩:=q7.out V1 v' w1 aa ho aq;refine hK _ _ ?_;clear hK K;refine wpAnyIn_ready (rs:=[5]) (by kernel_rfl) (by simp) (AllReadyIn.cons rfl (λK hK=>?_) AllReadyIn.nil)
     go_simp
     refine hK _ _ ?_;clear hK K;refine wpAnyIn_done (by kernel_rfl) ?_ _;exact ai
    .go_simp
     refine hK _ _ ?_;clear hK K;refine wpAnyIn_ready (rs:=[0]) (by kernel_rfl) (by simp) (AllReadyIn.cons rfl (λK hK=>?_) AllReadyIn.nil)
     go_simp
     refine hK _ _ ?_;clear hK K;refine wpAnyIn_ready (rs:=[4]) (by kernel_rfl) (by simp) (BigFrame.allReadyIn_want rfl rfl (λK hK=>?_) AllReadyIn.nil);refine qeg _ (.tmp 7) (.tmp 10) 22 rfl NB 9 i0 (St ⟨#[]⟩) 1 16 Tryz.underlying22 hi b0 bi bn rfl (by decide) (.slice va pre.length vc) _ _ rfl (bf.out V1 aa) ⟨V1.heap.size,0,none⟩ 1 1 [St tx] rfl rfl (cell_one_new _ _ _) (by simp[Value.oneCell']) bu b3 (bt.out V1 aa) ?_;intro v' w1 ho aq b8;obtain⟨g',ab,rfl,⟨cv,ci⟩,b4,ai⟩:=q7.out V1 v' w1 aa ho aq;refine hK _ _ ?_;clear hK K;refine wpAnyIn_ready (rs:=[5]) (by kernel_rfl) (by simp) (AllReadyIn.cons rfl (λK hK=>?_) AllReadyIn.nil)
     go_simp
     refine hK _ _ ?_;clear hK K;refine wpAnyIn_done (by kernel_rfl) ?_ _;exact ai
