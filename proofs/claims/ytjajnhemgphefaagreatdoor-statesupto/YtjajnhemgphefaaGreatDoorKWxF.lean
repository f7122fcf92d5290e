/- A part -/
import Derived.Test.YtjajnhemgphefaaGreatDoorKWzK
set_option linter.all false
set_option maxRecDepth 100000
set_option maxHeartbeats 4000000
namespace Go.Proofs.YtjajnhemgphefaaGreatDoor
open Go renaming World->Wq,Value->Vq
open Go.RowKit Go.Shelf
variable {W W' X Y Z:Wq} {m:By} {P:Program} {C Q:Nat->Prop} {B bw T N:Nat} {af ae vl:Vq} {L:List (Vq×Nat)} {xs:List Vq}
def mkB(k:Nat):By:=(⟨#[109,97,114,107]⟩:By) ++ ⟨(Lib.itoa k).toArray⟩
def ItO(W:Wq):Prop:=∀Y,Below W.heap.size W Y->∀n:Nat,n<=100000000->Cs 129 #[Ii n] Y λe w'=>e=.returned (St ⟨(Lib.itoa n).toArray⟩)/\Below Y.heap.size Y w'
theorem ItO.below(h:ItO W)(hb:Below W.heap.size W W'):ItO W':=λY hY n hn=>h Y (hb.trans (hY.mono hb.size)) n hn
theorem Qai(u:Nat):Lib.nDigits u<=u+1:=by
 induction u using Nat.strongRecOn with
 | _ u ih=>
  rw[Lib.nDigits];split
  .omega
  .have:=ih (u / 10) (by omega);omega
theorem q71(n:Nat):(Lib.itoa n).length<=n+1:=by
 unfold Lib.itoa;rw[if_neg (by omega),Lib.decDigits_length];exact Qai _
theorem qvz(k:Nat)(hk:k<=100000000)(W:Wq)(hI:ItO W):Cs 74 #[Ii k] W λe w'=>e=.returned (St (mkB k))/\Below W.heap.size W w':=by
 have c9:Hid _:=hI W zr k hk;have hl:=q71 k;have et:¬9223372036854775807 < 4+(Lib.itoa k).length:=by omega
 clear hI hl;go_enter Tryz.func74,Tryz.ntmps74;go_wp2_with fail;refine Calls.mono c9.out ?_;rintro e' W1 ⟨rfl,hb⟩;have HB:Hid _:=hb;clear hb;go_wp2;go_ret;exact⟨rfl,HB.out⟩
def Mk(m:By)(X Y:Wq):Prop:=∀(g:Nat) (c:Array Vq) (t:TypeId),X.heap[g]?=cC c t->∃c',Y.heap[g]?=cC c' t/\∀j:Nat,c[j]?=some (St m)->c'[j]?=some (St m)
theorem Mk.trans(h:Mk m X Y)(k:Mk m Y Z):Mk m X Z:=λg c t hg=>by
 obtain⟨c1,h1,h2⟩:=h g c t hg;obtain⟨c2,h3,h4⟩:=k g c1 t h1;exact⟨c2,h3,λj hj=>h4 j (h2 j hj)⟩
theorem Mk.below(h:Below X.heap.size X Y):Mk m X Y:=λg c t hg=>⟨c,(h.block g (zg hg).1).trans hg,λj hj=>hj⟩
theorem q0e(w:Wq)(ag:Nat)(t ty e:TypeId)(i:TypeInfo)(z:Vq)(ht:P.underlying t=some (.slice e))(hi:P.info? e=some i)(hz:i.zero=some z)(v:Vq)(n:Nat)(xs:List Vq)(qq:w.ownsRow ag e i.size v n xs)(a:Addr)(m c:Nat)(ac:List Vq)(hl:ac.length=m*i.size)(al:∀j u,ac[j]?=some u->w.cell? (a.add j)=some u)(h1:∀u∈ac,u.oneCell'=true)(dt:n+m<=maxLen)(aq:(n+m)*i.bytes<=140737488355328){v':Vq}{w':Wq}(an:(Builtin.append_ #[t,t] ty #[v,.slice (some a) m c]).run P w=.ok v' w')(ed:w.grownBy w' v.ownBlock){mk:By}(hm:∀u∈ac,u=St mk):Mk mk w w':=by
 intro g0 d4 t0 h0;have Qbn:n+m<=9223372036854775807:=by simp only[maxLen] at dt;omega
 have ao:=(zg h0).1;by_cases hr:v.ownBlock=some g0
 .have dx:=qq;obtain⟨hx,⟨rfl,rfl⟩ | ⟨g,cap,ai,rfl,em,hg,ei,es,dy,el⟩⟩:=qq
  .simp[Value.ownBlock] at hr
  .have dj:g=g0:=by simpa [Value.ownBlock] using hr
   subst dj;rw[hg] at h0;simp only[Option.some.injEq,Obj.cells.injEq,and_true] at h0;obtain⟨dm,dz⟩:=h0;subst dm;subst dz;by_cases am:n+m<=cap
   .have da:n*i.size+ac.length<=ai.size:=by rw[hl,dy,<- Nat.add_mul];exact Nat.mul_le_mul_right _ am
    rw[run_append_room (P:=P) w t ty e i ht hi g n cap ai hg a m c ac hl al h1 am da] at an;cases an;refine⟨_,setRow_heap w g ai _ e _ hg,λj hj=>?_⟩;rw[List.getElem?_toArray];have bu:ai.toList[j]?=some (St mk):=by simpa using hj
    have ek:j < ai.toList.length:=(List.getElem?_eq_some_iff.1 bu).1;have a7:(ai.toList.take (n*i.size)).length=n*i.size:=by rw[List.length_take,Array.length_toList];omega
    rcases Nat.lt_or_ge j (n*i.size) with h5 | h5
    .rw[List.append_assoc,List.getElem?_append_left (by omega),List.getElem?_take_of_lt h5];exact bu
    .rcases Nat.lt_or_ge j (n*i.size+ac.length) with h6 | h6
     .rw[List.append_assoc,List.getElem?_append_right (by omega),List.getElem?_append_left (by omega),a7];have h7:j - n*i.size < ac.length:=by omega
      rw[List.getElem?_eq_getElem h7,hm _ (zm h7)]
     .rw[List.getElem?_append_right (by rw[List.length_append];omega),List.length_append,a7,List.getElem?_drop];rw[show n*i.size+ac.length+(j - (n*i.size+ac.length))=j by omega];exact bu
   .have holds:∀j u,xs[j]?=some u->w.cell? ((⟨g,0,none⟩:Addr).add j)=some u:=dx.cells (g:=g) rfl;rw[run_append_grow (P:=P) w t ty e i z ht hi hz ⟨g,0,none⟩ n cap xs hx holds a m c ac hl al (by omega) (by omega) (growslice_fits (by omega) aq)] at an;cases an;exact⟨ai,(Below.heap_alloc w.drew _ g ao).trans hg,λj hj=>hj⟩
 .exact⟨d4,(ed.block g0 ao (λe=>hr e.symm)).trans h0,λj hj=>hj⟩
theorem qjl{P:Program}(w:Wq){cv:Array Oper}{rest:List Oper}{o:Oper}{a:Act}{Q:Exit->Act->Wq->Prop}(dv:o.guard=none)(s x:Operand)(t:TypeId)(ho:o.op=.call {callee:=.builtin .append,args:=#[s,x],argTypes:=#[t,t]})(ag:Nat)(e:TypeId)(i:TypeInfo)(z:Vq)(size bytes:Nat)(h1:P.underlying t=some (.slice e))(h2:P.info? e=some i)(h3:i.zero=some z)(h4:i.size=size)(h5:i.bytes=bytes)(h6:z.cells.size=size)(h7:0 < size)(v:Vq)(n:Nat)(xs:List Vq)(hs:a.eval s=v)(qq:w.ownsRow ag e size v n xs)(ad:Addr)(m c:Nat)(ac:List Vq)(hx:a.eval x=.slice (some ad) m c)(hn:ac.length=m*size)(hc:∀j u,ac[j]?=some u->w.cell? (ad.add j)=some u)(b9:∀u∈ac,u.oneCell'=true)(b1:n+m<=maxLen)(b2:(n+m)*bytes<=140737488355328)(dh:ag<=w.heap.size)(mk:By)(hm:∀u∈ac,u=St mk)(h:∀v' w',w'.ownsRow ag e size v' (n+m) (xs++ac)->w'.ownsRow ag e size v n xs->w.grownBy w' v.ownBlock->Mk mk w w'->wpList P cv Q rest (a.put o.dst v') w'):wpList P cv Q (o::rest) a w:=by
 refine wpList_plain dv λK d5=>?_;obtain⟨v',w',an,r1,r2,_,r3⟩:=run_append_own_at (P:=P) w ag t o.type e i z size bytes h1 h2 h3 h4 h5 h6 h7 v n xs qq ad m c ac hn hc b9 b1 b2 dh;subst h4 h5;have r4:=qo4 w ag t o.type e i z h1 h2 h3 v n xs qq ad m c ac hn hc b9 b1 b2 an;have r5:=q0e w ag t o.type e i z h1 h2 h3 v n xs qq ad m c ac hn hc b9 b1 b2 an r2 hm;unfold Oper.wp;simp[execOp,ho,resolve,invoke,builtin,hs,hx,an,Result.andThen];exact d5 _ _ (h v' w' r1 r4 r2 r5)
def qew(W:Wq)(C:Nat->Prop)(v:Vq)(m:By):Prop:=∃oa n c,v=.slice oa n c/\n<=3000/\(0 < n->∃g cs,oa=some ⟨g,0,none⟩/\C g/\W.heap[g]?=cC cs 9/\∀j,j < n->cs[j]?=some (St m))
theorem qew.mk{v:Vq}(h:qew W C v m)(hm:Mk m W W'):qew W' C v m:=by
 obtain⟨oa,n,c,h1,h2,h3⟩:=h;refine⟨oa,n,c,h1,h2,λh0=>?_⟩;obtain⟨g,cs,k1,k2,k3,k4⟩:=h3 h0;obtain⟨c',k5,k6⟩:=hm g cs _ k3;exact⟨g,c',k1,k2,k5,λj hj=>k6 j (k4 j hj)⟩
theorem qew.same{C':Nat->Prop}{v:Vq}(h:qew W C v m)(hs:∀g cs,C g->W.heap[g]?=cC cs 9->C' g/\W'.heap[g]?=W.heap[g]?):qew W' C' v m:=by
 obtain⟨oa,n,c,h1,h2,h3⟩:=h;refine⟨oa,n,c,h1,h2,λh0=>?_⟩;obtain⟨g,cs,k1,k2,k3,k4⟩:=h3 h0;obtain⟨k5,k6⟩:=hs g cs k2 k3;exact⟨g,cs,k1,k5,k6.trans k3,k4⟩
theorem qew.own{n:Nat}{v:Vq}(h:W.ownsRow B 9 1 v n (List.replicate n (St m)))(hn:n<=3000):qew W (λg=>B<=g) v m:=by
 obtain⟨h0,⟨rfl,rfl⟩ | ⟨g,cap,ai,rfl,hb,hw,h1,h2,h3,h4⟩⟩:=h
 .exact⟨none,0,0,rfl,by omega,λh=>by omega⟩
 .refine⟨_,n,cap,rfl,hn,λ_=>⟨g,ai,rfl,hb,hw,λj hj=>?_⟩⟩;have h5:(ai.toList.take (n*1))[j]?=(List.replicate n (Value.string m))[j]?:=by rw[h4]
  rw[List.getElem?_take_of_lt (by omega),List.getElem?_replicate,if_pos hj] at h5;simpa using h5
structure MkV(B n:Nat)(W:Wq)(af ae:Vq)(Q:Nat->Prop)(L:List (Vq×Nat)):Prop where
 few:L.length<=4*n
 nums:∀p∈L,p.2<=4*n
 rowL:W.ownsRow B 22 1 af L.length (L.map (·.1))
 rowK:W.ownsRow B 3 1 ae L.length (L.map (λp=>Ii p.2))
 inL:∀g,af.ownBlock=some g->Q g
 inK:∀g,ae.ownBlock=some g->Q g
 each:∀p∈L,qew W Q p.1 (mkB p.2)
 ty:∀k,Q k->B<=k/\∃c t,W.heap[k]?=cC c t/\(t=9\/t=22\/t=3)
def MkL(B n:Nat)(W:Wq)(af ae:Vq)(Q:Nat->Prop):Prop:=∃L,MkV B n W af ae Q L
theorem MkV.keep{n:Nat}(h:MkV B n W af ae Q L)(hk:∀k,Q k->W'.heap[k]?=W.heap[k]?):MkV B n W' af ae Q L:=
 ⟨h.few,h.nums,qm h.rowL (λg hg _=>hk g (h.inL g hg)),qm h.rowK (λg hg _=>hk g (h.inK g hg)),h.inL,h.inK,λp hp=>(h.each p hp).same (λg cs hg _=>⟨hg,hk g hg⟩),λk c4=>by rw[hk k c4];exact h.ty k c4⟩
theorem qne:qwz MkL:=by
 refine⟨λB n W W' af ae Q ex ⟨L,h⟩ hc hd=>⟨L,h.keep (λk hk=>?_)⟩,λB n W af ae Q ⟨L,h⟩=>⟨L,⟨by have:=h.few;omega,λp hp=>by have:=h.nums p hp;omega,h.rowL,h.rowK,h.inL,h.inK,h.each,h.ty⟩⟩,λB n W af ae Q ⟨L,h⟩ k hk=>?_⟩
 .obtain⟨_,c,t,h1,_⟩:=h.ty k hk;exact hc.block k (zg h1).1 (hd k hk)
 .obtain⟨_,c,t,h1,h2⟩:=h.ty k hk;exact⟨c,t,h1,by rcases h2 with rfl | rfl | rfl <;> decide,by rcases h2 with rfl | rfl | rfl <;> decide⟩
theorem q75(B:Nat)(W:Wq):MkL B 1 W (.slice none 0 0) (.slice none 0 0) (λ_=>False):=
 ⟨[],by simp,λp hp=>(by cases hp),zo,zo,λg hg=>(by simp[Value.ownBlock] at hg),λg hg=>(by simp[Value.ownBlock] at hg),λp hp=>(by cases hp),λk hk=>hk.elim⟩
theorem qtb(w:Wq)(xs:List Vq)(t:TypeId):∀j u,xs[j]?=some u->(w.alloc (.cells xs.toArray t)).cell? ((⟨w.heap.size,0,none⟩:Addr).add j)=some u:=by
 intro j u hj;rw[Addr.add_lit,Nat.zero_add];have h:=zn w (.cells xs.toArray t);simp only[World.cell?,h];simpa using hj
def TyK(X Y:Wq):Prop:=∀(g:Nat) (c:Array Vq) (t:TypeId),X.heap[g]?=cC c t->∃c',Y.heap[g]?=cC c' t
theorem TyK.trans(h:TyK X Y)(k:TyK Y Z):TyK X Z:=λg c t hg=>by
 obtain⟨c1,h1⟩:=h g c t hg;exact k g c1 t h1
theorem qmb{cs:Array Vq}{n n':Nat}{vr ak:Vq}{a9:List Vq}{O:Obj}(Qs:X.heap[bw]?=cC cs 31)(Qv:X.ownsRow B T 1 vr n xs)(hT:T≠31)(hg:(X.alloc O).grownBy Y vr.ownBlock)(cb:Y.ownsRow B T 1 vr n xs)(au:Y.ownsRow B T 1 ak n' a9)(i:Nat) :
  Y.heap[bw]?=cC cs 31/\(Y.setCell (Ad bw i) ak).heap[bw]?=cC (cs.setIfInBounds i ak) 31/\(Y.setCell (Ad bw i) ak).ownsRow B T 1 ak n' a9/\Chg X (Y.setCell (Ad bw i) ak) (λk=>k=bw\/vr.ownBlock=some k)/\TyK X (Y.setCell (Ad bw i) ak):=by
 have db:bw < X.heap.size:=(zg Qs).1
 have cz:vr.ownBlock≠some bw:=λe=>by
  obtain⟨c,hc⟩:=qh Qv e;rw[Qs] at hc;cases hc;exact hT rfl
 have h2:Y.heap[bw]?=cC cs 31:=((hg.block bw (by simp;omega) (λe=>cz e.symm)).trans (Below.heap_alloc X O bw db)).trans Qs;have h3:=Qd h2 i ak;have hc:Chg X (Y.setCell (Ad bw i) ak) (λk=>k=bw\/vr.ownBlock=some k):=Chg.setCell (((Chg.refl X (λk=>k=bw\/vr.ownBlock=some k)).alloc O).grown hg (λk hk _=>.inr hk)) ⟨bw,i,none⟩ ak (λ_=>.inl rfl);refine⟨h2,h3,Qg au ⟨bw,i,none⟩ ak (λg bi e=>?_),hc,λg c t ah=>?_⟩
 .obtain⟨c,hc⟩:=qh au bi;have e':g=bw:=e;rw[e',h2] at hc;cases hc;exact hT rfl
 .by_cases e1:g=bw
  .subst e1;rw[Qs] at ah;cases ah;exact⟨_,h3⟩
  .by_cases e2:vr.ownBlock=some g
   .obtain⟨c1,c3⟩:=qh Qv e2;rw[ah] at c3;cases c3;obtain⟨c2,c8⟩:=qh (Qg cb ⟨bw,i,none⟩ ak (λg' bi e=>by have e':g'=bw:=e;rw[e'] at bi;exact cz bi)) e2;exact⟨c2,c8⟩
   .exact⟨c,(hc.block g (zg ah).1 (by rintro (h | h);exact e1 h;exact e2 h)).trans ah⟩
def q63(B n N bw:Nat)(W:Wq)(vl:Vq)(Q:Nat->Prop)(W':Wq):Prop:=∃aa ab Q',W'.heap[bw]?=cC #[vl,aa,ab] 31/\MkL B (n+1) W' aa ab Q'/\(∀k,Q' k->Q k\/N<=k)/\(∀k,Q' k->k < W'.heap.size)/\Chg W W' (λk=>k=bw\/Q k\/N<=k)
theorem q8e{n:Nat}{aa ab v0 v1 v2 v3:Vq}{O1 O2:Obj}(Qs:W.heap[bw]?=cC #[vl,af,ae] 31)(h:MkV B n W af ae Q L)(cp:B<=N)(bo:N<=W.heap.size)(ay:bw < N)(hQ:∀k,Q k->k < N)(hb:Below N W X)(m0:qew X (λg=>N<=g) v0 (mkB L.length))(m1:qew X (λg=>N<=g) v1 (mkB L.length))(m2:qew X (λg=>N<=g) v2 (mkB L.length))(m3:qew X (λg=>N<=g) v3 (mkB L.length))(bj:(X.alloc O1).grownBy Y af.ownBlock)(aw:Y.ownsRow B 22 1 af L.length (L.map (·.1)))(a8:Y.ownsRow B 22 1 aa (L.length+4) (L.map (·.1)++[v0,v1,v2,v3]))(dq:aa.ownBlock=af.ownBlock\/aa.ownBlock=some (X.alloc O1).heap.size)(bk:((Y.setCell (Ad bw 1) aa).alloc O2).grownBy Z ae.ownBlock)(av:Z.ownsRow B 3 1 ae L.length (L.map (λp=>Ii p.2)))(bb:Z.ownsRow B 3 1 ab (L.length+4) (L.map (λp=>Ii p.2)++[Ii L.length,Ii L.length,Ii L.length,Ii L.length]))(du:ab.ownBlock=ae.ownBlock\/ab.ownBlock=some ((Y.setCell (Ad bw 1) aa).alloc O2).heap.size) :
  q63 B n N bw W vl Q (Z.setCell (Ad bw 2) ab):=by
 have bh:∀k,Q k->X.heap[k]?=W.heap[k]?:=λk hk=>hb.block k (hQ k hk);have hX:=h.keep bh;have cc:X.heap[bw]?=cC #[vl,af,ae] 31:=(hb.block bw ay).trans Qs;obtain⟨_,b1,r1,c1,t1⟩:=qmb cc hX.rowL (by decide) bj aw a8 1
 have bt:(Y.setCell (Ad bw 1) aa).ownsRow B 3 1 ae L.length (L.map (λp=>Ii p.2)):=qm hX.rowK (λg hg hl=>c1.block g hl (λe=>by
  obtain⟨c,hc⟩:=qh hX.rowK hg;rcases e with rfl | e
  .rw[cc] at hc;cases hc
  .obtain⟨c',aj⟩:=qh hX.rowL e
   rw[hc] at aj;cases aj))
 obtain⟨_,b2,r2,c2,t2⟩:=qmb b1 bt (by decide) bk av bb 2;have hz:=hb.size;have az:=c1.size;have bd:=c2.size;have ef:=t1.trans t2
 have ci:(Z.setCell (Ad bw 2) ab).ownsRow B 22 1 aa (L.length+4) (L.map (·.1)++[v0,v1,v2,v3]):=qm r1 (λg hg hl=>c2.block g hl (λe=>by
  obtain⟨c,hc⟩:=qh r1 hg;rcases e with rfl | e
  .rw[b1] at hc;cases hc
  .obtain⟨c',aj⟩:=qh bt e
   rw[hc] at aj;cases aj))
 have cq:∀g cs,X.heap[g]?=cC cs 9->(Z.setCell (Ad bw 2) ab).heap[g]?=X.heap[g]?:=λg cs ah=>by
  have hl:=(zg ah).1
  have e1:(Y.setCell (Ad bw 1) aa).heap[g]?=X.heap[g]?:=c1.block g hl (λe=>by
   rcases e with rfl | e
   .rw[cc] at ah;cases ah
   .obtain⟨c',aj⟩:=qh hX.rowL e
    rw[ah] at aj;cases aj)
  refine (c2.block g (by omega) (λe=>?_)).trans e1;rw[ah] at e1;rcases e with rfl | e
  .rw[b1] at e1;cases e1
  .obtain⟨c',aj⟩:=qh bt e;rw[e1] at aj;cases aj
 have cr:∀(v v':Vq) (T:Nat),(T=9\/T=22\/T=3)->∀(nn:Nat) (xs:List Vq) (M:Nat),(Z.setCell (Ad bw 2) ab).ownsRow B T 1 v' nn xs->(∀g,v.ownBlock=some g->Q g)->W.heap.size<=M->(v'.ownBlock=v.ownBlock\/v'.ownBlock=some M)->∀g,v'.ownBlock=some g->Q g\/(N<=g/\g < (Z.setCell (Ad bw 2) ab).heap.size/\∃c t,(Z.setCell (Ad bw 2) ab).heap[g]?=cC c t/\(t=9\/t=22\/t=3)):=λv v' T hT nn xs M Qv hq hM d9 g hg=>by
  rcases d9 with e | e
  .exact .inl (hq g (by rw[<- e];exact hg))
  .rw[hg] at e;have e':g=M:=by simpa using e
   obtain⟨c,hc⟩:=qh Qv hg;have hl:=(zg hc).1;exact .inr ⟨by omega,hl,c,T,hc,hT⟩
 refine⟨aa,ab,λk=>Q k\/(N<=k/\k < (Z.setCell (Ad bw 2) ab).heap.size/\∃c t,(Z.setCell (Ad bw 2) ab).heap[k]?=cC c t/\(t=9\/t=22\/t=3)),by simpa using b2,⟨L++[(v0,L.length),(v1,L.length),(v2,L.length),(v3,L.length)],?_,?_,?_,?_,?_,?_,?_,?_⟩,?_,?_,?_⟩
 .have:=h.few;simp;omega
 .intro p hp;have hf:=h.few;rcases List.mem_append.1 hp with hp | hp
  .have:=h.nums p hp;omega
  .simp only[List.mem_cons,List.not_mem_nil,or_false] at hp;rcases hp with rfl | rfl | rfl | rfl <;> (simp only;omega)
 .simpa using ci
 .simpa using r2
 .exact cr af aa 22 (by simp) _ _ _ ci h.inL (by simp;omega) dq
 .exact cr ae ab 3 (by simp) _ _ _ r2 h.inK (by simp at az ⊢;omega) du
 .have au:∀v,qew X (λg=>N<=g) v (mkB L.length)->qew (Z.setCell (Ad bw 2) ab) (λk=>Q k\/(N<=k/\k < (Z.setCell (Ad bw 2) ab).heap.size/\∃c t,(Z.setCell (Ad bw 2) ab).heap[k]?=cC c t/\(t=9\/t=22\/t=3))) v (mkB L.length):=λv hm=>hm.same (λg cs hg ah=>by
   have e:=cq g cs ah;have hl:=(zg (e.trans ah)).1
   exact⟨.inr ⟨hg,hl,cs,9,e.trans ah,.inl rfl⟩,e⟩)
  intro p hp;rcases List.mem_append.1 hp with hp | hp
  .exact (h.each p hp).same (λg cs hg ah=>⟨.inl hg,(cq g cs ((bh g hg).trans ah)).trans (bh g hg)⟩)
  .simp only[List.mem_cons,List.not_mem_nil,or_false] at hp;rcases hp with rfl | rfl | rfl | rfl
   .exact au _ m0
   .exact au _ m1
   .exact au _ m2
   .exact au _ m3
 .intro k hk;rcases hk with hk | ⟨hk,_,ea⟩
  .obtain⟨h5,c,t,h6,h7⟩:=h.ty k hk;obtain⟨c',h8⟩:=ef k c t ((bh k hk).trans h6);exact⟨h5,c',t,h8,h7⟩
  .exact⟨by omega,ea⟩
 .intro k hk;rcases hk with hk | hk
  .exact .inl hk
  .exact .inr hk.1
 .intro k hk;rcases hk with hk | hk
  .have:=hQ k hk;have:=(zg Qs).1;obtain⟨_,c,t,h6,_⟩:=h.ty k hk;have:=(zg h6).1;omega
  .exact hk.2.1
 .have e0:Chg W X (λk=>k=bw\/Q k\/N<=k):=⟨hb.os,hb.tape,hb.output,hb.size,λi hi hn=>hb.block i (by rcases Nat.lt_or_ge i N with h5 | h5;exact h5;exact absurd (.inr (.inr h5)) hn)⟩;refine (e0.trans (c1.mono (λk _ hk=>?_))).trans (c2.mono (λk _ hk=>?_))
  .rcases hk with rfl | hk
   .exact .inl rfl
   .exact .inr (.inl (h.inL k hk))
  .rcases hk with rfl | hk
   .exact .inl rfl
   .exact .inr (.inl (h.inK k hk))
theorem Tryz.infoStrs:(Tryz.prog.info? 22).map (λi=>(i.zero,i.size,i.bytes))=some (some (.slice none 0 0),1,24):=by kernel_rfl
theorem Tryz.infoI:(Tryz.prog.info? 3).map (λi=>(i.zero,i.size,i.bytes))=some (some (Ii 0),1,8):=by kernel_rfl
theorem q29(w:Wq){M:Nat}(hM:w.heap.size=M)(xs:List Vq)(t:TypeId):∀j u,xs[j]?=some u->(w.alloc (.cells xs.toArray t)).cell? ((⟨M,0,none⟩:Addr).add j)=some u:=by
 subst hM;exact qtb w xs t
theorem q8f{n g c:Nat}(h:W.ownsRow B T 1 (Sc g n c) n xs)(i:Nat)(u:Vq):(W.setCell (Ad g i) u).ownsRow B T 1 (Sc g n c) n (xs.set i u):=by
 obtain⟨h0,⟨hv,_⟩ | ⟨g',cap,ai,hv,hb,hw,h1,h2,h3,h4⟩⟩:=h
 .cases hv
 .cases hv;refine⟨by simpa using h0,.inr ⟨g,c,ai.setIfInBounds i u,rfl,hb,Qd hw i u,h1,h2,by simp[h3],?_⟩⟩;rw[Array.toList_setIfInBounds,List.take_set,h4]
theorem qhj{n:Nat}{v:Vq}(h:W.ownsRow B T 1 v n xs){i:Nat}(hi:i < n):∃g c u,v=Sc g n c/\B<=g/\W.cell? (Ad g i)=some u/\W.frozen? (Ad g i)=false/\xs[i]?=some u:=by
 obtain⟨h0,⟨_,hv⟩ | ⟨g,cap,ai,hv,hb,hw,h1,h2,h3,h4⟩⟩:=h
 .omega
 .have hl:i < xs.length:=by omega
  have e:ai.toList[i]?=xs[i]?:=by rw[h4.symm,List.getElem?_take_of_lt (by omega)]
  refine⟨g,cap,xs[i],hv,hb,?_,by simp[World.frozen?,hw],by simp⟩;rw[List.getElem?_eq_getElem hl] at e;simpa [World.cell?,hw] using e
theorem q8j(i:Nat)(x:Vq)(ys:List Vq)(hi:i < ys.length):(List.replicate i x++ys.drop i).set i x=List.replicate (i+1) x++ys.drop (i+1):=by
 rw[List.set_append_right _ _ (by simp)];simp only[List.length_replicate,Nat.sub_self];rw[List.drop_eq_getElem_cons hi,List.set_cons_zero,List.replicate_succ',List.append_assoc];rfl
theorem q8c{n:Nat}{v:Vq}{l:List By}(Qs:W.heap[bw]?=cC #[vl,af,ae] 31)(h:MkV B n W af ae Q L)(hn:n<=2000000)(cp:B<=N)(bo:N<=W.heap.size)(ay:bw < N)(hQ:∀k,Q k->k < N)(hl:l.length<=2900)(ho:W.ownsRow N 9 1 v l.length (l.map Value.string))(hI:ItO W) :
  Cs 71 #[Pt bw,v] W λen W'=>en=.returned (.tuple #[])/\q63 B n N bw W vl Q W':=by
 obtain⟨i0,hi,cd,az,bd⟩:=info_parts Tryz.infoStr;obtain⟨iS,hj,d3,dr,dp⟩:=info_parts Tryz.infoStrs;obtain⟨iI,eb,dw,d7,d6⟩:=info_parts Tryz.infoI;obtain⟨la,lc,hv⟩:=qd h.rowL;subst hv;obtain⟨ka,kc,hv⟩:=qd h.rowK;subst hv;obtain⟨va,vc,hv⟩:=qd ho;subst hv;have hf:=h.few;have ap:=qvz L.length (by omega) W hI;obtain⟨m,hm⟩:∃m,mkB L.length=m:=⟨_,rfl⟩;rw[hm] at ap;have cx:Hid _:=ap
 have HB:Hid (∀Y,Below N W Y->Y.cell? (Ad bw 1)=some (.slice la L.length lc)/\Y.cell? (Ad bw 2)=some (.slice ka L.length kc)/\Y.ownsRow B 22 1 (.slice la L.length lc) L.length (L.map (·.1))):=λY hY=>by
  have h1:=(hY.block bw ay).trans Qs;exact⟨zc h1,zc h1,(h.keep (λk hk=>hY.block k (hQ k hk))).rowL⟩
 obtain⟨c1,c2,_⟩:=HB.out W zr;have H0:Hid (W.ownsRow N 9 1 (.slice va l.length vc) l.length (l.map Value.string)):=ho;have HV:Hid (MkV B n W (.slice la L.length lc) (.slice ka L.length kc) Q L):=h;have ee:Hid _:=Qs;have HQ:Hid (∀k,Q k->k < N):=hQ;have HM:Hid _:=hm
 have c0:Hid (∀(X Y:Wq) (aa:Vq) (a9:List Vq) (n':Nat) (O1:Obj),Below N W X->(X.alloc O1).grownBy Y (Value.slice la L.length lc).ownBlock->Y.ownsRow B 22 1 (.slice la L.length lc) L.length (L.map (·.1))->Y.ownsRow B 22 1 aa n' a9->Y.cell? (Ad bw 1)=some (.slice la L.length lc)/\Y.frozen? (Ad bw 1)=false/\(Y.setCell (Ad bw 1) aa).heap[bw]?=cC #[vl,aa,.slice ka L.length kc] 31/\(Y.setCell (Ad bw 1) aa).ownsRow B 3 1 (.slice ka L.length kc) L.length (L.map (λp=>Ii p.2))/\∀O,B<=((Y.setCell (Ad bw 1) aa).alloc O).heap.size):=λX Y aa a9 n' O1 hX hg ho hn=>by
  have h1:=(hX.block bw ay).trans Qs;have h2:=h.keep (λk hk=>hX.block k (hQ k hk));obtain⟨b0,b1,_,c1,_⟩:=qmb h1 h2.rowL (by decide) hg ho hn 1;refine⟨zc b0,by simp[World.frozen?,b0],by simpa using b1,qm h2.rowK (λg hg hl=>c1.block g hl (λe=>?_)),λO=>?_⟩
  rotate_left
  .have z1:=hX.size;have z2:=c1.size;rw[World.size_alloc];omega
  obtain⟨c,hc⟩:=qh h2.rowK hg;rcases e with rfl | e
  .rw[h1] at hc;cases hc
  .obtain⟨c',aj⟩:=qh h2.rowL e;rw[hc] at aj;cases aj
 clear ap ho h Qs hQ hI hm;go_enter Tryz.func71,Tryz.ntmps71;go_wp2_with fail;refine Calls.mono cx.out ?_;rintro e' W1 ⟨rfl,bv⟩;have a6:Hid (Below N W W1/\W1.ownsRow N 9 1 (.slice va l.length vc) l.length (List.replicate 0 (St m)++(l.map Value.string).drop 0)):=⟨bv.mono bo,qk H0.out bv⟩;clear cx bv c1 c2;go_wp2_with fail
 go_loopw [6] (λp wr=>∃i:Nat,p=.int .i64 i/\i<=l.length/\Hid (Below N W wr/\wr.ownsRow N 9 1 (.slice va l.length vc) l.length (List.replicate i (.string m)++(l.map Value.string).drop i))) (λp _=>l.length - (intOf p).toNat)
 case atStart=>exact⟨0,rfl,zz,a6⟩
 case round=>
  clear a6;obtain⟨i,rfl,dk,ax⟩:=hrel;by_cases ao:i < l.length
  .have i1:(i:Int) < (l.length:Int):=by omega
   obtain⟨g,c,u,e1,e2,e3,e4,_⟩:=qhj ax.out.2 ao;cases e1
   have de:Hid (Below N W (wr.setCell (Ad g i) (St m))/\(wr.setCell (Ad g i) (St m)).ownsRow N 9 1 (Sc g l.length vc) l.length (List.replicate (i+1) (St m)++(l.map Value.string).drop (i+1))):=by
    refine⟨ax.out.1.setCell (p:=⟨g,i,none⟩) e2 _,?_⟩;rw[<- q8j i (St m) (l.map Value.string) (by simpa using ao)];exact q8f ax.out.2 i _
   go_wp2;refine⟨⟨i+1,by go_num,by omega,de⟩,by simp[intOf];omega⟩
  .have i1:¬(i:Int) < (l.length:Int):=by omega
   have dn:i=l.length:=by omega
   subst dn
   have ct:Hid (wr.ownsRow N 9 1 (.slice va l.length vc) l.length (List.replicate l.length (St m))):=by
    have:=ax.out.2;rw[List.drop_of_length_le (by simp),List.append_nil] at this;exact this
   have co:Hid (Below N W wr):=ax.out.1;clear ax;generalize l.length=q at *
   have HS:Hid (∀(X Y:Wq) (O:Obj) (k:Nat) (v':Vq),k<=3->Below N W X->(X.alloc O).grownBy Y (Value.slice va q vc).ownBlock->X.ownsRow N 9 1 (.slice va q vc) q (List.replicate q (St m))->Y.ownsRow N 9 1 (.slice va q vc) q (List.replicate q (St m))->Y.ownsRow N 9 1 v' (q+k) (List.replicate q (St m)++List.replicate k (St m))->Mk m (X.alloc O) Y->Below N W Y/\Y.ownsRow N 9 1 (.slice va q vc) q (List.replicate q (St m))/\qew Y (λg=>N<=g) v' m/\Mk m X Y/\∀O,N<=(Y.alloc O).heap.size):=λX Y O k v' hk hX hg aw av hn hm=>by
    have h1:Below N W Y:=(hX.alloc (by have:=hX.size;omega) O).grown hg (by have:=hX.size;simp;omega) (λg e=>(qe aw e).1);refine⟨h1,av,qew.own (n:=q+k) (by rw[<- List.replicate_append_replicate];exact hn) (by omega),(Mk.below ((Below.refl _ X).alloc zl O)).trans hm,λO=>by have:=h1.size;simp;omega⟩
   have dl:Hid (∀(X Y Z:Wq) (aa ab v1 v2 v3:Vq) (O1 O2:Obj),Below N W X->qew X (λg=>N<=g) (.slice va q vc) m->qew X (λg=>N<=g) v1 m->qew X (λg=>N<=g) v2 m->qew X (λg=>N<=g) v3 m->(X.alloc O1).grownBy Y (Value.slice la L.length lc).ownBlock->Y.ownsRow B 22 1 (.slice la L.length lc) L.length (L.map (·.1))->Y.ownsRow B 22 1 aa (L.length+4) (L.map (·.1)++[.slice va q vc,v1,v2,v3])->(aa.ownBlock=(Value.slice la L.length lc).ownBlock\/aa.ownBlock=some (X.alloc O1).heap.size)->((Y.setCell (Ad bw 1) aa).alloc O2).grownBy Z (Value.slice ka L.length kc).ownBlock->Z.ownsRow B 3 1 (.slice ka L.length kc) L.length (L.map (λp=>Ii p.2))->Z.ownsRow B 3 1 ab (L.length+4) (L.map (λp=>Ii p.2)++[Ii L.length,Ii L.length,Ii L.length,Ii L.length])->(ab.ownBlock=(Value.slice ka L.length kc).ownBlock\/ab.ownBlock=some ((Y.setCell (Ad bw 1) aa).alloc O2).heap.size)->Z.cell? (Ad bw 2)=some (.slice ka L.length kc)/\Z.frozen? (Ad bw 2)=false/\Hid (q63 B n N bw W vl Q (Z.setCell (Ad bw 2) ab))):=λX Y Z aa ab v1 v2 v3 O1 O2 hX a0 a1 a2 a3 b1 b2 b3 b4 b5 b6 b7 b8=>by
    obtain⟨_,_,k1,k2,_⟩:=c0.out X Y aa _ _ O1 hX b1 b2 b3;obtain⟨k4,_⟩:=qmb k1 k2 (by decide) b5 b6 b7 2;exact⟨zc k4,by simp[World.frozen?,k4],q8e ee.out HV.out cp bo ay HQ.out hX (HM.out ▸ a0) (HM.out ▸ a1) (HM.out ▸ a2) (HM.out ▸ a3) b1 b2 b3 b4 b5 b6 b7 b8⟩
   have c6:Hid (∀O,N<=(wr.alloc O).heap.size):=λO=>by have:=co.out.size;simp;omega
   have dd:Hid (∀X,Below N W X->∀O,B<=(X.alloc O).heap.size):=λX hX O=>by have:=hX.size;simp;omega
   go_wp2_with (first
    | (at_builtin;refine qjl _ rfl _ _ 22 rfl N 9 i0 _ 1 16 Tryz.underlying22 hi cd az bd rfl (by decide) _ q (List.replicate q (St m)) rfl (ct.out.alloc _) ⟨wr.heap.size,0,none⟩ 1 _ [St m] rfl rfl (qcl _ _ _) (by simp[Value.oneCell']) (by unfold maxLen;omega) (by omega) (c6.out _) m (by simp) ?_;intro v1 w1 a8 aw bj cl;have H1:Hid _:=HS.out _ _ _ 1 _ (by decide) co.out bj ct.out aw a8 cl;obtain⟨p1,t1,d0⟩:=qd a8;subst d0;clear a8 aw bj cl)
    | (at_builtin;refine qjl _ rfl _ _ 22 rfl N 9 i0 _ 1 16 Tryz.underlying22 hi cd az bd rfl (by decide) _ q (List.replicate q (St m)) rfl (H1.out.2.1.alloc _) ⟨w1.heap.size,0,none⟩ 2 _ [St m,St m] rfl rfl (qei _ _ _ _) (by simp[Value.oneCell']) (by unfold maxLen;omega) (by omega) (H1.out.2.2.2.2 _) m (by simp) ?_;intro v2 w2 bb av bk cn;have H2:Hid _:=HS.out _ _ _ 2 _ (by decide) H1.out.1 bk H1.out.2.1 av bb cn;obtain⟨p2,t2,ec⟩:=qd bb;subst ec;clear bb av bk cn)
    | (at_builtin;refine qjl _ rfl _ _ 22 rfl N 9 i0 _ 1 16 Tryz.underlying22 hi cd az bd rfl (by decide) _ q (List.replicate q (St m)) rfl (H2.out.2.1.alloc _) ⟨w2.heap.size,0,none⟩ 3 _ [St m,St m,St m] rfl rfl (qtb _ _ _) (by simp[Value.oneCell']) (by unfold maxLen;omega) (by omega) (H2.out.2.2.2.2 _) m (by simp) ?_;intro v3 w3 bn ch ck cu;have H3:Hid _:=HS.out _ _ _ 3 _ (by decide) H2.out.1 ck H2.out.2.1 ch bn cu;obtain⟨p3,t3,c7⟩:=qd bn;subst c7;clear bn ch ck cu;obtain⟨c1,c2,_⟩:=HB.out w3 H3.out.1;have H3m:Hid (qew w3 (λg=>N<=g) (.slice va q vc) m/\qew w3 (λg=>N<=g) (.slice p1 (q+1) t1) m/\qew w3 (λg=>N<=g) (.slice p2 (q+2) t2) m):=⟨qew.own H3.out.2.1 (by omega),(H1.out.2.2.1.mk H2.out.2.2.2.1).mk H3.out.2.2.2.1,H2.out.2.2.1.mk H3.out.2.2.2.1⟩)
    | (at_builtin;refine qjm _ rfl _ _ 28 rfl B 22 iS _ 1 24 Tryz.underlying28 hj d3 dr dp rfl (by decide) _ L.length (L.map (·.1)) rfl ((HB.out w3 H3.out.1).2.2.alloc _) ⟨w3.heap.size,0,none⟩ 4 _ [.slice va q vc,.slice p1 (q+1) t1,.slice p2 (q+2) t2,.slice p3 (q+3) t3] rfl rfl (qtb _ _ _) (by simp[Value.oneCell']) (by unfold maxLen;omega) (by omega) (dd.out _ H3.out.1 _) ?_;intro eo w4 be cf cg cm;obtain⟨p4,t4,di⟩:=qd be;subst di;have H4:Hid (w4.ownsRow B 22 1 (.slice p4 (L.length+4) t4) (L.length+4) (L.map (·.1)++[.slice va q vc,.slice p1 (q+1) t1,.slice p2 (q+2) t2,.slice p3 (q+3) t3])/\w4.ownsRow B 22 1 (.slice la L.length lc) L.length (L.map (·.1))/\(w3.alloc (.cells #[.slice va q vc,.slice p1 (q+1) t1,.slice p2 (q+2) t2,.slice p3 (q+3) t3] 22)).grownBy w4 (Value.slice la L.length lc).ownBlock/\((Value.slice p4 (L.length+4) t4).ownBlock=(Value.slice la L.length lc).ownBlock\/(Value.slice p4 (L.length+4) t4).ownBlock=some (w3.alloc (.cells #[.slice va q vc,.slice p1 (q+1) t1,.slice p2 (q+2) t2,.slice p3 (q+3) t3] 22)).heap.size)):=⟨be,cf,cg,cm⟩;obtain⟨k1,k2,k3,k4,k5⟩:=c0.out _ _ _ _ _ _ H3.out.1 cg cf be;have Qg5:Hid (∀O,B<=((w4.setCell (Ad bw 1) (.slice p4 (L.length+4) t4)).alloc O).heap.size):=k5;have eg:Hid ((w4.setCell (Ad bw 1) (.slice p4 (L.length+4) t4)).ownsRow B 3 1 (.slice ka L.length kc) L.length (L.map (λp=>Ii p.2))):=k4;have d2:(w4.setCell (Ad bw 1) (.slice p4 (L.length+4) t4)).cell? (Ad bw 2)=some (.slice ka L.length kc):=(by simp[World.cell?,k3]);clear k3 k4 k5 be cf cg cm)
    | (at_builtin;refine qjm _ rfl _ _ 29 rfl B 3 iI _ 1 8 Tryz.underlying29 eb dw d7 d6 rfl (by decide) _ L.length (L.map (λp=>Ii p.2)) rfl (eg.out.alloc _) _ 4 _ [Ii L.length,Ii L.length,Ii L.length,Ii L.length] rfl rfl (q29 _ (by simp) _ _) (by simp[Value.oneCell']) (by unfold maxLen;omega) (by omega) (Qg5.out _) ?_;intro ej w5 ca c5 cj cy;obtain⟨p5,t5,d8⟩:=qd ca;subst d8;obtain⟨f1,f2,f3⟩:=dl.out w3 w4 w5 (.slice p4 (L.length+4) t4) (.slice p5 (L.length+4) t5) _ _ _ _ _ H3.out.1 H3m.out.1 H3m.out.2.1 H3m.out.2.2 H3.out.2.2.1 H4.out.2.2.1 H4.out.2.1 H4.out.1 H4.out.2.2.2 cj c5 ca cy;clear ca c5 cj cy))
   go_end0
   exact⟨rfl,f3.out⟩
def q64(w:Wq):Prop:=Lib.Utf8Tabs 0 1 w/\ItO w
theorem q1d{F:Nat->Eg->Er->Prop}(hF:FOk F):q20 F MkL q64:=by
 rintro n w bw W ⟨vl,af,ae,ps,Q,h⟩ hn ⟨_,hI⟩;have HV:Hid (∀Y,Below W.heap.size W Y->Y.heap[bw]?=cC #[vl,af,ae] 31/\∀L,MkV w.heap.size n W af ae Q L->MkV w.heap.size n Y af ae Q L):=λY hY=>⟨(hY.block bw (zg h.box).1).trans h.box,λL hm=>hm.keep (λk hk=>hY.block k (h.inv.q k hk))⟩;have HI:Hid (ItO W):=hI.below h.inv.below;obtain⟨L,hm⟩:=h.ll;clear h hI;obtain⟨la,lc,hv⟩:=qd hm.rowL;subst hv;obtain⟨ka,kc,hv⟩:=qd hm.rowK;subst hv;have hf:=hm.few
 have HX:Hid (∀Y,Below W.heap.size W Y->Y.cell? (Ad bw 1)=some (.slice la L.length lc)/\Y.cell? (Ad bw 2)=some (.slice ka L.length kc)/\∀(i:Nat) (hi:i < L.length),∃gl gk,la=some ⟨gl,0,none⟩/\ka=some ⟨gk,0,none⟩/\Y.cell? (Ad gl i)=some L[i].1/\Y.cell? (Ad gk i)=some (Ii L[i].2)/\L[i].2<=100000000/\qew Y Q L[i].1 (mkB L[i].2)):=λY hY=>by
  obtain⟨h1,h2⟩:=HV.out Y hY;refine⟨zc h1,zc h1,λi hi=>?_⟩;have bf:=h2 L hm;obtain⟨gl,c,u,e1,_,e3,_,e5⟩:=qhj bf.rowL hi;obtain⟨gk,c',u',f1,_,f3,_,f5⟩:=qhj bf.rowK hi;cases e1;cases f1;have e6:u=L[i].1:=by simpa [hi] using e5.symm
  have f6:u'=Ii L[i].2:=by simpa [hi] using f5.symm
  subst e6;subst f6;have:=bf.nums L[i] (zm hi);exact⟨gl,gk,rfl,rfl,e3,f3,by omega,bf.each L[i] (zm hi)⟩
 obtain⟨c1,c2,_⟩:=HX.out W zr;have a6:Hid (Below W.heap.size W W):=zr;clear hm HV;go_enter Tryz.func38,Tryz.ntmps38;go_wp2_with fail
 go_loopw [3] (λp wr=>∃i:Nat,p=.int .i64 i/\i<=L.length/\Hid (Below W.heap.size W wr)) (λp _=>L.length - (intOf p).toNat)
 case atStart=>exact⟨0,rfl,zz,a6⟩
 case round=>
  clear a6 c1 c2;obtain⟨i,rfl,dk,hb⟩:=hrel;obtain⟨c1,c2,hc⟩:=HX.out wr hb.out;by_cases ao:i < L.length
  .have i1:(i:Int) < (L.length:Int):=by omega
   obtain⟨gl,gk,e1,e2,e3,e4,e5,e6⟩:=hc i ao;cases e1;cases e2
   have ap:Hid (∀Y,Below wr.heap.size wr Y->Cs 74 #[Ii L[i].2] Y λe w'=>e=.returned (St (mkB L[i].2))/\Hid (Below W.heap.size W w')):=λY hY=>by
    have ce:Below W.heap.size W Y:=hb.out.trans (hY.mono hb.out.size);refine (qvz L[i].2 e5 Y (HI.out.below ce)).mono ?_;rintro e w' ⟨k1,k2⟩;exact⟨k1,ce.trans (k2.mono ce.size)⟩
   obtain⟨m,hm⟩:∃m,mkB L[i].2=m:=⟨_,rfl⟩;obtain⟨kk,cw⟩:∃kk,L[i].2=kk:=⟨_,rfl⟩;obtain⟨oa,nn,oc,hv,ep,_⟩:=e6
   have HY:Hid (∀Y,Below W.heap.size W Y->Y.cell? (Ad bw 1)=some (Sc gl L.length lc)/\Y.cell? (Ad gl i)=some (.slice oa nn oc)/\∀k,k < nn->∃g,oa=some ⟨g,0,none⟩/\Y.cell? (Ad g k)=some (St m)):=λY hY=>by
    obtain⟨d1,_,dc⟩:=HX.out Y hY;obtain⟨eh,ev,f1,_,f3,_,_,f6⟩:=dc i ao;cases f1;rw[hv] at f3 f6;refine⟨d1,f3,λk hk=>?_⟩;obtain⟨eu,n',c',g1,_,g3⟩:=f6;cases g1;obtain⟨g,cs,g4,_,g5,g6⟩:=g3 (by omega);rw[hm] at g6;exact⟨g,g4,by simp[World.cell?,g5,g6 k hk]⟩
   rw[hm] at ap;rw[cw] at ap e4;have Qd6:=ap.out wr zr;clear hc ap HX hv hm cw e5;go_wp2_with fail;refine Calls.mono Qd6 ?_;rintro e' W2 ⟨rfl,bq⟩;obtain⟨b1,b2,_⟩:=HY.out W2 bq.out;clear Qd6 c1 c2 e3 e4;go_wp2_with fail
   go_loopw [5] (λp df=>∃k:Nat,p=.int .i64 k/\k<=nn/\Hid (Below W.heap.size W df)) (λp _=>nn - (intOf p).toNat)
   case atStart=>exact⟨0,rfl,zz,bq⟩
   case round=>
    clear b1 b2 bq;obtain⟨k,rfl,ew,bc⟩:=hrel;obtain⟨b1,b2,b3⟩:=HY.out _ bc.out;by_cases dg:k < nn
    .have k1:(k:Int) < (nn:Int):=by omega
     obtain⟨g,hg,b4⟩:=b3 k dg;cases hg;clear b3;go_wp2_with fail
     try go_quiet (fail)
     go_wp2;refine⟨⟨k+1,by go_num,by first | omega | exact⟨by omega,by first | exact bc | exact qu bc.out⟩⟩,by simp[intOf];omega⟩
    .have k1:¬(k:Int) < (nn:Int):=by omega
     clear b3;go_wp2;refine⟨⟨i+1,by go_num,by first | omega | exact⟨by omega,by first | exact bc | exact qu bc.out⟩⟩,by simp[intOf];omega⟩
  .have i1:¬(i:Int) < (L.length:Int):=by omega
   clear hc;go_wp2;go_ret;exact⟨rfl,hb.out⟩
