/- A part -/
import Derived.Test.YtjajnhemgphefaaGreatDoorKChg
set_option linter.all false
set_option maxRecDepth 100000
set_option maxHeartbeats 4000000
namespace Go.Proofs.YtjajnhemgphefaaGreatDoor
open Go renaming World->Wq,Value->Vq
open Go.RowKit Go.Shelf
theorem qb6(t:Tm)(w:Wq) :
  Cs 139 #[.agg #[St t.name,Ii t.num]] w λe w'=>e=.returned (.bool t.name.toList.isEmpty)/\Below w.heap.size w w':=by
 go_enter Tryz.func139,Tryz.ntmps139;go_wp2;go_ret;exact⟨rfl,(Below.refl _ w).alloc zl _⟩
theorem qyp{W:Wq}{b e size n:Nat}{v:Vq}{xs:List Vq}(h:W.ownsRow b e size v n xs):∃a c,v=.slice a n c:=by
 obtain⟨_,⟨hv,hn⟩ | ⟨g,cap,ap,hv,_⟩⟩:=h
 .exact⟨none,0,by rw[hv,hn]⟩
 .exact⟨_,_,hv⟩
theorem qvo(vs:List By)(x:By):(Lib.idxOfS vs x < 0/\Qx vs x=vs.length)\/(Lib.idxOfS vs x=(Qx vs x:Int)/\Qx vs x < vs.length):=by
 have key:∀(vs:List By) (i:Nat),(Lib.idxFromS vs x i < 0/\Qx vs x=vs.length)\/(Lib.idxFromS vs x i=((i+Qx vs x:Nat):Int)/\Qx vs x < vs.length):=by
  intro vs
  induction vs with
  | nil=>intro i;left;simp[Lib.idxFromS,Qx]
  | cons y vs ih=>
   intro i;by_cases hy:y=x
   .right;subst hy;have h1:Q5 y y=true:=by unfold Q5;simp
    simp[Lib.idxFromS,Qx,List.findIdx_cons,h1]
   .have h1:Q5 x y=false:=by
     cases h:Q5 x y with
     | false=>rfl
     | true=>exact absurd ((qst x y).1 h).symm hy
    rcases ih (i+1) with⟨h2,h3⟩ | ⟨h2,h3⟩
    .left;refine⟨by simp only[Lib.idxFromS,if_neg hy];exact h2,?_⟩;unfold Qx at h3 ⊢;simp[List.findIdx_cons,h1,h3]
    .right;refine⟨?_,?_⟩
     .simp only[Lib.idxFromS,if_neg hy];rw[h2];unfold Qx;simp[List.findIdx_cons,h1];omega
     .unfold Qx at h3 ⊢;rw[List.findIdx_cons,h1];simp only[cond_false,List.length_cons];omega
 rcases key vs 0 with h | ⟨h1,h2⟩
 .left;exact h
 .right;exact⟨by unfold Lib.idxOfS;rw[h1];simp,h2⟩
theorem q2f(bp:Nat)(t:By)(p r:Int)(ht:t.size<=1000000)(w:Wq) :
  Cs 261 #[Pt bp,qbk 1 t p r] w λe w'=>e=.returned (.agg #[St t,Ii 0])/\Below w.heap.size w w':=by
 have cv:Hid (∀W,Cs 97 #[St t] W λe w'=>e=.returned (St t)/\Below W.heap.size W w'):=λW=>qr4 t W ht;unfold qbk qeh;obtain⟨W0,ah⟩:∃W0,(w.alloc (.cells #[Ii 1,St t,Ii p,Ii r] 191)).alloc (.cells #[St ⟨#[]⟩,Ii 0] 166)=W0:=⟨_,rfl⟩;have ae:Below w.heap.size w W0:=by rw[<- ah];exact ((Below.refl _ w).alloc zl _).alloc (by simp) _
 have ag:W0.heap[w.heap.size+1]?=cC #[St ⟨#[]⟩,Ii 0] 166:=by
  rw[<- ah];have:=zn (w.alloc (.cells #[Ii 1,St t,Ii p,Ii r] 191)) (.cells #[St ⟨#[]⟩,Ii 0] 166);rw[World.size_alloc] at this;exact this
 have hS:Hid (∀W1,Below W0.heap.size W0 W1->W1.heap[w.heap.size+1]?=cC #[St ⟨#[]⟩,Ii 0] 166/\Below w.heap.size w W1):=λW1 h1=>
  ⟨(h1.block _ (zg ag).1).trans ag,ae.trans (h1.mono ae.size)⟩
 have z0:W0.cell? (Ad w.heap.size 0)=some (Ii 1):=by rw[<- ah];simp
 have z1:W0.cell? (Ad w.heap.size 1)=some (St t):=by rw[<- ah];simp
 go_enter Tryz.func261,Tryz.ntmps261
 go_wp2_with (go_at_call 97;refine (cv.out _).mono ?_;rintro e W1 ⟨rfl,ce⟩;obtain⟨kx,kb⟩:=hS.out W1 ce;have k0:W1.cell? (Ad (w.heap.size+1) 0)=some (St ⟨#[]⟩):=(by simp[World.cell?,kx]);have k1:W1.cell? (Ad (w.heap.size+1) 1)=some (Ii 0):=(by simp[World.cell?,kx]);have f0:W1.frozen? (Ad (w.heap.size+1) 0)=false:=(by simp[World.frozen?,kx]);have f1:W1.frozen? (Ad (w.heap.size+1) 1)=false:=(by simp[World.frozen?,kx]))
 (try simp only[Exit.inBlock,Exit.then])
 refine bodyPost_ret (v:=.agg #[St t,Ii 0]) (by simp[results,Tryz.results261,go_sem,k0,k1]) rfl ?_;exact⟨rfl,(kb.setCell (p:=⟨w.heap.size+1,0,none⟩) (by simp) _).setCell (p:=⟨w.heap.size+1,1,none⟩) (by simp) _⟩
theorem q6g(bp:Nat)(st:Int)(vr va vv:Vq)(vs:List By)(bS:Nat)(k:Int)(t:By)(p r:Int)(hk:k≠1)(hl:vs.length<=100)(w:Wq)(b9:bS<=w.heap.size)(hh:w.heap[bp]?=cC #[Ii st,vr,va,vv] 179)(hV:w.ownsRow bS 9 1 vv vs.length (vs.map Value.string)) :
  Cs 261 #[Pt bp,qbk k t p r] w λe w'=>e=.returned (.agg #[St ⟨#[]⟩,Ii (Qx vs t)])/\
   ∃ac,w'.heap[bp]?=cC #[Ii st,vr,va,ac] 179/\w'.ownsRow bS 9 1 ac (Qh vs t).length ((Qh vs t).map Value.string)/\Chg w w' (λj=>j=bp\/some j=vv.ownBlock):=by
 have ax:bp < w.heap.size:=(zg hh).1;have da:(k == 1)=false:=by simp[hk]
 obtain⟨a,c,rfl⟩:=qyp hV;have Qau:∀g,(Value.slice a vs.length c).ownBlock=some g->g≠bp:=Qf hV hh (by decide);obtain⟨i0,hi,b4,bi,bb⟩:=info_parts Tryz.info9;unfold qbk qeh;obtain⟨W0,ah⟩:∃W0,(w.alloc (.cells #[Ii k,St t,Ii p,Ii r] 191)).alloc (.cells #[St ⟨#[]⟩,Ii 0] 166)=W0:=⟨_,rfl⟩;have ae:Below w.heap.size w W0:=by rw[<- ah];exact ((Below.refl _ w).alloc zl _).alloc (by simp) _
 have cg:W0.heap.size=w.heap.size+2:=by rw[<- ah];simp
 have ag:W0.heap[w.heap.size+1]?=cC #[St ⟨#[]⟩,Ii 0] 166:=by
  rw[<- ah];have:=zn (w.alloc (.cells #[Ii k,St t,Ii p,Ii r] 191)) (.cells #[St ⟨#[]⟩,Ii 0] 166);rw[World.size_alloc] at this;exact this
 have z0:W0.cell? (Ad w.heap.size 0)=some (Ii k):=by rw[<- ah];simp
 have z1:W0.cell? (Ad w.heap.size 1)=some (St t):=by rw[<- ah];simp
 have b5:w.cell? (Ad bp 3)=some (.slice a vs.length c):=zc hh
 have h3:W0.cell? (Ad bp 3)=some (.slice a vs.length c):=(ae.cell (p:=⟨bp,3,none⟩) ax).trans b5;have r0:W0.cell? (Ad (w.heap.size+1) 0)=some (St ⟨#[]⟩):=zc ag
 have r1:W0.cell? (Ad (w.heap.size+1) 1)=some (Ii 0):=zc ag
 have f0:W0.frozen? (Ad (w.heap.size+1) 0)=false:=by simp[World.frozen?,ag]
 have f1:W0.frozen? (Ad (w.heap.size+1) 1)=false:=by simp[World.frozen?,ag]
 have bq:W0.drew.ownsRow bS 9 1 (.slice a vs.length c) vs.length (vs.map Value.string):=qk hV (ae.drew);have Qa2:Hid (Cs 191 #[.slice a vs.length c,St t] W0.drew λe w'=>e=.returned (Ii (Lib.idxOfS vs t))/\w'=W0.drew):=q1b bq (by omega) t;have Qdg:W0.heap[bp]?=cC #[Ii st,vr,va,.slice a vs.length c] 179:=(ae.block bp ax).trans hh;rcases qvo vs t with⟨az,a8⟩ | ⟨a7,a8⟩
 .have bk:Hid (Qh vs t=vs++[t]):=by show _=_;unfold Qh;rw[if_neg (by omega)]
  have q7:Hid (Qx vs t=vs.length):=a8;generalize hix:Lib.idxOfS vs t=ix at *;have cq:(ix:Int) < 0:=az;have hA:Hid ((W0.alloc (.cells #[St t] 9)).drew.drew.ownsRow bS 9 1 (.slice a vs.length c) vs.length (vs.map Value.string)):=qk hV ((ae.alloc (by omega) _).drew).drew;have hN:Hid (∀j u,[Value.string t][j]?=some u->(W0.alloc (.cells #[St t] 9)).drew.drew.cell? ((⟨W0.heap.size,0,none⟩:Addr).add j)=some u):=λj u hj=>cell_one_new W0 _ _ j u hj
  have hG:Hid (∀w1,(W0.alloc (.cells #[St t] 9)).drew.drew.grownBy w1 (Value.slice a vs.length c).ownBlock->
    w1.heap[bp]?=cC #[Ii st,vr,va,.slice a vs.length c] 179/\w1.heap[w.heap.size+1]?=cC #[St ⟨#[]⟩,Ii 0] 166/\Chg w w1 (λj=>j=bp\/some j=(Value.slice a vs.length c).ownBlock)):=by
   intro w1 hg;have cd:Chg W0 w1 (λj=>some j=(Value.slice a vs.length c).ownBlock):=((((Chg.refl W0 _).alloc _).drew).drew).grown hg (λk e _=>e.symm);have hc:Chg w w1 (λj=>some j=(Value.slice a vs.length c).ownBlock):=(Chg.ofBelow _ ae).trans cd;refine⟨(hc.block bp ax (λe=>Qau bp e.symm rfl)).trans hh,(cd.block _ (zg ag).1 (λe=>?_)).trans ag,hc.mono (λ_ _ e=>.inr e)⟩;obtain⟨_,c6,_⟩:=Qe hV _ e.symm;omega
  have bn:vs.length+1<=maxLen:=by unfold maxLen;omega
  have bd:(vs.length+1)*16<=140737488355328:=by omega
  have cl:Hid (bS<=(W0.alloc (.cells #[St t] 9)).drew.drew.heap.size):=by
   show bS<=(W0.alloc (.cells #[St t] 9)).heap.size;simp;omega
  have cy:∀O,(W0.alloc O).cell? (Ad bp 3)=some (.slice a vs.length c):=λO=>cell_later ((Below.refl W0.heap.size W0).alloc zl O) h3;have n1:w.heap.size+1≠W0.heap.size:=by omega
  have n2:bp≠W0.heap.size:=by omega
  have n3:w.heap.size≠W0.heap.size:=by omega
  have n4:w.heap.size+1≠bp:=by omega
  have n5:bp≠w.heap.size+1:=by omega
  clear hh ae cg hV bq ag b5 az a8 hix Qdg;go_enter Tryz.func261,Tryz.ntmps261;go_wp2
  go_region_with (go_at_call 191;refine Calls.mono Qa2.out ?_;rintro e w' ⟨rfl,rfl⟩)
  all_goals
   go_wp2
   go_region_law (refine qbv rfl (.tmp 31) (.tmp 34) 22 rfl bS 9 i0 (St ⟨#[]⟩) 1 16 Tryz.underlying22 hi b4 bi bb rfl (by decide) (.slice a vs.length c) vs.length (vs.map Value.string) (by simp[Act.eval,Act.put]) hA.out ⟨W0.heap.size,0,none⟩ 1 1 [St t] (by simp[Act.eval,Act.put]) rfl hN.out (by simp[Value.oneCell']) bn bd cl.out ?_;intro v' w1 ad au;obtain⟨g',ak,bo⟩:=ownsRow_succ ad;subst bo;obtain⟨am,ay,bf⟩:=hG.out w1 au;have d3:w1.cell? (Ad bp 3)=some (.slice a vs.length c):=(by simp[World.cell?,am]);have e3:w1.frozen? (Ad bp 3)=false:=(by simp[World.frozen?,am]);have q0:w1.cell? (Ad (w.heap.size+1) 0)=some (St ⟨#[]⟩):=(by simp[World.cell?,ay]);have q1:w1.cell? (Ad (w.heap.size+1) 1)=some (Ii 0):=(by simp[World.cell?,ay]);have q2:w1.frozen? (Ad (w.heap.size+1) 0)=false:=(by simp[World.frozen?,ay]);have q3:w1.frozen? (Ad (w.heap.size+1) 1)=false:=(by simp[World.frozen?,ay]))
   all_goals
    go_wp2
    (try simp only[Exit.inBlock,Exit.then])
    refine bodyPost_ret (v:=.agg #[St ⟨#[]⟩,Ii vs.length]) (by simp[results,Tryz.results261,go_sem,q0,q1,n4,n5]) rfl ?_;rw[q7.out,bk.out];refine⟨rfl,Sc g' (vs.length+1) ak,?_,?_,?_⟩
    .exact (Below.heap_setCell _ _ _ _ n5).trans ((Below.heap_setCell _ _ _ _ n5).trans (Qd am 3 _))
    .have:=Qg (Qg (Qg ad ⟨bp,3,none⟩ (Sc g' (vs.length+1) ak) (Qf ad am (by decide))) ⟨w.heap.size+1,0,none⟩ (St ⟨#[]⟩) (Qf ad ay (by decide))) ⟨w.heap.size+1,1,none⟩ (Ii vs.length) (Qf ad ay (by decide));simpa using this
    .exact ((bf.setCell (Ad bp 3) _ (λ_=>.inl rfl)).setCell (Ad (w.heap.size+1) 0) _ (λh=>absurd h (by simp))).setCell (Ad (w.heap.size+1) 1) _ (λh=>absurd h (by simp))
 .have bk:Hid (Qh vs t=vs):=by show _=_;unfold Qh;rw[if_pos a8]
  rw[a7] at Qa2;generalize Qx vs t=sn at *;have n5:bp≠w.heap.size+1:=by omega
  have bc:Below w.heap.size w ((W0.drew.setCell (Ad (w.heap.size+1) 0) (St ⟨#[]⟩)).setCell (Ad (w.heap.size+1) 1) (Ii sn)):=(ae.drew.setCell (p:=⟨w.heap.size+1,0,none⟩) (by simp) _).setCell (p:=⟨w.heap.size+1,1,none⟩) (by simp) _;have cn:Hid (((W0.drew.setCell (Ad (w.heap.size+1) 0) (St ⟨#[]⟩)).setCell (Ad (w.heap.size+1) 1) (Ii sn)).ownsRow bS 9 1 (.slice a vs.length c) vs.length (vs.map Value.string)):=qk hV bc;have cr:Hid (Chg w ((W0.drew.setCell (Ad (w.heap.size+1) 0) (St ⟨#[]⟩)).setCell (Ad (w.heap.size+1) 1) (Ii sn)) (λj=>j=bp\/some j=(Value.slice a vs.length c).ownBlock)):=Chg.ofBelow _ bc;clear bc;clear hh ae cg hV bq ag b5 a7;go_enter Tryz.func261,Tryz.ntmps261;go_wp2
  go_region_with (go_at_call 191;refine Calls.mono Qa2.out ?_;rintro e w' ⟨rfl,rfl⟩)
  all_goals
   go_wp2
   (try simp only[Exit.inBlock,Exit.then])
   refine bodyPost_ret (v:=.agg #[St ⟨#[]⟩,Ii sn]) (by simp[results,Tryz.results261,go_sem,r0,r1]) rfl ?_;rw[bk.out];refine⟨rfl,.slice a vs.length c,?_,?_,?_⟩
   .exact (Below.heap_setCell _ _ _ _ n5).trans ((Below.heap_setCell _ _ _ _ n5).trans Qdg)
   .exact cn.out
   .exact cr.out
theorem q3r{w w3:Wq}{bp g n aj af bS k kv c:Nat}{vr v' vv:Vq}{ap:Array Vq}{ys zs us:List Vq}{rel y:Vq}{ex:Nat->Prop}(hn:1<=n)(hh:w3.heap[bp]?=cC #[Ii 3,vr,Sc g n c,vv] 179)(hg:w3.heap[g]?=cC ap 92)(a9:w3.ownsRow aj 92 2 (Sc g n c) n (ys++[rel,y]))(b8:w3.ownsRow af 166 2 v' k zs)(a6:w3.ownsRow bS 9 1 vv kv us)(hc:Chg w w3 (λj=>j=bp\/some j=(Value.slice (some ⟨g,0,none⟩) n c).ownBlock\/ex j)) :
  ((w3.setCell (Ad g ((n - 1)*2+1)) v').setCell (Ad bp 0) (Ii 4)).heap[bp]?=cC #[Ii 4,vr,Sc g n c,vv] 179/\
  ((w3.setCell (Ad g ((n - 1)*2+1)) v').setCell (Ad bp 0) (Ii 4)).ownsRow aj 92 2 (Sc g n c) n (ys++[rel,v'])/\
  ((w3.setCell (Ad g ((n - 1)*2+1)) v').setCell (Ad bp 0) (Ii 4)).ownsRow af 166 2 v' k zs/\
  ((w3.setCell (Ad g ((n - 1)*2+1)) v').setCell (Ad bp 0) (Ii 4)).ownsRow bS 9 1 vv kv us/\
  Chg w ((w3.setCell (Ad g ((n - 1)*2+1)) v').setCell (Ad bp 0) (Ii 4)) (λj=>j=bp\/some j=(Value.slice (some ⟨g,0,none⟩) n c).ownBlock\/ex j):=by
 have ck:g≠bp:=Qf a9 hh (by decide) g rfl;refine⟨Qd ((Below.heap_setCell _ _ _ bp (λe=>ck e.symm)).trans hh) 0 _,?_,?_,?_,(hc.setCell (Ad g ((n - 1)*2+1)) v' (λ_=>.inr (.inl rfl))).setCell (Ad bp 0) _ (λ_=>.inl rfl)⟩
 .exact Qg (qt5 a9 hn rfl) _ _ (λg' ai=>by simp[Value.ownBlock] at ai;subst ai;exact ck)
 .exact Qg (Qg b8 _ _ (Qf b8 hg (by decide))) _ _ (Qf b8 hh (by decide))
 .exact Qg (Qg a6 _ _ (Qf a6 hg (by decide))) _ _ (Qf a6 hh (by decide))
theorem q6f(bp:Nat)(st:Int)(vr va vv:Vq)(vs:List By)(bS:Nat)(k:Int)(t:By)(p r:Int)(hk:k=1\/k=2)(ht:t.size<=1000000)(hl:vs.length<=100)(w:Wq)(b9:bS<=w.heap.size)(hh:w.heap[bp]?=cC #[Ii st,vr,va,vv] 179)(hV:w.ownsRow bS 9 1 vv vs.length (vs.map Value.string)) :
  Cs 261 #[Pt bp,qbk k t p r] w λe w'=>e=.returned (.agg #[St (qca vs k t).name,Ii (qca vs k t).num])/\
   ∃ac,w'.heap[bp]?=cC #[Ii st,vr,va,ac] 179/\w'.ownsRow bS 9 1 ac (qbh vs k t).length ((qbh vs k t).map Value.string)/\Chg w w' (λj=>j=bp\/some j=vv.ownBlock):=by
 rcases hk with rfl | rfl
 .refine (q2f bp t p r ht w).mono ?_;rintro e w' ⟨rfl,hb⟩;exact⟨rfl,vv,(hb.block bp (zg hh).1).trans hh,qk hV hb,Chg.ofBelow _ hb⟩
 .exact q6g bp st vr va vv vs bS 2 t p r (by decide) hl w b9 hh hV
theorem qta(bp:Nat)(vr va vv:Vq)(n aj af bS:Nat)(ys:List Vq)(rel:Vq)(aa:Option Addr)(m ca:Nat)(zs:List Vq)(vs:List By)(k:Int)(t:By)(p r:Int)(be:k=1\/k=2)(bu:1<=n)(hn:n<=1000)(hm:m<=1000)(cm:vs.length<=100)(ht:t.size<=1000000)(w:Wq)(ct:af<=w.heap.size)(b9:bS<=w.heap.size)(hh:w.heap[bp]?=cC #[Ii 3,vr,va,vv] 179)(qq:w.ownsRow aj 92 2 va n (ys++[rel,.slice aa m ca]))(ao:w.ownsRow af 166 2 (.slice aa m ca) m zs)(hV:w.ownsRow bS 9 1 vv vs.length (vs.map Value.string)) :
  Cs 233 #[Pt bp,qbk k t p r] w λe w'=>e=.returned (.tuple #[])/\
   ∃v' ac,w'.heap[bp]?=cC #[Ii 4,vr,va,ac] 179/\w'.ownsRow aj 92 2 va n (ys++[rel,v'])/\w'.ownsRow af 166 2 v' (m+1) (zs++[St (qca vs k t).name,Ii (qca vs k t).num])/\
    w'.ownsRow bS 9 1 ac (qbh vs k t).length ((qbh vs k t).map Value.string)/\
    Chg w w' (λj=>j=bp\/some j=va.ownBlock\/some j=(Value.slice aa m ca).ownBlock\/some j=vv.ownBlock):=by
 obtain⟨TN,b0⟩:∃TN,(qca vs k t).name=TN:=⟨_,rfl⟩;obtain⟨TM,bt⟩:∃TM,(qca vs k t).num=TM:=⟨_,rfl⟩;obtain⟨VS,bv⟩:∃VS,qbh vs k t=VS:=⟨_,rfl⟩;rw[b0,bt,bv];have ax:bp < w.heap.size:=(zg hh).1;have h0:w.cell? (Ad bp 0)=some (Ii 3):=zc hh
 obtain⟨g,c,ap,rfl,hg,cw,cq,hy,db,c7⟩:=qqm qq bu;have co:g < w.heap.size:=(zg hg).1;have c8:g≠bp:=Qf qq hh (by decide) g rfl;have cj:(w.alloc (.cells (qeh k t p r) 191)).heap[bp]?=cC #[Ii 3,vr,Sc g n c,vv] 179:=(Below.heap_alloc _ _ _ ax).trans hh;have bj:=ql7 bp 3 vr vv g n c bu hn _ cj;obtain⟨i0,hi,b4,bi,bb⟩:=info_parts Tryz.info87;unfold qbk;unfold qeh at bj ⊢;go_enter Tryz.func233,Tryz.ntmps233;go_wp2_with fail;refine bj.mono ?_;rintro e w2 ⟨rfl,q,b3⟩;have av:Chg w w2 (λ_=>False):=by rw[b3];exact⟨rfl,rfl,rfl,by show _<=(w.alloc _).heap.size;simp,λj hj _=>Below.heap_alloc _ _ j hj⟩
 have aw:w2.heap[w.heap.size]?=cC #[Ii k,St t,Ii p,Ii r] 191:=by rw[b3];exact zn w _
 clear b3 bj cj;have b6:w2.heap[bp]?=cC #[Ii 3,vr,Sc g n c,vv] 179:=(av.block bp ax (λh=>h)).trans hh;have b7:w2.heap[g]?=cC ap 92:=(av.block g co (λh=>h)).trans hg;have al:∀(g':Nat) (c':Array Vq) (T:TypeId),w.heap[g']?=cC c' T->w2.heap[g']?=cC c' T:=λg' c' T ab=>(av.block g' (zg ab).1 (λh=>h)).trans ab;have ci:w2.ownsRow aj 92 2 (Sc g n c) n (ys++[rel,.slice aa m ca]):=q8 qq (λg' c' ai ab=>al _ _ _ ab);have cc:w2.ownsRow af 166 2 (.slice aa m ca) m zs:=q8 ao (λg' c' ai ab=>al _ _ _ ab);have cb:w2.ownsRow bS 9 1 vv vs.length (vs.map Value.string):=q8 hV (λg' c' ai ab=>al _ _ _ ab);have c9:w.heap.size<=w2.heap.size:=av.size;clear hh hg qq ao h0 hV al;have c0:w2.cell? (Ad w.heap.size 0)=some (Ii k):=zc aw
 have c1:w2.cell? (Ad w.heap.size 1)=some (St t):=zc aw
 have c3:w2.cell? (Ad w.heap.size 2)=some (Ii p):=zc aw
 have c4:w2.cell? (Ad w.heap.size 3)=some (Ii r):=zc aw
 have c2:w2.cell? (Ad g ((n - 1)*2+1))=some (.slice aa m ca):=by simp[World.cell?,b7,hy]
 have Qda:Hid (∀W,Below w2.heap.size w2 W->Cs 261 #[Pt bp,.agg #[Ii k,St t,Ii p,Ii r]] W λe W1=>e=.returned (.agg #[St TN,Ii TM])/\
   ∃ac,W1.heap[bp]?=cC #[Ii 3,vr,Sc g n c,ac] 179/\W1.heap[g]?=cC ap 92/\W1.ownsRow aj 92 2 (Sc g n c) n (ys++[rel,.slice aa m ca])/\W1.ownsRow af 166 2 (.slice aa m ca) m zs/\
    W1.ownsRow bS 9 1 ac VS.length (VS.map Value.string)/\af<=W1.heap.size/\Chg w W1 (λj=>j=bp\/some j=(Value.slice (some ⟨g,0,none⟩) n c).ownBlock\/some j=(Value.slice aa m ca).ownBlock\/some j=vv.ownBlock)):=by
  intro W hb;have al:∀(g':Nat) (c':Array Vq) (T:TypeId),w2.heap[g']?=cC c' T->W.heap[g']?=cC c' T:=λg' c' T ab=>(hb.block g' (zg ab).1).trans ab;have cf:=q8 cb (λg' c' ai ab=>al _ _ _ ab);have ce:=hb.size;refine (q6f bp 3 vr _ vv vs bS k t p r be ht cm W (by omega) (al _ _ _ b6) cf).mono ?_;rintro e W1 ⟨rfl,ac,q1,q2,q3⟩
  have an:∀(g':Nat) (c':Array Vq) (T:TypeId),T≠179->T≠9->w2.heap[g']?=cC c' T->W1.heap[g']?=cC c' T:=by
   intro g' c' T t1 t2 ab;have hW:=al _ _ _ ab;rw[q3.block g' (zg hW).1 (λe=>?_)]
   .exact hW
   .rcases e with rfl | e
    .rw[al _ _ _ b6] at hW;cases hW;exact t1 rfl
    .obtain⟨_,_,d,fz,hd⟩:=Qe cf _ e.symm;rw[hW] at hd;cases hd;exact t2 rfl
  rw[b0,bt];rw[bv] at q2;refine⟨rfl,ac,q1,an _ _ _ (by decide) (by decide) b7,q8 ci (λg' c' ai ab=>an _ _ _ (by decide) (by decide) ab),q8 cc (λg' c' ai ab=>an _ _ _ (by decide) (by decide) ab),q2,by have:=q3.size;omega,?_⟩;refine (av.mono (λ_ _ e=>e.elim)).trans ((Chg.ofBelow _ hb).trans (q3.mono (λj _ e=>?_)));rcases e with e | e
  .exact .inl e
  .exact .inr (.inr (.inr e))
 have hG:Hid (∀W1 O w3 ac,W1.heap[bp]?=cC #[Ii 3,vr,Sc g n c,ac] 179->W1.heap[g]?=cC ap 92->W1.ownsRow aj 92 2 (Sc g n c) n (ys++[rel,.slice aa m ca])->W1.ownsRow af 166 2 (.slice aa m ca) m zs->
    W1.ownsRow bS 9 1 ac VS.length (VS.map Value.string)->Chg w W1 (λj=>j=bp\/some j=(Value.slice (some ⟨g,0,none⟩) n c).ownBlock\/some j=(Value.slice aa m ca).ownBlock\/some j=vv.ownBlock)->(W1.alloc O).grownBy w3 (Value.slice aa m ca).ownBlock->
   w3.heap[bp]?=cC #[Ii 3,vr,Sc g n c,ac] 179/\w3.heap[g]?=cC ap 92/\w3.ownsRow aj 92 2 (Sc g n c) n (ys++[rel,.slice aa m ca])/\w3.ownsRow bS 9 1 ac VS.length (VS.map Value.string)/\Chg w w3 (λj=>j=bp\/some j=(Value.slice (some ⟨g,0,none⟩) n c).ownBlock\/some j=(Value.slice aa m ca).ownBlock\/some j=vv.ownBlock)):=by
  intro W1 O w3 ac q1 q2 q3 q4 q5 q6 cu;have hc:Chg W1 w3 (λj=>some j=(Value.slice aa m ca).ownBlock):=((Chg.refl W1 _).alloc _).grown cu (λk e _=>e.symm)
  have an:∀(g':Nat) (c':Array Vq) (T:TypeId),T≠166->W1.heap[g']?=cC c' T->w3.heap[g']?=cC c' T:=by
   intro g' c' T t1 ab;exact (hc.block g' (zg ab).1 (λe=>Qf q4 ab t1 g' e.symm rfl)).trans ab
  exact⟨an _ _ _ (by decide) q1,an _ _ _ (by decide) q2,q8 q3 (λg' c' ai ab=>an _ _ _ (by decide) ab),q8 q5 (λg' c' ai ab=>an _ _ _ (by decide) ab),q6.trans (hc.mono (λj _ e=>.inr (.inr (.inl e))))⟩
 have cp:∀u∈[Value.string TN,Ii TM],u.oneCell'=true:=by simp[Value.oneCell']
 have bn:m+1<=maxLen:=by unfold maxLen;omega
 have bd:(m+1)*24<=140737488355328:=by omega
 have cz:Hid _:=aw;clear ci cc cb b6 b7 av aw b0 bt bv;go_wp2
 go_region_law (first | (refine qbv rfl (.tmp 16) (.tmp 20) 90 rfl af 166 i0 (.agg #[St ⟨#[]⟩,Ii 0]) 2 24 Tryz.underlying90 hi b4 bi bb rfl (by decide) (.slice aa m ca) m zs (by simp[Act.eval,Act.put]) (World.ownsRow.alloc z4 _) ⟨W1.heap.size,0,none⟩ 1 1 [St TN,Ii TM] (by simp[Act.eval,Act.put]) rfl (cell_two_new W1 (St TN) (Ii TM) 166) cp bn bd (by simp;omega) ?_;intro v' w3 ch aq;obtain⟨g',ak,bo⟩:=ownsRow_succ ch;subst bo;obtain⟨am,bh,a9,a6,bf⟩:=hG.out W1 _ w3 ac z1 z2 z3 z4 z5 z7 aq;have d0:w3.cell? (Ad bp 0)=some (Ii 3):=(by simp[World.cell?,am]);have d2:w3.cell? (Ad g ((n - 1)*2+1))=some (.slice aa m ca):=(by simp[World.cell?,bh,hy]);have f0:w3.frozen? (Ad bp 0)=false:=(by simp[World.frozen?,am]);have f2:w3.frozen? (Ad g ((n - 1)*2+1))=false:=(by simp[World.frozen?,bh])) | (go_simp;(try go_wp2_with fail);refine (Qda.out _ (Below.drew (Below.refl w2.heap.size w2))).mono ?_;rintro e W1 ⟨rfl,ac,z1,z2,z3,z4,z5,z6,z7⟩;have k2:W1.cell? (Ad g ((n - 1)*2+1))=some (.slice aa m ca):=(by simp[World.cell?,z2,hy]);have c5:∀O,(W1.alloc O).cell? (Ad g ((n - 1)*2+1))=some (.slice aa m ca):=λO=>cell_later ((Below.refl W1.heap.size W1).alloc zl O) k2;have cx:g≠W1.heap.size:=(by have:=(zg z2).1;omega);try go_wp2))
 all_goals
  go_wp2;refine bodyPost_ret (results_none rfl _ _ _) rfl ?_;exact⟨rfl,Sc g' (m+1) ak,ac,q3r bu am bh a9 ch a6 bf⟩
