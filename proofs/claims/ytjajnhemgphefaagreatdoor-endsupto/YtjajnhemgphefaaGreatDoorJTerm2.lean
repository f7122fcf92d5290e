/- The parser's addWord where it adds a term to the last atom: -/
import Derived.Test.YtjajnhemgphefaaGreatDoorJChg
set_option linter.unusedVariables false
set_option linter.unusedSimpArgs false
set_option maxRecDepth 100000
set_option maxHeartbeats 4000000
namespace Go.Proofs.YtjajnhemgphefaaGreatDoor
open Go renaming World->Wq,Value->Vq
open Go.RowKit Go.Shelf
theorem qb6(t:Tm)(w:Wq) :
  Calls Tryz.prog 139 #[.agg #[.string t.name,.int .i64 t.num]] w λe w'=>e=.returned (.bool t.name.toList.isEmpty)/\Below w.heap.size w w':=by
 go_enter Tryz.func139,Tryz.ntmps139;go_wp2;go_ret;exact⟨rfl,(Below.refl _ w).alloc zl _⟩
theorem qx3{W:Wq}{b e size n:Nat}{v:Vq}{xs:List Vq}(h:W.ownsRow b e size v n xs):∃a c,v=.slice a n c:=by
 obtain⟨_,⟨hv,hn⟩ | ⟨g,cap,cur,hv,_⟩⟩:=h
 ·exact⟨none,0,by rw[hv,hn]⟩
 ·exact⟨_,_,hv⟩
theorem qu3(vs:List ByteArray)(x:ByteArray):(Lib.idxOfS vs x < 0/\Qw vs x=vs.length)\/(Lib.idxOfS vs x=(Qw vs x:Int)/\Qw vs x < vs.length):=by
 have key:∀(vs:List ByteArray) (i:Nat),(Lib.idxFromS vs x i < 0/\Qw vs x=vs.length)\/(Lib.idxFromS vs x i=((i+Qw vs x:Nat):Int)/\Qw vs x < vs.length):=by
  intro vs
  induction vs with
  | nil=>intro i;left;simp[Lib.idxFromS,Qw]
  | cons y vs ih=>
   intro i;by_cases hy:y=x
   ·right;subst hy;have h1:Q2 y y=true:=by unfold Q2;simp
    simp[Lib.idxFromS,Qw,List.findIdx_cons,h1]
   ·have h1:Q2 x y=false:=by
     cases h:Q2 x y with
     | false=>rfl
     | true=>exact absurd ((qr3 x y).1 h).symm hy
    rcases ih (i+1) with⟨h2,h3⟩ | ⟨h2,h3⟩
    ·left;refine⟨by simp only[Lib.idxFromS,if_neg hy];exact h2,?_⟩;unfold Qw at h3 ⊢;simp[List.findIdx_cons,h1,h3]
    ·right;refine⟨?_,?_⟩
     ·simp only[Lib.idxFromS,if_neg hy];rw[h2];unfold Qw;simp[List.findIdx_cons,h1];omega
     ·unfold Qw at h3 ⊢;rw[List.findIdx_cons,h1];simp only[cond_false,List.length_cons];omega
 rcases key vs 0 with h | ⟨h1,h2⟩
 ·left;exact h
 ·right;exact⟨by unfold Lib.idxOfS;rw[h1];simp,h2⟩
theorem q1k(bp:Nat)(t:ByteArray)(p r:Int)(ht:t.size<=1000000)(w:Wq) :
  Calls Tryz.prog 261 #[.pointer (some ⟨bp,0,none⟩),qbk 1 t p r] w λe w'=>e=.returned (.agg #[.string t,.int .i64 0])/\Below w.heap.size w w':=by
 have hcl:Hid (∀W,Calls Tryz.prog 97 #[.string t] W λe w'=>e=.returned (.string t)/\Below W.heap.size W w'):=λW=>qre t W ht;unfold qbk qec;obtain⟨W0,hW0⟩:∃W0,(w.alloc (.cells #[.int .i64 1,.string t,.int .i64 p,.int .i64 r] 191)).alloc (.cells #[.string ⟨#[]⟩,.int .i64 0] 166)=W0:=⟨_,rfl⟩;have hb0:Below w.heap.size w W0:=by rw[<- hW0];exact ((Below.refl _ w).alloc zl _).alloc (by simp) _
 have hbx:W0.heap[w.heap.size+1]?=some (Obj.cells #[.string ⟨#[]⟩,.int .i64 0] 166):=by
  rw[<- hW0];have:=World.alloc_heap_new (w.alloc (.cells #[.int .i64 1,.string t,.int .i64 p,.int .i64 r] 191)) (.cells #[.string ⟨#[]⟩,.int .i64 0] 166);rw[World.size_alloc] at this;exact this
 have hS:Hid (∀W1,Below W0.heap.size W0 W1->W1.heap[w.heap.size+1]?=some (Obj.cells #[.string ⟨#[]⟩,.int .i64 0] 166)/\Below w.heap.size w W1):=λW1 h1=>
  ⟨(h1.block _ (zg hbx).1).trans hbx,hb0.trans (h1.mono hb0.size)⟩
 have z0:W0.cell? ⟨w.heap.size,0,none⟩=some (.int .i64 1):=by rw[<- hW0];simp
 have z1:W0.cell? ⟨w.heap.size,1,none⟩=some (.string t):=by rw[<- hW0];simp
 go_enter Tryz.func261,Tryz.ntmps261
 go_wp2_with (go_at_call 97;refine (hcl.out _).mono ?_;rintro e W1 ⟨rfl,hbW⟩;obtain⟨kx,kb⟩:=hS.out W1 hbW;have k0:W1.cell? ⟨w.heap.size+1,0,none⟩=some (.string ⟨#[]⟩):=(by simp[World.cell?,kx]);have k1:W1.cell? ⟨w.heap.size+1,1,none⟩=some (.int .i64 0):=(by simp[World.cell?,kx]);have f0:W1.frozen? ⟨w.heap.size+1,0,none⟩=false:=(by simp[World.frozen?,kx]);have f1:W1.frozen? ⟨w.heap.size+1,1,none⟩=false:=(by simp[World.frozen?,kx]))
 (try simp only[Exit.inBlock,Exit.then])
 refine bodyPost_ret (v:=.agg #[.string t,.int .i64 0]) (by simp[results,Tryz.results261,go_sem,k0,k1]) rfl ?_;exact⟨rfl,(kb.setCell (p:=⟨w.heap.size+1,0,none⟩) (by simp) _).setCell (p:=⟨w.heap.size+1,1,none⟩) (by simp) _⟩
theorem q5e(bp:Nat)(st:Int)(vr va vv:Vq)(vs:List ByteArray)(bS:Nat)(k:Int)(t:ByteArray)(p r:Int)(hk:k≠1)(hl:vs.length<=100)(w:Wq)(hbS:bS<=w.heap.size)(hh:w.heap[bp]?=some (Obj.cells #[.int .i64 st,vr,va,vv] 179))(hV:w.ownsRow bS 9 1 vv vs.length (vs.map Value.string)) :
  Calls Tryz.prog 261 #[.pointer (some ⟨bp,0,none⟩),qbk k t p r] w λe w'=>e=.returned (.agg #[.string ⟨#[]⟩,.int .i64 (Qw vs t)])/\
   ∃vv',w'.heap[bp]?=some (Obj.cells #[.int .i64 st,vr,va,vv'] 179)/\w'.ownsRow bS 9 1 vv' (Qc vs t).length ((Qc vs t).map Value.string)/\Chg w w' (λj=>j=bp\/some j=vv.ownBlock):=by
 have hbp:bp < w.heap.size:=(zg hh).1;have hk':(k == 1)=false:=by simp[hk]
 obtain⟨a,c,rfl⟩:=qx3 hV;have q9d:∀g,(Value.slice a vs.length c).ownBlock=some g->g≠bp:=Qj hV hh (by decide);obtain⟨i0,hi,hz0,hz1,hz2⟩:=info_parts Tryz.info9;unfold qbk qec;obtain⟨W0,hW0⟩:∃W0,(w.alloc (.cells #[.int .i64 k,.string t,.int .i64 p,.int .i64 r] 191)).alloc (.cells #[.string ⟨#[]⟩,.int .i64 0] 166)=W0:=⟨_,rfl⟩;have hb0:Below w.heap.size w W0:=by rw[<- hW0];exact ((Below.refl _ w).alloc zl _).alloc (by simp) _
 have hs0:W0.heap.size=w.heap.size+2:=by rw[<- hW0];simp
 have hbx:W0.heap[w.heap.size+1]?=some (Obj.cells #[.string ⟨#[]⟩,.int .i64 0] 166):=by
  rw[<- hW0];have:=World.alloc_heap_new (w.alloc (.cells #[.int .i64 k,.string t,.int .i64 p,.int .i64 r] 191)) (.cells #[.string ⟨#[]⟩,.int .i64 0] 166);rw[World.size_alloc] at this;exact this
 have z0:W0.cell? ⟨w.heap.size,0,none⟩=some (.int .i64 k):=by rw[<- hW0];simp
 have z1:W0.cell? ⟨w.heap.size,1,none⟩=some (.string t):=by rw[<- hW0];simp
 have h30:w.cell? ⟨bp,3,none⟩=some (.slice a vs.length c):=by simp[World.cell?,hh]
 have h3:W0.cell? ⟨bp,3,none⟩=some (.slice a vs.length c):=(hb0.cell (p:=⟨bp,3,none⟩) hbp).trans h30;have r0:W0.cell? ⟨w.heap.size+1,0,none⟩=some (.string ⟨#[]⟩):=by simp[World.cell?,hbx]
 have r1:W0.cell? ⟨w.heap.size+1,1,none⟩=some (.int .i64 0):=by simp[World.cell?,hbx]
 have f0:W0.frozen? ⟨w.heap.size+1,0,none⟩=false:=by simp[World.frozen?,hbx]
 have f1:W0.frozen? ⟨w.heap.size+1,1,none⟩=false:=by simp[World.frozen?,hbx]
 have hVd:W0.drew.ownsRow bS 9 1 (.slice a vs.length c) vs.length (vs.map Value.string):=qk hV (hb0.drew);have q9l:Hid (Calls Tryz.prog 191 #[.slice a vs.length c,.string t] W0.drew λe w'=>e=.returned (.int .i64 (Lib.idxOfS vs t))/\w'=W0.drew):=q0j hVd (by omega) t;have Qbz:W0.heap[bp]?=some (Obj.cells #[.int .i64 st,vr,va,.slice a vs.length c] 179):=(hb0.block bp hbp).trans hh;rcases qu3 vs t with⟨hneg,hsn⟩ | ⟨hpos,hsn⟩
 ·have q3r:Hid (Qc vs t=vs++[t]):=by show _=_;unfold Qc;rw[if_neg (by omega)]
  have q9:Hid (Qw vs t=vs.length):=hsn;generalize hix:Lib.idxOfS vs t=ix at *;have hlt:(ix:Int) < 0:=hneg;have hA:Hid ((W0.alloc (.cells #[.string t] 9)).drew.drew.ownsRow bS 9 1 (.slice a vs.length c) vs.length (vs.map Value.string)):=qk hV ((hb0.alloc (by omega) _).drew).drew;have hN:Hid (∀j u,[Value.string t][j]?=some u->(W0.alloc (.cells #[.string t] 9)).drew.drew.cell? ((⟨W0.heap.size,0,none⟩:Addr).add j)=some u):=λj u hj=>cell_one_new W0 _ _ j u hj
  have hG:Hid (∀w1,(W0.alloc (.cells #[.string t] 9)).drew.drew.grownBy w1 (Value.slice a vs.length c).ownBlock->
    w1.heap[bp]?=some (Obj.cells #[.int .i64 st,vr,va,.slice a vs.length c] 179)/\w1.heap[w.heap.size+1]?=some (Obj.cells #[.string ⟨#[]⟩,.int .i64 0] 166)/\Chg w w1 (λj=>j=bp\/some j=(Value.slice a vs.length c).ownBlock)):=by
   intro w1 hg;have hc0:Chg W0 w1 (λj=>some j=(Value.slice a vs.length c).ownBlock):=((((Chg.refl W0 _).alloc _).drew).drew).grown hg (λk e _=>e.symm);have hc:Chg w w1 (λj=>some j=(Value.slice a vs.length c).ownBlock):=(Chg.ofBelow _ hb0).trans hc0;refine⟨(hc.block bp hbp (λe=>q9d bp e.symm rfl)).trans hh,(hc0.block _ (zg hbx).1 (λe=>?_)).trans hbx,hc.mono (λ_ _ e=>.inr e)⟩;obtain⟨_,qs0,_⟩:=Qh hV _ e.symm;omega
  have hb1:vs.length+1<=maxLen:=by unfold maxLen;omega
  have hb2:(vs.length+1)*16<=140737488355328:=by omega
  have HB3:Hid (bS<=(W0.alloc (.cells #[.string t] 9)).drew.drew.heap.size):=by
   show bS<=(W0.alloc (.cells #[.string t] 9)).heap.size;simp;omega
  have h3a:∀O,(W0.alloc O).cell? ⟨bp,3,none⟩=some (.slice a vs.length c):=λO=>cell_later ((Below.refl W0.heap.size W0).alloc zl O) h3;have n1:w.heap.size+1≠W0.heap.size:=by omega
  have n2:bp≠W0.heap.size:=by omega
  have n3:w.heap.size≠W0.heap.size:=by omega
  have n4:w.heap.size+1≠bp:=by omega
  have n5:bp≠w.heap.size+1:=by omega
  clear hh hb0 hs0 hV hVd hbx h30 hneg hsn hix Qbz;go_enter Tryz.func261,Tryz.ntmps261;go_wp2
  go_region_with (go_at_call 191;refine Calls.mono q9l.out ?_;rintro e w' ⟨rfl,rfl⟩)
  all_goals
   go_wp2
   go_region_law (refine qbw rfl (.tmp 31) (.tmp 34) 22 rfl bS 9 i0 (.string ⟨#[]⟩) 1 16 Tryz.underlying22 hi hz0 hz1 hz2 rfl (by decide) (.slice a vs.length c) vs.length (vs.map Value.string) (by simp[Act.eval,Act.put]) hA.out ⟨W0.heap.size,0,none⟩ 1 1 [.string t] (by simp[Act.eval,Act.put]) rfl hN.out (by simp[Value.oneCell']) hb1 hb2 HB3.out ?_;intro v' w1 hown1 hgrow1;obtain⟨g',cap',hv'⟩:=ownsRow_succ hown1;subst hv';obtain⟨hhw,hxw,hch⟩:=hG.out w1 hgrow1;have d3:w1.cell? ⟨bp,3,none⟩=some (.slice a vs.length c):=(by simp[World.cell?,hhw]);have e3:w1.frozen? ⟨bp,3,none⟩=false:=(by simp[World.frozen?,hhw]);have q0:w1.cell? ⟨w.heap.size+1,0,none⟩=some (.string ⟨#[]⟩):=(by simp[World.cell?,hxw]);have q1:w1.cell? ⟨w.heap.size+1,1,none⟩=some (.int .i64 0):=(by simp[World.cell?,hxw]);have q2:w1.frozen? ⟨w.heap.size+1,0,none⟩=false:=(by simp[World.frozen?,hxw]);have q3:w1.frozen? ⟨w.heap.size+1,1,none⟩=false:=(by simp[World.frozen?,hxw]))
   all_goals
    go_wp2
    (try simp only[Exit.inBlock,Exit.then])
    refine bodyPost_ret (v:=.agg #[.string ⟨#[]⟩,.int .i64 vs.length]) (by simp[results,Tryz.results261,go_sem,q0,q1,n4,n5]) rfl ?_;rw[q9.out,q3r.out];refine⟨rfl,.slice (some ⟨g',0,none⟩) (vs.length+1) cap',?_,?_,?_⟩
    ·exact (Below.heap_setCell _ _ _ _ n5).trans ((Below.heap_setCell _ _ _ _ n5).trans (Qi hhw 3 _))
    ·have:=Qn (Qn (Qn hown1 ⟨bp,3,none⟩ (.slice (some ⟨g',0,none⟩) (vs.length+1) cap') (Qj hown1 hhw (by decide))) ⟨w.heap.size+1,0,none⟩ (.string ⟨#[]⟩) (Qj hown1 hxw (by decide))) ⟨w.heap.size+1,1,none⟩ (.int .i64 vs.length) (Qj hown1 hxw (by decide));simpa using this
    ·exact ((hch.setCell ⟨bp,3,none⟩ _ (λ_=>.inl rfl)).setCell ⟨w.heap.size+1,0,none⟩ _ (λh=>absurd h (by simp))).setCell ⟨w.heap.size+1,1,none⟩ _ (λh=>absurd h (by simp))
 ·have q3r:Hid (Qc vs t=vs):=by show _=_;unfold Qc;rw[if_pos hsn]
  rw[hpos] at q9l;generalize Qw vs t=sn at *;have n5:bp≠w.heap.size+1:=by omega
  have hbE:Below w.heap.size w ((W0.drew.setCell ⟨w.heap.size+1,0,none⟩ (.string ⟨#[]⟩)).setCell ⟨w.heap.size+1,1,none⟩ (.int .i64 sn)):=(hb0.drew.setCell (p:=⟨w.heap.size+1,0,none⟩) (by simp) _).setCell (p:=⟨w.heap.size+1,1,none⟩) (by simp) _;have HOW:Hid (((W0.drew.setCell ⟨w.heap.size+1,0,none⟩ (.string ⟨#[]⟩)).setCell ⟨w.heap.size+1,1,none⟩ (.int .i64 sn)).ownsRow bS 9 1 (.slice a vs.length c) vs.length (vs.map Value.string)):=qk hV hbE;have HCH:Hid (Chg w ((W0.drew.setCell ⟨w.heap.size+1,0,none⟩ (.string ⟨#[]⟩)).setCell ⟨w.heap.size+1,1,none⟩ (.int .i64 sn)) (λj=>j=bp\/some j=(Value.slice a vs.length c).ownBlock)):=Chg.ofBelow _ hbE;clear hbE;clear hh hb0 hs0 hV hVd hbx h30 hpos;go_enter Tryz.func261,Tryz.ntmps261;go_wp2
  go_region_with (go_at_call 191;refine Calls.mono q9l.out ?_;rintro e w' ⟨rfl,rfl⟩)
  all_goals
   go_wp2
   (try simp only[Exit.inBlock,Exit.then])
   refine bodyPost_ret (v:=.agg #[.string ⟨#[]⟩,.int .i64 sn]) (by simp[results,Tryz.results261,go_sem,r0,r1]) rfl ?_;rw[q3r.out];refine⟨rfl,.slice a vs.length c,?_,?_,?_⟩
   ·exact (Below.heap_setCell _ _ _ _ n5).trans ((Below.heap_setCell _ _ _ _ n5).trans Qbz)
   ·exact HOW.out
   ·exact HCH.out
theorem q2u{w w3:Wq}{bp g n b45 b87 bS k kv c:Nat}{vr v' vv:Vq}{cur:Array Vq}{ys zs us:List Vq}{rel y:Vq}{ex:Nat->Prop}(hn:1<=n)(hh:w3.heap[bp]?=some (Obj.cells #[.int .i64 3,vr,.slice (some ⟨g,0,none⟩) n c,vv] 179))(hg:w3.heap[g]?=some (Obj.cells cur 92))(hoA:w3.ownsRow b45 92 2 (.slice (some ⟨g,0,none⟩) n c) n (ys++[rel,y]))(hoT:w3.ownsRow b87 166 2 v' k zs)(hoV:w3.ownsRow bS 9 1 vv kv us)(hc:Chg w w3 (λj=>j=bp\/some j=(Value.slice (some ⟨g,0,none⟩) n c).ownBlock\/ex j)) :
  ((w3.setCell ⟨g,(n - 1)*2+1,none⟩ v').setCell ⟨bp,0,none⟩ (.int .i64 4)).heap[bp]?=some (Obj.cells #[.int .i64 4,vr,.slice (some ⟨g,0,none⟩) n c,vv] 179)/\
  ((w3.setCell ⟨g,(n - 1)*2+1,none⟩ v').setCell ⟨bp,0,none⟩ (.int .i64 4)).ownsRow b45 92 2 (.slice (some ⟨g,0,none⟩) n c) n (ys++[rel,v'])/\
  ((w3.setCell ⟨g,(n - 1)*2+1,none⟩ v').setCell ⟨bp,0,none⟩ (.int .i64 4)).ownsRow b87 166 2 v' k zs/\
  ((w3.setCell ⟨g,(n - 1)*2+1,none⟩ v').setCell ⟨bp,0,none⟩ (.int .i64 4)).ownsRow bS 9 1 vv kv us/\
  Chg w ((w3.setCell ⟨g,(n - 1)*2+1,none⟩ v').setCell ⟨bp,0,none⟩ (.int .i64 4)) (λj=>j=bp\/some j=(Value.slice (some ⟨g,0,none⟩) n c).ownBlock\/ex j):=by
 have hne:g≠bp:=Qj hoA hh (by decide) g rfl;refine⟨Qi ((Below.heap_setCell _ _ _ bp (λe=>hne e.symm)).trans hh) 0 _,?_,?_,?_,(hc.setCell ⟨g,(n - 1)*2+1,none⟩ v' (λ_=>.inr (.inl rfl))).setCell ⟨bp,0,none⟩ _ (λ_=>.inl rfl)⟩
 ·exact Qn (qtk hoA hn rfl) _ _ (λg' hg'=>by simp[Value.ownBlock] at hg';subst hg';exact hne)
 ·exact Qn (Qn hoT _ _ (Qj hoT hg (by decide))) _ _ (Qj hoT hh (by decide))
 ·exact Qn (Qn hoV _ _ (Qj hoV hg (by decide))) _ _ (Qj hoV hh (by decide))
theorem q5d(bp:Nat)(st:Int)(vr va vv:Vq)(vs:List ByteArray)(bS:Nat)(k:Int)(t:ByteArray)(p r:Int)(hk:k=1\/k=2)(ht:t.size<=1000000)(hl:vs.length<=100)(w:Wq)(hbS:bS<=w.heap.size)(hh:w.heap[bp]?=some (Obj.cells #[.int .i64 st,vr,va,vv] 179))(hV:w.ownsRow bS 9 1 vv vs.length (vs.map Value.string)) :
  Calls Tryz.prog 261 #[.pointer (some ⟨bp,0,none⟩),qbk k t p r] w λe w'=>e=.returned (.agg #[.string (qca vs k t).name,.int .i64 (qca vs k t).num])/\
   ∃vv',w'.heap[bp]?=some (Obj.cells #[.int .i64 st,vr,va,vv'] 179)/\w'.ownsRow bS 9 1 vv' (qbi vs k t).length ((qbi vs k t).map Value.string)/\Chg w w' (λj=>j=bp\/some j=vv.ownBlock):=by
 rcases hk with rfl | rfl
 ·refine (q1k bp t p r ht w).mono ?_;rintro e w' ⟨rfl,hb⟩;exact⟨rfl,vv,(hb.block bp (zg hh).1).trans hh,qk hV hb,Chg.ofBelow _ hb⟩
 ·exact q5e bp st vr va vv vs bS 2 t p r (by decide) hl w hbS hh hV
theorem qsk(bp:Nat)(vr va vv:Vq)(n b45 b87 bS:Nat)(ys:List Vq)(rel:Vq)(aa:Option Addr)(m ca:Nat)(zs:List Vq)(vs:List ByteArray)(k:Int)(t:ByteArray)(p r:Int)(hk12:k=1\/k=2)(hn1:1<=n)(hn:n<=1000)(hm:m<=1000)(hnv:vs.length<=100)(ht:t.size<=1000000)(w:Wq)(hb87:b87<=w.heap.size)(hbS:bS<=w.heap.size)(hh:w.heap[bp]?=some (Obj.cells #[.int .i64 3,vr,va,vv] 179))(qr:w.ownsRow b45 92 2 va n (ys++[rel,.slice aa m ca]))(hownT:w.ownsRow b87 166 2 (.slice aa m ca) m zs)(hV:w.ownsRow bS 9 1 vv vs.length (vs.map Value.string)) :
  Calls Tryz.prog 233 #[.pointer (some ⟨bp,0,none⟩),qbk k t p r] w λe w'=>e=.returned (.tuple #[])/\
   ∃v' vv',w'.heap[bp]?=some (Obj.cells #[.int .i64 4,vr,va,vv'] 179)/\w'.ownsRow b45 92 2 va n (ys++[rel,v'])/\w'.ownsRow b87 166 2 v' (m+1) (zs++[.string (qca vs k t).name,.int .i64 (qca vs k t).num])/\
    w'.ownsRow bS 9 1 vv' (qbi vs k t).length ((qbi vs k t).map Value.string)/\
    Chg w w' (λj=>j=bp\/some j=va.ownBlock\/some j=(Value.slice aa m ca).ownBlock\/some j=vv.ownBlock):=by
 obtain⟨TN,hTN⟩:∃TN,(qca vs k t).name=TN:=⟨_,rfl⟩;obtain⟨TM,hTM⟩:∃TM,(qca vs k t).num=TM:=⟨_,rfl⟩;obtain⟨VS,hVS⟩:∃VS,qbi vs k t=VS:=⟨_,rfl⟩;rw[hTN,hTM,hVS];have hbp:bp < w.heap.size:=(zg hh).1;have h0:w.cell? ⟨bp,0,none⟩=some (.int .i64 3):=by simp[World.cell?,hh]
 obtain⟨g,c,cur,rfl,hg,hbg,hlt,hy,htk,hyl⟩:=qp1 qr hn1;have hgw:g < w.heap.size:=(zg hg).1;have hgb:g≠bp:=Qj qr hh (by decide) g rfl;have hhT:(w.alloc (.cells (qec k t p r) 191)).heap[bp]?=some (Obj.cells #[.int .i64 3,vr,.slice (some ⟨g,0,none⟩) n c,vv] 179):=(Below.heap_alloc _ _ _ hbp).trans hh;have qln:=qls bp 3 vr vv g n c hn1 hn _ hhT;obtain⟨i0,hi,hz0,hz1,hz2⟩:=info_parts Tryz.info87;unfold qbk;unfold qec at qln ⊢;go_enter Tryz.func233,Tryz.ntmps233;go_wp2_with fail;refine qln.mono ?_;rintro e w2 ⟨rfl,q,hw2⟩;have hc2:Chg w w2 (λ_=>False):=by rw[hw2];exact⟨rfl,rfl,rfl,by show _<=(w.alloc _).heap.size;simp,λj hj _=>Below.heap_alloc _ _ j hj⟩
 have qkm:w2.heap[w.heap.size]?=some (Obj.cells #[.int .i64 k,.string t,.int .i64 p,.int .i64 r] 191):=by rw[hw2];exact World.alloc_heap_new w _
 clear hw2 qln hhT;have hh2:w2.heap[bp]?=some (Obj.cells #[.int .i64 3,vr,.slice (some ⟨g,0,none⟩) n c,vv] 179):=(hc2.block bp hbp (λh=>h)).trans hh;have hg2:w2.heap[g]?=some (Obj.cells cur 92):=(hc2.block g hgw (λh=>h)).trans hg;have hkp:∀(g':Nat) (c':Array Vq) (T:TypeId),w.heap[g']?=some (Obj.cells c' T (0,0))->w2.heap[g']?=some (Obj.cells c' T (0,0)):=λg' c' T hc'=>(hc2.block g' (zg hc').1 (λh=>h)).trans hc';have q3n:w2.ownsRow b45 92 2 (.slice (some ⟨g,0,none⟩) n c) n (ys++[rel,.slice aa m ca]):=q8 qr (λg' c' hg' hc'=>hkp _ _ _ hc');have q3o:w2.ownsRow b87 166 2 (.slice aa m ca) m zs:=q8 hownT (λg' c' hg' hc'=>hkp _ _ _ hc');have hV2:w2.ownsRow bS 9 1 vv vs.length (vs.map Value.string):=q8 hV (λg' c' hg' hc'=>hkp _ _ _ hc');have q3w:w.heap.size<=w2.heap.size:=hc2.size;clear hh hg qr hownT h0 hV hkp;have c0:w2.cell? ⟨w.heap.size,0,none⟩=some (.int .i64 k):=by simp[World.cell?,qkm]
 have c1:w2.cell? ⟨w.heap.size,1,none⟩=some (.string t):=by simp[World.cell?,qkm]
 have c3:w2.cell? ⟨w.heap.size,2,none⟩=some (.int .i64 p):=by simp[World.cell?,qkm]
 have c4:w2.cell? ⟨w.heap.size,3,none⟩=some (.int .i64 r):=by simp[World.cell?,qkm]
 have c2:w2.cell? ⟨g,(n - 1)*2+1,none⟩=some (.slice aa m ca):=by simp[World.cell?,hg2,hy]
 have Qbr:Hid (∀W,Below w2.heap.size w2 W->Calls Tryz.prog 261 #[.pointer (some ⟨bp,0,none⟩),.agg #[.int .i64 k,.string t,.int .i64 p,.int .i64 r]] W λe W1=>e=.returned (.agg #[.string TN,.int .i64 TM])/\
   ∃vv',W1.heap[bp]?=some (Obj.cells #[.int .i64 3,vr,.slice (some ⟨g,0,none⟩) n c,vv'] 179)/\W1.heap[g]?=some (Obj.cells cur 92)/\W1.ownsRow b45 92 2 (.slice (some ⟨g,0,none⟩) n c) n (ys++[rel,.slice aa m ca])/\W1.ownsRow b87 166 2 (.slice aa m ca) m zs/\
    W1.ownsRow bS 9 1 vv' VS.length (VS.map Value.string)/\b87<=W1.heap.size/\Chg w W1 (λj=>j=bp\/some j=(Value.slice (some ⟨g,0,none⟩) n c).ownBlock\/some j=(Value.slice aa m ca).ownBlock\/some j=vv.ownBlock)):=by
  intro W hb;have hkp:∀(g':Nat) (c':Array Vq) (T:TypeId),w2.heap[g']?=some (Obj.cells c' T (0,0))->W.heap[g']?=some (Obj.cells c' T (0,0)):=λg' c' T hc'=>(hb.block g' (zg hc').1).trans hc';have hVW:=q8 hV2 (λg' c' hg' hc'=>hkp _ _ _ hc');have hbW:=hb.size;refine (q5d bp 3 vr _ vv vs bS k t p r hk12 ht hnv W (by omega) (hkp _ _ _ hh2) hVW).mono ?_;rintro e W1 ⟨rfl,vv',q1,q2,q3⟩
  have hk3:∀(g':Nat) (c':Array Vq) (T:TypeId),T≠179->T≠9->w2.heap[g']?=some (Obj.cells c' T (0,0))->W1.heap[g']?=some (Obj.cells c' T (0,0)):=by
   intro g' c' T t1 t2 hc';have hW:=hkp _ _ _ hc';rw[q3.block g' (zg hW).1 (λe=>?_)]
   ·exact hW
   ·rcases e with rfl | e
    ·rw[hkp _ _ _ hh2] at hW;cases hW;exact t1 rfl
    ·obtain⟨_,_,d,fz,hd⟩:=Qh hVW _ e.symm;rw[hW] at hd;cases hd;exact t2 rfl
  rw[hTN,hTM];rw[hVS] at q2;refine⟨rfl,vv',q1,hk3 _ _ _ (by decide) (by decide) hg2,q8 q3n (λg' c' hg' hc'=>hk3 _ _ _ (by decide) (by decide) hc'),q8 q3o (λg' c' hg' hc'=>hk3 _ _ _ (by decide) (by decide) hc'),q2,by have:=q3.size;omega,?_⟩;refine (hc2.mono (λ_ _ e=>e.elim)).trans ((Chg.ofBelow _ hb).trans (q3.mono (λj _ e=>?_)));rcases e with e | e
  ·exact .inl e
  ·exact .inr (.inr (.inr e))
 have hG:Hid (∀W1 O w3 vv',W1.heap[bp]?=some (Obj.cells #[.int .i64 3,vr,.slice (some ⟨g,0,none⟩) n c,vv'] 179)->W1.heap[g]?=some (Obj.cells cur 92)->W1.ownsRow b45 92 2 (.slice (some ⟨g,0,none⟩) n c) n (ys++[rel,.slice aa m ca])->W1.ownsRow b87 166 2 (.slice aa m ca) m zs->
    W1.ownsRow bS 9 1 vv' VS.length (VS.map Value.string)->Chg w W1 (λj=>j=bp\/some j=(Value.slice (some ⟨g,0,none⟩) n c).ownBlock\/some j=(Value.slice aa m ca).ownBlock\/some j=vv.ownBlock)->(W1.alloc O).grownBy w3 (Value.slice aa m ca).ownBlock->
   w3.heap[bp]?=some (Obj.cells #[.int .i64 3,vr,.slice (some ⟨g,0,none⟩) n c,vv'] 179)/\w3.heap[g]?=some (Obj.cells cur 92)/\w3.ownsRow b45 92 2 (.slice (some ⟨g,0,none⟩) n c) n (ys++[rel,.slice aa m ca])/\w3.ownsRow bS 9 1 vv' VS.length (VS.map Value.string)/\Chg w w3 (λj=>j=bp\/some j=(Value.slice (some ⟨g,0,none⟩) n c).ownBlock\/some j=(Value.slice aa m ca).ownBlock\/some j=vv.ownBlock)):=by
  intro W1 O w3 vv' q1 q2 q3 q4 q5 q6 hgr;have hc:Chg W1 w3 (λj=>some j=(Value.slice aa m ca).ownBlock):=((Chg.refl W1 _).alloc _).grown hgr (λk e _=>e.symm)
  have hk3:∀(g':Nat) (c':Array Vq) (T:TypeId),T≠166->W1.heap[g']?=some (Obj.cells c' T (0,0))->w3.heap[g']?=some (Obj.cells c' T (0,0)):=by
   intro g' c' T t1 hc';exact (hc.block g' (zg hc').1 (λe=>Qj q4 hc' t1 g' e.symm rfl)).trans hc'
  exact⟨hk3 _ _ _ (by decide) q1,hk3 _ _ _ (by decide) q2,q8 q3 (λg' c' hg' hc'=>hk3 _ _ _ (by decide) hc'),q8 q5 (λg' c' hg' hc'=>hk3 _ _ _ (by decide) hc'),q6.trans (hc.mono (λj _ e=>.inr (.inr (.inl e))))⟩
 have h1c:∀u∈[Value.string TN,.int .i64 TM],u.oneCell'=true:=by simp[Value.oneCell']
 have hb1:m+1<=maxLen:=by unfold maxLen;omega
 have hb2:(m+1)*24<=140737488355328:=by omega
 have hTK:Hid _:=qkm;clear q3n q3o hV2 hh2 hg2 hc2 qkm hTN hTM hVS;go_wp2
 go_region_law (first | (refine qbw rfl (.tmp 16) (.tmp 20) 90 rfl b87 166 i0 (.agg #[.string ⟨#[]⟩,.int .i64 0]) 2 24 Tryz.underlying90 hi hz0 hz1 hz2 rfl (by decide) (.slice aa m ca) m zs (by simp[Act.eval,Act.put]) (World.ownsRow.alloc z4 _) ⟨W1.heap.size,0,none⟩ 1 1 [.string TN,.int .i64 TM] (by simp[Act.eval,Act.put]) rfl (cell_two_new W1 (.string TN) (.int .i64 TM) 166) h1c hb1 hb2 (by simp;omega) ?_;intro v' w3 qyy hgrow3;obtain⟨g',cap',hv'⟩:=ownsRow_succ qyy;subst hv';obtain⟨hhw,hgc,hoA,hoV,hch⟩:=hG.out W1 _ w3 vv' z1 z2 z3 z4 z5 z7 hgrow3;have d0:w3.cell? ⟨bp,0,none⟩=some (.int .i64 3):=(by simp[World.cell?,hhw]);have d2:w3.cell? ⟨g,(n - 1)*2+1,none⟩=some (.slice aa m ca):=(by simp[World.cell?,hgc,hy]);have f0:w3.frozen? ⟨bp,0,none⟩=false:=(by simp[World.frozen?,hhw]);have f2:w3.frozen? ⟨g,(n - 1)*2+1,none⟩=false:=(by simp[World.frozen?,hgc])) | (go_simp;(try go_wp2_with fail);refine (Qbr.out _ (Below.drew (Below.refl w2.heap.size w2))).mono ?_;rintro e W1 ⟨rfl,vv',z1,z2,z3,z4,z5,z6,z7⟩;have k2:W1.cell? ⟨g,(n - 1)*2+1,none⟩=some (.slice aa m ca):=(by simp[World.cell?,z2,hy]);have ka2:∀O,(W1.alloc O).cell? ⟨g,(n - 1)*2+1,none⟩=some (.slice aa m ca):=λO=>cell_later ((Below.refl W1.heap.size W1).alloc zl O) k2;have kne:g≠W1.heap.size:=(by have:=(zg z2).1;omega);try go_wp2))
 all_goals
  go_wp2;refine bodyPost_ret (results_none rfl _ _ _) rfl ?_;exact⟨rfl,.slice (some ⟨g',0,none⟩) (m+1) cap',vv',q2u hn1 hhw hgc hoA qyy hoV hch⟩
