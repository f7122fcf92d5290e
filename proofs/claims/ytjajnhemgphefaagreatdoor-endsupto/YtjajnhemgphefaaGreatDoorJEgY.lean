/- The engine: Tick. -/
import Derived.Test.YtjajnhemgphefaaGreatDoorJEgV
set_option linter.unusedVariables false
set_option linter.unusedSimpArgs false
set_option maxRecDepth 100000
set_option maxHeartbeats 4000000
namespace Go.Proofs.YtjajnhemgphefaaGreatDoor
open Go renaming World->Wq,Value->Vq
open Go.RowKit Go.Shelf Go.Maps
variable {V:Wq} {S:Nat->Prop} {be N bm B rb b45 b87 k:Nat} {e:Eg} {l:List (Gd×Int)} {M':Gd->Option Int} {vr vn vk vf:Vq} {bfs:List Nat} {m:Int} {Sf:Nat->Nat->Prop}
structure MvI(w:Wq)(S:Nat->Prop)(be N bm B:Nat)(e:Eg)(l:List (Gd×Int))(M':Gd->Option Int)(vr vn vk vf:Vq)(rb b45 b87:Nat)(bfs:List Nat)(m:Int)(k:Nat)(V:Wq):Prop where
 ex:∃(Sk:Nat->Prop) (Sfk:Nat->Nat->Prop) (L:List Fs),qev V Sk be {e with mark:=m,kept:=l,M:=M',fds:=L} vr vn vk vf B rb b45 b87 bfs Sfk/\L.length=e.fds.length/\(∀i (h:i < e.fds.length) (h':i < L.length),i < k->q7o e.M M' m e.que e.fds[i] L[i])/\(∀i (h:i < e.fds.length) (h':i < L.length),k<=i->L[i]=e.fds[i])/\∀j,Sk j->S j\/w.heap.size<=j
 chg:Chg w V S
 md:qda V bm 5000 e.M
 box:V.heap[N]?=some (Obj.cells #[.pointer (some ⟨be,0,none⟩)] 40)
theorem MvI.blk{w:Wq}(h:MvI w S be N bm B e l M' vr vn vk vf rb b45 b87 bfs m k V) :
  V.heap[be]?=some (Obj.cells #[vr,.int .i64 e.win,.int .i64 e.lat,.int .i64 e.que,.int .i64 m,vn,vk,.map (some B),vf] 101)/\V.ownsRow 0 120 1 vf bfs.length (bfs.map q04):=by
 obtain⟨⟨Sk,Sfk,L,hv,_⟩,_⟩:=h;exact⟨hv.blk,hv.frow⟩
theorem MvI.drew{w:Wq}(h:MvI w S be N bm B e l M' vr vn vk vf rb b45 b87 bfs m k V):MvI w S be N bm B e l M' vr vn vk vf rb b45 b87 bfs m k V.drew:=by
 obtain⟨⟨Sk,Sfk,L,hv,h1,h2,h3,h4⟩,h5,h6,h7⟩:=h;exact⟨⟨Sk,Sfk,L,hv.below (Below.refl _ V).drew,h1,h2,h3,h4⟩,h5.drew,h6.below (Below.refl _ V).drew,h7⟩
theorem q4i{w W3 W4:Wq}{S2:Nat->Prop}{m:Int}(hv:qev W3 S2 be {e with mark:=m,kept:=l} vr vn vk vf bm rb b45 b87 bfs Sf)(qix:∀k,S2 k->S k)(hch:Chg w W3 S)(hbx:W3.heap[N]?=some (Obj.cells #[.pointer (some ⟨be,0,none⟩)] 40))(hb:Below W3.heap.size W3 W4)(hm:qda W4 B 5000 M') :
  W4.cell? ⟨N,0,none⟩=some (.pointer (some ⟨be,0,none⟩))/\W4.cell? ⟨be,7,none⟩=some (.map (some bm))/\W4.frozen? ⟨be,7,none⟩=false/\MvI w S be N bm B e l M' vr vn vk vf rb b45 b87 bfs m 0 (W4.setCell ⟨be,7,none⟩ (.map (some B))):=by
 have h4:=hv.below hb;have hN4:=(hb.block N (zg hbx).1).trans hbx;have hbk:=h4.blk;have hne:N≠be:=λe=>by rw[e,h4.blk] at hN4;cases hN4
 have hc:Chg W4 (W4.setCell ⟨be,7,none⟩ (.map (some B))) (λk=>k=be\/vk.ownBlock=some k):=(Chg.refl W4 _).setCell ⟨be,7,none⟩ _ (λ_=>.inl rfl);have hty:∀(k:Nat) (o:Obj),W4.heap[k]?=some o->k≠be->(W4.setCell ⟨be,7,none⟩ (.map (some B))).heap[k]?=some o:=λk o hk hne=>(Below.heap_setCell _ _ _ _ (by show k≠be;exact hne)).trans hk;have qqu:∀j es c,W4.heap[j]?=some (Obj.map es c)->(W4.setCell ⟨be,7,none⟩ (.map (some B))).heap[j]?=some (Obj.map es c):=λj es c hj=>hty j _ hj (λe=>by rw[e,h4.blk] at hj;cases hj)
 have qd1:=h4.put (W':=W4.setCell ⟨be,7,none⟩ (.map (some B))) (e':={e with mark:=m,kept:=l,M:=M'}) (vn':=vn) (vk':=vk) (bm':=B) hc rfl rfl (Qi h4.blk 7 (.map (some B)))
  (Qn h4.names ⟨be,7,none⟩ _ (Qj h4.names h4.blk (by decide))) (Qn h4.kept ⟨be,7,none⟩ _ (Qj h4.kept h4.blk (by decide))) (hm.kept qqu)
 have Qe2:Chg w W4 S:=⟨hb.os.trans hch.os,hb.tape.trans hch.tape,hb.output.trans hch.output,Nat.le_trans hch.size hb.size,λj hj hs=>(hb.block j (Nat.lt_of_lt_of_le hj hch.size)).trans (hch.block j hj hs)⟩;refine⟨by simp[World.cell?,hN4],by simp[World.cell?,hbk],by simp[World.frozen?,hbk],⟨_,Sf,e.fds,qd1,rfl,λi _ _ hi=>by omega,λi _ _ _=>rfl,λj hj=>?_⟩,Qe2.setCell ⟨be,7,none⟩ _ (λ_=>qix _ hv.own.1),h4.md.kept qqu,hty N _ hN4 hne⟩;rcases hj with⟨h1,_⟩ | h1 | h1
 ·exact .inl (qix j h1)
 ·exact .inl (qix j (hv.own.2.1 j h1))
 ·exact .inl (qix j (hv.own.2.2.2 j h1))
theorem MvI.done{w:Wq}(h:MvI w S be N bm B e l M' vr vn vk vf rb b45 b87 bfs m bfs.length V)(hl:e.kept.filter (λd=>!qay e.win m d.2)=l)(hM:qbf e.rs (qho e m++Qk e.rs) M') :
  ∃e',qtt e m e'/\Qs S be e' w V:=by
 obtain⟨⟨Sk,Sfk,L,hv,hL,hd,hr,hs⟩,hc,hmd,hbx⟩:=h;have Q7:bfs.length=L.length:=hv.len;refine⟨{e with mark:=m,kept:=l,M:=M',fds:=L},⟨M',L,hM,hL,λi h1 h2=>hd i h1 h2 (by omega),by rw[hl]⟩,Sk,⟨_,_,_,_,_,_,_,_,_,_,hv⟩,hs,hc⟩
def q16(e:Eg):Prop:=∀(w V:Wq) (S:Nat->Prop) (be N bm B:Nat) (l:List (Gd×Int)) (M':Gd->Option Int) (vr vn vk vf:Vq) (rb b45 b87:Nat) (bfs:List Nat) (m:Int) (k:Nat) (_:MvI w S be N bm B e l M' vr vn vk vf rb b45 b87 bfs m k V) (hk:k < bfs.length) (_:∀g,(M' g).isSome=true->qdy (arR e.rs) g/\g∈uni (qc9 e.rs) e.names),
  Calls Tryz.prog 88 #[.pointer (some ⟨bfs[k],0,none⟩),.map (some bm),.map (some B),.int .i64 m,.int .i64 e.que] V λen w'=>en=.returned (.tuple #[])/\MvI w S be N bm B e l M' vr vn vk vf rb b45 b87 bfs m (k+1) w'
theorem Qag(h0:e.fds=[]):q16 e:=λ_ _ _ _ _ _ _ _ _ _ _ _ _ _ _ _ bfs _ k h hk hM=>by
 obtain⟨⟨Sk,Sfk,L,hv,h1,_⟩,_⟩:=h;have h2:bfs.length=L.length:=hv.len;rw[h0] at h1;simp at h1;rw[h1] at h2;simp at h2;rw[h2] at hk;simp at hk
def qgm(win m:Int)(l:List (Gd×Int)):List (Gd×Int):=(l.filter (λd=>decide (d.2<=m))).map (λd=>(d.1,d.2+win))
theorem qzz(win m:Int){l:List (Gd×Int)}{k:Nat}(h:k < l.length):qgm win m (l.take (k+1))=qgm win m (l.take k)++(if (l[k]).2<=m then [((l[k]).1,(l[k]).2+win)] else []):=by
 unfold qgm;rw[List.take_succ_eq_append_getElem h,List.filter_append,List.map_append];congr 1;by_cases hb:(l[k]).2<=m
 ·rw[if_pos hb];simp[hb]
 ·rw[if_neg hb];simp[hb]
theorem q2g(win m:Int)(l:List (Gd×Int)):(qgm win m l).length<=l.length:=by unfold qgm;rw[List.length_map];exact List.length_filter_le _ _
theorem Qaa:(Tryz.prog.info? 172).map (λi=>(i.zero,i.size,i.bytes))=some (some (.agg #[.string ⟨#[]⟩,.string ⟨#[]⟩,.string ⟨#[]⟩,.int .i64 0]),4,56):=by kernel_rfl
theorem qwu(v:Vq)(l:List (Gd×Int))(Bx be:Nat)(win mark:Int)(w:Wq)(hS:w.ownsRow 0 161 4 v l.length (l.flatMap qo))(hl:l.length<=1000)(hok:∀d∈l,0<=d.2/\d.2<=1000000)(hw:0<=win/\win<=1000)(hx:w.heap[Bx]?=some (Obj.cells #[.pointer (some ⟨be,0,none⟩)] 40))(cs:Array Vq)(hb:w.heap[be]?=some (Obj.cells cs 101))(h1:cs[1]?=some (.int .i64 win))(h4:cs[4]?=some (.int .i64 mark)) :
  Calls Tryz.prog 85 #[v,.func (.func 86) #[] #[.pointer (some ⟨Bx,0,none⟩)]] w λe w'=>∃(oa:Option Addr) (oc:Nat),e=.returned (.slice oa (l.filter (λd=>!qay win mark d.2)).length oc)/\w'.ownsRow 0 161 4 (.slice oa (l.filter (λd=>!qay win mark d.2)).length oc) (l.filter (λd=>!qay win mark d.2)).length ((l.filter (λd=>!qay win mark d.2)).flatMap qo)/\(Value.slice oa (l.filter (λd=>!qay win mark d.2)).length oc).ownBlock=v.ownBlock/\Chg w w' (λk=>v.ownBlock=some k):=by
 obtain⟨h0,⟨hv,hn⟩ | ⟨g,cap,cur,hv,hbb,hh,k1,k2,k3,k4⟩⟩:=hS
 ·subst hv;have hz:l=[]:=List.eq_nil_of_length_eq_zero hn;subst hz;refine (qt9 _ w).mono ?_;rintro e w' ⟨rfl,hbl⟩;exact⟨none,0,rfl,⟨rfl,.inl ⟨rfl,rfl⟩⟩,rfl,Chg.ofBelow _ hbl⟩
 ·have hS:w.ownsRow 0 161 4 v l.length (l.flatMap qo):=⟨h0,.inr ⟨g,cap,cur,hv,hbb,hh,k1,k2,k3,k4⟩⟩;have hgx:Bx≠g:=λe=>by rw[e,hh] at hx;cases hx
  have hgb:be≠g:=λe=>by rw[e,hh] at hb;cases hb
  refine (qt8 v l 0 g cap Bx (λd=>qay win mark d.2) (λd=>0<=d.2/\d.2<=1000000) w hv hS hl hok (λW hW d hd=>?_)).mono ?_
  ·have hxl:=(zg hx).1;have hbl:=(zg hb).1;have x1:=(hW.block Bx hxl hgx).trans hx;have x2:=(hW.block be hbl hgb).trans hb;refine q0p be Bx d win mark W (by simp[World.cell?,x1]) (by have:=hW.size;omega) (by have:=hW.size;omega) ?_ ?_ hd hw
   ·simp only[World.cell?,x2];simpa using h1
   ·simp only[World.cell?,x2];simpa using h4
  ·rintro e w' ⟨rfl,ho,hc⟩;subst hv;exact⟨_,_,rfl,ho,rfl,hc.mono (λk _ hk=>by rw[hk];rfl)⟩
theorem Qaf{w W2:Wq}{v':Vq}(hv:qev w S be e vr vn vk vf bm rb b45 b87 bfs Sf)(hN:w.heap.size=N){m:Int}{l:List (Gd×Int)}(hc:Chg ((w.alloc (.cells #[.pointer (some ⟨be,0,none⟩)] 40)).setCell ⟨be,4,none⟩ (.int .i64 m)) W2 (λk=>vk.ownBlock=some k))(ho:W2.ownsRow 0 161 4 v' l.length (l.flatMap qo))(hvb:v'.ownBlock=vk.ownBlock) :
  W2.cell? ⟨N,0,none⟩=some (.pointer (some ⟨be,0,none⟩))/\W2.cell? ⟨be,6,none⟩=some vk/\W2.frozen? ⟨be,6,none⟩=false/\∃S2:Nat->Prop,qev (W2.setCell ⟨be,6,none⟩ v') S2 be {e with mark:=m,kept:=l} vr vn v' vf bm rb b45 b87 bfs Sf/\(∀k,S2 k->S k)/\Chg w (W2.setCell ⟨be,6,none⟩ v') S/\(W2.setCell ⟨be,6,none⟩ v').heap[N]?=some (Obj.cells #[.pointer (some ⟨be,0,none⟩)] 40):=by
 have hb0:Below w.heap.size w (w.alloc (.cells #[.pointer (some ⟨be,0,none⟩)] 40)):=(Below.refl _ w).alloc zl _;have h0:=hv.below hb0;have hbe:=(zg hv.blk).1;obtain⟨W0,hW0⟩:∃W0,w.alloc (.cells #[.pointer (some ⟨be,0,none⟩)] 40)=W0:=⟨_,rfl⟩;have eN:W0.heap[N]?=some (Obj.cells #[.pointer (some ⟨be,0,none⟩)] 40):=by rw[<- hW0,<- hN];exact World.alloc_heap_new w _
 have hs0:W0.heap.size=N+1:=by rw[<- hW0,<- hN];simp
 rw[hW0] at hc h0 hb0
 have hbk:vk.ownBlock≠some be:=λhs=>by
  obtain⟨_,c,hcc⟩:=qe h0.kept hs;rw[h0.blk] at hcc;cases hcc
 have hNk:vk.ownBlock≠some N:=λhs=>by
  obtain⟨_,c,hcc⟩:=qe h0.kept hs;rw[eN] at hcc;cases hcc
 have b1:W2.heap[be]?=some (Obj.cells #[vr,.int .i64 e.win,.int .i64 e.lat,.int .i64 e.que,.int .i64 m,vn,vk,.map (some bm),vf] 101):=
  (hc.block be (by simp;omega) hbk).trans (Qi h0.blk 4 (.int .i64 m))
 have hc1:Chg W0 W2 (λk=>k=be\/vk.ownBlock=some k):=by
  have h1:Chg W0 (W0.setCell ⟨be,4,none⟩ (.int .i64 m)) (λk=>k=be\/vk.ownBlock=some k):=(Chg.refl W0 _).setCell ⟨be,4,none⟩ _ (λ_=>.inl rfl);exact h1.trans (hc.mono (λk _ hk=>.inr hk))
 have hc2:Chg W0 (W2.setCell ⟨be,6,none⟩ v') (λk=>k=be\/vk.ownBlock=some k):=hc1.setCell ⟨be,6,none⟩ v' (λ_=>.inl rfl)
 have hty:∀(k:Nat) (o:Obj),W0.heap[k]?=some o->(∀c,o≠Obj.cells c 101)->(∀c,o≠Obj.cells c 161)->(W2.setCell ⟨be,6,none⟩ v').heap[k]?=some o:=by
  intro j o hj h1 h2;refine (hc2.block j (zg hj).1 ?_).trans hj;rintro (rfl | hs)
  ·rw[h0.blk] at hj;cases hj;exact h1 _ rfl
  ·obtain⟨_,c',hcc⟩:=qe h0.kept hs;rw[hj] at hcc;cases hcc;exact h2 _ rfl
 have qd1:=h0.put (W':=W2.setCell ⟨be,6,none⟩ v') (e':={e with mark:=m,kept:=l}) (vn':=vn) (vk':=v') (bm':=bm) hc2 rfl rfl (Qi b1 6 v')
  (q8 h0.names (λg c _ hcc=>hty g _ hcc (by intro c' e;cases e) (by intro c' e;cases e)))
  (Qn ho ⟨be,6,none⟩ v' (Qj ho b1 (by decide)))
  (h0.md.kept (λj es c hm=>hty j _ hm (by intro c' e;cases e) (by intro c' e;cases e)))
 have bN:W2.heap[N]?=some (Obj.cells #[.pointer (some ⟨be,0,none⟩)] 40):=(hc1.block N (by omega) (λe=>e.elim (λe=>by rw[hN] at hbe;omega) hNk)).trans eN;refine⟨by simp[World.cell?,bN],by simp[World.cell?,b1],by simp[World.frozen?,b1],_,qd1,λk hk=>?_,?_,hty N _ eN (by intro c' e;cases e) (by intro c' e;cases e)⟩
 ·rcases hk with⟨h1,_⟩ | h1 | h1
  ·exact h1
  ·exact hv.own.2.1 k (hvb.symm.trans h1)
  ·exact hv.own.2.2.2 k h1
 ·refine⟨hc2.os.trans hb0.os,hc2.tape.trans hb0.tape,hc2.output.trans hb0.output,Nat.le_trans hb0.size hc2.size,λk hk hs=>(hc2.block k (Nat.lt_of_lt_of_le hk hb0.size) (λe=>hs ?_)).trans (hb0.block k hk)⟩;rcases e with rfl | e
  ·exact hv.own.1
  ·exact hv.own.2.1 k e
theorem q0q(S:Nat->Prop)(be:Nat)(e:Eg)(m:Int)(w:Wq)(h:qb1 w S be e)(hok:qci e)(hm:0<=m/\m<=1000000)(hmx:q16 e) :
  Calls Tryz.prog 46 #[.pointer (some ⟨be,0,none⟩),.int .i64 m] w λen w'=>en=.returned (.tuple #[])/\∃e',qtt e m e'/\Qs S be e' w w':=by
 have HMX:Hid (q16 e):=hmx;clear hmx;obtain⟨vr,vn,vk,vf,bm,rb,b45,b87,bfs,Sf,hv⟩:=h;obtain⟨N,hN⟩:∃N,w.heap.size=N:=⟨_,rfl⟩;have hbe:=hv.lt;obtain⟨ka,kc,hkf⟩:=qn hv.kept;subst hkf;obtain⟨fa,fc,hff⟩:=qn hv.frow;subst hff;obtain⟨ra,rc,hrf⟩:=hv.rules.form;subst hrf;have hV:Hid (qev w S be e (.slice ra e.rs.length rc) vn (.slice ka e.kept.length kc) (.slice fa bfs.length fc) bm rb b45 b87 bfs Sf):=hv;have HOK:Hid (qci e):=hok;have HN:Hid (w.heap.size=N):=hN;obtain⟨W0,hW0⟩:∃W0,w.alloc (.cells #[.pointer (some ⟨be,0,none⟩)] 40)=W0:=⟨_,rfl⟩;have hb0:Below w.heap.size w W0:=by rw[<- hW0];exact (Below.refl _ w).alloc zl _
 have h0:=hv.below hb0;have eN:W0.heap[N]?=some (Obj.cells #[.pointer (some ⟨be,0,none⟩)] 40):=by rw[<- hW0,<- hN];exact World.alloc_heap_new w _
 have hne:N≠be:=by omega
 have c4:W0.cell? ⟨be,4,none⟩=some (.int .i64 e.mark):=by have:=h0.blk;simp[World.cell?,this]
 have y4:W0.frozen? ⟨be,4,none⟩=false:=by have:=h0.blk;simp[World.frozen?,this]
 have a0:W0.cell? ⟨N,0,none⟩=some (.pointer (some ⟨be,0,none⟩)):=by simp[World.cell?,eN]
 obtain⟨W1,hW1⟩:∃W1,W0.setCell ⟨be,4,none⟩ (.int .i64 m)=W1:=⟨_,rfl⟩;have e1:W1.heap[be]?=some (Obj.cells #[.slice ra e.rs.length rc,.int .i64 e.win,.int .i64 e.lat,.int .i64 e.que,.int .i64 m,vn,.slice ka e.kept.length kc,.map (some bm),.slice fa bfs.length fc] 101):=by rw[<- hW1];exact Qi h0.blk 4 (.int .i64 m)
 have eN1:W1.heap[N]?=some (Obj.cells #[.pointer (some ⟨be,0,none⟩)] 40):=by rw[<- hW1];exact (Below.heap_setCell _ _ _ _ (by show N≠be;exact hne)).trans eN
 have c6:W1.cell? ⟨be,6,none⟩=some (.slice ka e.kept.length kc):=by simp[World.cell?,e1]
 have a1:W1.cell? ⟨N,0,none⟩=some (.pointer (some ⟨be,0,none⟩)):=by simp[World.cell?,eN1]
 have hk1:W1.ownsRow 0 161 4 (.slice ka e.kept.length kc) e.kept.length (e.kept.flatMap qo):=by rw[<- hW1];exact Qn h0.kept ⟨be,4,none⟩ _ (Qj h0.kept h0.blk (by decide))
 have q9g:Hid (Calls Tryz.prog 85 #[.slice ka e.kept.length kc,.func (.func 86) #[] #[.pointer (some ⟨N,0,none⟩)]] W1.drew λe' w'=>∃(oa:Option Addr) (oc:Nat),e'=.returned (.slice oa (e.kept.filter (λd=>!qay e.win m d.2)).length oc)/\w'.ownsRow 0 161 4 (.slice oa (e.kept.filter (λd=>!qay e.win m d.2)).length oc) (e.kept.filter (λd=>!qay e.win m d.2)).length ((e.kept.filter (λd=>!qay e.win m d.2)).flatMap qo)/\(Value.slice oa (e.kept.filter (λd=>!qay e.win m d.2)).length oc).ownBlock=(Value.slice ka e.kept.length kc).ownBlock/\Chg W1.drew w' (λk=>(Value.slice ka e.kept.length kc).ownBlock=some k)):=
  qwu (.slice ka e.kept.length kc) e.kept N be e.win m W1.drew hk1 (by have:=hok.k24;omega) (λd hd=>(hok.kept d hd).2.2) ⟨by have:=hok.win;omega,hok.win.2⟩ eN1 _ e1 rfl rfl
 have qde:Hid (∀W2 (oa:Option Addr) (oc:Nat),Chg W1.drew W2 (λk=>(Value.slice ka e.kept.length kc).ownBlock=some k)->W2.ownsRow 0 161 4 (.slice oa (e.kept.filter (λd=>!qay e.win m d.2)).length oc) (e.kept.filter (λd=>!qay e.win m d.2)).length ((e.kept.filter (λd=>!qay e.win m d.2)).flatMap qo)->(Value.slice oa (e.kept.filter (λd=>!qay e.win m d.2)).length oc).ownBlock=(Value.slice ka e.kept.length kc).ownBlock->W2.cell? ⟨N,0,none⟩=some (.pointer (some ⟨be,0,none⟩))/\W2.cell? ⟨be,6,none⟩=some (.slice ka e.kept.length kc)/\W2.frozen? ⟨be,6,none⟩=false/\Hid (∃S2:Nat->Prop,qev (W2.setCell ⟨be,6,none⟩ (.slice oa (e.kept.filter (λd=>!qay e.win m d.2)).length oc)) S2 be {e with mark:=m,kept:=e.kept.filter (λd=>!qay e.win m d.2)} (.slice ra e.rs.length rc) vn (.slice oa (e.kept.filter (λd=>!qay e.win m d.2)).length oc) (.slice fa bfs.length fc) bm rb b45 b87 bfs Sf/\(∀k,S2 k->S k)/\Chg w (W2.setCell ⟨be,6,none⟩ (.slice oa (e.kept.filter (λd=>!qay e.win m d.2)).length oc)) S/\(W2.setCell ⟨be,6,none⟩ (.slice oa (e.kept.filter (λd=>!qay e.win m d.2)).length oc)).heap[N]?=some (Obj.cells #[.pointer (some ⟨be,0,none⟩)] 40))):=λW2 oa oc hc ho hvb=>by
  rw[<- hW1,<- hW0] at hc;exact Qaf hV.out hN (l:=e.kept.filter (λd=>!qay e.win m d.2)) ⟨hc.os,hc.tape,hc.output,hc.size,hc.block⟩ ho hvb
 obtain⟨l,hl⟩:∃l,e.kept.filter (λd=>!qay e.win m d.2)=l:=⟨_,rfl⟩;have HL:Hid (e.kept.filter (λd=>!qay e.win m d.2)=l):=hl;rw[hl] at q9g qde;clear hl hv h0 eN e1 eN1 hk1 hok hb0;generalize hkl:l.length=kl at *;have HKL:Hid (l.length=kl):=hkl;clear hkl;go_enter Tryz.func46,Tryz.ntmps46;go_wp2_with fail;refine wp_mono (Q:=λen a' W3=>match en with | Exit.normal=>∃(oa:Option Addr) (oc:Nat),Hid (∃S2:Nat->Prop,qev W3 S2 be {e with mark:=m,kept:=l} (.slice ra e.rs.length rc) vn (.slice oa kl oc) (.slice fa bfs.length fc) bm rb b45 b87 bfs Sf/\(∀k,S2 k->S k)/\Chg w W3 S/\W3.heap[N]?=some (Obj.cells #[.pointer (some ⟨be,0,none⟩)] 40))/\a'={tmps:=List.toArray (.pointer (some ⟨be,0,none⟩)::.int .i64 m::.pointer (some ⟨N,0,none⟩)::undef::undef::undef::undef::undef::undef::undef::.pointer (some ⟨be,0,none⟩)::.int .i64 m::.pointer (some ⟨be,0,none⟩)::.pointer (some ⟨be,4,none⟩)::.pointer (some ⟨be,0,none⟩)::.pointer (some ⟨be,0,none⟩)::.pointer (some ⟨be,0,none⟩)::.pointer (some ⟨be,6,none⟩)::.slice ka e.kept.length kc::.func (.func 86) #[] #[.pointer (some ⟨N,0,none⟩)]::.slice oa kl oc::.pointer (some ⟨be,0,none⟩)::.pointer (some ⟨be,6,none⟩)::undef::undef::undef::undef::undef::undef::undef::undef::undef::undef::undef::undef::undef::undef::undef::undef::undef::undef::undef::undef::undef::undef::undef::undef::undef::undef::undef::undef::undef::undef::undef::undef::undef::undef::undef::undef::undef::undef::undef::undef::undef::undef::undef::undef::undef::undef::undef::undef::undef::undef::undef::undef::undef::undef::undef::undef::undef::undef::undef::[]),defers:=[]} | _=>False) ?reg ?rest
 case reg=>
  first | (go_region_with (go_at_call 85;refine Calls.mono q9g.out ?_;rintro e' W2 ⟨oa,oc,rfl,ho,hvb,hc⟩;obtain⟨dN,d6,z6,hS2⟩:=qde.out W2 oa oc hc ho hvb)) | fail
  all_goals exact⟨oa,oc,hS2,rfl⟩
 case rest=>
  rintro (_ | _ | _ | _ | _ | _) a' W3 hq
  all_goals first | exact hq.elim | skip
  obtain⟨oa,oc,⟨S2,h3,qix,hch,eN3⟩,rfl⟩:=hq;clear c4 y4 a0 c6 a1 q9g qde hW1 hW0;have a3:W3.cell? ⟨N,0,none⟩=some (.pointer (some ⟨be,0,none⟩)):=by simp[World.cell?,eN3]
  have q3:=h3.blk;have k6:W3.cell? ⟨be,6,none⟩=some (.slice oa kl oc):=by simp[World.cell?,q3]
  clear q3
  have hlk:kl<=24:=by
   have h1:=HL.out;have h2:=List.length_filter_le (λd:Gd×Int=>!qay e.win m d.2) e.kept;have h3:=HOK.out.k24;rw[h1,HKL.out] at h2;omega
  have hk3:Hid (W3.ownsRow 0 161 4 (.slice oa l.length oc) l.length (l.flatMap qo)):=by
   have h1:=h3.kept;show World.ownsRow _ _ _ _ _ _ _;rw[HKL.out];rw[show ({e with mark:=m,kept:=l}:Eg).kept.length=kl from HKL.out] at h1;exact h1
  have hEV:Hid (qev W3 S2 be {e with mark:=m,kept:=l} (.slice ra e.rs.length rc) vn (.slice oa kl oc) (.slice fa bfs.length fc) bm rb b45 b87 bfs Sf):=h3;have hlt:Hid (be < W3.heap.size/\N < W3.heap.size):=⟨h3.lt,(zg eN3).1⟩
  have hcV:Hid (∀V,Below W3.heap.size W3 V->V.cell? ⟨N,0,none⟩=some (.pointer (some ⟨be,0,none⟩))/\V.cell? ⟨be,1,none⟩=some (.int .i64 e.win)/\V.cell? ⟨be,7,none⟩=some (.map (some bm))/\V.cell? ⟨be,0,none⟩=some (.slice ra e.rs.length rc)/\V.frozen? ⟨be,7,none⟩=false):=λV hb=>by
   have h1:=(hEV.out.below hb).blk;have h2:=(hb.block N hlt.out.2).trans eN3;exact⟨by simp[World.cell?,h2],by simp[World.cell?,h1],by simp[World.cell?,h1],by simp[World.cell?,h1],by simp[World.frozen?,h1]⟩
  have qg7:Hid (∀V,Below W3.heap.size W3 V->∀t:Int,0<=t/\t<=1000000->Calls Tryz.prog 87 #[.pointer (some ⟨be,0,none⟩),.int .i64 t] V λe' w'=>e'=.returned (.int .i64 (t+e.win))/\V=w'):=λV hb t ht=>by
   refine (qud be t e.win V (hcV.out V hb).2.1 ht ⟨by have:=HOK.out.win;omega,HOK.out.win.2⟩).mono ?_;rintro e' w' ⟨h1,h2⟩;exact⟨h1,h2.symm⟩
  have Qfl:Hid (∀d∈l,0<=d.2/\d.2<=1000000):=λd hd=>by
   rw[<- HL.out] at hd;exact (HOK.out.kept d (List.mem_filter.1 hd).1).2.2
  obtain⟨i0,hi,hz0,hz1,hz2⟩:=info_parts Qaa;have Qef:Hid _:=qix;have HCH:Hid _:=hch;have HEN:Hid _:=eN3;clear h3 qix hch eN3;go_wp2_with fail
  go_loopw [4,28] (λvq vi wr=>∃(k:Nat) (qa:Option Addr) (qc:Nat),vq=.slice qa (qgm e.win m (l.take k)).length qc/\vi=.int .i64 k/\k<=kl/\wr.ownsRow W3.heap.size 172 4 (.slice qa (qgm e.win m (l.take k)).length qc) (qgm e.win m (l.take k)).length ((qgm e.win m (l.take k)).flatMap qo)/\Below W3.heap.size W3 wr) (λ_ vi _=>kl - (intOf vi).toNat)
  case atStart=>exact⟨0,none,0,rfl,rfl,Nat.zero_le _,⟨rfl,.inl ⟨rfl,rfl⟩⟩,Below.refl _ _⟩
  case round=>
   obtain⟨k,qa,qc,rfl,rfl,hk,qr,hb⟩:=hrel;have q3x:W3.heap.size<=wr.heap.size:=hb.size;by_cases hlk2:k < kl
   ·have i1:(k:Int) < (kl:Int):=by omega
    have qxe:k < l.length:=by rw[HKL.out];exact hlk2
    obtain⟨g,c,e0,x0,x1,x2,x3,hg⟩:=qg3 (qk hk3.out hb) qxe;cases e0;have Q5:Hid _:=qzz e.win m qxe
    have qmq:(qgm e.win m (l.take k)).length<=24:=by
     have:=q2g e.win m (l.take k);rw[List.length_take] at this;omega
    have hd:=Qfl.out _ (List.getElem_mem qxe);have HD:Hid _:=hd;generalize hlkd:l[k]=d at *;have hcr:=hcV.out wr hb;obtain⟨n0,n1,_,_,_⟩:=hcr;have HB:Hid _:=hb;have HO:Hid _:=qr;generalize hF:qgm e.win m (l.take k)=F at *;clear hF hlkd hd qxe hb qr;by_cases hdm:d.2<=m
    ·rw[if_pos hdm] at Q5;have hw2:Hid (∀O,Below W3.heap.size W3 (wr.alloc O).drew/\Below W3.heap.size W3 (wr.alloc O)):=λO=>⟨(HB.out.alloc q3x O).drew,HB.out.alloc q3x O⟩;have Qg2:N≠wr.heap.size:=by have:=hlt.out.2;omega
     obtain⟨V1,hV1⟩:∃V1,(wr.alloc (.cells #[.string d.1.rel,.string d.1.x,.string d.1.y,.int .i64 d.2] 161)).drew=V1:=⟨_,rfl⟩;have hbV:Below W3.heap.size W3 V1:=by rw[<- hV1];exact (hw2.out _).1
     have eV:V1.heap[wr.heap.size]?=some (Obj.cells #[.string d.1.rel,.string d.1.x,.string d.1.y,.int .i64 d.2] 161):=by rw[<- hV1];exact World.alloc_heap_new wr _
     have p0:V1.cell? ⟨wr.heap.size,0,none⟩=some (.string d.1.rel):=by simp[World.cell?,eV]
     have p1:V1.cell? ⟨wr.heap.size,1,none⟩=some (.string d.1.x):=by simp[World.cell?,eV]
     have p2:V1.cell? ⟨wr.heap.size,2,none⟩=some (.string d.1.y):=by simp[World.cell?,eV]
     have p3:V1.cell? ⟨wr.heap.size,3,none⟩=some (.int .i64 d.2):=by simp[World.cell?,eV]
     obtain⟨pn,_,_,_,_⟩:=hcV.out V1 hbV
     have hoV:V1.ownsRow W3.heap.size 172 4 (.slice qa F.length qc) F.length (F.flatMap qo):=by
      rw[<- hV1];have:=World.ownsRow.alloc HO.out (.cells #[.string d.1.rel,.string d.1.x,.string d.1.y,.int .i64 d.2] 161);exact⟨this.1,this.2⟩
     have Qf4:W3.heap.size<=V1.heap.size:=hbV.size;have qhq:F.length+1<=maxLen:=by unfold maxLen;omega
     have qdz:(F.length+1)*56<=140737488355328:=by omega
     have hgr:Hid (∀O w1,(V1.alloc O).grownBy w1 (Value.slice qa F.length qc).ownBlock->Below W3.heap.size W3 w1):=λO w1 hg=>(hbV.alloc Qf4 O).grown hg (by simp;omega) (λj e=>(qe hoV e).1);clear eV;go_wp2_with fail
     go_region_law (first | (refine qbw rfl (.tmp 36) (.tmp 44) 169 rfl W3.heap.size 172 i0 (.agg #[.string ⟨#[]⟩,.string ⟨#[]⟩,.string ⟨#[]⟩,.int .i64 0]) 4 56 Tryz.underlying169 hi hz0 hz1 hz2 rfl (by decide) (.slice qa F.length qc) F.length (F.flatMap qo) (by simp[Act.eval,Act.put]) (World.ownsRow.alloc hoV _) ⟨V1.heap.size,0,none⟩ 1 1 [.string d.1.rel,.string d.1.x,.string d.1.y,.int .i64 (d.2+e.win)] (by simp[Act.eval,Act.put]) rfl (qbz _ _ _ _ _ _) (by simp[Value.oneCell']) qhq qdz (by simp;omega) ?_;intro v' w1 hown1 hgrow1;obtain⟨g',cap',hv'⟩:=ownsRow_succ hown1;subst hv') | (go_simp;go_wp2_with (go_at_call 87;refine (qg7.out V1 hbV d.2 HD.out).mono ?_;rintro e' w' ⟨rfl,hw'⟩;subst hw')))
     all_goals (
      go_wp2;refine⟨⟨k+1,some ⟨g',0,none⟩,cap',?_,by go_num,by omega,?_,hgr.out _ w1 hgrow1⟩,by simp[intOf];omega⟩
      ·rw[Q5.out,List.length_append];rfl
      ·rw[Q5.out,List.length_append,List.flatMap_append]
       exact hown1)
    ·rw[if_neg hdm,List.append_nil] at Q5;go_wp2
     go_roundw
     case rel=>
      refine⟨k+1,qa,qc,?_,by go_num,by omega,?_,HB.out.alloc q3x _⟩
      ·rw[Q5.out]
      ·rw[Q5.out];exact World.ownsRow.alloc HO.out _
     case measure=>simp[intOf];omega
   ·have hkk:k=kl:=by omega
    subst hkk;have hLL:Hid (qgm e.win m (l.take k)=qgm e.win m l):=by show _=_;rw[List.take_of_length_le (by rw[HKL.out];exact Nat.le_refl _)]
    rw[hLL.out] at qr ⊢;obtain⟨n0,n1,n7,n00,y7⟩:=hcV.out wr hb;have hbD:Below W3.heap.size W3 wr.drew:=hb.drew
    have q3e:Hid (Calls Tryz.prog 75 #[.slice ra e.rs.length rc,.slice qa (qgm e.win m l).length qc] wr.drew λe' w'=>∃B M',e'=.returned (.map (some B))/\qda w' B 5000 M'/\qbf e.rs (qgm e.win m l++Qk e.rs) M'/\Below wr.drew.heap.size wr.drew w'):=by
     have hF:q5t e.rs e.names (qgm e.win m l):=by
      have:=qos HOK.out m;unfold qho at this;rw[HL.out] at this;exact this
     refine (qrw (arR e.rs) e.rs (qgm e.win m l) (uni (qc9 e.rs) e.names) _ _ rb b45 b87 W3.heap.size wr.drew (q8g HOK.out.rs HOK.out.n8 HOK.out.nsz HOK.out.nrs hF) (hEV.out.below hbD).rules ⟨qr.1,qr.2⟩).mono ?_;rintro e' w' ⟨B,M',h1,h2,h3,_,h4⟩;exact⟨B,M',h1,MdL.at' h2,h3,h4⟩
    have hst:Hid (∀W4 B M',Below wr.drew.heap.size wr.drew W4->qda W4 B 5000 M'->W4.cell? ⟨N,0,none⟩=some (.pointer (some ⟨be,0,none⟩))/\W4.cell? ⟨be,7,none⟩=some (.map (some bm))/\W4.frozen? ⟨be,7,none⟩=false/\MvI w S be N bm B e l M' (.slice ra e.rs.length rc) vn (.slice oa k oc) (.slice fa bfs.length fc) rb b45 b87 bfs m 0 (W4.setCell ⟨be,7,none⟩ (.map (some B)))):=λW4 B M' h1 h2=>q4i hEV.out Qef.out HCH.out HEN.out (hbD.trans (h1.mono hbD.size)) h2;clear qr hb;go_wp2_with fail;refine wp_mono (Q:=λen a' W5=>match en with | Exit.normal=>∃(B:Nat),Hid (∃M',qbf e.rs (qgm e.win m l++Qk e.rs) M'/\MvI w S be N bm B e l M' (.slice ra e.rs.length rc) vn (.slice oa k oc) (.slice fa bfs.length fc) rb b45 b87 bfs m 0 W5)/\a'={tmps:=List.toArray (.pointer (some ⟨be,0,none⟩)::.int .i64 m::.pointer (some ⟨N,0,none⟩)::undef::.slice qa (qgm e.win m l).length qc::undef::u6::.map (some bm)::undef::undef::.pointer (some ⟨be,0,none⟩)::.int .i64 m::.pointer (some ⟨be,0,none⟩)::.pointer (some ⟨be,4,none⟩)::.pointer (some ⟨be,0,none⟩)::.pointer (some ⟨be,0,none⟩)::.pointer (some ⟨be,0,none⟩)::.pointer (some ⟨be,6,none⟩)::.slice ka e.kept.length kc::.func (.func 86) #[] #[.pointer (some ⟨N,0,none⟩)]::.slice oa k oc::.pointer (some ⟨be,0,none⟩)::.pointer (some ⟨be,6,none⟩)::.pointer (some ⟨be,0,none⟩)::.pointer (some ⟨be,0,none⟩)::.pointer (some ⟨be,6,none⟩)::.slice oa k oc::.int .i64 k::.int .i64 k::.bool false::u30::u31::u32::u33::u34::u35::u36::u37::u38::u39::u40::u41::u42::u43::u44::u45::u46::.pointer (some ⟨be,0,none⟩)::.pointer (some ⟨be,0,none⟩)::.pointer (some ⟨be,7,none⟩)::.map (some bm)::.pointer (some ⟨be,0,none⟩)::.pointer (some ⟨be,0,none⟩)::.pointer (some ⟨be,0,none⟩)::.pointer (some ⟨be,0,none⟩)::.slice ra e.rs.length rc::.slice qa (qgm e.win m l).length qc::.map (some B)::.pointer (some ⟨be,0,none⟩)::.pointer (some ⟨be,7,none⟩)::undef::undef::undef::undef::undef::undef::undef::undef::undef::undef::undef::undef::undef::undef::undef::undef::undef::undef::undef::undef::undef::undef::[]),defers:=[]} | _=>False) ?reg2 ?rest2
    case reg2=>
     first | (go_region_with (go_at_call 75;refine Calls.mono q3e.out ?_;rintro e' W4 ⟨B,M',rfl,hmd,hlm,hb4⟩;obtain⟨m0,m7,ym7,hmv⟩:=hst.out W4 B M' hb4 hmd)) | fail
     all_goals exact⟨B,⟨M',hlm,hmv⟩,rfl⟩
    case rest2=>
     rintro (_ | _ | _ | _ | _ | _) a' W5 hq
     all_goals first | exact hq.elim | skip
     obtain⟨B,⟨M',hlm,hmv⟩,rfl⟩:=hq;have HLM:Hid _:=hlm;have HMV:Hid (MvI w S be N bm B e l M' (.slice ra e.rs.length rc) vn (.slice oa k oc) (.slice fa bfs.length fc) rb b45 b87 bfs m 0 W5):=hmv;have o1:=hmv.blk.1;have o2:=hmv.box;have o0:W5.cell? ⟨N,0,none⟩=some (.pointer (some ⟨be,0,none⟩)):=by simp[World.cell?,o2]
     have o8:W5.cell? ⟨be,8,none⟩=some (.slice fa bfs.length fc):=by simp[World.cell?,o1]
     have hfe:Hid (qho e m=qgm e.win m l):=by
      show _=_;unfold qho;rw[HL.out];rfl
     have Qen:Hid (∀g,(M' g).isSome=true->qdy (arR e.rs) g/\g∈uni (qc9 e.rs) e.names):=by
      have h1:=qos HOK.out m;rw[hfe.out] at h1;exact qpg HOK.out.rs HOK.out.nrs h1 HLM.out
     have qf5:bfs.length<=3:=by
      have h1:=hEV.out.len;have h2:=HOK.out.f3;rw[show ({e with mark:=m,kept:=l}:Eg).fds.length=e.fds.length from rfl] at h1;omega
     clear o1 o2 hmv hlm n0 n1 n7 n00 y7 q3e hst a3 k6;go_wp2_with fail
     go_loopw [65] (λvi wr=>∃j:Nat,vi=.int .i64 j/\j<=bfs.length/\Hid (MvI w S be N bm B e l M' (.slice ra e.rs.length rc) vn (.slice oa k oc) (.slice fa bfs.length fc) rb b45 b87 bfs m j wr)) (λvi _=>bfs.length - (intOf vi).toNat)
     case atStart=>exact⟨0,rfl,Nat.zero_le _,HMV⟩
     case round=>
      obtain⟨j,rfl,hj,hmv⟩:=hrel;by_cases hjl:j < bfs.length
      ·have i1:(j:Int) < (bfs.length:Int):=by omega
       have o1:=hmv.out.blk.1;have o2:=hmv.out.box;obtain⟨g,c,e0,xj,hg⟩:=q4v hmv.out.blk.2 hjl;cases e0;have o0:wr.cell? ⟨N,0,none⟩=some (.pointer (some ⟨be,0,none⟩)):=by simp[World.cell?,o2]
       have o3:wr.cell? ⟨be,3,none⟩=some (.int .i64 e.que):=by simp[World.cell?,o1]
       have o7:wr.cell? ⟨be,7,none⟩=some (.map (some B)):=by simp[World.cell?,o1]
       have qa1:Hid _:=HMX.out _ _ _ _ _ _ _ _ _ _ _ _ _ _ _ _ _ _ _ hmv.out.drew hjl Qen.out;clear o1 o2;generalize bfs[j]=bj at *;go_wp2_with fail
       first | (go_region_with (go_at_call 88;refine Calls.mono qa1.out ?_;rintro e' W6 ⟨rfl,hmv6⟩;have HM6:Hid _:=hmv6;clear hmv6)) | fail
       all_goals (
        go_wp2
        refine⟨⟨j+1,by go_num,by omega,HM6.out⟩,by simp[intOf];omega⟩)
      ·have hjj:j=bfs.length:=by omega
       subst hjj;have HD:=hmv.out.done HL.out (by rw[hfe.out];exact HLM.out);have HDD:Hid _:=HD;clear HD;go_wp2
       go_end0
       exact⟨rfl,HDD.out⟩
def q19(S:Nat->Prop)(be:Nat)(e:Eg)(c:Int)(w:Wq)(en:Ending)(w':Wq):Prop:=
 ∃e' r,qq4 e c e' r/\en=.returned (.tuple #[.int .i64 r.1,.int .i64 r.2])/\Qs S be e' w w'
theorem q1n(S:Nat->Prop)(be:Nat)(e:Eg)(c:Int)(w:Wq)(h:qb1 w S be e)(hok:qci e)(hmx:q16 e) :
  Calls Tryz.prog 22 #[.pointer (some ⟨be,0,none⟩),.int .i64 c] w (q19 S be e c w):=by
 have HE:Hid (qb1 w S be e):=h
 have hwi:Hid (∀W,Calls Tryz.prog 43 #[.int .i64 c,.int .i64 0,.int .i64 1000000] W λe' w'=>e'=.returned (.bool (decide (0<=c) && decide (c<=1000000)))/\W=w'):=λW=>by
  refine (qe6 c 0 1000000 W).mono ?_;rintro e' w' ⟨h1,h2⟩;exact⟨h1,h2.symm⟩
 by_cases hc:0<=c/\c<=1000000
 ·have hwt:(decide (0<=c) && decide (c<=1000000))=true:=by simp[hc.1,hc.2]
  rw[hwt] at hwi;obtain⟨vr,vn,vk,vf,bm,rb,b45,b87,bfs,Sf,hv⟩:=h;have hb:=hv.blk;have c2:w.cell? ⟨be,2,none⟩=some (.int .i64 e.lat):=by simp[World.cell?,hb]
  have c4:w.cell? ⟨be,4,none⟩=some (.int .i64 e.mark):=by simp[World.cell?,hb]
  have hl:=hok.lat;have hwr:IntKind.i64.wrap (c - e.lat)=c - e.lat:=qh0 _ (by omega) (by omega);have hmk:=hok.mark;have HC:Hid (0<=c/\c<=1000000):=hc;by_cases hgo:e.mark < c - e.lat
  ·have hmv:Hid (Calls Tryz.prog 46 #[.pointer (some ⟨be,0,none⟩),.int .i64 (c - e.lat)] w λen w'=>en=.returned (.tuple #[])/\∃e',Hid (qtt e (c - e.lat) e')/\Hid (Qs S be e' w w')/\w'.cell? ⟨be,4,none⟩=some (.int .i64 (c - e.lat))):=by
    refine (q0q S be e (c - e.lat) w HE.out hok ⟨by omega,by omega⟩ hmx).mono ?_;rintro en w' ⟨h1,e',h2,h3⟩;have h3':=h3;obtain⟨S',⟨vr',vn',vk',vf',bm',rb',b45',b87',bfs',Sf',hv'⟩,_⟩:=h3;have hm:e'.mark=c - e.lat:=by obtain⟨M',fds',_,_,_,rfl⟩:=h2;rfl
    have hb':=hv'.blk;exact⟨h1,e',h2,h3',by rw[<- hm];simp[World.cell?,hb']⟩
   have HG:Hid (e.mark < c - e.lat):=hgo;clear hv hb hc hwt hok hl hmk hmx;go_enter Tryz.func22,Tryz.ntmps22
   go_wp2_with (first | (go_at_call 43;refine (hwi.out _).mono ?_;rintro e' w' ⟨rfl,hw'⟩;subst hw') | (go_at_call 46;refine Calls.mono hmv.out ?_;rintro e' W1 ⟨rfl,e1,hm1,hp1,d4⟩))
   go_ret2;have hm:e1.mark=c - e.lat:=by obtain⟨M',fds',_,_,_,rfl⟩:=hm1.out;rfl
   exact⟨e1,(c - e.lat,0),.inr ⟨HC.out,by rw[hm],.inr ⟨HG.out,hm1.out⟩⟩,rfl,hp1.out⟩
  ·have HG:Hid (c - e.lat<=e.mark):=by show _<=_;omega
   clear hv hb hc hwt hok hl hmk hmx;go_enter Tryz.func22,Tryz.ntmps22
   go_wp2_with (go_at_call 43;refine (hwi.out _).mono ?_;rintro e' w' ⟨rfl,hw'⟩;subst hw')
   go_ret2;exact⟨e,(e.mark,0),.inr ⟨HC.out,rfl,.inl ⟨HG.out,rfl⟩⟩,rfl,Qs.same HE.out (Below.refl _ _)⟩
 ·have hwt:(decide (0<=c) && decide (c<=1000000))=false:=by
   rw[Bool.and_eq_false_iff];simp only[decide_eq_false_iff_not];omega
  rw[hwt] at hwi;have HC:Hid (¬(0<=c/\c<=1000000)):=hc;clear hc hwt h hok hmx;go_enter Tryz.func22,Tryz.ntmps22
  go_wp2_with (go_at_call 43;refine (hwi.out _).mono ?_;rintro e' w' ⟨rfl,hw'⟩;subst hw')
  go_ret2;exact⟨e,(0,6),.inl ⟨HC.out,rfl,rfl⟩,rfl,Qs.same HE.out (Below.refl _ _)⟩
