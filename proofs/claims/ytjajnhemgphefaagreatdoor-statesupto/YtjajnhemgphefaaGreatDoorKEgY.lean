/- A part -/
import Derived.Test.YtjajnhemgphefaaGreatDoorKEgV
set_option linter.all false
set_option maxRecDepth 100000
set_option maxHeartbeats 4000000
namespace Go.Proofs.YtjajnhemgphefaaGreatDoor
open Go renaming World->Wq,Value->Vq
open Go.RowKit Go.Shelf Go.Maps
variable {V:Wq} {S:Nat->Prop} {be N bm B rb ab ac k:Nat} {e:Eg} {l:List (Gd×Int)} {M':Gd->Option Int} {vr vn vk vf:Vq} {aa:List Nat} {m:Int} {Sf:Nat->Nat->Prop}
structure MvI(w:Wq)(S:Nat->Prop)(be N bm B:Nat)(e:Eg)(l:List (Gd×Int))(M':Gd->Option Int)(vr vn vk vf:Vq)(rb ab ac:Nat)(aa:List Nat)(m:Int)(k:Nat)(V:Wq):Prop where
 ex:∃(Sk:Nat->Prop) (Sfk:Nat->Nat->Prop) (L:List Fs),qe5 V Sk be {e with mark:=m,kept:=l,M:=M',fds:=L} vr vn vk vf B rb ab ac aa Sfk/\L.length=e.fds.length/\(∀i (h:i < e.fds.length) (h':i < L.length),i < k->q84 e.M M' m e.que e.fds[i] L[i])/\(∀i (h:i < e.fds.length) (h':i < L.length),k<=i->L[i]=e.fds[i])/\∀j,Sk j->S j\/w.heap.size<=j
 chg:Chg w V S
 md:qd4 V bm 5000 e.M
 box:V.heap[N]?=cC #[.pointer (some ⟨be,0,none⟩)] 40
theorem MvI.blk{w:Wq}(h:MvI w S be N bm B e l M' vr vn vk vf rb ab ac aa m k V) :
  V.heap[be]?=cC #[vr,.int .i64 e.win,.int .i64 e.lat,.int .i64 e.que,.int .i64 m,vn,vk,.map (some B),vf] 101/\V.ownsRow 0 120 1 vf aa.length (aa.map q1x):=by
 obtain⟨⟨Sk,Sfk,L,hv,_⟩,_⟩:=h;exact⟨hv.blk,hv.frow⟩
theorem MvI.drew{w:Wq}(h:MvI w S be N bm B e l M' vr vn vk vf rb ab ac aa m k V):MvI w S be N bm B e l M' vr vn vk vf rb ab ac aa m k V.drew:=by
 obtain⟨⟨Sk,Sfk,L,hv,h1,h2,h3,h4⟩,h5,h6,h7⟩:=h;exact⟨⟨Sk,Sfk,L,hv.below (Below.refl _ V).drew,h1,h2,h3,h4⟩,h5.drew,h6.below (Below.refl _ V).drew,h7⟩
theorem q5k{w W3 W4:Wq}{S S2:Nat->Prop}{N bm B:Nat}{l:List (Gd×Int)}{M':Gd->Option Int}{vr vn vk vf:Vq}{rb ab ac:Nat}{aa:List Nat}{Sf:Nat->Nat->Prop}{m:Int}(hv:qe5 W3 S2 be {e with mark:=m,kept:=l} vr vn vk vf bm rb ab ac aa Sf)(an:∀k,S2 k->S k)(ai:Chg w W3 S)(bq:W3.heap[N]?=cC #[.pointer (some ⟨be,0,none⟩)] 40)(hb:Below W3.heap.size W3 W4)(hm:qd4 W4 B 5000 M') :
  W4.cell? (Ad N 0)=some (.pointer (some ⟨be,0,none⟩))/\W4.cell? (Ad be 7)=some (.map (some bm))/\W4.frozen? (Ad be 7)=false/\MvI w S be N bm B e l M' vr vn vk vf rb ab ac aa m 0 (W4.setCell (Ad be 7) (.map (some B))):=by
 have h4:=hv.below hb;have bb:=(hb.block N (zg bq).1).trans bq;have bh:=h4.blk;have az:N≠be:=λe=>by rw[e,h4.blk] at bb;cases bb
 have hc:Chg W4 (W4.setCell (Ad be 7) (.map (some B))) (λk=>k=be\/vk.ownBlock=some k):=(Chg.refl W4 _).setCell (Ad be 7) _ (λ_=>.inl rfl);have au:∀(k:Nat) (o:Obj),W4.heap[k]?=some o->k≠be->(W4.setCell (Ad be 7) (.map (some B))).heap[k]?=some o:=λk o hk az=>(Below.heap_setCell _ _ _ _ (by show k≠be;exact az)).trans hk;have cd:∀j es c,W4.heap[j]?=some (Obj.map es c)->(W4.setCell (Ad be 7) (.map (some B))).heap[j]?=some (Obj.map es c):=λj es c hj=>au j _ hj (λe=>by rw[e,h4.blk] at hj;cases hj)
 have bo:=h4.put (W':=W4.setCell (Ad be 7) (.map (some B))) (e':={e with mark:=m,kept:=l,M:=M'}) (vn':=vn) (vk':=vk) (bm':=B) hc rfl rfl (Qd h4.blk 7 (.map (some B)))
  (Qg h4.names ⟨be,7,none⟩ _ (Qf h4.names h4.blk (by decide))) (Qg h4.kept ⟨be,7,none⟩ _ (Qf h4.kept h4.blk (by decide))) (hm.kept cd)
 have Qga:Chg w W4 S:=⟨hb.os.trans ai.os,hb.tape.trans ai.tape,hb.output.trans ai.output,Nat.le_trans ai.size hb.size,λj hj hs=>(hb.block j (Nat.lt_of_lt_of_le hj ai.size)).trans (ai.block j hj hs)⟩;refine⟨zc bb,zc bh,by simp[World.frozen?,bh],⟨_,Sf,e.fds,bo,rfl,λi _ _ hi=>by omega,λi _ _ _=>rfl,λj hj=>?_⟩,Qga.setCell (Ad be 7) _ (λ_=>an _ hv.own.1),h4.md.kept cd,au N _ bb az⟩;rcases hj with⟨h1,_⟩ | h1 | h1
 .exact .inl (an j h1)
 .exact .inl (an j (hv.own.2.1 j h1))
 .exact .inl (an j (hv.own.2.2.2 j h1))
theorem MvI.done{w:Wq}(h:MvI w S be N bm B e l M' vr vn vk vf rb ab ac aa m aa.length V)(hl:e.kept.filter (λd=>!qax e.win m d.2)=l)(hM:qcv e.rs (qhy e m++Qo e.rs) M') :
  ∃e',quf e m e'/\Q0 S be e' w V:=by
 obtain⟨⟨Sk,Sfk,L,hv,hL,hd,hr,hs⟩,hc,ch,bq⟩:=h;have dp:aa.length=L.length:=hv.len;refine⟨{e with mark:=m,kept:=l,M:=M',fds:=L},⟨M',L,hM,hL,λi h1 h2=>hd i h1 h2 (by omega),by rw[hl]⟩,Sk,⟨_,_,_,_,_,_,_,_,_,_,hv⟩,hs,hc⟩
def q21(e:Eg):Prop:=∀(w V:Wq) (S:Nat->Prop) (be N bm B:Nat) (l:List (Gd×Int)) (M':Gd->Option Int) (vr vn vk vf:Vq) (rb ab ac:Nat) (aa:List Nat) (m:Int) (k:Nat) (_:MvI w S be N bm B e l M' vr vn vk vf rb ab ac aa m k V) (hk:k < aa.length) (_:∀g,(M' g).isSome=true->qc6 (arR e.rs) g/\g∈uni (qcz e.rs) e.names),
  Cs 88 #[.pointer (some ⟨aa[k],0,none⟩),.map (some bm),.map (some B),.int .i64 m,.int .i64 e.que] V λen w'=>en=.returned (.tuple #[])/\MvI w S be N bm B e l M' vr vn vk vf rb ab ac aa m (k+1) w'
theorem Qb2(h0:e.fds=[]):q21 e:=λ_ _ _ _ _ _ _ _ _ _ _ _ _ _ _ _ aa _ k h hk hM=>by
 obtain⟨⟨Sk,Sfk,L,hv,h1,_⟩,_⟩:=h;have h2:aa.length=L.length:=hv.len;rw[h0] at h1;simp at h1;rw[h1] at h2;simp at h2;rw[h2] at hk;simp at hk
def qgt(win m:Int)(l:List (Gd×Int)):List (Gd×Int):=(l.filter (λd=>decide (d.2<=m))).map (λd=>(d.1,d.2+win))
theorem q0n(win m:Int){l:List (Gd×Int)}{k:Nat}(h:k < l.length):qgt win m (l.take (k+1))=qgt win m (l.take k)++(if (l[k]).2<=m then [((l[k]).1,(l[k]).2+win)] else []):=by
 unfold qgt;rw[List.take_succ_eq_append_getElem h,List.filter_append,List.map_append];congr 1;by_cases hb:(l[k]).2<=m
 .rw[if_pos hb];simp[hb]
 .rw[if_neg hb];simp[hb]
theorem q3f(win m:Int)(l:List (Gd×Int)):(qgt win m l).length<=l.length:=by unfold qgt;rw[List.length_map];exact List.length_filter_le _ _
theorem Qbx:(Tryz.prog.info? 172).map (λi=>(i.zero,i.size,i.bytes))=some (some (.agg #[.string ⟨#[]⟩,.string ⟨#[]⟩,.string ⟨#[]⟩,.int .i64 0]),4,56):=by kernel_rfl
theorem qxg(v:Vq)(l:List (Gd×Int))(Bx be:Nat)(win mark:Int)(w:Wq)(hS:w.ownsRow 0 161 4 v l.length (l.flatMap qr))(hl:l.length<=1000)(ad:∀d∈l,0<=d.2/\d.2<=1000000)(hw:0<=win/\win<=1000)(hx:w.heap[Bx]?=cC #[.pointer (some ⟨be,0,none⟩)] 40)(cs:Array Vq)(hb:w.heap[be]?=cC cs 101)(h1:cs[1]?=some (.int .i64 win))(h4:cs[4]?=some (.int .i64 mark)) :
  Cs 85 #[v,.func (.func 86) #[] #[.pointer (some ⟨Bx,0,none⟩)]] w λe w'=>∃(oa:Option Addr) (oc:Nat),e=.returned (.slice oa (l.filter (λd=>!qax win mark d.2)).length oc)/\w'.ownsRow 0 161 4 (.slice oa (l.filter (λd=>!qax win mark d.2)).length oc) (l.filter (λd=>!qax win mark d.2)).length ((l.filter (λd=>!qax win mark d.2)).flatMap qr)/\(Value.slice oa (l.filter (λd=>!qax win mark d.2)).length oc).ownBlock=v.ownBlock/\Chg w w' (λk=>v.ownBlock=some k):=by
 obtain⟨h0,⟨hv,hn⟩ | ⟨g,cap,du,hv,dt,hh,k1,k2,k3,k4⟩⟩:=hS
 .subst hv;have hz:l=[]:=List.eq_nil_of_length_eq_zero hn;subst hz;refine (quw _ w).mono ?_;rintro e w' ⟨rfl,b4⟩;exact⟨none,0,rfl,⟨rfl,.inl ⟨rfl,rfl⟩⟩,rfl,Chg.ofBelow _ b4⟩
 .have hS:w.ownsRow 0 161 4 v l.length (l.flatMap qr):=⟨h0,.inr ⟨g,cap,du,hv,dt,hh,k1,k2,k3,k4⟩⟩;have dd:Bx≠g:=λe=>by rw[e,hh] at hx;cases hx
  have df:be≠g:=λe=>by rw[e,hh] at hb;cases hb
  refine (quv v l 0 g cap Bx (λd=>qax win mark d.2) (λd=>0<=d.2/\d.2<=1000000) w hv hS hl ad (λW hW d hd=>?_)).mono ?_
  .have cx:=(zg hx).1;have b4:=(zg hb).1;have x1:=(hW.block Bx cx dd).trans hx;have x2:=(hW.block be b4 df).trans hb;refine q1k be Bx d win mark W (by simp[World.cell?,x1]) (by have:=hW.size;omega) (by have:=hW.size;omega) ?_ ?_ hd hw
   .simp only[World.cell?,x2];simpa using h1
   .simp only[World.cell?,x2];simpa using h4
  .rintro e w' ⟨rfl,ho,hc⟩;subst hv;exact⟨_,_,rfl,ho,rfl,hc.mono (λk _ hk=>by rw[hk];rfl)⟩
theorem Qb1{w W2:Wq}{v':Vq}(hv:qe5 w S be e vr vn vk vf bm rb ab ac aa Sf)(hN:w.heap.size=N){m:Int}{l:List (Gd×Int)}(hc:Chg ((w.alloc (.cells #[.pointer (some ⟨be,0,none⟩)] 40)).setCell (Ad be 4) (.int .i64 m)) W2 (λk=>vk.ownBlock=some k))(ho:W2.ownsRow 0 161 4 v' l.length (l.flatMap qr))(av:v'.ownBlock=vk.ownBlock) :
  W2.cell? (Ad N 0)=some (.pointer (some ⟨be,0,none⟩))/\W2.cell? (Ad be 6)=some vk/\W2.frozen? (Ad be 6)=false/\∃S2:Nat->Prop,qe5 (W2.setCell (Ad be 6) v') S2 be {e with mark:=m,kept:=l} vr vn v' vf bm rb ab ac aa Sf/\(∀k,S2 k->S k)/\Chg w (W2.setCell (Ad be 6) v') S/\(W2.setCell (Ad be 6) v').heap[N]?=cC #[.pointer (some ⟨be,0,none⟩)] 40:=by
 have ag:Below w.heap.size w (w.alloc (.cells #[.pointer (some ⟨be,0,none⟩)] 40)):=(Below.refl _ w).alloc zl _;have h0:=hv.below ag;have ca:=(zg hv.blk).1;obtain⟨W0,aj⟩:∃W0,w.alloc (.cells #[.pointer (some ⟨be,0,none⟩)] 40)=W0:=⟨_,rfl⟩;have eN:W0.heap[N]?=cC #[.pointer (some ⟨be,0,none⟩)] 40:=by rw[<- aj,<- hN];exact zn w _
 have dy:W0.heap.size=N+1:=by rw[<- aj,<- hN];simp
 rw[aj] at hc h0 ag
 have bh:vk.ownBlock≠some be:=λhs=>by
  obtain⟨_,c,ah⟩:=qe h0.kept hs;rw[h0.blk] at ah;cases ah
 have dk:vk.ownBlock≠some N:=λhs=>by
  obtain⟨_,c,ah⟩:=qe h0.kept hs;rw[eN] at ah;cases ah
 have b1:W2.heap[be]?=cC #[vr,.int .i64 e.win,.int .i64 e.lat,.int .i64 e.que,.int .i64 m,vn,vk,.map (some bm),vf] 101:=
  (hc.block be (by simp;omega) bh).trans (Qd h0.blk 4 (.int .i64 m))
 have cj:Chg W0 W2 (λk=>k=be\/vk.ownBlock=some k):=by
  have h1:Chg W0 (W0.setCell (Ad be 4) (.int .i64 m)) (λk=>k=be\/vk.ownBlock=some k):=(Chg.refl W0 _).setCell (Ad be 4) _ (λ_=>.inl rfl);exact h1.trans (hc.mono (λk _ hk=>.inr hk))
 have al:Chg W0 (W2.setCell (Ad be 6) v') (λk=>k=be\/vk.ownBlock=some k):=cj.setCell (Ad be 6) v' (λ_=>.inl rfl)
 have au:∀(k:Nat) (o:Obj),W0.heap[k]?=some o->(∀c,o≠Obj.cells c 101)->(∀c,o≠Obj.cells c 161)->(W2.setCell (Ad be 6) v').heap[k]?=some o:=by
  intro j o hj h1 h2;refine (al.block j (zg hj).1 ?_).trans hj;rintro (rfl | hs)
  .rw[h0.blk] at hj;cases hj;exact h1 _ rfl
  .obtain⟨_,c',ah⟩:=qe h0.kept hs;rw[hj] at ah;cases ah;exact h2 _ rfl
 have bo:=h0.put (W':=W2.setCell (Ad be 6) v') (e':={e with mark:=m,kept:=l}) (vn':=vn) (vk':=v') (bm':=bm) al rfl rfl (Qd b1 6 v')
  (q8 h0.names (λg c _ ah=>au g _ ah (by intro c' e;cases e) (by intro c' e;cases e)))
  (Qg ho ⟨be,6,none⟩ v' (Qf ho b1 (by decide)))
  (h0.md.kept (λj es c hm=>au j _ hm (by intro c' e;cases e) (by intro c' e;cases e)))
 have bN:W2.heap[N]?=cC #[.pointer (some ⟨be,0,none⟩)] 40:=(cj.block N (by omega) (λe=>e.elim (λe=>by rw[hN] at ca;omega) dk)).trans eN;refine⟨zc bN,zc b1,by simp[World.frozen?,b1],_,bo,λk hk=>?_,?_,au N _ eN (by intro c' e;cases e) (by intro c' e;cases e)⟩
 .rcases hk with⟨h1,_⟩ | h1 | h1
  .exact h1
  .exact hv.own.2.1 k (av.symm.trans h1)
  .exact hv.own.2.2.2 k h1
 .refine⟨al.os.trans ag.os,al.tape.trans ag.tape,al.output.trans ag.output,Nat.le_trans ag.size al.size,λk hk hs=>(al.block k (Nat.lt_of_lt_of_le hk ag.size) (λe=>hs ?_)).trans (ag.block k hk)⟩;rcases e with rfl | e
  .exact hv.own.1
  .exact hv.own.2.1 k e
theorem q1l(S:Nat->Prop)(be:Nat)(e:Eg)(m:Int)(w:Wq)(h:qb4 w S be e)(ad:qde e)(hm:0<=m/\m<=1000000)(ao:q21 e) :
  Cs 46 #[.pointer (some ⟨be,0,none⟩),.int .i64 m] w λen w'=>en=.returned (.tuple #[])/\∃e',quf e m e'/\Q0 S be e' w w':=by
 have db:Hid (q21 e):=ao;clear ao;obtain⟨vr,vn,vk,vf,bm,rb,ab,ac,aa,Sf,hv⟩:=h;obtain⟨N,hN⟩:∃N,w.heap.size=N:=⟨_,rfl⟩;have ca:=hv.lt;obtain⟨ka,kc,cq⟩:=qo hv.kept;subst cq;obtain⟨fa,fc,dq⟩:=qo hv.frow;subst dq;obtain⟨ra,rc,cw⟩:=hv.rules.form;subst cw;have hV:Hid (qe5 w S be e (.slice ra e.rs.length rc) vn (.slice ka e.kept.length kc) (.slice fa aa.length fc) bm rb ab ac aa Sf):=hv;have af:Hid (qde e):=ad;have HN:Hid (w.heap.size=N):=hN;obtain⟨W0,aj⟩:∃W0,w.alloc (.cells #[.pointer (some ⟨be,0,none⟩)] 40)=W0:=⟨_,rfl⟩;have ag:Below w.heap.size w W0:=by rw[<- aj];exact (Below.refl _ w).alloc zl _
 have h0:=hv.below ag;have eN:W0.heap[N]?=cC #[.pointer (some ⟨be,0,none⟩)] 40:=by rw[<- aj,<- hN];exact zn w _
 have az:N≠be:=by omega
 have c4:W0.cell? (Ad be 4)=some (.int .i64 e.mark):=by have:=h0.blk;simp[World.cell?,this]
 have y4:W0.frozen? (Ad be 4)=false:=by have:=h0.blk;simp[World.frozen?,this]
 have a0:W0.cell? (Ad N 0)=some (.pointer (some ⟨be,0,none⟩)):=zc eN
 obtain⟨W1,aw⟩:∃W1,W0.setCell (Ad be 4) (.int .i64 m)=W1:=⟨_,rfl⟩;have e1:W1.heap[be]?=cC #[.slice ra e.rs.length rc,.int .i64 e.win,.int .i64 e.lat,.int .i64 e.que,.int .i64 m,vn,.slice ka e.kept.length kc,.map (some bm),.slice fa aa.length fc] 101:=by rw[<- aw];exact Qd h0.blk 4 (.int .i64 m)
 have bv:W1.heap[N]?=cC #[.pointer (some ⟨be,0,none⟩)] 40:=by rw[<- aw];exact (Below.heap_setCell _ _ _ _ (by show N≠be;exact az)).trans eN
 have c6:W1.cell? (Ad be 6)=some (.slice ka e.kept.length kc):=zc e1
 have a1:W1.cell? (Ad N 0)=some (.pointer (some ⟨be,0,none⟩)):=zc bv
 have ci:W1.ownsRow 0 161 4 (.slice ka e.kept.length kc) e.kept.length (e.kept.flatMap qr):=by rw[<- aw];exact Qg h0.kept ⟨be,4,none⟩ _ (Qf h0.kept h0.blk (by decide))
 have Qax:Hid (Cs 85 #[.slice ka e.kept.length kc,.func (.func 86) #[] #[.pointer (some ⟨N,0,none⟩)]] W1.drew λe' w'=>∃(oa:Option Addr) (oc:Nat),e'=.returned (.slice oa (e.kept.filter (λd=>!qax e.win m d.2)).length oc)/\w'.ownsRow 0 161 4 (.slice oa (e.kept.filter (λd=>!qax e.win m d.2)).length oc) (e.kept.filter (λd=>!qax e.win m d.2)).length ((e.kept.filter (λd=>!qax e.win m d.2)).flatMap qr)/\(Value.slice oa (e.kept.filter (λd=>!qax e.win m d.2)).length oc).ownBlock=(Value.slice ka e.kept.length kc).ownBlock/\Chg W1.drew w' (λk=>(Value.slice ka e.kept.length kc).ownBlock=some k)):=
  qxg (.slice ka e.kept.length kc) e.kept N be e.win m W1.drew ci (by have:=ad.k24;omega) (λd hd=>(ad.kept d hd).2.2) ⟨by have:=ad.win;omega,ad.win.2⟩ bv _ e1 rfl rfl
 have bn:Hid (∀W2 (oa:Option Addr) (oc:Nat),Chg W1.drew W2 (λk=>(Value.slice ka e.kept.length kc).ownBlock=some k)->W2.ownsRow 0 161 4 (.slice oa (e.kept.filter (λd=>!qax e.win m d.2)).length oc) (e.kept.filter (λd=>!qax e.win m d.2)).length ((e.kept.filter (λd=>!qax e.win m d.2)).flatMap qr)->(Value.slice oa (e.kept.filter (λd=>!qax e.win m d.2)).length oc).ownBlock=(Value.slice ka e.kept.length kc).ownBlock->W2.cell? (Ad N 0)=some (.pointer (some ⟨be,0,none⟩))/\W2.cell? (Ad be 6)=some (.slice ka e.kept.length kc)/\W2.frozen? (Ad be 6)=false/\Hid (∃S2:Nat->Prop,qe5 (W2.setCell (Ad be 6) (.slice oa (e.kept.filter (λd=>!qax e.win m d.2)).length oc)) S2 be {e with mark:=m,kept:=e.kept.filter (λd=>!qax e.win m d.2)} (.slice ra e.rs.length rc) vn (.slice oa (e.kept.filter (λd=>!qax e.win m d.2)).length oc) (.slice fa aa.length fc) bm rb ab ac aa Sf/\(∀k,S2 k->S k)/\Chg w (W2.setCell (Ad be 6) (.slice oa (e.kept.filter (λd=>!qax e.win m d.2)).length oc)) S/\(W2.setCell (Ad be 6) (.slice oa (e.kept.filter (λd=>!qax e.win m d.2)).length oc)).heap[N]?=cC #[.pointer (some ⟨be,0,none⟩)] 40)):=λW2 oa oc hc ho av=>by
  rw[<- aw,<- aj] at hc;exact Qb1 hV.out hN (l:=e.kept.filter (λd=>!qax e.win m d.2)) ⟨hc.os,hc.tape,hc.output,hc.size,hc.block⟩ ho av
 obtain⟨l,hl⟩:∃l,e.kept.filter (λd=>!qax e.win m d.2)=l:=⟨_,rfl⟩;have HL:Hid (e.kept.filter (λd=>!qax e.win m d.2)=l):=hl;rw[hl] at Qax bn;clear hl hv h0 eN e1 bv ci ad ag;generalize hkl:l.length=kl at *;have ay:Hid (l.length=kl):=hkl;clear hkl;go_enter Tryz.func46,Tryz.ntmps46;go_wp2_with fail;refine wp_mono (Q:=λen a' W3=>match en with | Exit.normal=>∃(oa:Option Addr) (oc:Nat),Hid (∃S2:Nat->Prop,qe5 W3 S2 be {e with mark:=m,kept:=l} (.slice ra e.rs.length rc) vn (.slice oa kl oc) (.slice fa aa.length fc) bm rb ab ac aa Sf/\(∀k,S2 k->S k)/\Chg w W3 S/\W3.heap[N]?=cC #[.pointer (some ⟨be,0,none⟩)] 40)/\a'={tmps:=List.toArray (.pointer (some ⟨be,0,none⟩)::.int .i64 m::.pointer (some ⟨N,0,none⟩)::undef::undef::undef::undef::undef::undef::undef::.pointer (some ⟨be,0,none⟩)::.int .i64 m::.pointer (some ⟨be,0,none⟩)::.pointer (some ⟨be,4,none⟩)::.pointer (some ⟨be,0,none⟩)::.pointer (some ⟨be,0,none⟩)::.pointer (some ⟨be,0,none⟩)::.pointer (some ⟨be,6,none⟩)::.slice ka e.kept.length kc::.func (.func 86) #[] #[.pointer (some ⟨N,0,none⟩)]::.slice oa kl oc::.pointer (some ⟨be,0,none⟩)::.pointer (some ⟨be,6,none⟩)::undef::undef::undef::undef::undef::undef::undef::undef::undef::undef::undef::undef::undef::undef::undef::undef::undef::undef::undef::undef::undef::undef::undef::undef::undef::undef::undef::undef::undef::undef::undef::undef::undef::undef::undef::undef::undef::undef::undef::undef::undef::undef::undef::undef::undef::undef::undef::undef::undef::undef::undef::undef::undef::undef::undef::undef::undef::undef::undef::[]),defers:=[]} | _=>False) ?reg ?rest
 case reg=>
  first | (go_region_with (go_at_call 85;refine Calls.mono Qax.out ?_;rintro e' W2 ⟨oa,oc,rfl,ho,av,hc⟩;obtain⟨dN,d6,z6,co⟩:=bn.out W2 oa oc hc ho av)) | fail
  all_goals exact⟨oa,oc,co,rfl⟩
 case rest=>
  rintro (_ | _ | _ | _ | _ | _) a' W3 hq
  all_goals first | exact hq.elim | skip
  obtain⟨oa,oc,⟨S2,h3,an,ai,a6⟩,rfl⟩:=hq;clear c4 y4 a0 c6 a1 Qax bn aw aj;have a3:W3.cell? (Ad N 0)=some (.pointer (some ⟨be,0,none⟩)):=zc a6
  have q3:=h3.blk;have k6:W3.cell? (Ad be 6)=some (.slice oa kl oc):=zc q3
  clear q3
  have d0:kl<=24:=by
   have h1:=HL.out;have h2:=List.length_filter_le (λd:Gd×Int=>!qax e.win m d.2) e.kept;have h3:=af.out.k24;rw[h1,ay.out] at h2;omega
  have dl:Hid (W3.ownsRow 0 161 4 (.slice oa l.length oc) l.length (l.flatMap qr)):=by
   have h1:=h3.kept;show World.ownsRow _ _ _ _ _ _ _;rw[ay.out];rw[show ({e with mark:=m,kept:=l}:Eg).kept.length=kl from ay.out] at h1;exact h1
  have bc:Hid (qe5 W3 S2 be {e with mark:=m,kept:=l} (.slice ra e.rs.length rc) vn (.slice oa kl oc) (.slice fa aa.length fc) bm rb ab ac aa Sf):=h3;have cg:Hid (be < W3.heap.size/\N < W3.heap.size):=⟨h3.lt,(zg a6).1⟩
  have bd:Hid (∀V,Below W3.heap.size W3 V->V.cell? (Ad N 0)=some (.pointer (some ⟨be,0,none⟩))/\V.cell? (Ad be 1)=some (.int .i64 e.win)/\V.cell? (Ad be 7)=some (.map (some bm))/\V.cell? (Ad be 0)=some (.slice ra e.rs.length rc)/\V.frozen? (Ad be 7)=false):=λV hb=>by
   have h1:=(bc.out.below hb).blk;have h2:=(hb.block N cg.out.2).trans a6;exact⟨zc h2,zc h1,zc h1,zc h1,by simp[World.frozen?,h1]⟩
  have c5:Hid (∀V,Below W3.heap.size W3 V->∀t:Int,0<=t/\t<=1000000->Cs 87 #[.pointer (some ⟨be,0,none⟩),.int .i64 t] V λe' w'=>e'=.returned (.int .i64 (t+e.win))/\V=w'):=λV hb t ht=>by
   refine (qu0 be t e.win V (bd.out V hb).2.1 ht ⟨by have:=af.out.win;omega,af.out.win.2⟩).mono ?_;rintro e' w' ⟨h1,h2⟩;exact⟨h1,h2.symm⟩
  have Qgr:Hid (∀d∈l,0<=d.2/\d.2<=1000000):=λd hd=>by
   rw[<- HL.out] at hd;exact (af.out.kept d (List.mem_filter.1 hd).1).2.2
  obtain⟨i0,hi,ct,dj,di⟩:=info_parts Qbx;have Qfm:Hid _:=an;have c3:Hid _:=ai;have cz:Hid _:=a6;clear h3 an ai a6;go_wp2_with fail
  go_loopw [4,28] (λvq vi wr=>∃(k:Nat) (qa:Option Addr) (qc:Nat),vq=.slice qa (qgt e.win m (l.take k)).length qc/\vi=.int .i64 k/\k<=kl/\wr.ownsRow W3.heap.size 172 4 (.slice qa (qgt e.win m (l.take k)).length qc) (qgt e.win m (l.take k)).length ((qgt e.win m (l.take k)).flatMap qr)/\Below W3.heap.size W3 wr) (λ_ vi _=>kl - (intOf vi).toNat)
  case atStart=>exact⟨0,none,0,rfl,rfl,zz,⟨rfl,.inl ⟨rfl,rfl⟩⟩,zr⟩
  case round=>
   obtain⟨k,qa,qc,rfl,rfl,hk,qq,hb⟩:=hrel;have b5:W3.heap.size<=wr.heap.size:=hb.size;by_cases b3:k < kl
   .have i1:(k:Int) < (kl:Int):=by omega
    have a8:k < l.length:=by rw[ay.out];exact b3
    obtain⟨g,c,e0,x0,x1,x2,x3,hg⟩:=qg9 (qk dl.out hb) a8;cases e0;have Q7:Hid _:=q0n e.win m a8
    have dw:(qgt e.win m (l.take k)).length<=24:=by
     have:=q3f e.win m (l.take k);rw[List.length_take] at this;omega
    have hd:=Qgr.out _ (zm a8);have HD:Hid _:=hd;generalize hlkd:l[k]=d at *;have cr:=bd.out wr hb;obtain⟨n0,n1,_,_,_⟩:=cr;have HB:Hid _:=hb;have HO:Hid _:=qq;generalize hF:qgt e.win m (l.take k)=F at *;clear hF hlkd hd a8 hb qq;by_cases b6:d.2<=m
    .rw[if_pos b6] at Q7;have dg:Hid (∀O,Below W3.heap.size W3 (wr.alloc O).drew/\Below W3.heap.size W3 (wr.alloc O)):=λO=>⟨(HB.out.alloc b5 O).drew,HB.out.alloc b5 O⟩;have Qh7:N≠wr.heap.size:=by have:=cg.out.2;omega
     obtain⟨V1,bk⟩:∃V1,(wr.alloc (.cells #[.string d.1.rel,.string d.1.x,.string d.1.y,.int .i64 d.2] 161)).drew=V1:=⟨_,rfl⟩;have a9:Below W3.heap.size W3 V1:=by rw[<- bk];exact (dg.out _).1
     have eV:V1.heap[wr.heap.size]?=cC #[.string d.1.rel,.string d.1.x,.string d.1.y,.int .i64 d.2] 161:=by rw[<- bk];exact zn wr _
     have p0:V1.cell? (Ad wr.heap.size 0)=some (.string d.1.rel):=zc eV
     have p1:V1.cell? (Ad wr.heap.size 1)=some (.string d.1.x):=zc eV
     have p2:V1.cell? (Ad wr.heap.size 2)=some (.string d.1.y):=zc eV
     have p3:V1.cell? (Ad wr.heap.size 3)=some (.int .i64 d.2):=zc eV
     obtain⟨pn,_,_,_,_⟩:=bd.out V1 a9
     have cc:V1.ownsRow W3.heap.size 172 4 (.slice qa F.length qc) F.length (F.flatMap qr):=by
      rw[<- bk];have:=World.ownsRow.alloc HO.out (.cells #[.string d.1.rel,.string d.1.x,.string d.1.y,.int .i64 d.2] 161);exact⟨this.1,this.2⟩
     have Qhb:W3.heap.size<=V1.heap.size:=a9.size;have cv:F.length+1<=maxLen:=by unfold maxLen;omega
     have cp:(F.length+1)*56<=140737488355328:=by omega
     have cl:Hid (∀O w1,(V1.alloc O).grownBy w1 (Value.slice qa F.length qc).ownBlock->Below W3.heap.size W3 w1):=λO w1 hg=>(a9.alloc Qhb O).grown hg (by simp;omega) (λj e=>(qe cc e).1);clear eV;go_wp2_with fail
     go_region_law (first | (refine qbv rfl (.tmp 36) (.tmp 44) 169 rfl W3.heap.size 172 i0 (.agg #[.string ⟨#[]⟩,.string ⟨#[]⟩,.string ⟨#[]⟩,.int .i64 0]) 4 56 Tryz.underlying169 hi ct dj di rfl (by decide) (.slice qa F.length qc) F.length (F.flatMap qr) (by simp[Act.eval,Act.put]) (World.ownsRow.alloc cc _) ⟨V1.heap.size,0,none⟩ 1 1 [.string d.1.rel,.string d.1.x,.string d.1.y,.int .i64 (d.2+e.win)] (by simp[Act.eval,Act.put]) rfl (qb1 _ _ _ _ _ _) (by simp[Value.oneCell']) cv cp (by simp;omega) ?_;intro v' w1 ak ap;obtain⟨g',bu,b0⟩:=ownsRow_succ ak;subst b0) | (go_simp;go_wp2_with (go_at_call 87;refine (c5.out V1 a9 d.2 HD.out).mono ?_;rintro e' w' ⟨rfl,am⟩;subst am)))
     all_goals (
      go_wp2;refine⟨⟨k+1,some ⟨g',0,none⟩,bu,?_,by go_num,by omega,?_,cl.out _ w1 ap⟩,by simp[intOf];omega⟩
      .rw[Q7.out,List.length_append];rfl
      .rw[Q7.out,List.length_append,List.flatMap_append]
       exact ak)
    .rw[if_neg b6,List.append_nil] at Q7;go_wp2
     go_roundw
     case rel=>
      refine⟨k+1,qa,qc,?_,by go_num,by omega,?_,HB.out.alloc b5 _⟩
      .rw[Q7.out]
      .rw[Q7.out];exact World.ownsRow.alloc HO.out _
     case measure=>simp[intOf];omega
   .have cu:k=kl:=by omega
    subst cu;have dm:Hid (qgt e.win m (l.take k)=qgt e.win m l):=by show _=_;rw[List.take_of_length_le (by rw[ay.out];exact Nat.le_refl _)]
    rw[dm.out] at qq ⊢;obtain⟨n0,n1,n7,c0,y7⟩:=bd.out wr hb;have bi:Below W3.heap.size W3 wr.drew:=hb.drew
    have b7:Hid (Cs 75 #[.slice ra e.rs.length rc,.slice qa (qgt e.win m l).length qc] wr.drew λe' w'=>∃B M',e'=.returned (.map (some B))/\qd4 w' B 5000 M'/\qcv e.rs (qgt e.win m l++Qo e.rs) M'/\Below wr.drew.heap.size wr.drew w'):=by
     have hF:q6y e.rs e.names (qgt e.win m l):=by
      have:=qpe af.out m;unfold qhy at this;rw[HL.out] at this;exact this
     refine (qsi (arR e.rs) e.rs (qgt e.win m l) (uni (qcz e.rs) e.names) _ _ rb ab ac W3.heap.size wr.drew (q9v af.out.rs af.out.n8 af.out.nsz af.out.nrs hF) (bc.out.below bi).rules ⟨qq.1,qq.2⟩).mono ?_;rintro e' w' ⟨B,M',h1,h2,h3,_,h4⟩;exact⟨B,M',h1,MdL.at' h2,h3,h4⟩
    have ce:Hid (∀W4 B M',Below wr.drew.heap.size wr.drew W4->qd4 W4 B 5000 M'->W4.cell? (Ad N 0)=some (.pointer (some ⟨be,0,none⟩))/\W4.cell? (Ad be 7)=some (.map (some bm))/\W4.frozen? (Ad be 7)=false/\MvI w S be N bm B e l M' (.slice ra e.rs.length rc) vn (.slice oa k oc) (.slice fa aa.length fc) rb ab ac aa m 0 (W4.setCell (Ad be 7) (.map (some B)))):=λW4 B M' h1 h2=>q5k bc.out Qfm.out c3.out cz.out (bi.trans (h1.mono bi.size)) h2;clear qq hb;go_wp2_with fail;refine wp_mono (Q:=λen a' W5=>match en with | Exit.normal=>∃(B:Nat),Hid (∃M',qcv e.rs (qgt e.win m l++Qo e.rs) M'/\MvI w S be N bm B e l M' (.slice ra e.rs.length rc) vn (.slice oa k oc) (.slice fa aa.length fc) rb ab ac aa m 0 W5)/\a'={tmps:=List.toArray (.pointer (some ⟨be,0,none⟩)::.int .i64 m::.pointer (some ⟨N,0,none⟩)::undef::.slice qa (qgt e.win m l).length qc::undef::u6::.map (some bm)::undef::undef::.pointer (some ⟨be,0,none⟩)::.int .i64 m::.pointer (some ⟨be,0,none⟩)::.pointer (some ⟨be,4,none⟩)::.pointer (some ⟨be,0,none⟩)::.pointer (some ⟨be,0,none⟩)::.pointer (some ⟨be,0,none⟩)::.pointer (some ⟨be,6,none⟩)::.slice ka e.kept.length kc::.func (.func 86) #[] #[.pointer (some ⟨N,0,none⟩)]::.slice oa k oc::.pointer (some ⟨be,0,none⟩)::.pointer (some ⟨be,6,none⟩)::.pointer (some ⟨be,0,none⟩)::.pointer (some ⟨be,0,none⟩)::.pointer (some ⟨be,6,none⟩)::.slice oa k oc::.int .i64 k::.int .i64 k::.bool false::u30::u31::u32::u33::u34::u35::u36::u37::u38::u39::u40::u41::u42::u43::u44::u45::u46::.pointer (some ⟨be,0,none⟩)::.pointer (some ⟨be,0,none⟩)::.pointer (some ⟨be,7,none⟩)::.map (some bm)::.pointer (some ⟨be,0,none⟩)::.pointer (some ⟨be,0,none⟩)::.pointer (some ⟨be,0,none⟩)::.pointer (some ⟨be,0,none⟩)::.slice ra e.rs.length rc::.slice qa (qgt e.win m l).length qc::.map (some B)::.pointer (some ⟨be,0,none⟩)::.pointer (some ⟨be,7,none⟩)::undef::undef::undef::undef::undef::undef::undef::undef::undef::undef::undef::undef::undef::undef::undef::undef::undef::undef::undef::undef::undef::undef::[]),defers:=[]} | _=>False) ?reg2 ?rest2
    case reg2=>
     first | (go_region_with (go_at_call 75;refine Calls.mono b7.out ?_;rintro e' W4 ⟨B,M',rfl,ch,bf,da⟩;obtain⟨m0,m7,d1,ae⟩:=ce.out W4 B M' da ch)) | fail
     all_goals exact⟨B,⟨M',bf,ae⟩,rfl⟩
    case rest2=>
     rintro (_ | _ | _ | _ | _ | _) a' W5 hq
     all_goals first | exact hq.elim | skip
     obtain⟨B,⟨M',bf,ae⟩,rfl⟩:=hq;have b9:Hid _:=bf;have c8:Hid (MvI w S be N bm B e l M' (.slice ra e.rs.length rc) vn (.slice oa k oc) (.slice fa aa.length fc) rb ab ac aa m 0 W5):=ae;have o1:=ae.blk.1;have o2:=ae.box;have o0:W5.cell? (Ad N 0)=some (.pointer (some ⟨be,0,none⟩)):=zc o2
     have o8:W5.cell? (Ad be 8)=some (.slice fa aa.length fc):=zc o1
     have ck:Hid (qhy e m=qgt e.win m l):=by
      show _=_;unfold qhy;rw[HL.out];rfl
     have Qft:Hid (∀g,(M' g).isSome=true->qc6 (arR e.rs) g/\g∈uni (qcz e.rs) e.names):=by
      have h1:=qpe af.out m;rw[ck.out] at h1;exact qp2 af.out.rs af.out.nrs h1 b9.out
     have dv:aa.length<=3:=by
      have h1:=bc.out.len;have h2:=af.out.f3;rw[show ({e with mark:=m,kept:=l}:Eg).fds.length=e.fds.length from rfl] at h1;omega
     clear o1 o2 ae bf n0 n1 n7 c0 y7 b7 ce a3 k6;go_wp2_with fail
     go_loopw [65] (λvi wr=>∃j:Nat,vi=.int .i64 j/\j<=aa.length/\Hid (MvI w S be N bm B e l M' (.slice ra e.rs.length rc) vn (.slice oa k oc) (.slice fa aa.length fc) rb ab ac aa m j wr)) (λvi _=>aa.length - (intOf vi).toNat)
     case atStart=>exact⟨0,rfl,zz,c8⟩
     case round=>
      obtain⟨j,rfl,hj,ae⟩:=hrel;by_cases b8:j < aa.length
      .have i1:(j:Int) < (aa.length:Int):=by omega
       have o1:=ae.out.blk.1;have o2:=ae.out.box;obtain⟨g,c,e0,xj,hg⟩:=q5x ae.out.blk.2 b8;cases e0;have o0:wr.cell? (Ad N 0)=some (.pointer (some ⟨be,0,none⟩)):=zc o2
       have o3:wr.cell? (Ad be 3)=some (.int .i64 e.que):=zc o1
       have o7:wr.cell? (Ad be 7)=some (.map (some B)):=zc o1
       have c9:Hid _:=db.out _ _ _ _ _ _ _ _ _ _ _ _ _ _ _ _ _ _ _ ae.out.drew b8 Qft.out;clear o1 o2;generalize aa[j]=bj at *;go_wp2_with fail
       first | (go_region_with (go_at_call 88;refine Calls.mono c9.out ?_;rintro e' W6 ⟨rfl,ax⟩;have cy:Hid _:=ax;clear ax)) | fail
       all_goals (
        go_wp2
        refine⟨⟨j+1,by go_num,by omega,cy.out⟩,by simp[intOf];omega⟩)
      .have c1:j=aa.length:=by omega
       subst c1;have HD:=ae.out.done HL.out (by rw[ck.out];exact b9.out);have de:Hid _:=HD;clear HD;go_wp2
       go_end0
       exact⟨rfl,de.out⟩
def q24(S:Nat->Prop)(be:Nat)(e:Eg)(c:Int)(w:Wq)(en:Ending)(w':Wq):Prop:=
 ∃e' r,qru e c e' r/\en=.returned (.tuple #[.int .i64 r.1,.int .i64 r.2])/\Q0 S be e' w w'
theorem q2j(S:Nat->Prop)(be:Nat)(e:Eg)(c:Int)(w:Wq)(h:qb4 w S be e)(ad:qde e)(ao:q21 e) :
  Cs 22 #[.pointer (some ⟨be,0,none⟩),.int .i64 c] w (q24 S be e c w):=by
 have HE:Hid (qb4 w S be e):=h
 have a7:Hid (∀W,Cs 43 #[.int .i64 c,.int .i64 0,.int .i64 1000000] W λe' w'=>e'=.returned (.bool (decide (0<=c) && decide (c<=1000000)))/\W=w'):=λW=>by
  refine (qfi c 0 1000000 W).mono ?_;rintro e' w' ⟨h1,h2⟩;exact⟨h1,h2.symm⟩
 by_cases hc:0<=c/\c<=1000000
 .have aq:(decide (0<=c) && decide (c<=1000000))=true:=by simp[hc.1,hc.2]
  rw[aq] at a7;obtain⟨vr,vn,vk,vf,bm,rb,ab,ac,aa,Sf,hv⟩:=h;have hb:=hv.blk;have c2:w.cell? (Ad be 2)=some (.int .i64 e.lat):=zc hb
  have c4:w.cell? (Ad be 4)=some (.int .i64 e.mark):=zc hb
  have hl:=ad.lat;have d2:IntKind.i64.wrap (c - e.lat)=c - e.lat:=qh8 _ (by omega) (by omega);have cf:=ad.mark;have HC:Hid (0<=c/\c<=1000000):=hc;by_cases dr:e.mark < c - e.lat
  .have ae:Hid (Cs 46 #[.pointer (some ⟨be,0,none⟩),.int .i64 (c - e.lat)] w λen w'=>en=.returned (.tuple #[])/\∃e',Hid (quf e (c - e.lat) e')/\Hid (Q0 S be e' w w')/\w'.cell? (Ad be 4)=some (.int .i64 (c - e.lat))):=by
    refine (q1l S be e (c - e.lat) w HE.out ad ⟨by omega,by omega⟩ ao).mono ?_;rintro en w' ⟨h1,e',h2,h3⟩;have dn:=h3;obtain⟨S',⟨dz,vn',vk',d3,bm',dx,cn,c7,dh,Sf',b0⟩,_⟩:=h3;have hm:e'.mark=c - e.lat:=by obtain⟨M',bt,_,_,_,rfl⟩:=h2;rfl
    have dc:=b0.blk;exact⟨h1,e',h2,dn,by rw[<- hm];simp[World.cell?,dc]⟩
   have HG:Hid (e.mark < c - e.lat):=dr;clear hv hb hc aq ad hl cf ao;go_enter Tryz.func22,Tryz.ntmps22
   go_wp2_with (first | (go_at_call 43;refine (a7.out _).mono ?_;rintro e' w' ⟨rfl,am⟩;subst am) | (go_at_call 46;refine Calls.mono ae.out ?_;rintro e' W1 ⟨rfl,e1,cb,cm,d4⟩))
   go_ret2;have hm:e1.mark=c - e.lat:=by obtain⟨M',bt,_,_,_,rfl⟩:=cb.out;rfl
   exact⟨e1,(c - e.lat,0),.inr ⟨HC.out,by rw[hm],.inr ⟨HG.out,cb.out⟩⟩,rfl,cm.out⟩
  .have HG:Hid (c - e.lat<=e.mark):=by show _<=_;omega
   clear hv hb hc aq ad hl cf ao;go_enter Tryz.func22,Tryz.ntmps22
   go_wp2_with (go_at_call 43;refine (a7.out _).mono ?_;rintro e' w' ⟨rfl,am⟩;subst am)
   go_ret2;exact⟨e,(e.mark,0),.inr ⟨HC.out,rfl,.inl ⟨HG.out,rfl⟩⟩,rfl,Q0.same HE.out zr⟩
 .have aq:(decide (0<=c) && decide (c<=1000000))=false:=by
   rw[Bool.and_eq_false_iff];simp only[decide_eq_false_iff_not];omega
  rw[aq] at a7;have HC:Hid (¬(0<=c/\c<=1000000)):=hc;clear hc aq h ad ao;go_enter Tryz.func22,Tryz.ntmps22
  go_wp2_with (go_at_call 43;refine (a7.out _).mono ?_;rintro e' w' ⟨rfl,am⟩;subst am)
  go_ret2;exact⟨e,(0,6),.inl ⟨HC.out,rfl,rfl⟩,rfl,Q0.same HE.out zr⟩
