/- Ends over a script that is handed in. -/
import Derived.Test.YtjajnhemgphefaaGreatDoorJWzG
import Derived.Test.YtjajnhemgphefaaGreatDoorCards
import Derived.Test.YtjajnhemgphefaaGreatDoorTie
import Derived.ProofKit
import Derived.OpenShut
import Derived.Carry
import Derived.Deep.DeepHandedRow
import Derived.Lib.LaidU8T
import Derived.SevenTiedAt
import Derived.Deep.Slices
set_option linter.unusedVariables false
set_option linter.unusedSimpArgs false
set_option maxRecDepth 100000
set_option maxHeartbeats 2000000
namespace Go.Proofs.YtjajnhemgphefaaGreatDoor
open Go renaming World->Wq,Value->Vq
open Go.RowKit Go.Shelf
variable {F:Nat->Eg->Er->Prop} {LL:Wq->Vq->Vq->(Nat->Prop)->Prop} {W:Wq}
structure qzk(LL:Wq->Vq->Vq->(Nat->Prop)->Prop):Prop where
 keep:∀W W' vls vks Q ex,LL W vls vks Q->Chg W W' ex->(∀k,Q k->¬ex k)->LL W' vls vks Q
 ty:∀W vls vks Q,LL W vls vks Q->∀k,Q k->∃c t,W.heap[k]?=some (Obj.cells c t (0,0))/\t≠31/\t≠81
structure qod(F:Nat->Eg->Er->Prop)(LL:Wq->Vq->Vq->(Nat->Prop)->Prop)(n:Nat)(w:Wq)(bw:Nat)(W:Wq)(vl vls vks:Vq)(ps:List Pr)(Q:Nat->Prop):Prop where
 box:W.heap[bw]?=some (Obj.cells #[vl,vls,vks] 31)
 inv:LwI F n w Q vl ps W
 one:1<=ps.length
 few:ps.length<=n
 ll:LL W vls vks Q
def ql8(F:Nat->Eg->Er->Prop)(LL:Wq->Vq->Vq->(Nat->Prop)->Prop)(n:Nat)(w:Wq)(bw:Nat)(W:Wq):Prop:=∃vl vls vks ps Q,qod F LL n w bw W vl vls vks ps Q
def qsf(F:Nat->Eg->Er->Prop)(LL:Wq->Vq->Vq->(Nat->Prop)->Prop)(o:Stp):Prop:=∀n w bw W,ql8 F LL n w bw W->w.heap.size<=bw->n<=2000000->Lib.Utf8Tabs 0 1 w->
  Calls Tryz.prog 15 #[.pointer (some ⟨bw,0,none⟩),o.v] W λen W'=>en=.returned (.bool true)/\ql8 F LL (n+1) w bw W'
theorem qod.below(hF:FOk F)(hL:qzk LL){n:Nat}{w:Wq}{bw:Nat}{W W':Wq}{vl vls vks:Vq}{ps:List Pr}{Q:Nat->Prop}(h:qod F LL n w bw W vl vls vks ps Q)(hb:Below W.heap.size W W'):qod F LL n w bw W' vl vls vks ps Q:=
 ⟨(hb.block bw (zg h.box).1).trans h.box,h.inv.same (λ_ _=>id) hb,h.one,h.few,hL.keep _ _ _ _ _ (λ_=>False) h.ll (Chg.ofBelow _ hb) (λ_ _=>id)⟩
theorem qod.more(hF:FOk F){n:Nat}{w:Wq}{bw:Nat}{W:Wq}{vl vls vks:Vq}{ps:List Pr}{Q:Nat->Prop}(h:qod F LL n w bw W vl vls vks ps Q):qod F LL (n+1) w bw W vl vls vks ps Q:=
 ⟨h.box,h.inv.same (hF.mono n) (Below.refl _ _),h.one,by have:=h.few;omega,h.ll⟩
theorem qod.change(hF:FOk F)(hL:qzk LL){n:Nat}{w:Wq}{bw:Nat}{W W':Wq}{vl vls vks:Vq}{ps:List Pr}{Q:Nat->Prop}(h:qod F LL n w bw W vl vls vks ps Q){i:Nat}{p p':Pr}(hi:ps[i]?=some p)(hp:qbg p W p' W')(hok:qoe F n p'):qod F LL n w bw W' vl vls vks (ps.set i p') Q:=by
 have qde:p∈ps:=List.mem_of_getElem? hi;refine⟨(hp.2.2.2.2.block bw (zg h.box).1 (λe=>XTy.not h.box (by decide) (by decide) ((h.inv.each p qde).1.uty bw e))).trans h.box,h.inv.change (λ_ _=>id) hi hp hok,by rw[List.length_set];exact h.one,by rw[List.length_set];exact h.few,hL.keep _ _ _ _ _ p.U h.ll hp.2.2.2.2 (λk hk hu=>(h.inv.low p qde k hu).2 hk)⟩
theorem qtf{B:Nat}{v:Vq}{ps:List Pr}(h:W.ownsRow B 81 2 v ps.length (ps.flatMap prC)){k:Nat}(hk:k < ps.length) :
  ∃g cap,v=.slice (some ⟨g,0,none⟩) ps.length cap/\W.cell? ⟨g,k*2,none⟩=some (.pointer (some ⟨ps[k].bx,0,none⟩))/\W.cell? ⟨g,k*2+1,none⟩=some (.pointer (some ⟨ps[k].bz,0,none⟩))/\g < W.heap.size:=by
 obtain⟨g,cap,e1,_,h2,_,hc⟩:=qbq h (λ_=>rfl) (by omega);exact⟨g,cap,e1,hc k 0 hk _ (by decide) rfl,hc k 1 hk _ (by decide) rfl,h2⟩
theorem q1j(hF:FOk F)(hL:qzk LL)(o:Stp)(hk:o.kind=2)(hs:o.s.size<=1048576):qsf F LL o:=by
 rintro n w bw W ⟨vl,vls,vks,ps,Q,h⟩ hbw hn hT;obtain⟨kd,ke,s,a,b,c⟩:=o;simp only at hk hs;subst hk;obtain⟨N,hN⟩:∃N,W.heap.size=N:=⟨_,rfl⟩;obtain⟨W0,hW0⟩:∃W0,W.alloc (.cells #[.int .i64 2,.int .i64 ke,.string s,.int .i64 a,.int .i64 b,.int .i64 c] 34)=W0:=⟨_,rfl⟩;have hb0:Below W.heap.size W W0:=by rw[<- hW0];exact (Below.refl _ W).alloc zl _
 have hbo:W0.heap[N]?=some (Obj.cells #[.int .i64 2,.int .i64 ke,.string s,.int .i64 a,.int .i64 b,.int .i64 c] 34):=by rw[<- hW0,<- hN];exact World.alloc_heap_new W _
 have h0:=h.below hF hL hb0
 have hbg:Hid (Calls Tryz.prog 33 #[.pointer (some ⟨bw,0,none⟩),.agg #[.int .i64 2,.int .i64 ke,.string s,.int .i64 a,.int .i64 b,.int .i64 c]] W0 λen W'=>en=.returned (.bool true)/\ql8 F LL (n+1) w bw W'):=by
  refine (qon hF h0.inv hbw h0.box (by have:=h0.few;omega) ⟨2,ke,s,a,b,c⟩ hs (Utf8Tabs_below hT h0.inv.below)).mono ?_;rintro en W' ⟨k1,vl',ps',k2,k3,k4,k5,k6,k7⟩;refine⟨k1,vl',vls,vks,ps',Q,k2,k3.same (hF.mono n) (Below.refl _ _),by have:=h0.one;omega,by have:=h0.few;omega,hL.keep _ _ _ _ _ _ h0.ll k7 (λk hk e=>?_)⟩;obtain⟨cc,t,hc,h1,h2⟩:=hL.ty _ _ _ _ h0.ll k hk;rcases e with rfl | e
  ·rw[h0.box] at hc;cases hc;exact h1 rfl
  ·obtain⟨c',hc'⟩:=qi h0.inv.row e;rw[hc] at hc';cases hc';exact h2 rfl
 have c0:W0.cell? ⟨N,0,none⟩=some (.int .i64 2):=by simp[World.cell?,hbo]
 have c1:W0.cell? ⟨N,1,none⟩=some (.int .i64 ke):=by simp[World.cell?,hbo]
 have c2:W0.cell? ⟨N,2,none⟩=some (.string s):=by simp[World.cell?,hbo]
 have c3:W0.cell? ⟨N,3,none⟩=some (.int .i64 a):=by simp[World.cell?,hbo]
 have c4:W0.cell? ⟨N,4,none⟩=some (.int .i64 b):=by simp[World.cell?,hbo]
 have c5:W0.cell? ⟨N,5,none⟩=some (.int .i64 c):=by simp[World.cell?,hbo]
 unfold Stp.v;clear h h0 hb0 hbo hT;go_enter Tryz.func15,Tryz.ntmps15;go_wp2_with fail;refine Calls.mono hbg.out ?_;rintro e' W1 ⟨rfl,hL1⟩;have HL1:Hid _:=hL1;clear hbg hL1 c0 c1 c2 c3 c4 c5;go_wp2;go_ret;exact⟨rfl,HL1.out⟩
theorem qm2(hF:FOk F)(hL:qzk LL)(o:Stp)(hk:o.kind=3\/o.kind=4\/o.kind=6)(hs:o.s.size<=1048576)(he : -9223372036854775808<=o.e/\o.e<=9223372036854775807):qsf F LL o:=by
 rintro n w bw W ⟨vl,vls,vks,ps,Q,h⟩ hbw hn hT;obtain⟨kd,ke,s,a,b,c⟩:=o;simp only at hk hs he;obtain⟨N,hN⟩:∃N,W.heap.size=N:=⟨_,rfl⟩;obtain⟨W0,hW0⟩:∃W0,W.alloc (.cells #[.int .i64 kd,.int .i64 ke,.string s,.int .i64 a,.int .i64 b,.int .i64 c] 34)=W0:=⟨_,rfl⟩;have hb0:Below W.heap.size W W0:=by rw[<- hW0];exact (Below.refl _ W).alloc zl _
 have hbo:W0.heap[N]?=some (Obj.cells #[.int .i64 kd,.int .i64 ke,.string s,.int .i64 a,.int .i64 b,.int .i64 c] 34):=by rw[<- hW0,<- hN];exact World.alloc_heap_new W _
 have h0:=h.below hF hL hb0;obtain⟨la,lc,hvl⟩:=qn h.inv.row;subst hvl;have H0:Hid (qod F LL n w bw W0 (.slice la ps.length lc) vls vks ps Q):=h0
 have HC:Hid (∀Y,Below W0.heap.size W0 Y->Y.cell? ⟨N,0,none⟩=some (.int .i64 kd)/\Y.cell? ⟨N,1,none⟩=some (.int .i64 ke)/\Y.cell? ⟨N,2,none⟩=some (.string s)/\Y.cell? ⟨N,3,none⟩=some (.int .i64 a)/\Y.cell? ⟨N,4,none⟩=some (.int .i64 b)/\Y.cell? ⟨N,5,none⟩=some (.int .i64 c)/\Y.cell? ⟨bw,0,none⟩=some (.slice la ps.length lc)):=λY hY=>by
  have h2:=(hY.block N (zg hbo).1).trans hbo;have h3:=(hY.block bw (zg h0.box).1).trans h0.box;exact⟨by simp[World.cell?,h2],by simp[World.cell?,h2],by simp[World.cell?,h2],by simp[World.cell?,h2],by simp[World.cell?,h2],by simp[World.cell?,h2],by simp[World.cell?,h3]⟩
 obtain⟨c0,c1,c2,c3,c4,c5,cb⟩:=HC.out W0 (Below.refl _ _);have hpk:Hid (∀Y,Calls Tryz.prog 34 #[.int .i64 ke,.int .i64 ps.length] Y λe w'=>∃r:Nat,r < ps.length/\e=.returned (.int .i64 r)/\Y=w'):=λY=>q0m ke ps.length Y h0.one (by have:=h0.few;omega) he;have qqw:=h0.one;have qmq:=h0.few;have HT:Hid _:=hT;unfold Stp.v;clear h h0 hb0 hbo hT;obtain⟨g,gcap,e1,_,_,hgl⟩:=qtf H0.out.inv.row (k:=0) (by omega);cases e1
 have hSY:Hid (∀Y,Below W0.heap.size W0 Y->Y.cell? ⟨bw,0,none⟩=some (.slice (some ⟨g,0,none⟩) ps.length lc)/\Y.cell? ⟨N,1,none⟩=some (.int .i64 ke)/\(∀(r:Nat) (hr:r < ps.length),Y.cell? ⟨g,r*2,none⟩=some (.pointer (some ⟨ps[r].bx,0,none⟩)))/\∀(r:Nat) (hr:r < ps.length),Y.cell? ⟨g,r*2+1,none⟩=some (.pointer (some ⟨ps[r].bz,0,none⟩))):=λY hY=>by
  obtain⟨_,d1,_,_,_,_,db⟩:=HC.out Y hY;refine⟨db,d1,λr hr=>?_,λr hr=>?_⟩
  ·obtain⟨g',cap',e1,e2,e3,_⟩:=qtf (qk H0.out.inv.row hY) hr
   cases e1;exact e2
  ·obtain⟨g',cap',e1,e2,e3,_⟩:=qtf (qk H0.out.inv.row hY) hr
   cases e1;exact e3
 have hS0:=hSY.out W0.drew (Below.refl _ _).drew;have hS1:Hid (∀O,_):=λO=>hSY.out (W0.alloc O) ((Below.refl _ _).alloc zl O);have hS2:Hid (∀O v,_):=λO v=>hSY.out ((W0.alloc O).setCell ⟨W0.heap.size,0,none⟩ v) (((Below.refl _ _).alloc zl O).setCell (p:=⟨W0.heap.size,0,none⟩) zl v);have hS3:Hid (∀O v u,_):=λO v u=>hSY.out (((W0.alloc O).setCell ⟨W0.heap.size,0,none⟩ v).setCell ⟨W0.heap.size,1,none⟩ u) ((((Below.refl _ _).alloc zl O).setCell (p:=⟨W0.heap.size,0,none⟩) zl v).setCell (p:=⟨W0.heap.size,1,none⟩) zl u);rcases hk with rfl | rfl | rfl
 all_goals go_enter Tryz.func15,Tryz.ntmps15
 all_goals go_wp2_with fail
 all_goals (go_region_held3 (λw'=>w'.cell? ⟨bw,0,none⟩=some (.slice (some ⟨g,0,none⟩) ps.length lc)/\w'.cell? ⟨N,1,none⟩=some (.int .i64 ke)/\(∀(r:Nat) (hr:r < ps.length),w'.cell? ⟨g,r*2,none⟩=some (.pointer (some ⟨ps[r].bx,0,none⟩)))/\∀(r:Nat) (hr:r < ps.length),w'.cell? ⟨g,r*2+1,none⟩=some (.pointer (some ⟨ps[r].bz,0,none⟩))) (first | with_reducible exact hS0 | with_reducible assumption | exact hS1.out _ | exact hS2.out _ _ | exact hS3.out _ _ _) (first | (go_at_call 34;refine Calls.mono (hpk.out _) ?_;rintro e' w' ⟨r,hr,rfl,hw'⟩;subst hw') | go_simp))
 all_goals (
   obtain⟨p,hpd⟩:∃p,ps[r]=p:=⟨_,rfl⟩;have hi:ps[r]?=some p:=by rw[List.getElem?_eq_getElem hr,hpd]
   rw[hpd];obtain⟨W1,hW1⟩:∃W1,(W0.alloc (.cells #[.pointer (some ⟨p.bx,0,none⟩),.pointer (some ⟨p.bz,0,none⟩)] 81)).drew=W1:=⟨_,rfl⟩;obtain⟨NP,hNP⟩:∃NP,W0.heap.size=NP:=⟨_,rfl⟩;have hb1:Below W0.heap.size W0 W1:=by rw[<- hW1];exact ((Below.refl _ _).alloc zl _).drew
   have hbp:W1.heap[NP]?=some (Obj.cells #[.pointer (some ⟨p.bx,0,none⟩),.pointer (some ⟨p.bz,0,none⟩)] 81):=by rw[<- hW1,<- hNP];exact World.alloc_heap_new W0 _
   obtain⟨d0,d1,d2,d3,d4,d5,db⟩:=HC.out W1 hb1;have q0:W1.cell? ⟨NP,0,none⟩=some (.pointer (some ⟨p.bx,0,none⟩)):=by simp[World.cell?,hbp]
   have q1:W1.cell? ⟨NP,1,none⟩=some (.pointer (some ⟨p.bz,0,none⟩)):=by simp[World.cell?,hbp]
   have h1:=H0.out.below hF hL hb1;have hT1:=Utf8Tabs_below HT.out h1.inv.below;have hpe:=h1.inv.each p (List.mem_of_getElem? hi)
   have hmv:Hid (∀k:Int,k=3\/k=4->Calls Tryz.prog 35 #[.agg #[.pointer (some ⟨p.bx,0,none⟩),.pointer (some ⟨p.bz,0,none⟩)],.agg #[.int .i64 k,.int .i64 ke,.string s,.int .i64 a,.int .i64 b,.int .i64 c]] W1 λen W'=>en=.returned (.bool true)/\ql8 F LL (n+1) w bw W'):=λk hk=>by
    refine (q0r hF hpe.1 hpe.2 ⟨k,ke,s,a,b,c⟩ hk hs hT1).mono ?_;rintro en W' ⟨k1,p',k2,k3⟩;exact⟨k1,_,_,_,_,_,(h1.change hF hL hi k2 k3).more hF⟩
   have hmu:Hid (Calls Tryz.prog 36 #[.pointer (some ⟨bw,0,none⟩),.agg #[.pointer (some ⟨p.bx,0,none⟩),.pointer (some ⟨p.bz,0,none⟩)],.agg #[.int .i64 6,.int .i64 ke,.string s,.int .i64 a,.int .i64 b,.int .i64 c]] W1 λen W'=>en=.returned (.bool true)/\ql8 F LL (n+1) w bw W'):=by
    refine (qzu bw hpe.1 hpe.2 ⟨6,ke,s,a,b,c⟩ rfl hs hT1).mono ?_;rintro en W' ⟨k1,k2⟩;exact⟨k1,_,_,_,_,_,(h1.below hF hL k2).more hF⟩
   clear hpd hS0 hS1 hS2 hS3 hSY hpk hb1 hbp h1 hT1 hpe c0 c1 c2 c3 c4 c5 cb
   go_wp2_with (first | (go_at_call 35;refine Calls.mono (hmv.out _ (by simp)) ?_;rintro e' W2 ⟨rfl,hL2⟩;have HL2:Hid _:=hL2;clear hL2 hmv) | (go_at_call 36;refine Calls.mono hmu.out ?_;rintro e' W2 ⟨rfl,hL2⟩;have HL2:Hid _:=hL2;clear hL2 hmu))
   go_ret
   exact⟨rfl,HL2.out⟩)
def qof(W:Wq)(v:Vq)(os:List Stp):Prop:=∃a c,v=.slice a os.length c/\∀(i:Nat) (h:i < os.length),∃g off,a=some ⟨g,off,none⟩/\g < W.heap.size/\
 W.cell? ⟨g,off+i*6,none⟩=some (.int .i64 os[i].kind)/\W.cell? ⟨g,off+i*6+1,none⟩=some (.int .i64 os[i].e)/\W.cell? ⟨g,off+i*6+2,none⟩=some (.string os[i].s)/\W.cell? ⟨g,off+i*6+3,none⟩=some (.int .i64 os[i].a)/\W.cell? ⟨g,off+i*6+4,none⟩=some (.int .i64 os[i].b)/\W.cell? ⟨g,off+i*6+5,none⟩=some (.int .i64 os[i].c)
def q15(F:Nat->Eg->Er->Prop)(LL:Wq->Vq->Vq->(Nat->Prop)->Prop):Prop:=∀n w bw W,ql8 F LL n w bw W->n<=3000000->Calls Tryz.prog 38 #[.pointer (some ⟨bw,0,none⟩)] W λen W'=>en=.returned (.bool true)/\Below W.heap.size W W'
theorem q34(l:List Int):l.flatMap (λx=>[Value.int .i64 x])=l.map (Value.int .i64):=by
 induction l with
 | nil=>rfl
 | cons x l ih=>rw[List.flatMap_cons,ih];rfl
theorem q4t:∃rs,qaz qyc=.ok rs:=by
 cases hp:qaz qyc with
 | ok rs=>exact⟨rs,rfl⟩
 | error cp=>
  obtain⟨c,p⟩:=cp;have h:=qy4 hp;rw[Qdr.rules] at h;exact absurd h.symm (qhv qyc c p hp)
theorem qof.below{W':Wq}{v:Vq}{os:List Stp}(h:qof W v os)(hb:Below W.heap.size W W'):qof W' v os:=by
 obtain⟨a,c,h1,h2⟩:=h;refine⟨a,c,h1,λi hi=>?_⟩;obtain⟨g,off,e,hg,c0,c1,c2,c3,c4,c5⟩:=h2 i hi;exact⟨g,off,e,Nat.lt_of_lt_of_le hg hb.size,(hb.cell (p:=⟨g,off+i*6,none⟩) hg).trans c0,(hb.cell (p:=⟨g,off+i*6+1,none⟩) hg).trans c1,(hb.cell (p:=⟨g,off+i*6+2,none⟩) hg).trans c2,(hb.cell (p:=⟨g,off+i*6+3,none⟩) hg).trans c3,(hb.cell (p:=⟨g,off+i*6+4,none⟩) hg).trans c4,(hb.cell (p:=⟨g,off+i*6+5,none⟩) hg).trans c5⟩
theorem q03(hF:FOk F)(hL:qzk LL)(hL0:∀W,LL W (.slice none 0 0) (.slice none 0 0) (λ_=>False))(hlook:q15 F LL)(os:List Stp)(ks:List Int)(vsc vkn:Vq)(W:Wq)(hsc:qof W vsc os)(hkn:W.ownsRow 0 3 1 vkn ks.length (ks.map (Value.int .i64)))(hol:os.length<=1048576)(hkl:ks.length<=100)(qa1:∀o∈os,o.kind∈ks->qsf F LL o)(hT:Lib.Utf8Tabs 0 1 W) :
  Calls Tryz.prog 16 #[vsc,vkn] W λen W'=>en=.returned (.bool true)/\Below W.heap.size W W':=by
 have HSC:Hid (∀Y,Below W.heap.size W Y->qof Y vsc os):=λY hY=>hsc.below hY;obtain⟨sa,sc,rfl,hsc⟩:=hsc;obtain⟨ka,kc,hvk⟩:=qd hkn;subst hvk;obtain⟨bw,hbw⟩:∃bw,W.heap.size=bw:=⟨_,rfl⟩;obtain⟨W0,hW0⟩:∃W0,W.alloc (.cells #[.slice none 0 0,.slice none 0 0,.slice none 0 0] 31)=W0:=⟨_,rfl⟩;have hb0:Below W.heap.size W W0:=by rw[<- hW0];exact (Below.refl _ W).alloc zl _
 have qae:W0.heap[bw]?=some (Obj.cells #[.slice none 0 0,.slice none 0 0,.slice none 0 0] 31):=by rw[<- hW0,<- hbw];exact World.alloc_heap_new W _
 have hI0:LwI F 1 W (λ_=>False) (.slice none 0 0) [] W0:=⟨World.ownsRow_nil _ _ _ _,λp hp=>(by cases hp),λp hp=>(by cases hp),λi j p q hp=>(by simp at hp),hb0,λk hk=>hk.elim⟩
 have hbg:Hid (Calls Tryz.prog 33 #[.pointer (some ⟨bw,0,none⟩),.agg #[.int .i64 2,.int .i64 0,.string ⟨#[112,97,116,104,40,88,44,89,41,58,45,101,100,103,101,40,88,44,89,41,46,32,112,97,116,104,40,88,44,90,41,58,45,112,97,116,104,40,88,44,89,41,44,101,100,103,101,40,89,44,90,41,46]⟩,.int .i64 10,.int .i64 2,.int .i64 20]] W0 λen W'=>en=.returned (.bool true)/\∃(la:Option Addr) (lc:Nat),W'.cell? ⟨bw,0,none⟩=some (.slice la 1 lc)/\Hid (ql8 F LL 1 W bw W')):=by
  refine (qon hF hI0 (by omega) qae (by simp) ⟨2,0,qyc,10,2,20⟩ (by decide) (Utf8Tabs_below hT hb0)).mono ?_;rintro en W' ⟨k1,vl',ps',k2,k3,k4,k5,k6,k7⟩;have hl:ps'.length=1:=k6 ⟨q4t,by unfold qbm;decide⟩;obtain⟨la,lc,hf⟩:=qn k3.row;subst hf;rw[hl] at k2;refine⟨k1,la,lc,by simp[World.cell?,k2],.slice la ps'.length lc,_,_,ps',_,by rw[hl];exact k2,k3,by omega,by omega,hL0 _⟩
 have hkc:Hid (∀Y,Below W.heap.size W Y->∀(k:Nat) (hk:k < ks.length),∃g,ka=some ⟨g,0,none⟩/\Y.cell? ⟨g,k,none⟩=some (.int .i64 ks[k])):=λY hY k hk=>by
  have ho:=qk hkn hY
  have ho':Y.ownsRow 0 3 1 (.slice ka ks.length kc) ks.length (ks.flatMap (λx=>[Value.int .i64 x])):=by
   rw[q34];exact ho
  obtain⟨g,cap,e1,_,_,_,hc⟩:=qbq ho' (λ_=>rfl) (by omega);simp only[Value.slice.injEq] at e1;exact⟨g,e1.1,by simpa using hc k 0 hk _ (by decide) rfl⟩
 have HST:Hid (∀o∈os,o.kind∈ks->qsf F LL o):=qa1;have HT:Hid _:=hT;have HBW:Hid (W.heap.size<=bw):=by show _<=_;omega
 have HBL:Hid (∀n Y,ql8 F LL n W bw Y->Below W.heap.size W Y):=λn Y hh=>by
  obtain⟨_,_,_,_,_,hv⟩:=hh;exact hv.inv.below
 clear hsc hkn hT hb0 qae hI0 qa1;go_enter Tryz.func16,Tryz.ntmps16;go_wp2_with fail;refine Calls.mono hbg.out ?_;rintro e' W1 ⟨rfl,la,lc,l0,qus⟩;clear hbg;go_wp2_with fail
 go_loopw [7] (λp wr=>∃i:Nat,p=.int .i64 i/\i<=os.length/\Hid (ql8 F LL (i+1) W bw wr)) (λp _=>os.length - (intOf p).toNat)
 case atStart=>exact⟨0,rfl,Nat.zero_le _,qus⟩
 case round=>
  clear qus l0;obtain⟨i,rfl,hle,qus⟩:=hrel;by_cases hlt:i < os.length
  ·have i1:(i:Int) < (os.length:Int):=by omega
   obtain⟨sa',sc',e0,Ql⟩:=HSC.out wr (HBL.out _ _ qus.out);cases e0;obtain⟨g,off,e1,hg,c0,c1,c2,c3,c4,c5⟩:=Ql i hlt;cases e1
   have hst:Hid (∀Y,Below wr.heap.size wr Y->Below W.heap.size W Y/\ql8 F LL (i+1) W bw Y):=λY hY=>by
    obtain⟨vl,vls,vks,ps,Q,hv⟩:=qus.out;exact⟨hv.inv.below.trans (hY.mono hv.inv.below.size),vl,vls,vks,ps,Q,hv.below hF hL hY⟩
   obtain⟨o,ho⟩:∃o,os[i]=o:=⟨_,rfl⟩;rw[ho] at c0 c1 c2 c3 c4 c5;have HOS:Hid (o∈os):=by rw[<- ho];exact List.getElem_mem hlt
   have HCC:Hid (∀Y,Below wr.heap.size wr Y->Y.cell? ⟨g,off+i*6,none⟩=some (.int .i64 o.kind)/\Y.cell? ⟨g,off+i*6+1,none⟩=some (.int .i64 o.e)/\Y.cell? ⟨g,off+i*6+2,none⟩=some (.string o.s)/\Y.cell? ⟨g,off+i*6+3,none⟩=some (.int .i64 o.a)/\Y.cell? ⟨g,off+i*6+4,none⟩=some (.int .i64 o.b)/\Y.cell? ⟨g,off+i*6+5,none⟩=some (.int .i64 o.c)):=λY hb=>⟨(hb.cell (p:=⟨g,off+i*6,none⟩) hg).trans c0,(hb.cell (p:=⟨g,off+i*6+1,none⟩) hg).trans c1,(hb.cell (p:=⟨g,off+i*6+2,none⟩) hg).trans c2,(hb.cell (p:=⟨g,off+i*6+3,none⟩) hg).trans c3,(hb.cell (p:=⟨g,off+i*6+4,none⟩) hg).trans c4,(hb.cell (p:=⟨g,off+i*6+5,none⟩) hg).trans c5⟩;clear Ql ho c0 c1 c2 c3 c4 c5 qus;have Qbu:Hid (Below wr.heap.size wr wr):=Below.refl _ _;go_wp2_with fail
   go_loopw [8,9] (λq p wr'=>∃(k:Nat) (bk:Bool),q=.bool bk/\p=.int .i64 k/\k<=ks.length/\Hid (bk=(ks.take k).any (λx=>o.kind == x))/\Hid (Below wr.heap.size wr wr')) (λ_ p _=>ks.length - (intOf p).toNat)
   case atStart=>exact⟨0,false,rfl,rfl,Nat.zero_le _,rfl,Qbu⟩
   case round=>
    clear Qbu;obtain⟨k,bk,rfl,rfl,qsz,hbk,qmo⟩:=hrel;obtain⟨c0,c1,c2,c3,c4,c5⟩:=HCC.out _ qmo.out;by_cases qxe:k < ks.length
    ·have k1:(k:Int) < (ks.length:Int):=by omega
     obtain⟨gk,e1,hck⟩:=hkc.out _ (hst.out _ qmo.out).1 k qxe;cases e1
     have htk:(ks.take (k+1)).any (λx=>o.kind == x)=(bk || (o.kind == ks[k])):=by
      rw[List.take_succ_eq_append_getElem qxe,List.any_append,<- hbk.out];simp
     have HTK:Hid _:=htk;clear htk
     cases bk with
     | true=>
      go_wp2_with fail
      try go_quiet (fail)
      go_wp2;refine⟨⟨k+1,true,rfl,by go_num,by omega,by rw[HTK.out];rfl,by first | exact qmo | exact qq qmo.out⟩,by simp[intOf];omega⟩
     | false=>
      by_cases heq:o.kind=ks[k]
      ·rw[show (false || (o.kind == ks[k]))=true by simp[heq]] at HTK;go_wp2_with fail
       try go_quiet (fail)
       go_wp2;refine⟨⟨k+1,true,by simp[heq],by go_num,by omega,by rw[HTK.out];rfl,by first | exact qmo | exact qq qmo.out⟩,by simp[intOf];omega⟩
      ·rw[show (false || (o.kind == ks[k]))=false by simp[heq]] at HTK;go_wp2_with fail
       try go_quiet (fail)
       go_wp2;refine⟨⟨k+1,false,by simp[heq],by go_num,by omega,by rw[HTK.out];rfl,by first | exact qmo | exact qq qmo.out⟩,by simp[intOf];omega⟩
    ·have k1:¬(k:Int) < (ks.length:Int):=by omega
     have Qby:Hid (bk=ks.any (λx=>o.kind == x)):=by rw[List.take_of_length_le (by omega)] at hbk;exact hbk
     obtain⟨hBW,hLW⟩:=hst.out _ qmo.out
     have q76:Hid (ql8 F LL (i+1+1) W bw wr):=by
      obtain⟨vl,vls,vks,ps,Q,hv⟩:=hLW;exact⟨vl,vls,vks,ps,Q,hv.more hF⟩
     clear hbk
     cases bk with
     | false=>
      clear hBW hLW;go_wp2;refine⟨⟨i+1,by go_num,by omega,q76⟩,by simp[intOf];omega⟩
     | true=>
      have qde:o.kind∈ks:=by
       have:=Qby.out.symm;rw[List.any_eq_true] at this;obtain⟨x,hx,he⟩:=this;have:o.kind=x:=by simpa using he
       rw[this];exact hx
      have hsp:Hid _:=HST.out o HOS.out qde (i+1) W bw wr hLW HBW.out (by omega) HT.out
      have hlk:Hid (∀Y,ql8 F LL (i+1+1) W bw Y->Calls Tryz.prog 38 #[.pointer (some ⟨bw,0,none⟩)] Y λen W'=>en=.returned (.bool true)/\Hid (ql8 F LL (i+1+1) W bw W')):=λY hY=>by
       refine (hlook (i+1+1) W bw Y hY (by omega)).mono ?_;rintro en W' ⟨q1,q2⟩;obtain⟨vl,vls,vks,ps,Q,hv⟩:=hY;exact⟨q1,vl,vls,vks,ps,Q,hv.below hF hL q2⟩
      unfold Stp.v at hsp;clear hBW hLW q76 qde Qby;go_wp2_with fail;refine Calls.mono hsp.out ?_;rintro e' W5 ⟨rfl,hL5⟩;have hl5:=hlk.out W5 hL5;clear hsp hlk hL5 c0 c1 c2 c3 c4 c5;go_wp2_with fail;refine Calls.mono hl5 ?_;rintro e' W6 ⟨rfl,hL6⟩;clear hl5;go_wp2;refine⟨⟨i+1,by go_num,by omega,hL6⟩,by simp[intOf];omega⟩
  ·have i1:¬(i:Int) < (os.length:Int):=by omega
   have hB:Hid (Below W.heap.size W wr):=HBL.out _ _ qus.out;clear qus;go_wp2;go_ret;exact⟨rfl,by first | exact hB.out | (have:=hB.out;rw[hbw] at this;exact this)⟩
end Go.Proofs.YtjajnhemgphefaaGreatDoor
namespace Go.Proofs.YtjajnhemgphefaaGreatDoor
open Go renaming World->Wq,Value->Vq
open Go.ChangeShapes Go.WideShapes Go.ChangeAt Go.RowKit Go.Shelf
variable {b off:Nat} {W:Wq} {H:Type}
theorem own:ownKnob Tryz.prog.godebug=none:=by kernel_rfl
theorem q4b:laidOutB Tryz.prog=true:=by kernel_rfl
theorem q2i:Tryz.prog.cellsOf 3=1:=by kernel_rfl
theorem q2j:Tryz.prog.cellsOf 9=1:=by kernel_rfl
theorem qz1:Tryz.prog.cellsOf 34=6:=by kernel_rfl
theorem q8y{k:Nat}:(⟨b,off,none⟩:Addr).add k=⟨b,off+k,none⟩:=by
 unfold Addr.add;split
 ·rename_i h;subst h;rfl
 ·rfl
theorem q52{v:Vq}(h:W.cell? ⟨b,off,none⟩=some v):b < W.heap.size:=by
 cases hh:W.heap[b]? with
 | none=>simp[World.cell?,hh] at h
 | some o=>exact (zg hh).1
theorem qop:∀(l:List (DataW H)) (d:DataW H),d∈l->Rows.uptoBulk d<=Rows.uptoBulkAll l
 | [],d,h=>by cases h
 | x::l,d,h=>by
  have e:Rows.uptoBulkAll (x::l)=Rows.uptoBulk x+Rows.uptoBulkAll l:=by simp only[Rows.uptoBulkAll]
  rw[e];rcases List.mem_cons.1 h with rfl | h
  ·omega
  ·have:=qop l d h;omega
theorem qt2:∀(l:List (DataW H)),(∀d∈l,1<=Rows.uptoBulk d)->l.length<=Rows.uptoBulkAll l
 | [],_=>Nat.zero_le _
 | x::l,h=>by
  have e:Rows.uptoBulkAll (x::l)=Rows.uptoBulk x+Rows.uptoBulkAll l:=by simp only[Rows.uptoBulkAll]
  have h1:=h x List.mem_cons_self;have h2:=qt2 l (λd hd=>h d (List.mem_cons_of_mem _ hd));rw[e,List.length_cons];omega
def q7n(z:Int):Prop:=-9223372036854775808<=z/\z<=9223372036854775807
theorem q5a{enc:TypeId×Vq->H}{base:Nat}{spare:Nat->Bool}{held:Bool}{fuel:Nat}{a0:Option Addr}{len cap:Nat}{x:DataW H×List MemPlace}(h:DataW.trod enc Tryz.prog W base spare held fuel 36 [.slice a0 len cap]=some x) :
  ∃l:List Stp,qof W (.slice a0 len cap) l/\(∀o∈l,q7n o.e)/\(Rows.uptoBulk x.1<=1048576->l.length<=1048576/\∀o∈l,o.s.size<=1048576):=by
 rcases Go.Deep.open_slice Tryz.underlying36 h with⟨hcs,_⟩ | ⟨a,len',cap',m,n,D,Pl,hcs,_,hl,hm,hmm,hxe,hx⟩
 ·simp only[List.cons.injEq,Value.slice.injEq,and_true] at hcs;obtain⟨rfl,rfl,rfl⟩:=hcs;exact⟨[],⟨none,0,rfl,λi hi=>absurd hi (Nat.not_lt_zero _)⟩,λy hy=>(by cases hy),λ_=>⟨by simp,λy hy=>(by cases hy)⟩⟩
 ·simp only[List.cons.injEq,Value.slice.injEq,and_true] at hcs;obtain⟨rfl,rfl,rfl⟩:=hcs;have hlm:len<=m:=by rw[hmm];split <;> omega
  have each:∀i,i < len->∃z:Stp,W.cell? (a.add (i*6))=some (.int .i64 z.kind)/\W.cell? (a.add (i*6+1))=some (.int .i64 z.e)/\W.cell? (a.add (i*6+2))=some (.string z.s)/\W.cell? (a.add (i*6+3))=some (.int .i64 z.a)/\W.cell? (a.add (i*6+4))=some (.int .i64 z.b)/\W.cell? (a.add (i*6+5))=some (.int .i64 z.c)/\q7n z.e/\z.s.size+1<=Rows.uptoBulk (D i):=by
   intro i hi;obtain⟨cs',h1,h2⟩:=hx i (by omega);rw[qz1] at h1;obtain⟨_,Q7,Ql⟩:=World.cells?_some h1;obtain⟨xs,k,_,hxd,_,hxl,hf⟩:=DataW.trod_struct Tryz.underlying34 h2;have Qga:xs.length=6:=hxl
   match xs,Qga,cs',Q7 with
   | [y0,y1,y2,y3,y4,y5],_,[v0,v1,v2,v3,v4,v5],_=>
    have g0:=hf 0 _ rfl;have g1:=hf 1 _ rfl;have g2:=hf 2 _ rfl;have g3:=hf 3 _ rfl;have g4:=hf 4 _ rfl;have g5:=hf 5 _ rfl;simp[q2i,q2j] at g0 g1 g2 g3 g4 g5;obtain⟨n0,e0,_,w0⟩:=DataW.trod_int Tryz.underlying3 g0;obtain⟨n1,e1,_,w1⟩:=DataW.trod_int Tryz.underlying3 g1;obtain⟨s2,e2,t2,_⟩:=DataW.trod_string Tryz.underlying9 g2;obtain⟨n3,e3,_,w3⟩:=DataW.trod_int Tryz.underlying3 g3;obtain⟨n4,e4,_,w4⟩:=DataW.trod_int Tryz.underlying3 g4;obtain⟨n5,e5,_,w5⟩:=DataW.trod_int Tryz.underlying3 g5;simp only[List.cons.injEq,and_true] at e0 e1 e2 e3 e4 e5;subst e0 e1 e2 e3 e4 e5;have c0:=Ql 0 (by decide);have c1:=Ql 1 (by decide);have c2:=Ql 2 (by decide);have c3:=Ql 3 (by decide);have c4:=Ql 4 (by decide);have c5:=Ql 5 (by decide);rw[Go.Deep.add_add] at c0 c1 c2 c3 c4 c5;refine⟨⟨n0,n1,s2,n3,n4,n5⟩,by simpa using c0,by simpa using c1,by simpa using c2,by simpa using c3,by simpa using c4,by simpa using c5,bounds_i64 w1,?_⟩
    have hd:D i=.agg [y0.1,y1.1,y2.1,y3.1,y4.1,y5.1]:=by
     have:=(Prod.ext_iff.1 hxd).1;simpa using this
    rw[hd];have e1:Rows.uptoBulk (DataW.agg [y0.1,y1.1,y2.1,y3.1,y4.1,y5.1])=Rows.uptoBulkAll [y0.1,y1.1,y2.1,y3.1,y4.1,y5.1]+1:=by simp only[Rows.uptoBulk]
    have e2:=qop [y0.1,y1.1,y2.1,y3.1,y4.1,y5.1] y2.1 (by simp);have e3:Rows.uptoBulk y2.1=s2.data.toList.length+1:=by rw[t2];simp only[Rows.uptoBulk]
    have e4:s2.data.toList.length=s2.size:=by simp
    show s2.size+1<=_;omega
  haveI:Inhabited Stp:=⟨⟨0,0,⟨#[]⟩,0,0,0⟩⟩;obtain⟨f,hf⟩:=Go.Deep.choose_lt each
  have hpn:0 < len->∃b off,a=⟨b,off,none⟩:=λh0=>by
   obtain⟨b,off,pr⟩:=a
   cases pr with
   | none=>exact⟨b,off,rfl⟩
   | some q=>
    exfalso;have h00:=(hf 0 h0).1;have e0:(⟨b,off,some q⟩:Addr).add (0*6)=⟨b,off,some q⟩:=by simp[Addr.add]
    rw[e0] at h00;simp only[World.cell?] at h00;split at h00
    ·simp at h00
    ·cases h00
  refine⟨(List.range len).map f,⟨some a,cap,by simp,λi hi=>?_⟩,λy hy=>?_,λhb=>?_⟩
  ·have hi':i < len:=by simpa using hi
   obtain⟨c0,c1,c2,c3,c4,c5,_⟩:=hf i hi';obtain⟨b,off,rfl⟩:=hpn (by omega);rw[q8y] at c0 c1 c2 c3 c4 c5;refine⟨b,off,rfl,q52 c0,?_,?_,?_,?_,?_,?_⟩
   ·simpa using c0
   ·simpa [Nat.add_assoc] using c1
   ·simpa [Nat.add_assoc] using c2
   ·simpa [Nat.add_assoc] using c3
   ·simpa [Nat.add_assoc] using c4
   ·simpa [Nat.add_assoc] using c5
  ·obtain⟨i,hi,rfl⟩:=List.mem_map.1 hy;exact (hf i (List.mem_range.1 hi)).2.2.2.2.2.2.1
  ·rw[hxe] at hb;have e1:Rows.uptoBulk (DataW.slice ((List.range len).map D) ((List.range (m - len)).map λj=>D (len+j)))=Rows.uptoBulkAll ((List.range len).map D)+Rows.uptoBulkAll ((List.range (m - len)).map λj=>D (len+j))+1:=by simp only[Rows.uptoBulk]
   have hb':Rows.uptoBulkAll ((List.range len).map D)<=1048576:=by
    have:Rows.uptoBulk (DataW.slice ((List.range len).map D) ((List.range (m - len)).map λj=>D (len+j)))<=1048576:=hb;omega
   have hle:=qt2 ((List.range len).map D) (λd hd=>by
    obtain⟨i,hi,rfl⟩:=List.mem_map.1 hd;have:=(hf i (List.mem_range.1 hi)).2.2.2.2.2.2.2
    omega)
   rw[List.length_map,List.length_range] at hle;refine⟨by rw[List.length_map,List.length_range];omega,λo ho=>?_⟩;obtain⟨i,hi,rfl⟩:=List.mem_map.1 ho;have h5:=(hf i (List.mem_range.1 hi)).2.2.2.2.2.2.2;have h6:=qop ((List.range len).map D) (D i) (List.mem_map.2 ⟨i,hi,rfl⟩);omega
def Qd6:Ren:=
 {f:=λn=>n
  t:=fun
   | 5=>5
   | 119=>355
   | 138=>357
   | 139=>358
   | n=>n
  g:=fun
   | 3=>0
   | 4=>1
   | n=>n}
theorem q7i:U8Types Tryz.prog Qd6:={
 t5:=by kernel_rfl
 t119:=by kernel_rfl
 t138:=by kernel_rfl
 t139:=by kernel_rfl}
theorem q7h:U8Extra Tryz.prog Qd6:={
 n3:=by kernel_rfl
 n4:=by kernel_rfl
 y3:=by kernel_rfl
 y4:=by kernel_rfl
 c5:=by kernel_rfl
 c119:=by kernel_rfl
 c138:=by kernel_rfl}
theorem qwz:Rows.laid_unicode_utf8_first=Lib.firstData:=by kernel_rfl
theorem qtw:(Rows.laid_unicode_utf8_acceptRanges:DataW Unit)=Lib.acceptData:=by kernel_rfl
def Qdo:DataW Unit->Vq
 | .lit (.int k z)=>.int k z
 | _=>.int .u8 0
def q67:DataW Unit->Array Vq
 | .agg ds=>(ds.map Qdo).toArray
 | _=>#[]
def Qds:DataW Unit->List Vq
 | .agg es=>es.map Qdo
 | _=>[]
def Qgf:DataW Unit->Array Vq
 | .agg ds=>(ds.flatMap Qds).toArray
 | _=>#[]
def lay(h:Array Obj)(g:Nat)(c:Array Vq):Array Obj:=h.modify g fun
 | .cells _ t frozen=>.cells c t frozen
 | o=>o
def q4c(w:Wq):Wq:=
 {w with heap:=lay (lay (lay (lay (lay w.heap 0 (q67 Rows.laid_unicode_utf8_first)) 1 (Qgf Rows.laid_unicode_utf8_acceptRanges)) 2 (q67 Rows.laid_internal_strconv_uint64pow10)) 4 (q67 Rows.laid_math_bits_deBruijn32tab)) 5 (q67 Rows.laid_math_bits_deBruijn64tab)}
end Go.Proofs.YtjajnhemgphefaaGreatDoor
namespace Go.Proofs.YtjajnhemgphefaaGreatDoor
open Go renaming World->Wq,Value->Vq
open Go.RowKit Go.Shelf
def F0(_:Nat)(e:Eg)(y:Er):Prop:=e.fds=[]/\y.feeds=[]
def LL0(_:Wq)(vls vks:Vq)(Q:Nat->Prop):Prop:=vls=.slice none 0 0/\vks=.slice none 0 0/\∀k,¬Q k
theorem q33(e:Eg)(s:ByteArray)(t:Int):(qjx e s t).2.fds=e.fds:=by
 unfold qjx qog
 repeat' split
 all_goals rfl
theorem qul:FOk F0:=by
 refine⟨λn e y h=>h,λn e y s t h=>⟨by rw[q33];exact h.1,by rw[qpb];exact h.2⟩,λn e y ds c e' y' r r' _ _ h h1 h2=>?_,λn rs win lat que M st=>⟨rfl,rfl⟩,λn e y _ h=>Qag h.1,λb n e y ds _ _ h i hi=>?_⟩
 ·have hx:e'.fds=[]:=by
   rcases h1 with⟨_,rfl,_⟩ | ⟨_,_,⟨_,rfl⟩ | ⟨_,M',fds',_,hl,_,rfl⟩⟩
   ·exact h.1
   ·exact h.1
   ·rw[h.1] at hl;exact List.eq_nil_of_length_eq_zero hl
  have hy:y'.feeds=[]:=by
   rcases h2 with⟨_,rfl,_⟩ | ⟨_,⟨_,rfl,_⟩ | ⟨_,_,st,_,rfl⟩⟩
   ·exact h.2
   ·exact h.2
   ·show y.feeds.map _=[];rw[h.2];rfl
  exact⟨⟨hx,hy⟩,by rw[hy];simp⟩
 ·rw[h.2] at hi;simp at hi
theorem qph:qzk LL0:=⟨λW W' vls vks Q ex h _ _=>h,λW vls vks Q h k hk=>absurd hk (h.2.2 k)⟩
theorem Qae{F:Nat->Eg->Er->Prop}:q15 F LL0:=by
 rintro n w bw W ⟨vl,vls,vks,ps,Q,h⟩ hn;obtain⟨rfl,rfl,_⟩:=h.ll;have c1:W.cell? ⟨bw,1,none⟩=some (.slice none 0 0):=by simp[World.cell?,h.box]
 clear h;go_enter Tryz.func38,Tryz.ntmps38;go_wp2_with fail
 go_loopw [3] (λp wr=>p=.int .i64 0/\W=wr) (λ_ _=>0)
 case atStart=>exact⟨rfl,rfl⟩
 case round=>
  obtain⟨rfl,rfl⟩:=hrel;go_wp2;go_ret;exact⟨rfl,Below.refl _ _⟩
theorem q2q(os:List Stp)(vsc:Vq)(W:Wq)(hsc:qof W vsc os)(hol:os.length<=1048576)(hs:∀o∈os,o.s.size<=1048576/\-9223372036854775808<=o.e/\o.e<=9223372036854775807)(hT:Lib.Utf8Tabs 0 1 W) :
  Calls Tryz.prog 5 #[vsc] W λen W'=>en=.returned (.bool true)/\Below W.heap.size W W':=by
 have hpl:Hid (Calls Tryz.prog 16 #[vsc,.slice (some ⟨W.heap.size,0,none⟩) 4 4] (W.alloc (.cells #[.int .i64 2,.int .i64 3,.int .i64 4,.int .i64 6] 3)) λen W'=>en=.returned (.bool true)/\Below W.heap.size W W'):=by
  have hb:Below W.heap.size W (W.alloc (.cells #[.int .i64 2,.int .i64 3,.int .i64 4,.int .i64 6] 3)):=(Below.refl _ W).alloc zl _;refine (q03 qul qph (λW=>⟨rfl,rfl,λk=>id⟩) Qae os [2,3,4,6] vsc (.slice (some ⟨W.heap.size,0,none⟩) 4 4) _ (hsc.below hb) ?_ hol (by decide) (λo ho hk=>?_) (Utf8Tabs_below hT hb)).mono ?_
  ·refine⟨by simp,.inr ⟨W.heap.size,4,#[.int .i64 2,.int .i64 3,.int .i64 4,.int .i64 6],rfl,Nat.zero_le _,World.alloc_heap_new W _,by decide,by unfold maxLen;decide,by simp,by simp⟩⟩
  ·obtain⟨h1,h2⟩:=hs o ho;simp only[List.mem_cons,List.not_mem_nil,or_false] at hk;rcases hk with hk | hk | hk | hk
   ·exact q1j qul qph o hk h1
   ·exact qm2 qul qph o (.inl hk) h1 h2
   ·exact qm2 qul qph o (.inr (.inl hk)) h1 h2
   ·exact qm2 qul qph o (.inr (.inr hk)) h1 h2
  ·rintro en W' ⟨k1,k2⟩;exact⟨k1,hb.trans (k2.mono hb.size)⟩
 obtain⟨sa,sc,rfl,_⟩:=hsc;clear hs hT hol;go_enter Tryz.func5,Tryz.ntmps5;go_wp2_with fail;refine Calls.mono hpl.out ?_;rintro e' W1 ⟨rfl,hb1⟩;have HB:Hid _:=hb1;clear hpl hb1;go_wp2;go_ret;exact⟨rfl,HB.out⟩
end Go.Proofs.YtjajnhemgphefaaGreatDoor
namespace Go.Proofs.YtjajnhemgphefaaGreatDoor
open Go renaming World->Wq,Value->Vq
open Go.ChangeShapes Go.WideShapes Go.ChangeAt Go.RowKit Go.Shelf
theorem Qgi{W:Wq}(h:laidMetH Tryz.prog Rows.endsUptoRow.laid W):Lib.Utf8Tabs 0 1 W:=by
 have h2:laidMet Tryz.prog Rows.endsUptoRow.laid W:=h;refine utf8Tabs_of_readsT q7i q7h (Lib.laidMet.reads h2 ?_) (Lib.laidMet.reads h2 ?_)
 ·rw[<- qwz];simp[Rows.endsUptoRow]
 ·rw[<- qtw];simp[Rows.endsUptoRow]
theorem q2n(H:Type)(enc:TypeId×Vq->H)(W:Wq)(base:Nat)(args:Array Vq)(ds gs:List (DataW H))(before:List MemPlace)(qqy:∀(j:Nat) t v,Tryz.f5.params[j]?=some t->args[j]?=some v->Value.okWide Tryz.prog W .any base t v)(hW:DataW.Whole enc Tryz.prog Tryz.f5.params.toList Rows.endsSpec.vars false W args.toList ds gs before)(hk:Rows.uptoSmall H (ds++gs)=true)(hL:laidMetH Tryz.prog Rows.endsUptoRow.laid W) :
  Calls Tryz.prog 5 args W λe W'=>∃v,e=.returned v/\Rows.endsSpec.post enc Tryz.prog Tryz.f5 false true false false W args v W':=by
 have hT:=Qgi hL;have hW':=hW;obtain⟨p,q,hA0,hV,rfl,hfz,hnd⟩:=hW;have hA:DataW.TrodAll enc Tryz.prog W 0 (λ_=>true) true Tryz.f5.params.toList args.toList ds p:=hA0;rw[Tryz.params5] at hA qqy;obtain⟨v0,vs0,d0,ds0,p0,q0,qlh,rfl,rfl,h0,r0⟩:=trodAll_cons hA;obtain⟨rfl,rfl,rfl⟩:=trodAll_nil r0;obtain rfl:args=#[v0]:=by cases args;simp_all
 obtain⟨rfl,rfl⟩:=trodVars_none hV;obtain⟨a0,len,cap,rfl⟩:=okWide_slice Tryz.underlying36 (qqy 0 36 v0 rfl rfl);clear hA0;simp only[List.append_nil] at hW' hk;have hlt:∀x∈p0,x.block < W.heap.size:=λx hx=>by simpa using hW'.lt x hx
 have walk:Calls Tryz.prog 5 #[.slice a0 len cap] W λe w'=>e=.returned (.bool true)/\Below W.heap.size W w':=by
  obtain⟨fuel,hf⟩:=h0;obtain⟨l,hsc,hin,hbk⟩:=q5a hf
  have hk2:Rows.uptoBulk d0<=1048576:=by
   have h:=of_decide_eq_true hk;simp only[Rows.uptoBulkAll] at h;omega
  obtain⟨h1,h2⟩:=hbk hk2;exact q2q l _ W hsc h1 (λo ho=>⟨h2 o ho,hin o ho⟩) hT
 refine walk.mono λe W2 ⟨he,hB⟩=>?_;subst he;refine⟨_,rfl,_,_,_,[],p0,[],hW',?_,?_,rfl,hB.frame _,λh=>by cases h⟩
 ·exact trodAll_mk1 (shut_bool Tryz.underlying4 _)
 ·exact trodAll_mk1 (Below.trod q4b (by kernel_rfl) (of_decide_eq_true (by kernel_rfl)) h0 hB hlt)
