/- A part -/
import Derived.Test.YtjajnhemgphefaaGreatDoorJChg
set_option linter.all false
set_option maxRecDepth 100000
set_option maxHeartbeats 4000000
open List renaming length->aB,findIdx_cons->aZ
open Go.World renaming cell?->aC,frozen?->aD,ownsRow->aE,size_alloc->bB
open Go.Value renaming ownBlock->aF,slice->aH,string->aI,agg->aJ,bool->aK,tuple->aL,oneCell'->bD
open Go.Obj renaming cells->aN
open Go.Ending renaming returned->aO
open Or renaming inl->aQ,inr->aR
open Option renaming some->aV,none->aW
open Go.RowKit.Below renaming heap_setCell->aX,refl->aY,heap_alloc->bC
open Go.Lib renaming idxFromS->bE,idxOfS->bF
open Go renaming bodyPost_ret->bG
namespace Go.Proofs.YtjajnhemgphefaaGreatDoor
open Go renaming World->Wq,Value->Vq
open Go.RowKit Go.Shelf
theorem pu(t:Tm)(w:Wq):Cs 139 #[aJ #[St t.name,Ii t.num]] w λe w'=>e=aO (aK t.name.toList.isEmpty)/\Below w.heap.size w w':=by go_enter Tryz.func139,Tryz.ntmps139;go_wp2;go_ret;exact⟨rfl,(aY _ w).alloc zl _⟩
theorem Gu{W:Wq}{b e size n:Nat}{v:Vq}{xs:List Vq}(h:aE W b e size v n xs):∃a c,v=aH a n c:=by
 obtain⟨_,⟨z,C⟩|⟨g,d,A,z,_⟩⟩:=h
 .grind
 .grind
theorem ya(d:List ByteArray)(x:ByteArray):(bF d x<0/\dS d x=aB d)\/(bF d x=(dS d x:Int)/\dS d x<aB d):=by
 have G:∀(d:List ByteArray) (i:Nat),(bE d x i<0/\dS d x=aB d)\/(bE d x i=((i+dS d x:Nat):Int)/\dS d x<aB d):=by
  intro d
  induction d with
  |nil=>intro i;left;simp[bE,dS]
  |cons y d ih=>
   intro i;by_cases C:y=x
   .right;subst C;have z:dO y y=true:=by{unfold dO;simp};simp[bE,dS,aZ,z]
   .have z:dO x y=false:=by
     cases h:dO x y with
     |false=>rfl
     |true=>exact absurd ((tt x y).1 h).symm C
    rcases ih (i+1) with⟨A,E⟩|⟨A,E⟩
    .left;refine⟨by simp only[bE,if_neg C];exact A,?_⟩;unfold dS at E ⊢;simp[aZ,z,E]
    .right;refine⟨?_,?_⟩;{simp only[bE,if_neg C];rw[A];unfold dS;simp[aZ,z];omega};{grind [dS]}
 rcases G d 0 with h|⟨z,A⟩
 .left;exact h
 .right;exact⟨by unfold bF;rw[z];simp,A⟩
theorem JA(C:Nat)(t:ByteArray)(p r:Int)(M:t.size<=1000000)(w:Wq):Cs 261 #[Pt C,dU 1 t p r] w λe w'=>e=aO (aJ #[St t,Ii 0])/\Below w.heap.size w w':=by
 have E:Hid (∀W,Cs 97 #[St t] W λe w'=>e=aO (St t)/\Below W.heap.size W w'):=λW=>ug t W M;unfold dU fL;obtain⟨W0,d⟩:∃W0,(w.alloc (aN #[Ii 1,St t,Ii p,Ii r] 191)).alloc (aN #[St ⟨#[]⟩,Ii 0] 166)=W0:=⟨_,rfl⟩;have z:Below w.heap.size w W0:=by rw[<-d];exact ((aY _ w).alloc zl _).alloc (by simp) _
 have ae:W0.heap[w.heap.size+1]?=cC #[St ⟨#[]⟩,Ii 0] 166:=by rw[<-d];have:=zn (w.alloc (aN #[Ii 1,St t,Ii p,Ii r] 191)) (aN #[St ⟨#[]⟩,Ii 0] 166);rw[bB] at this;exact this
 have G:Hid (∀W1,Below W0.heap.size W0 W1->W1.heap[w.heap.size+1]?=cC #[St ⟨#[]⟩,Ii 0] 166/\Below w.heap.size w W1):=λW1 A=>⟨(A.block _ (zg ae).1).trans ae,z.trans (A.mono z.size)⟩;have z0:aC W0 (Ad w.heap.size 0)=aV (Ii 1):=by rw[<-d];simp
 have z1:aC W0 (Ad w.heap.size 1)=aV (St t):=by rw[<-d];simp
 go_enter Tryz.func261,Tryz.ntmps261
 go_wp2_with (go_at_call 97;refine (E.o _).mono ?_;rintro e W1 ⟨rfl,cl⟩;have⟨kx,kb⟩:=G.o W1 cl;have O:aC W1 (Ad (w.heap.size+1) 0)=aV (St ⟨#[]⟩):=(by simp[aC,kx]);have Z:aC W1 (Ad (w.heap.size+1) 1)=aV (Ii 0):=(by simp[aC,kx]);have f0:aD W1 (Ad (w.heap.size+1) 0)=false:=(by simp[aD,kx]);have f1:aD W1 (Ad (w.heap.size+1) 1)=false:=(by simp[aD,kx]))
 (try simp only[Exit.inBlock,Exit.then])
 refine bG (v:=aJ #[St t,Ii 0]) (by simp[results,Tryz.results261,go_sem,O,Z]) rfl ?_;exact⟨rfl,(kb.setCell (p:=⟨w.heap.size+1,0,aW⟩) (by simp) _).setCell (p:=⟨w.heap.size+1,1,aW⟩) (by simp) _⟩
theorem Hd(z:Nat)(st:Int)(vr va vv:Vq)(d:List ByteArray)(A:Nat)(k:Int)(t:ByteArray)(p r:Int)(hk:k≠1)(hl:aB d<=100)(w:Wq)(bj:A<=w.heap.size)(M:w.heap[z]?=cC #[Ii st,vr,va,vv] 179)(E:aE w A 9 1 vv (aB d) (d.map aI)):Cs 261 #[Pt z,dU k t p r] w λe w'=>e=aO (aJ #[St ⟨#[]⟩,Ii (dS d t)])/\
   ∃ac,w'.heap[z]?=cC #[Ii st,vr,va,ac] 179/\aE w' A 9 1 ac (aB (Qq d t)) ((Qq d t).map aI)/\dD w w' (λj=>j=z\/aV j=aF vv):=by
 have aw:z<w.heap.size:=(zg M).1;have cz:(k == 1)=false:=by simp[hk]
 obtain⟨a,c,rfl⟩:=Gu E;have Qdy:∀g,aF (aH a (aB d) c)=aV g->g≠z:=Qe E M (by decide);have⟨i0,hi,bf,b5,bn⟩:=info_parts Tryz.info9;unfold dU fL;obtain⟨W0,ai⟩:∃W0,(w.alloc (aN #[Ii k,St t,Ii p,Ii r] 191)).alloc (aN #[St ⟨#[]⟩,Ii 0] 166)=W0:=⟨_,rfl⟩;have C:Below w.heap.size w W0:=by rw[<-ai];exact ((aY _ w).alloc zl _).alloc (by simp) _
 have cf:W0.heap.size=w.heap.size+2:=by rw[<-ai];simp
 have ae:W0.heap[w.heap.size+1]?=cC #[St ⟨#[]⟩,Ii 0] 166:=by rw[<-ai];have:=zn (w.alloc (aN #[Ii k,St t,Ii p,Ii r] 191)) (aN #[St ⟨#[]⟩,Ii 0] 166);rw[bB] at this;exact this
 have z0:aC W0 (Ad w.heap.size 0)=aV (Ii k):=by rw[<-ai];simp
 have z1:aC W0 (Ad w.heap.size 1)=aV (St t):=by rw[<-ai];simp
 have b6:aC w (Ad z 3)=aV (aH a (aB d) c):=zc M;have h3:aC W0 (Ad z 3)=aV (aH a (aB d) c):=(C.cell (p:=⟨z,3,aW⟩) aw).trans b6;have r0:aC W0 (Ad (w.heap.size+1) 0)=aV (St ⟨#[]⟩):=zc ae;have r1:aC W0 (Ad (w.heap.size+1) 1)=aV (Ii 0):=zc ae;have f0:aD W0 (Ad (w.heap.size+1) 0)=false:=by simp[aD,ae]
 have f1:aD W0 (Ad (w.heap.size+1) 1)=false:=by simp[aD,ae]
 have b4:aE W0.drew A 9 1 (aH a (aB d) c) (aB d) (d.map aI):=qj E (C.drew);have G:Hid (Cs 191 #[aH a (aB d) c,St t] W0.drew λe w'=>e=aO (Ii (bF d t))/\w'=W0.drew):=Iz b4 (by omega) t;have Qg2:W0.heap[z]?=cC #[Ii st,vr,va,aH a (aB d) c] 179:=(C.block z aw).trans M;rcases ya d t with⟨ay,a7⟩|⟨az,a7⟩
 .have bc:Hid (Qq d t=d++[t]):=by{show _=_;unfold Qq;rw[if_neg (by omega)]};have Qf:=aA a7;generalize hix:bF d t=ix at *;have cp:(ix:Int)<0:=ay;have hA:Hid (aE (W0.alloc (aN #[St t] 9)).drew.drew A 9 1 (aH a (aB d) c) (aB d) (d.map aI)):=qj E ((C.alloc (by omega) _).drew).drew;have hN:Hid (∀j u,[aI t][j]?=aV u->aC (W0.alloc (aN #[St t] 9)).drew.drew ((⟨W0.heap.size,0,aW⟩:Addr).add j)=aV u):=λj u hj=>cell_one_new W0 _ _ j u hj
  have hG:Hid (∀w1,(W0.alloc (aN #[St t] 9)).drew.drew.grownBy w1 (aF (aH a (aB d) c))->
    w1.heap[z]?=cC #[Ii st,vr,va,aH a (aB d) c] 179/\w1.heap[w.heap.size+1]?=cC #[St ⟨#[]⟩,Ii 0] 166/\dD w w1 (λj=>j=z\/aV j=aF (aH a (aB d) c))):=by
   intro w1 hg;have ch:dD W0 w1 (λj=>aV j=aF (aH a (aB d) c)):=((((dD.refl W0 _).alloc _).drew).drew).grown hg (λk e _=>e.symm);have hc:dD w w1 (λj=>aV j=aF (aH a (aB d) c)):=(dD.ofBelow _ C).trans ch;refine⟨(hc.block z aw (λe=>Qdy z e.symm rfl)).trans M,(ch.block _ (zg ae).1 (λe=>?_)).trans ae,hc.mono (λ_ _ e=>aR e)⟩;have⟨_,c5,_⟩:=Qp E _ e.symm;omega
  have b9:aB d+1<=maxLen:=by{unfold maxLen;omega};have bi:(aB d+1)*16<=140737488355328:=by{omega};have ct:Hid (A<=(W0.alloc (aN #[St t] 9)).drew.drew.heap.size):=by{show A<=(W0.alloc (aN #[St t] 9)).heap.size;simp;omega};have c3:∀O,aC (W0.alloc O) (Ad z 3)=aV (aH a (aB d) c):=λO=>cell_later ((aY W0.heap.size W0).alloc zl O) h3;have n1:w.heap.size+1≠W0.heap.size:=by{omega};have n2:z≠W0.heap.size:=by{omega};have n3:w.heap.size≠W0.heap.size:=by{omega};have n4:w.heap.size+1≠z:=by{omega};have Z:z≠w.heap.size+1:=by{omega};clear M C cf E b4 ae b6 ay a7 hix Qg2;go_enter Tryz.func261,Tryz.ntmps261;go_wp2
  go_region_with (go_at_call 191;refine Calls.mono G.o ?_;rintro e w' ⟨rfl,rfl⟩)
  all_goals
   go_wp2
   go_region_law (refine pV rfl (.tmp 31) (.tmp 34) 22 rfl A 9 i0 (St ⟨#[]⟩) 1 16 Tryz.underlying22 hi bf b5 bn rfl (by decide) (aH a (aB d) c) (aB d) (d.map aI) (by simp[Act.eval,Act.put]) hA.o ⟨W0.heap.size,0,aW⟩ 1 1 [St t] (by simp[Act.eval,Act.put]) rfl hN.o (by simp[bD]) b9 bi ct.o ?_;intro v' w1 ad aq;have⟨g',al,b3⟩:=ownsRow_succ ad;subst b3;have⟨ao,ax,b0⟩:=hG.o w1 aq;have d3:aC w1 (Ad z 3)=aV (aH a (aB d) c):=(by simp[aC,ao]);have e3:aD w1 (Ad z 3)=false:=(by simp[aD,ao]);have q0:aC w1 (Ad (w.heap.size+1) 0)=aV (St ⟨#[]⟩):=(by simp[aC,ax]);have q1:aC w1 (Ad (w.heap.size+1) 1)=aV (Ii 0):=(by simp[aC,ax]);have q2:aD w1 (Ad (w.heap.size+1) 0)=false:=(by simp[aD,ax]);have q3:aD w1 (Ad (w.heap.size+1) 1)=false:=(by simp[aD,ax]))
   all_goals
    go_wp2
    (try simp only[Exit.inBlock,Exit.then])
    refine bG (v:=aJ #[St ⟨#[]⟩,Ii (aB d)]) (by simp[results,Tryz.results261,go_sem,q0,q1,n4,Z]) rfl ?_;rw[Qf.o,bc.o];refine⟨rfl,Sc g' (aB d+1) al,?_,?_,?_⟩;{exact (aX _ _ _ _ Z).trans ((aX _ _ _ _ Z).trans (qw ao 3 _))};{have:=Qk (Qk (Qk ad ⟨z,3,aW⟩ (Sc g' (aB d+1) al) (Qe ad ao (by decide))) ⟨w.heap.size+1,0,aW⟩ (St ⟨#[]⟩) (Qe ad ax (by decide))) ⟨w.heap.size+1,1,aW⟩ (Ii (aB d)) (Qe ad ax (by decide));simpa using this};{exact ((b0.setCell (Ad z 3) _ (λ_=>aQ rfl)).setCell (Ad (w.heap.size+1) 0) _ (λh=>absurd h (by simp))).setCell (Ad (w.heap.size+1) 1) _ (λh=>absurd h (by simp))}
 .have bc:Hid (Qq d t=d):=by{show _=_;unfold Qq;rw[if_pos a7]};rw[az] at G;generalize dS d t=sn at *;have Z:z≠w.heap.size+1:=by{omega};have bu:Below w.heap.size w ((W0.drew.setCell (Ad (w.heap.size+1) 0) (St ⟨#[]⟩)).setCell (Ad (w.heap.size+1) 1) (Ii sn)):=(C.drew.setCell (p:=⟨w.heap.size+1,0,aW⟩) (by simp) _).setCell (p:=⟨w.heap.size+1,1,aW⟩) (by simp) _;have cv:Hid (aE ((W0.drew.setCell (Ad (w.heap.size+1) 0) (St ⟨#[]⟩)).setCell (Ad (w.heap.size+1) 1) (Ii sn)) A 9 1 (aH a (aB d) c) (aB d) (d.map aI)):=qj E bu;have cq:Hid (dD w ((W0.drew.setCell (Ad (w.heap.size+1) 0) (St ⟨#[]⟩)).setCell (Ad (w.heap.size+1) 1) (Ii sn)) (λj=>j=z\/aV j=aF (aH a (aB d) c))):=dD.ofBelow _ bu;clear bu;clear M C cf E b4 ae b6 az;go_enter Tryz.func261,Tryz.ntmps261;go_wp2
  go_region_with (go_at_call 191;refine Calls.mono G.o ?_;rintro e w' ⟨rfl,rfl⟩)
  all_goals
   go_wp2
   (try simp only[Exit.inBlock,Exit.then])
   refine bG (v:=aJ #[St ⟨#[]⟩,Ii sn]) (by simp[results,Tryz.results261,go_sem,r0,r1]) rfl ?_;rw[bc.o];refine⟨rfl,aH a (aB d) c,?_,?_,?_⟩;{exact (aX _ _ _ _ Z).trans ((aX _ _ _ _ Z).trans Qg2)};{exact cv.o};{exact cq.o}
theorem JE{w w3:Wq}{d g n M E O k kv c:Nat}{vr z A:Vq}{ap:Array Vq}{ys zs us:List Vq}{rel y:Vq}{ex:Nat->Prop}(hn:1<=n)(hh:w3.heap[d]?=cC #[Ii 3,vr,Sc g n c,A] 179)(hg:w3.heap[g]?=cC ap 92)(C:aE w3 M 92 2 (Sc g n c) n (ys++[rel,y]))(c4:aE w3 E 166 2 z k zs)(ce:aE w3 O 9 1 A kv us)(hc:dD w w3 (λj=>j=d\/aV j=aF (aH (aV ⟨g,0,aW⟩) n c)\/ex j)):((w3.setCell (Ad g ((n-1)*2+1)) z).setCell (Ad d 0) (Ii 4)).heap[d]?=cC #[Ii 4,vr,Sc g n c,A] 179/\
  aE ((w3.setCell (Ad g ((n-1)*2+1)) z).setCell (Ad d 0) (Ii 4)) M 92 2 (Sc g n c) n (ys++[rel,z])/\
  aE ((w3.setCell (Ad g ((n-1)*2+1)) z).setCell (Ad d 0) (Ii 4)) E 166 2 z k zs/\
  aE ((w3.setCell (Ad g ((n-1)*2+1)) z).setCell (Ad d 0) (Ii 4)) O 9 1 A kv us/\
  dD w ((w3.setCell (Ad g ((n-1)*2+1)) z).setCell (Ad d 0) (Ii 4)) (λj=>j=d\/aV j=aF (aH (aV ⟨g,0,aW⟩) n c)\/ex j):=by
 have Z:g≠d:=Qe C hh (by decide) g rfl;refine⟨qw ((aX _ _ _ d (λe=>Z e.symm)).trans hh) 0 _,?_,?_,?_,(hc.setCell (Ad g ((n-1)*2+1)) z (λ_=>aR (aQ rfl))).setCell (Ad d 0) _ (λ_=>aQ rfl)⟩
 .exact Qk (Dh C hn rfl) _ _ (λg' G=>by simp[aF] at G;subst G;exact Z)
 .grind [Qk,Qe]
 .grind [Qk,Qe]
theorem Iu(z:Nat)(st:Int)(O M A:Vq)(d:List ByteArray)(C:Nat)(k:Int)(t:ByteArray)(p r:Int)(hk:k=1\/k=2)(ht:t.size<=1000000)(hl:aB d<=100)(w:Wq)(bj:C<=w.heap.size)(G:w.heap[z]?=cC #[Ii st,O,M,A] 179)(hV:aE w C 9 1 A (aB d) (d.map aI)):Cs 261 #[Pt z,dU k t p r] w λe w'=>e=aO (aJ #[St (gE d k t).name,Ii (gE d k t).num])/\
   ∃Z,w'.heap[z]?=cC #[Ii st,O,M,Z] 179/\aE w' C 9 1 Z (aB (gT d k t)) ((gT d k t).map aI)/\dD w w' (λj=>j=z\/aV j=aF A):=by
 rcases hk with rfl|rfl
 .refine (JA z t p r ht w).mono ?_;rintro e w' ⟨rfl,E⟩;exact⟨rfl,A,(E.block z (zg G).1).trans G,qj hV E,dD.ofBelow _ E⟩
 .exact Hd z st O M A d C 2 t p r (by decide) hl w bj G hV
theorem CD(z:Nat)(M va G:Vq)(n aj ag bS:Nat)(ys:List Vq)(rel:Vq)(aa:Option Addr)(m A:Nat)(zs:List Vq)(E:List ByteArray)(k:Int)(t:ByteArray)(p r:Int)(b7:k=1\/k=2)(a8:1<=n)(hn:n<=1000)(hm:m<=1000)(cn:aB E<=100)(ht:t.size<=1000000)(w:Wq)(cr:ag<=w.heap.size)(bj:bS<=w.heap.size)(hh:w.heap[z]?=cC #[Ii 3,M,va,G] 179)(qt:aE w aj 92 2 va n (ys++[rel,aH aa m A]))(am:aE w ag 166 2 (aH aa m A) m zs)(hV:aE w bS 9 1 G (aB E) (E.map aI)):Cs 233 #[Pt z,dU k t p r] w λe w'=>e=aO (aL #[])/\
   ∃v' C,w'.heap[z]?=cC #[Ii 4,M,va,C] 179/\aE w' aj 92 2 va n (ys++[rel,v'])/\aE w' ag 166 2 v' (m+1) (zs++[St (gE E k t).name,Ii (gE E k t).num])/\
    aE w' bS 9 1 C (aB (gT E k t)) ((gT E k t).map aI)/\
    dD w w' (λj=>j=z\/aV j=aF va\/aV j=aF (aH aa m A)\/aV j=aF G):=by
 obtain⟨TN,bh⟩:∃TN,(gE E k t).name=TN:=⟨_,rfl⟩;obtain⟨TM,be⟩:∃TM,(gE E k t).num=TM:=⟨_,rfl⟩;obtain⟨Z,bv⟩:∃Z,gT E k t=Z:=⟨_,rfl⟩;rw[bh,be,bv];have aw:z<w.heap.size:=(zg hh).1;have h0:aC w (Ad z 0)=aV (Ii 3):=zc hh;obtain⟨g,c,ap,rfl,hg,c6,cp,hy,c9,da⟩:=wX qt a8;have co:g<w.heap.size:=(zg hg).1;have db:g≠z:=Qe qt hh (by decide) g rfl;have ci:(w.alloc (aN (fL k t p r) 191)).heap[z]?=cC #[Ii 3,M,Sc g n c,G] 179:=(bC _ _ _ aw).trans hh;have bb:=zW z 3 M G g n c a8 hn _ ci;have⟨i0,hi,bf,b5,bn⟩:=info_parts Tryz.info87;unfold dU;unfold fL at bb ⊢;go_enter Tryz.func233,Tryz.ntmps233;go_wp2_with fail;refine bb.mono ?_;rintro e w2 ⟨rfl,q,a9⟩;have av:dD w w2 (λ_=>False):=by rw[a9];exact⟨rfl,rfl,rfl,by show _<=(w.alloc _).heap.size;simp,λj hj _=>bC _ _ j hj⟩
 have bq:w2.heap[w.heap.size]?=cC #[Ii k,St t,Ii p,Ii r] 191:=by rw[a9];exact zn w _
 clear a9 bb ci;have bk:w2.heap[z]?=cC #[Ii 3,M,Sc g n c,G] 179:=(av.block z aw (λh=>h)).trans hh;have b8:w2.heap[g]?=cC ap 92:=(av.block g co (λh=>h)).trans hg;have ak:∀(g':Nat) (c':Array Vq) (T:TypeId),w.heap[g']?=cC c' T->w2.heap[g']?=cC c' T:=λg' c' T ab=>(av.block g' (zg ab).1 (λh=>h)).trans ab;have cd:aE w2 aj 92 2 (Sc g n c) n (ys++[rel,aH aa m A]):=Qc qt (λg' c' ah ab=>ak _ _ _ ab);have cc:aE w2 ag 166 2 (aH aa m A) m zs:=Qc am (λg' c' ah ab=>ak _ _ _ ab);have cj:aE w2 bS 9 1 G (aB E) (E.map aI):=Qc hV (λg' c' ah ab=>ak _ _ _ ab);have c8:w.heap.size<=w2.heap.size:=av.size;clear hh hg qt am h0 hV ak;have c0:∀j,aC w2 (Ad w.heap.size j)=([Ii k,St t,Ii p,Ii r]:List Vq)[j]?:=λj=>by simp[aC,bq]
 have c2:aC w2 (Ad g ((n-1)*2+1))=aV (aH aa m A):=by simp[aC,b8,hy]
 have Qgr:Hid (∀W,Below w2.heap.size w2 W->Cs 261 #[Pt z,aJ #[Ii k,St t,Ii p,Ii r]] W λe W1=>e=aO (aJ #[St TN,Ii TM])/\
   ∃C,W1.heap[z]?=cC #[Ii 3,M,Sc g n c,C] 179/\W1.heap[g]?=cC ap 92/\aE W1 aj 92 2 (Sc g n c) n (ys++[rel,aH aa m A])/\aE W1 ag 166 2 (aH aa m A) m zs/\
    aE W1 bS 9 1 C (aB Z) (Z.map aI)/\ag<=W1.heap.size/\dD w W1 (λj=>j=z\/aV j=aF (aH (aV ⟨g,0,aW⟩) n c)\/aV j=aF (aH aa m A)\/aV j=aF G)):=by
  intro W hb;have ak:∀(g':Nat) (c':Array Vq) (T:TypeId),w2.heap[g']?=cC c' T->W.heap[g']?=cC c' T:=λg' c' T ab=>(hb.block g' (zg ab).1).trans ab;have ck:=Qc cj (λg' c' ah ab=>ak _ _ _ ab);have cl:=hb.size;refine (Iu z 3 M _ G E bS k t p r b7 ht cn W (by omega) (ak _ _ _ bk) ck).mono ?_;rintro e W1 ⟨rfl,C,q1,q2,q3⟩
  have an:∀(g':Nat) (c':Array Vq) (T:TypeId),T≠179->T≠9->w2.heap[g']?=cC c' T->W1.heap[g']?=cC c' T:=by
   intro g' c' T t1 t2 ab;have hW:=ak _ _ _ ab;rw[q3.block g' (zg hW).1 (λe=>?_)];{exact hW}
   .rcases e with rfl|e
    .rw[ak _ _ _ bk] at hW;cases hW;exact t1 rfl
    .have⟨_,_,d,fz,hd⟩:=Qp ck _ e.symm;rw[hW] at hd;cases hd;exact t2 rfl
  rw[bh,be];rw[bv] at q2;refine⟨rfl,C,q1,an _ _ _ (by decide) (by decide) b8,Qc cd (λg' c' ah ab=>an _ _ _ (by decide) (by decide) ab),Qc cc (λg' c' ah ab=>an _ _ _ (by decide) (by decide) ab),q2,by have:=q3.size;omega,?_⟩;refine (av.mono (λ_ _ e=>e.elim)).trans ((dD.ofBelow _ hb).trans (q3.mono (λj _ e=>?_)));rcases e with e|e
  .exact aQ e
  .exact aR (aR (aR e))
 have hG:Hid (∀W1 O w3 C,W1.heap[z]?=cC #[Ii 3,M,Sc g n c,C] 179->W1.heap[g]?=cC ap 92->aE W1 aj 92 2 (Sc g n c) n (ys++[rel,aH aa m A])->aE W1 ag 166 2 (aH aa m A) m zs->
    aE W1 bS 9 1 C (aB Z) (Z.map aI)->dD w W1 (λj=>j=z\/aV j=aF (aH (aV ⟨g,0,aW⟩) n c)\/aV j=aF (aH aa m A)\/aV j=aF G)->(W1.alloc O).grownBy w3 (aF (aH aa m A))->
   w3.heap[z]?=cC #[Ii 3,M,Sc g n c,C] 179/\w3.heap[g]?=cC ap 92/\aE w3 aj 92 2 (Sc g n c) n (ys++[rel,aH aa m A])/\aE w3 bS 9 1 C (aB Z) (Z.map aI)/\dD w w3 (λj=>j=z\/aV j=aF (aH (aV ⟨g,0,aW⟩) n c)\/aV j=aF (aH aa m A)\/aV j=aF G)):=by
  intro W1 O w3 C q1 q2 q3 q4 q5 q6 cw;have hc:dD W1 w3 (λj=>aV j=aF (aH aa m A)):=((dD.refl W1 _).alloc _).grown cw (λk e _=>e.symm);have an:∀(g':Nat) (c':Array Vq) (T:TypeId),T≠166->W1.heap[g']?=cC c' T->w3.heap[g']?=cC c' T:=by{intro g' c' T t1 ab;exact (hc.block g' (zg ab).1 (λe=>Qe q4 ab t1 g' e.symm rfl)).trans ab};exact⟨an _ _ _ (by decide) q1,an _ _ _ (by decide) q2,Qc q3 (λg' c' ah ab=>an _ _ _ (by decide) ab),Qc q5 (λg' c' ah ab=>an _ _ _ (by decide) ab),q6.trans (hc.mono (λj _ e=>aR (aR (aQ e))))⟩
 have cu:∀u∈[aI TN,Ii TM],u.oneCell'=true:=by simp[bD]
 have b9:m+1<=maxLen:=by unfold maxLen;omega
 have bi:(m+1)*24<=140737488355328:=by omega
 have c1:=aA bq;clear cd cc cj bk b8 av bq bh be bv;go_wp2
 go_region_law (first|(refine pV rfl (.tmp 16) (.tmp 20) 90 rfl ag 166 i0 (aJ #[St ⟨#[]⟩,Ii 0]) 2 24 Tryz.underlying90 hi bf b5 bn rfl (by decide) (aH aa m A) m zs (by simp[Act.eval,Act.put]) (aE.alloc z4 _) ⟨W1.heap.size,0,aW⟩ 1 1 [St TN,Ii TM] (by simp[Act.eval,Act.put]) rfl (cell_two_new W1 (St TN) (Ii TM) 166) cu b9 bi (by simp;omega) ?_;intro v' w3 cg au;have⟨g',al,b3⟩:=ownsRow_succ cg;subst b3;have⟨ao,bd,a6,ce,b0⟩:=hG.o W1 _ w3 C z1 z2 z3 z4 z5 z7 au;have d0:aC w3 (Ad z 0)=aV (Ii 3):=(by simp[aC,ao]);have d2:aC w3 (Ad g ((n-1)*2+1))=aV (aH aa m A):=(by simp[aC,bd,hy]);have f0:aD w3 (Ad z 0)=false:=(by simp[aD,ao]);have f2:aD w3 (Ad g ((n-1)*2+1))=false:=(by simp[aD,bd]))|(go_simp;(try go_wp2_with fail);refine (Qgr.o _ (Below.drew (aY w2.heap.size w2))).mono ?_;rintro e W1 ⟨rfl,C,z1,z2,z3,z4,z5,z6,z7⟩;have k2:aC W1 (Ad g ((n-1)*2+1))=aV (aH aa m A):=(by simp[aC,z2,hy]);have cy:∀O,aC (W1.alloc O) (Ad g ((n-1)*2+1))=aV (aH aa m A):=λO=>cell_later ((aY W1.heap.size W1).alloc zl O) k2;have c7:g≠W1.heap.size:=(by have:=(zg z2).1;omega);try go_wp2))
 all_goals
  go_wp2;refine bG (results_none rfl _ _ _) rfl ?_;exact⟨rfl,Sc g' (m+1) al,C,JE a8 ao bd a6 cg ce b0⟩
