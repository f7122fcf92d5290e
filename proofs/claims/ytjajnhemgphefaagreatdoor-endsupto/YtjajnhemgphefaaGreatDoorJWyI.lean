/- What is asked for: the two engines tell the same texts, in -/
import Derived.BigQuiet
import Derived.KernelRfl
import Derived.Test.YtjajnhemgphefaaGreatDoorJEgY
import Derived.Test.YtjajnhemgphefaaGreatDoorJWyD
import Derived.Sort.Walk0
set_option linter.unusedVariables false
set_option linter.unusedSimpArgs false
set_option maxRecDepth 100000
set_option maxHeartbeats 4000000
namespace Go.Proofs.YtjajnhemgphefaaGreatDoor
open Go renaming World->Wq,Value->Vq
open Go.RowKit Go.Shelf Go.Maps
variable {W3 V:Wq} {N B:Nat} {vr vn:Vq} {win lat que:Int} {us:List ByteArray}
def qa5(ns:List ByteArray)(rs:List Rl):List ByteArray:=rs.foldl (λns r=>nmL ns (Qr r)) ns
theorem qvg{rs:List Rl}{k:Nat}(h:k < rs.length):qa5 [] (rs.take (k+1))=nmL (qa5 [] (rs.take k)) (Qr rs[k]):=by
 unfold qa5;rw[List.take_succ_eq_append_getElem h,List.foldl_append];rfl
def q0v(rs:List Rl)(win lat que:Int)(M:Gd->Option Int):Eg:=⟨rs,win,lat,que,0,qa5 [] rs,[],M,[]⟩
structure qyf(s:ByteArray)(rs:List Rl):Prop where
 parse:qdv s=.ok rs
 rules:(qel s).2.1=0
 ok:qic rs
 n8:∀k,(qa5 [] (rs.take k)).length<=8
 nrs:∀r∈rs,∀t∈r.head.args,t.name≠eB->t.name∈qa5 [] rs
 nsz:∀x∈qa5 [] rs,x.size<=1200
def qk5(rs:List Rl)(win lat que:Int)(w:Wq)(en:Ending)(w':Wq):Prop:=
 ∃(be:Nat) (S:Nat->Prop) (M:Gd->Option Int),en=.returned (.tuple #[.pointer (some ⟨be,0,none⟩),.int .i64 0])/\qbf rs (Qk rs) M/\qb1 w' S be (q0v rs win lat que M)/\(∀k,S k->w.heap.size<=k)/\Below w.heap.size w w'
def NwI(W3:Wq)(N B:Nat)(vr:Vq)(win lat que:Int)(us:List ByteArray)(vn:Vq)(V:Wq):Prop:=
 V.heap[N]?=some (Obj.cells #[vr,.int .i64 win,.int .i64 lat,.int .i64 que,.int .i64 0,vn,.slice none 0 0,.map (some B),.slice none 0 0] 101)/\V.ownsRow (N+1) 9 1 vn us.length (us.map Value.string)/\Chg W3 V (λj=>j=N)
theorem NwI.rk(h:NwI W3 N B vr win lat que us vn V){c0:Array Vq}(h3:W3.heap[N]?=some (Obj.cells c0 101)):qf W3 V:=by
 intro k c t ht hc;refine (h.2.2.block k (zg hc).1 (λe=>?_)).trans hc;rw[e,h3] at hc;cases hc;rcases ht with h | h | h <;> cases h
theorem NwI.next{V2 W6:Wq}{us':List ByteArray}{vn':Vq}(h:NwI W3 N B vr win lat que us vn V)(hs3:W3.heap.size=N+1)(hb:Below V.heap.size V V2)(hso:qw (N+1) V2 W6)(ho:W6.ownsRow (N+1) 9 1 vn' us'.length (us'.map Value.string)) :
  W6.cell? ⟨N,5,none⟩=some vn/\W6.frozen? ⟨N,5,none⟩=false/\NwI W3 N B vr win lat que us' vn' (W6.setCell ⟨N,5,none⟩ vn'):=by
 obtain⟨h1,h2,h3⟩:=h;have hsz:N+1<=V.heap.size:=by have:=h3.size;omega
 have hbN:Below (N+1) V W6:=(hb.mono hsz).trans (ql3 hso (by have:=hb.size;omega));have b6:=(hbN.block N (by omega)).trans h1;refine⟨by simp[World.cell?,b6],by simp[World.frozen?,b6],Qi b6 5 vn',Qn ho ⟨N,5,none⟩ vn' (Qj ho b6 (by decide)),?_⟩;have hc:Chg W3 W6 (λj=>j=N):=⟨hbN.os.trans h3.os,hbN.tape.trans h3.tape,hbN.output.trans h3.output,Nat.le_trans h3.size hbN.size,λj hj hn=>(hbN.block j (by omega)).trans (h3.block j hj hn)⟩;exact hc.setCell ⟨N,5,none⟩ vn' (λ_=>rfl)
theorem q6w(s:ByteArray)(rs:List Rl)(win lat que:Int)(w:Wq)(hok:qyf s rs)(hs:s.size<=4611686018427387904)(hT:Lib.Utf8Tabs 0 1 w)(h1:1<=win/\win<=1000)(h2:0<=lat/\lat<=1000)(h3:1<=que/\que<=50) :
  Calls Tryz.prog 39 #[.string s,.int .i64 win,.int .i64 lat,.int .i64 que] w (qk5 rs win lat que w):=by
 have hrd:Hid (Calls Tryz.prog 30 #[.string s] w λe w'=>∃(ra:Option Addr) (rc b45 b87:Nat),e=.returned (.tuple #[.slice ra rs.length rc,.int .i64 0,.int .i64 0])/\Qa w' w.heap.size b45 b87 (.slice ra rs.length rc) rs/\Below w.heap.size w w'):=by
  refine (qno s w hs hT).mono ?_;rintro e w' ⟨hb,⟨c,p,_,hc,hr⟩ | ⟨rs',v,b45,b87,he,hR,_,_,_,hp,_⟩⟩
  ·have:=hok.rules;rw[hr] at this;exact absurd this hc
  ·have hrs:rs'=rs:=by
    have:=hp.symm.trans hok.parse;injection this
   subst hrs;obtain⟨ra,rc,hf⟩:=hR.form;subst hf;exact⟨ra,rc,b45,b87,he,hR,hb⟩
 have hwi:Hid (∀(n l m:Int) W,l<=n->n<=m->Calls Tryz.prog 43 #[.int .i64 n,.int .i64 l,.int .i64 m] W λe' w'=>e'=.returned (.bool true)/\W=w'):=λn l m W a b=>by
  refine (qe6 n l m W).mono ?_;rintro e' w' ⟨h1,h2⟩;rw[show (decide (l<=n) && decide (n<=m))=true by simp[a,b]] at h1;exact⟨h1,h2.symm⟩
 have H1:Hid _:=h1;have H2:Hid _:=h2;have H3:Hid _:=h3;have HOK:Hid _:=hok;clear h1 h2 h3 hok hT;go_enter Tryz.func39,Tryz.ntmps39;go_wp2_with fail;refine Calls.mono hrd.out ?_;rintro e' W1 ⟨ra,rc,b45,b87,rfl,hR,hb1⟩;go_wp2_with fail;refine (hwi.out win 1 1000 _ H1.out.1 H1.out.2).mono ?_;rintro e' w' ⟨rfl,hw'⟩;subst hw';go_wp2_with fail;refine (hwi.out lat 0 1000 _ H2.out.1 H2.out.2).mono ?_;rintro e' w' ⟨rfl,hw'⟩;subst hw';go_wp2_with fail;refine (hwi.out que 1 50 _ H3.out.1 H3.out.2).mono ?_;rintro e' w' ⟨rfl,hw'⟩;subst hw';go_wp2_with fail;have hn8:(qa5 [] rs).length<=8:=by have:=HOK.out.n8 rs.length;rw[List.take_length] at this;exact this
 have q3e:Hid (Calls Tryz.prog 75 #[.slice ra rs.length rc,.slice none 0 0] W1 λe' w'=>∃B M,e'=.returned (.map (some B))/\qda w' B 5000 M/\qbf rs (Qk rs) M/\Below W1.heap.size W1 w'):=by
  refine (qrw (arR rs) rs [] (uni (qc9 rs) (qa5 [] rs)) _ _ w.heap.size b45 b87 0 W1 (q8g HOK.out.ok hn8 HOK.out.nsz HOK.out.nrs ⟨by simp,by simp⟩) hR ⟨rfl,.inl ⟨rfl,rfl⟩⟩).mono ?_;rintro e' w' ⟨B,M,h1,h2,h3,_,h4⟩;exact⟨B,M,h1,MdL.at' h2,h3,h4⟩
 refine Calls.mono q3e.out ?_;rintro e' W2 ⟨B,M,rfl,hmd,hlm,hb2⟩;have qmp:Below w.heap.size w W2:=hb1.trans (hb2.mono hb1.size);have hR2:Qa W2 w.heap.size b45 b87 (.slice ra rs.length rc) rs:=hR.rk (qf.ofBelow hb2);obtain⟨N,hN⟩:∃N,W2.heap.size=N:=⟨_,rfl⟩;obtain⟨W3,hW3⟩:∃W3,W2.alloc (.cells #[.slice ra rs.length rc,.int .i64 win,.int .i64 lat,.int .i64 que,.int .i64 0,.slice none 0 0,.slice none 0 0,.map (some B),.slice none 0 0] 101)=W3:=⟨_,rfl⟩;have HLM:Hid _:=hlm;have e3:W3.heap[N]?=some (Obj.cells #[.slice ra rs.length rc,.int .i64 win,.int .i64 lat,.int .i64 que,.int .i64 0,.slice none 0 0,.slice none 0 0,.map (some B),.slice none 0 0] 101):=by rw[<- hW3,<- hN];exact World.alloc_heap_new W2 _
 have hs3:W3.heap.size=N+1:=by rw[<- hW3,<- hN];simp
 have hb3:Below W2.heap.size W2 W3:=by rw[<- hW3];exact (Below.refl _ W2).alloc zl _
 have hR3:Hid (Qa W3 w.heap.size b45 b87 (.slice ra rs.length rc) rs):=hR2.rk (qf.ofBelow hb3);have hM3:Hid (qda W3 B 5000 M):=hmd.below hb3;have qw9:Hid (Below w.heap.size w W3):=qmp.trans (hb3.mono qmp.size);have hwN:Hid (w.heap.size<=N):=by show _<=_;rw[<- hN];exact qmp.size
 have q9h:Hid (NwI W3 N B (.slice ra rs.length rc) win lat que [] (.slice none 0 0) W3):=⟨e3,⟨rfl,.inl ⟨rfl,rfl⟩⟩,Chg.refl _ _⟩;have HE3:Hid _:=e3;have HS3:Hid _:=hs3
 have qs2:Hid (∀k (hk:k < rs.length) (wr:Wq) (us:List ByteArray) (vn:Vq),NwI W3 N B (.slice ra rs.length rc) win lat que us vn wr->us.length<=8->∃g fa fn fc ga gn gc,ra=some ⟨g,0,none⟩/\wr.cell? ⟨g,k*3,none⟩=some (.string (rs[k]).head.rel)/\wr.cell? ⟨g,k*3+1,none⟩=some (.slice fa fn fc)/\wr.cell? ⟨g,k*3+2,none⟩=some (.slice ga gn gc)/\
   Hid (Calls Tryz.prog 76 #[vn,.func (.func 141) #[] #[.pointer (some ⟨wr.heap.size+1,0,none⟩)]] ((wr.alloc (.cells #[.string (rs[k]).head.rel,.slice fa fn fc,.slice ga gn gc] 136)).drew.alloc (.cells #[.string (rs[k]).head.rel,.slice fa fn fc,.slice ga gn gc] 136)) λe w'=>∃(pa:Option Addr) (pc:Nat),e=.returned (.slice pa (nmL us (Qr rs[k])).length pc)/\w'.cell? ⟨N,5,none⟩=some vn/\w'.frozen? ⟨N,5,none⟩=false/\Hid (NwI W3 N B (.slice ra rs.length rc) win lat que (nmL us (Qr rs[k])) (.slice pa (nmL us (Qr rs[k])).length pc) (w'.setCell ⟨N,5,none⟩ (.slice pa (nmL us (Qr rs[k])).length pc))))):=λk hk wr us vn hnw hul=>by
  have hRr:=hR3.out.rk (hnw.rk HE3.out);obtain⟨g,c',v0,vb,q1,q2,q3,q4,q5⟩:=qc1 hRr hk;obtain⟨fa,fc,hsf⟩:=q5.1.form;obtain⟨ga,gc,htf⟩:=q5.2.form;subst hsf htf;cases q1;refine⟨g,fa,_,fc,ga,_,gc,rfl,q2,q3,q4,?_⟩;have hbl:Below wr.heap.size wr ((wr.alloc (.cells #[.string (rs[k]).head.rel,.slice fa (rs[k]).head.args.length fc,.slice ga (rs[k]).body.length gc] 136)).drew.alloc (.cells #[.string (rs[k]).head.rel,.slice fa (rs[k]).head.args.length fc,.slice ga (rs[k]).body.length gc] 136)):=(((Below.refl _ wr).alloc zl _).drew).alloc (by show _<=(wr.alloc _).heap.size;simp) _;have q3x:N+1<=wr.heap.size:=by have:=hnw.2.2.size;have:=HS3.out;omega
  refine (qk7 rs[k] _ _ vn us (N+1) b45 b87 (wr.heap.size+1) _ (HOK.out.ok.rok _ (List.getElem_mem hk)) (q5.rk (qf.ofBelow hbl)) ?_ (qk hnw.2.1 hbl) (by have:=hbl.size;omega) (by omega)).mono ?_
  ·have:=World.alloc_heap_new (wr.alloc (.cells #[.string (rs[k]).head.rel,.slice fa (rs[k]).head.args.length fc,.slice ga (rs[k]).body.length gc] 136)).drew (.cells #[.string (rs[k]).head.rel,.slice fa (rs[k]).head.args.length fc,.slice ga (rs[k]).body.length gc] 136);rw[show (wr.alloc (.cells #[.string (rs[k]).head.rel,.slice fa (rs[k]).head.args.length fc,.slice ga (rs[k]).body.length gc] 136)).drew.heap.size=wr.heap.size+1 by show (wr.alloc _).heap.size=_;simp] at this;exact this
  ·rintro e w' ⟨v',h1,h2,h3⟩;obtain⟨pa,pc,hof⟩:=qn h2;subst hof;obtain⟨k1,k2,k3⟩:=hnw.next HS3.out hbl h3 h2;exact⟨pa,pc,h1,k1,k2,k3⟩
 clear q3e hrd hlm hR qmp hb2 hR2 hmd hb3 e3;go_wp2_with fail
 go_loopw [48] (λvi wr=>∃(k:Nat) (vn:Vq),vi=.int .i64 k/\k<=rs.length/\Hid (NwI W3 N B (.slice ra rs.length rc) win lat que (qa5 [] (rs.take k)) vn wr)) (λvi _=>rs.length - (intOf vi).toNat)
 case atStart=>exact⟨0,_,rfl,Nat.zero_le _,q9h⟩
 case round=>
  obtain⟨k,vn,rfl,hk,hnw⟩:=hrel;by_cases hlt:k < rs.length
  ·have i1:(k:Int) < (rs.length:Int):=by omega
   have h8:rs.length<=8:=HOK.out.ok.r8;obtain⟨g,fa,fn,fc,ga,gn,gc,e0,q0,q1,q2,qbb⟩:=qs2.out k hlt wr _ vn hnw.out (HOK.out.n8 k);cases e0;have hnm:Hid _:=qvg hlt;obtain⟨na,nc,hnf⟩:=qn hnw.out.2.1;subst hnf;have hbk:=hnw.out.1;have q3x:N+1<=wr.heap.size:=by have:=hnw.out.2.2.size;have:=HS3.out;omega
   have c5:∀O,(wr.alloc O).cell? ⟨N,5,none⟩=some (.slice na (qa5 [] (rs.take k)).length nc):=λO=>cell_later ((Below.refl wr.heap.size wr).alloc zl O) (by simp[World.cell?,hbk]);have hne:N≠wr.heap.size:=by omega
   clear hbk;generalize (rs[k]).head.rel=rel at *;generalize nmL (qa5 [] (rs.take k)) (Qr rs[k])=us' at *;obtain⟨V1,hV1⟩:∃V1,(wr.alloc (.cells #[.string rel,.slice fa fn fc,.slice ga gn gc] 136)).drew=V1:=⟨_,rfl⟩;have hsV:V1.heap.size=wr.heap.size+1:=by rw[<- hV1];show (wr.alloc _).heap.size=_;simp
   have eV:V1.heap[wr.heap.size]?=some (Obj.cells #[.string rel,.slice fa fn fc,.slice ga gn gc] 136):=by rw[<- hV1];exact World.alloc_heap_new wr _
   have p0:V1.cell? ⟨wr.heap.size,0,none⟩=some (.string rel):=by simp[World.cell?,eV]
   have p1:V1.cell? ⟨wr.heap.size,1,none⟩=some (.slice fa fn fc):=by simp[World.cell?,eV]
   have p2:V1.cell? ⟨wr.heap.size,2,none⟩=some (.slice ga gn gc):=by simp[World.cell?,eV]
   have p5:V1.cell? ⟨N,5,none⟩=some (.slice na (qa5 [] (rs.take k)).length nc):=by rw[<- hV1];exact c5 _
   rw[hV1] at qbb;obtain⟨V2,hV2⟩:∃V2,V1.alloc (.cells #[.string rel,.slice fa fn fc,.slice ga gn gc] 136)=V2:=⟨_,rfl⟩;have r5:V2.cell? ⟨N,5,none⟩=some (.slice na (qa5 [] (rs.take k)).length nc):=by rw[<- hV2];exact cell_later ((Below.refl V1.heap.size V1).alloc zl _) p5
   rw[hV2] at qbb
   have qlh:Hid (Calls Tryz.prog 77 #[.agg #[.string rel,.slice fa fn fc,.slice ga gn gc]] V1 λe w'=>e=.returned (.func (.func 141) #[] #[.pointer (some ⟨wr.heap.size+1,0,none⟩)])/\V2=w'):=by
    refine (qmw _ _ _ _ rfl V1).mono ?_;rintro e w' ⟨h1,h2⟩;rw[hsV] at h1;exact⟨h1,by rw[h2,hV2]⟩
   clear eV hV2 hsV c5;go_wp2_with fail
   first | (go_region_with (first | (go_at_call 77;refine Calls.mono qlh.out ?_;rintro e' w' ⟨rfl,hw'⟩;subst hw') | (go_at_call 76;refine Calls.mono qbb.out ?_;rintro e' W6 ⟨pa,pc,rfl,t5,y5,hn6⟩))) | fail
   all_goals (
    go_wp2;refine⟨⟨k+1,.slice pa us'.length pc,by go_num,by omega,?_⟩,by simp[intOf];omega⟩;rw[hnm.out]
    exact hn6)
  ·have hkk:k=rs.length:=by omega
   subst hkk;rw[List.take_length] at hnw
   have q9:Hid (qk5 rs win lat que w (.returned (.tuple #[.pointer (some ⟨N,0,none⟩),.int .i64 0])) wr):=by
    obtain⟨k1,k2,k3⟩:=hnw.out;have hm:∀j es c,W3.heap[j]?=some (Obj.map es c)->wr.heap[j]?=some (Obj.map es c):=λj es c hj=>(k3.block j (zg hj).1 (λe=>by rw[e,HE3.out] at hj;cases hj)).trans hj;refine⟨N,λj=>j=N\/vn.ownBlock=some j,M,rfl,HLM.out,⟨_,_,_,_,_,_,_,_,[],λ_ _=>False,⟨k1,hR3.out.rk (hnw.out.rk HE3.out),qgr k2 (Nat.zero_le _),⟨rfl,.inl ⟨rfl,rfl⟩⟩,hM3.out.kept hm,rfl,⟨rfl,.inl ⟨rfl,rfl⟩⟩,λi hi _=>by simp at hi,λ_ _ _ _ h=>h.elim,λ_ _ h=>h.elim,⟨.inl rfl,λg hg=>(by cases hg),λg hg=>(by cases hg),λg hg=>.inr hg⟩,λj hj=>?_⟩⟩,λj hj=>?_,?_⟩
    ·rcases hj with rfl | hj
     ·exact⟨_,_,k1,.inl rfl⟩
     ·obtain⟨_,c,hcc⟩:=qe k2 hj;exact⟨_,_,hcc,.inr (.inr (.inr (.inr (.inr rfl))))⟩
    ·rcases hj with rfl | hj
     ·exact hwN.out
     ·have:=(qe k2 hj).1;have:=hwN.out;omega
    ·have h1:=qw9.out;exact⟨k3.os.trans h1.os,k3.tape.trans h1.tape,k3.output.trans h1.output,Nat.le_trans h1.size k3.size,λj hj=>(k3.block j (by have:=h1.size;omega) (by have:=hwN.out;omega)).trans (h1.block j hj)⟩
   go_wp2;go_ret2;exact q9.out
end Go.Proofs.YtjajnhemgphefaaGreatDoor
namespace Go.Proofs.YtjajnhemgphefaaGreatDoor
open Go renaming World->Wq,Value->Vq
open Go.RowKit
def qj9(c n:Int):Int:=if c < 0 then (-(c+1)) % n else c % n
theorem qte(c n:Int)(hn:0 < n):0<=qj9 c n/\qj9 c n < n:=by
 unfold qj9;split
 ·exact⟨Int.emod_nonneg _ (by omega),Int.emod_lt_of_pos _ hn⟩
 ·exact⟨Int.emod_nonneg _ (by omega),Int.emod_lt_of_pos _ hn⟩
theorem q4u(c n:Int)(hc:c < 0) : -(c+1).tmod n=qj9 c n:=by
 unfold qj9;rw[if_pos hc];obtain⟨a,ha⟩:∃a,a=-(c+1):=⟨_,rfl⟩;have:c+1=-a:=by omega
 rw[this,Int.neg_tmod,Int.neg_neg,Int.neg_neg,Int.tmod_eq_emod_of_nonneg (by omega)]
end Go.Proofs.YtjajnhemgphefaaGreatDoor
namespace Go.Proofs.YtjajnhemgphefaaGreatDoor
open Go renaming World->Wq,Value->Vq
open Go.RowKit Go.Shelf Go.Maps
theorem q1a(x y:Gd×Int):qvs x y=true↔x=y:=by
 unfold qvs;simp only[Bool.and_eq_true,beq_iff_eq,qdq];constructor
 ·rintro⟨⟨h1,h2,h3⟩,h4⟩;obtain⟨⟨a,b,c⟩,d⟩:=x;obtain⟨⟨a',b',c'⟩,d'⟩:=y;simp only at h1 h2 h3 h4;rw[qik h1,qik h2,qik h3,h4]
 ·rintro rfl;simp
structure KSt(w:Wq)(be:Nat)(bs:List Nat)(e:Eg)(W:Wq):Prop where
 eng:∃S:Nat->Prop,qb1 W S be e/\∀k,S k->w.heap.size<=k/\k∉bs
 lt:∀b∈bs,b < W.heap.size
 below:Below w.heap.size w W
 ok:qci e
theorem Qah{s:ByteArray}{rs:List Rl}(h:qyf s rs){win lat que:Int}(h1:1<=win/\win<=1000)(h2:0<=lat/\lat<=1000)(h3:1<=que/\que<=50){M:Gd->Option Int}(hM:qbf rs (Qk rs) M):qci (q0v rs win lat que M):=by
 have hn8:(qa5 [] rs).length<=8:=by have:=h.n8 rs.length;rw[List.take_length] at this;exact this
 refine⟨h.ok,h1,h2,h3,⟨by show (0:Int)<=0;decide,by show (0:Int)<=1000000;decide⟩,hn8,h.nsz,h.nrs,by show (0:Nat)<=24;decide,λd hd=>(by cases hd),?_,by show (0:Nat)<=3;decide,λf hf=>(by cases hf)⟩;exact qpg (F:=[]) h.ok h.nrs ⟨by simp,by simp⟩ hM
def q8u(bs:List Nat)(W W':Wq):Prop:=∀b∈bs,W'.heap[b]?=W.heap[b]?
theorem KSt.step{w W W':Wq}{be:Nat}{bs:List Nat}{e e':Eg}(h:KSt w be bs e W){S:Nat->Prop}(h2:∀k,S k->w.heap.size<=k/\k∉bs)(hp:Qs S be e' W W')(hok:qci e'):KSt w be bs e' W'/\q8u bs W W':=by
 obtain⟨S',j1,j2,j3⟩:=hp;refine⟨⟨⟨S',j1,λk hk=>?_⟩,λb hb=>Nat.lt_of_lt_of_le (h.lt b hb) j3.size,?_,hok⟩,λb hb=>j3.block b (h.lt b hb) (λhs=>(h2 b hs).2 hb)⟩
 ·rcases j2 k hk with hs | hs
  ·exact h2 k hs
  ·exact⟨Nat.le_trans h.below.size hs,λhb=>by have:=h.lt k hb;omega⟩
 ·exact h.below.trans (Chg.below j3 h.below.size (λk hk=>(h2 k hk).1))
theorem KSt.same{w W W':Wq}{be:Nat}{bs:List Nat}{e:Eg}(h:KSt w be bs e W)(hb:Below W.heap.size W W'):KSt w be bs e W'/\q8u bs W W':=by
 obtain⟨S,h1,h2⟩:=h.eng;exact h.step h2 (Qs.same h1 hb) h.ok
theorem KSt.alloc{w W:Wq}{be:Nat}{bs:List Nat}{e:Eg}(h:KSt w be bs e W)(O:Obj):KSt w be (W.heap.size::bs) e (W.alloc O)/\q8u bs W (W.alloc O):=by
 obtain⟨⟨S,h1,h2⟩,h3,h4,h5⟩:=h;have hb:Below W.heap.size W (W.alloc O):=(Below.refl _ W).alloc zl O;refine⟨⟨⟨S,h1.below hb,λk hk=>⟨(h2 k hk).1,λhm=>?_⟩⟩,λb hb'=>?_,h4.alloc h4.size O,h5⟩,λb hb'=>hb.block b (h3 b hb')⟩
 ·rcases List.mem_cons.1 hm with rfl | hm
  ·obtain⟨_,_,_,_,_,_,_,_,_,_,hv⟩:=h1;have:=(hv.typ _ hk).lt;omega
  ·exact (h2 k hk).2 hm
 ·rcases List.mem_cons.1 hb' with rfl | hb'
  ·simp
  ·have:=h3 b hb';simp;omega
theorem KSt.drew{w W:Wq}{be:Nat}{bs:List Nat}{e:Eg}(h:KSt w be bs e W):KSt w be bs e W.drew:=(h.same (Below.refl _ W).drew).1
section
variable {w W:Wq} {be:Nat} {bs:List Nat} {e:Eg}
end
def bPa:ByteArray:=⟨#[112,97,116,104]⟩
def bEd:ByteArray:=⟨#[101,100,103,101]⟩
def qyc:ByteArray:=⟨#[112,97,116,104,40,88,44,89,41,58,45,101,100,103,101,40,88,44,89,41,46,32,112,97,116,104,40,88,44,90,41,58,45,112,97,116,104,40,88,44,89,41,44,101,100,103,101,40,89,44,90,41,46]⟩
def rsP:List Rl:=qy9 bPa bEd
theorem q63:Lib.runeCount qyc=53:=by kernel_rfl
theorem qy8:qdv qyc=.ok rsP:=by kernel_rfl
theorem q62:qdc rsP=(0,0):=by kernel_rfl
theorem q8i:rsP.flatMap qy=[⟨bPa,[v0T,v1T]⟩,⟨bEd,[v0T,v1T]⟩,⟨bPa,[v0T,v1T]⟩,⟨bPa,[v0T,v2T]⟩,⟨bEd,[v2T,v1T]⟩]:=rfl
theorem q4r:arR rsP bPa=2:=by kernel_rfl
theorem q8j:arR rsP bEd=2:=by kernel_rfl
theorem Qge:qic rsP:=by
 have hA:∀(x:ByteArray) (t u:Tm),x.size<=1200->qwj t->qwj u->qjs ⟨x,[t,u]⟩:=λx t u hx h1 h2=>⟨hx,Nat.le_refl 2,λv hv=>by
  simp only[List.mem_cons,List.not_mem_nil,or_false] at hv;rcases hv with rfl | rfl
  ·exact h1
  ·exact h2⟩
 have h0:qwj v0T:=⟨by decide,by decide⟩;have h1:qwj v1T:=⟨by decide,by decide⟩;have h2:qwj v2T:=⟨by decide,by decide⟩;refine⟨by decide,λr hr=>?_,λa ha=>?_,λa ha t ht=>?_,λr hr t ht hne=>?_⟩
 ·simp only[rsP,qy9,List.mem_cons,List.not_mem_nil,or_false] at hr;rcases hr with rfl | rfl
  ·exact⟨hA _ _ _ (by decide) h0 h1,by decide,λa ha=>by simp only[List.mem_cons,List.not_mem_nil,or_false] at ha;subst ha;exact hA _ _ _ (by decide) h0 h1⟩
  ·exact⟨hA _ _ _ (by decide) h0 h1,by decide,λa ha=>by
    simp only[List.mem_cons,List.not_mem_nil,or_false] at ha;rcases ha with rfl | rfl
    ·exact hA _ _ _ (by decide) h0 h2
    ·exact hA _ _ _ (by decide) h2 h1⟩
 ·rw[q8i] at ha;simp only[List.mem_cons,List.not_mem_nil,or_false] at ha;rcases ha with rfl | rfl | rfl | rfl | rfl
  ·exact⟨q4r.symm,.inr rfl⟩
  ·exact⟨q8j.symm,.inr rfl⟩
  ·exact⟨q4r.symm,.inr rfl⟩
  ·exact⟨q4r.symm,.inr rfl⟩
  ·exact⟨q8j.symm,.inr rfl⟩
 ·rw[q8i] at ha;simp only[List.mem_cons,List.not_mem_nil,or_false] at ha;rcases ha with rfl | rfl | rfl | rfl | rfl <;> (simp only[List.mem_cons,List.not_mem_nil,or_false] at ht;rcases ht with rfl | rfl <;> decide)
 ·simp only[rsP,qy9,List.mem_cons,List.not_mem_nil,or_false] at hr;rcases hr with rfl | rfl
  ·exact⟨⟨bEd,[v0T,v1T]⟩,List.mem_cons_self,t,ht,hne,rfl⟩
  ·simp only[List.mem_cons,List.not_mem_nil,or_false] at ht;rcases ht with rfl | rfl
   ·exact⟨⟨bPa,[v0T,v2T]⟩,List.mem_cons_self,v0T,List.mem_cons_self,rfl,rfl⟩
   ·exact⟨⟨bEd,[v2T,v1T]⟩,List.mem_cons_of_mem _ List.mem_cons_self,v1T,List.mem_cons_of_mem _ List.mem_cons_self,rfl,rfl⟩
theorem q4s:qa5 [] (rsP.take 1)=[]:=by kernel_rfl
theorem qy7:qa5 [] rsP=[]:=by kernel_rfl
theorem Qdr:qyf qyc rsP:=by
 refine⟨qy8,?_,Qge,λk=>?_,λr hr t ht hne=>?_,λx hx=>?_⟩
 ·unfold qel;rw[q63,if_neg (by decide),qy8];simp only;rw[q62,if_pos rfl]
 ·match k with
  | 0=>exact Nat.zero_le _
  | 1=>rw[q4s];exact Nat.zero_le _
  | k+2=>
   have h:rsP.take (k+2)=rsP:=List.take_of_length_le (by show (2:Nat)<=k+2;omega);rw[h,qy7];exact Nat.zero_le _
 ·simp only[rsP,qy9,List.mem_cons,List.not_mem_nil,or_false] at hr;rcases hr with rfl | rfl <;> (simp only[List.mem_cons,List.not_mem_nil,or_false] at ht;rcases ht with rfl | rfl <;> exact absurd rfl hne)
 ·rw[qy7] at hx;cases hx
end Go.Proofs.YtjajnhemgphefaaGreatDoor
namespace Go.Proofs.YtjajnhemgphefaaGreatDoor
open Go renaming World->Wq,Value->Vq
open Go.RowKit Go.Shelf
variable {win m:Int} {ar:ByteArray->Nat} {ds:List (Gd×Int×Bool)} {M:Gd->Option Int}
abbrev Fk:=Gr×Int×Bool
def qf3(win:Int)(fs:List Fk)(t:Int):List Gr:=(fs.filter (λf=>f.2.2 && decide (t < f.2.1+win))).map (·.1)
def qom(win:Int)(ds:List (Gd×Int×Bool)):List (Gd×Int):=(ds.filter (λd=>d.2.2)).map (λd=>(d.1,d.2.1+win))
theorem qve{fs:List Fk}{t:Int}{g:Gr}:g∈qf3 win fs t↔∃f∈fs,f.2.2=true/\t < f.2.1+win/\f.1=g:=by
 unfold qf3;rw[List.mem_map];constructor
 ·rintro⟨f,hf,rfl⟩;obtain⟨h1,h2⟩:=List.mem_filter.1 hf;simp only[Bool.and_eq_true,decide_eq_true_eq] at h2;exact⟨f,h1,h2.1,h2.2,rfl⟩
 ·rintro⟨f,hf,h1,h2,rfl⟩;exact⟨f,List.mem_filter.2 ⟨hf,by simp[h1,h2]⟩,rfl⟩
def qff(ds:List (Gd×Int×Bool))(fs:List Fk):Prop:=fs=ds.map (λd=>(qdh d.1,d.2.1,d.2.2))
theorem qz7{R:List Rl}{fs:List Fk}(hR:qdj ar R)(hs:qff ds fs)(ha:∀d∈ds,ArE ar d.1){t:Int}(ht:t < 2000000):qk2 ar R (qom win ds++Qk R) t (qf3 win fs t):=by
 have Qfd:∀x∈Qk R,∃r∈R,r.body=[]/\x=(qb Qg r.head,2000000):=λx hx=>by
  obtain⟨r,hr,e⟩:=List.mem_filterMap.1 hx;split at e
  ·rename_i h0;exact⟨r,hr,h0,(Option.some.inj e).symm⟩
  ·cases e
 refine⟨λx hx he=>?_,λg hg=>?_,λr hr h0=>?_⟩
 ·rcases List.mem_append.1 hx with hx | hx
  ·obtain⟨d,hd,rfl⟩:=List.mem_map.1 hx;obtain⟨h1,h2⟩:=List.mem_filter.1 hd;refine⟨ha d h1,.inl (qve.2 ⟨(qdh d.1,d.2.1,d.2.2),?_,h2,he,rfl⟩)⟩;rw[hs];exact List.mem_map.2 ⟨d,h1,rfl⟩
  ·obtain⟨r,hr,h0,rfl⟩:=Qfd x hx;have hc:=qo4 (hR.safe r hr) h0;obtain⟨h2,h3⟩:=hR.two r hr r.head List.mem_cons_self;refine⟨(qkg h2.1 h3).2 (λt ht=>?_),.inr ⟨r,hr,h0,rfl⟩⟩;have hne:=hc t ht;unfold ofT;rw[if_neg (by show ¬qg t.name=true;rw[hne];decide)];exact hne
 ·obtain⟨f,hf,h1,h2,rfl⟩:=qve.1 hg;rw[hs] at hf;obtain⟨d,hd,rfl⟩:=List.mem_map.1 hf;exact⟨(d.1,d.2.1+win),List.mem_append_left _ (List.mem_map.2 ⟨d,List.mem_filter.2 ⟨hd,h1⟩,rfl⟩),h2,rfl⟩
 ·exact⟨(qb Qg r.head,2000000),List.mem_append_right _ (List.mem_filterMap.2 ⟨r,hr,by rw[if_pos h0]⟩),ht,rfl⟩
theorem qr0{R:List Rl}{fs:List Fk}(hR:qdj ar R)(hs:qff ds fs)(ha:∀d∈ds,ArE ar d.1)(hM:qbf R (qom win ds++Qk R) M){t:Int}(ht:t < 2000000)(g:Gd):(∃u,M g=some u/\t < u)↔Dv R (qf3 win fs t) (qdh g):=by
 rw[<- q53 hR (qz7 (win:=win) hR hs ha ht) g];exact⟨λ⟨u,h1,h2⟩=>hM.sound g u h1 t h2,λh=>hM.complete t g h⟩
theorem q1i{R:List Rl}{fs:List Fk}(hR:qdj ar R)(hs:qff ds fs)(ha:∀d∈ds,ArE ar d.1)(hM:qbf R (qom win ds++Qk R) M)(hm:m < 2000000)(hb:∀d∈ds,d.2.2=true->m < d.2.1+win)(g:Gd):(M g).isSome=true↔Dv R (qf3 win fs m) (qdh g):=by
 rw[<- qr0 hR hs ha hM hm g];constructor
 ·intro h;obtain⟨u,hu⟩:=Option.isSome_iff_exists.1 h;refine⟨u,hu,?_⟩;obtain⟨d,hd,rfl⟩:=hM.end_mem hu;rcases List.mem_append.1 hd with hd | hd
  ·obtain⟨x,hx,rfl⟩:=List.mem_map.1 hd;exact hb x (List.mem_filter.1 hx).1 (List.mem_filter.1 hx).2
  ·obtain⟨r,hr,e⟩:=List.mem_filterMap.1 hd;split at e
   ·rw[<- Option.some.inj e];exact hm
   ·cases e
 ·rintro⟨u,hu,_⟩;rw[hu];rfl
def qfi(P:Int->Bool):Int->List Int->Int
 | b,[]=>b
 | b,e::l=>qfi P (if b<=e then b else if P e=true then b else e) l
theorem qn6(P:Int->Bool)(t:Int):∀(l:List Int) (b:Int),(∀e∈l,P e=true↔e < t)->t<=b->(b=t\/t∈l)->qfi P b l=t
 | [],b,_,_,h=>by
  rcases h with h | h
  ·exact h
  ·cases h
 | e::l,b,hP,hb,h=>by
  have hP':∀e∈l,P e=true↔e < t:=λx hx=>hP x (List.mem_cons_of_mem _ hx);have he:=hP e List.mem_cons_self;unfold qfi;by_cases h1:b<=e
  ·rw[if_pos h1];refine qn6 P t l b hP' hb ?_;rcases h with h | h
   ·exact .inl h
   ·rcases List.mem_cons.1 h with h | h
    ·left;omega
    ·exact .inr h
  ·rw[if_neg h1];by_cases h2:P e=true
   ·rw[if_pos h2];have:=he.1 h2;refine qn6 P t l b hP' hb ?_;rcases h with h | h
    ·exact .inl h
    ·rcases List.mem_cons.1 h with h | h
     ·omega
     ·exact .inr h
   ·rw[if_neg h2]
    have h3:t<=e:=by
     rcases Int.lt_or_le e t with h | h
     ·exact absurd (he.2 h) h2
     ·exact h
    refine qn6 P t l e hP' h3 ?_;rcases h with h | h
    ·omega
    ·rcases List.mem_cons.1 h with h | h
     ·exact .inl h.symm
     ·exact .inr h
theorem q1r{R:List Rl}{fs:List Fk}(hR:qdj ar R)(hs:qff ds fs)(ha:∀d∈ds,ArE ar d.1)(hM:qbf R (qom win ds++Qk R) M)(hb:∀d∈ds,d.2.2=true->d.2.1+win < 2000000)(g:Gd){u:Int}(hu:M g=some u)(P:Int->Bool)(hP:∀e,P e=true↔Dv R (qf3 win fs e) (qdh g)):qfi P 2000000 ((fs.filter (λf=>f.2.2)).map (λf=>f.2.1+win))=u:=by
 have qyx:∀e∈(fs.filter (λf=>f.2.2)).map (λf=>f.2.1+win),e < 2000000:=λe he=>by
  obtain⟨f,hf,rfl⟩:=List.mem_map.1 he;obtain⟨h1,h2⟩:=List.mem_filter.1 hf;rw[hs] at h1;obtain⟨d,hd,rfl⟩:=List.mem_map.1 h1;exact hb d hd h2
 refine qn6 P u _ _ (λe he=>?_) ?_ ?_
 ·rw[hP e,<- qr0 hR hs ha hM (qyx e he) g];constructor
  ·rintro⟨u',h1,h2⟩;rw[hu] at h1;cases h1;exact h2
  ·intro h;exact⟨u,hu,h⟩
 all_goals
  obtain⟨d,hd,hde⟩:=hM.end_mem hu
 ·rcases List.mem_append.1 hd with hd | hd
  ·obtain⟨x,hx,rfl⟩:=List.mem_map.1 hd;have:=hb x (List.mem_filter.1 hx).1 (List.mem_filter.1 hx).2;simp only at hde;omega
  ·obtain⟨r,hr,e⟩:=List.mem_filterMap.1 hd;split at e
   ·have:=congrArg Prod.snd (Option.some.inj e);simp only at this;omega
   ·cases e
 ·rcases List.mem_append.1 hd with hd | hd
  ·obtain⟨x,hx,rfl⟩:=List.mem_map.1 hd;obtain⟨h1,h2⟩:=List.mem_filter.1 hx;right;refine List.mem_map.2 ⟨(qdh x.1,x.2.1,x.2.2),List.mem_filter.2 ⟨?_,h2⟩,hde⟩;rw[hs];exact List.mem_map.2 ⟨x,h1,rfl⟩
  ·obtain⟨r,hr,e⟩:=List.mem_filterMap.1 hd;split at e
   ·left;have:=congrArg Prod.snd (Option.some.inj e);simp only at this;omega
   ·cases e
theorem q81{g:Gd}:qdy ar g↔ArE ar g:=by
 have h:∀x:ByteArray,(x≠eB)↔qg x=false:=λx=>by
  constructor
  ·intro hx
   cases he:qg x with
   | false=>rfl
   | true=>exact absurd ((qce x).1 he) hx
  ·intro he hx;rw[(qce x).2 hx] at he;cases he
 have h':∀x:ByteArray,(x=eB)↔qg x=true:=λx=>(qce x).symm;unfold qdy ArE;rw[h,h,h']
