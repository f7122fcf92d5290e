/- The document's own answer: an atom against one that holds: -/
import Derived.Test.YtjajnhemgphefaaGreatDoorJMdD
import Derived.Laws.CopyOwn
set_option linter.unusedVariables false
set_option linter.unusedSimpArgs false
set_option maxRecDepth 100000
set_option maxHeartbeats 8000000
namespace Go.Proofs.YtjajnhemgphefaaGreatDoor
open Go renaming World->Wq,Value->Vq
open Go.RowKit Go.Shelf
variable {X W Y:Wq} {N S:Nat} {a:Option Addr} {ps:List (Am×Vq)} {vo vm v1 v2:Vq} {out m:List ByteArray} {r1 r2:ByteArray}
theorem Qan{l:Lk}{t:RT}(hw:l.want=4)(ha:l.alone=true)(h:(qx l t).e=0):(t.kind=44/\qx l t={l with want:=3})\/(t.kind=41/\qx l t={l with want:=6}):=by
 have hs:qx l t=Q9 l t:=by unfold qx;simp[hw]
 rw[hs] at h ⊢;unfold Q9 at h ⊢;simp only[hw,ha] at h ⊢;simp at h ⊢;by_cases h1:t.kind=44
 ·left;simp[h1]
 ·by_cases h2:t.kind=41
  ·right;simp[h2]
  ·simp[h1,h2] at h
theorem qoj:∀(n:Nat) (ts:List RT) (l:Lk) (vs:List ByteArray),ts.length<=n->l.want=3->l.e=0->l.alone=true->qeb ts->okO l ts->
  ∃L vsF k,qab vs ts=some (L,vsF,k)/\l.args+L.length<=2/\1<=L.length/\okO {l with want:=6,args:=l.args+L.length} (ts.drop k)/\qeb (ts.drop k)/\(∀t∈L,t.num<=vs.length+L.length)/\vsF.length<=vs.length+L.length
 | 0,ts,l,vs,hn,_,_,_,hE,_=>by
  have:ts=[]:=List.eq_nil_of_length_eq_zero (by omega);rw[this] at hE;exact absurd hE qa4
 | n+1,[],l,vs,hn,_,_,_,hE,_=>absurd hE qa4
 | n+1,t::us,l,vs,hn,hw,he,hal,hE,hok=>by
  obtain⟨h1,h2⟩:=qc0 hok (qj8 (by rw[hw];decide) (by rw[hw];decide));obtain⟨hk,hg,hr,hst⟩:=q8n hw h1;have hE2:=qad hE (by omega);rw[hst] at h2
  have qd0:(qf2 vs t).num<=vs.length:=by
   unfold qf2;split
   ·exact List.findIdx_le_length
   ·simp
  have hvl:=qja vs t
  cases us with
  | nil=>exact absurd hE2 qa4
  | cons b us=>
   obtain⟨h3,h4⟩:=qc0 h2 (qj8 (by simp) (by simp));rcases Qan (l:={l with args:=l.args+1,want:=4}) rfl (by simpa using hal) h3 with⟨hb,qms⟩ | ⟨hb,qms⟩
   ·rw[qms] at h4;have hE3:=qad hE2 (by omega);obtain⟨L,vsF,k,r1,r2,r0,r3,r4,r5,r6⟩:=qoj n us {l with args:=l.args+1,want:=3} (qdl vs t) (by simp at hn;omega) rfl he hal hE3 h4;refine⟨qf2 vs t::L,vsF,k+2,?_,?_,by simp,?_,?_,?_,?_⟩
    ·unfold qab;rw[if_neg (by omega),r1]
    ·simp at r2 ⊢;omega
    ·simp only[List.length_cons,List.drop_succ_cons] at r3 ⊢;have e:l.args+(L.length+1)=l.args+1+L.length:=by omega
     rw[e];exact r3
    ·simpa using r4
    ·intro t' ht';simp only[List.length_cons];rcases List.mem_cons.1 ht' with rfl | ht'
     ·omega
     ·have:=r5 t' ht';omega
    ·simp only[List.length_cons];omega
   ·rw[qms] at h4;have hE3:=qad hE2 (by omega);refine⟨[qf2 vs t],qdl vs t,2,?_,by simpa using hg,by simp,by simpa using h4,by simpa using hE3,?_,by simpa using hvl⟩
    ·unfold qab;rw[if_pos hb]
    ·intro t' ht';simp at ht';subst ht';simp;omega
def qpr:List RT->Option Am
 | t::_::us=>match qab [] us with
  | some (l,_,_)=>some ⟨t.text,l⟩
  | none=>none
 | _=>none
def qgq(s:ByteArray):Option Am:=
 if 300 < (R s 0).length then none
 else if (Qv (lk0 true) (Q3 s)).1≠0 then none
 else qpr (Q3 s)
theorem qvl(ts:List RT)(hE:qeb ts)(hok:okO (lk0 true) ts):∃t p us L vsF k,ts=t::p::us/\qab [] us=some (L,vsF,k)/\L.length<=2/\1<=L.length/\(∀t∈L,t.num<=2):=by
 cases ts with
 | nil=>exact absurd hE qa4
 | cons t ts=>
  have ha:qat (lk0 true) t=false:=by unfold qat lk0;simp
  obtain⟨h1,h2⟩:=qc0 hok ha;obtain⟨kt,kr,ktr,kst⟩:=q8m (l:=lk0 true) rfl h1;have E1:=qad hE (by omega);rw[kst] at h2
  cases ts with
  | nil=>exact absurd E1 qa4
  | cons p us=>
   obtain⟨g3,g4⟩:=qc0 h2 (qj8 (by simp) (by simp));obtain⟨kp,kst2⟩:=q48 (l:={lk0 true with rules:=(lk0 true).rules+1,body:=false,want:=2}) rfl g3;have E2:=qad E1 (by omega);rw[kst2] at g4;obtain⟨L,vsF,k,q1,q2,q0,q3,q4,q5,q6⟩:=qoj us.length us {lk0 true with rules:=(lk0 true).rules+1,body:=false,args:=0,want:=3} [] zl rfl rfl rfl E2 g4;simp only[Nat.zero_add,List.length_nil] at q2 q5;exact⟨t,p,us,L,vsF,k,rfl,q1,q2,q0,λt' ht'=>by have:=q5 t' ht';omega⟩
def qei(s:ByteArray)(N:Nat)(e:Ending)(w':Wq):Prop:=
 match qgq s with
 | none=>e=.returned (.tuple #[.agg #[.string ⟨#[]⟩,.slice none 0 0],.bool false])
 | some a=>∃va,e=.returned (.tuple #[.agg #[.string a.rel,va],.bool true])/\w'.ownsRow N 215 2 va a.args.length (a.args.flatMap tmC)/\a.args.length<=2/\1<=a.args.length/\(∀t∈a.args,t.num<=2)/\q1x 1200 a
theorem qsl{T:Nat}{x y a b:Vq}(h:X.heap[N]?=some (Obj.cells #[x,y] T (0,0))):(X.setCell ⟨N,0,none⟩ a).cell? ⟨N,0,none⟩=some a/\((X.setCell ⟨N,0,none⟩ a).setCell ⟨N,1,none⟩ b).cell? ⟨N,1,none⟩=some b:=by
 refine⟨by simp[World.cell?,Qb h 0 a],by simp[World.cell?,Qb (Qb h 0 a) 1 b]⟩
theorem qy6(s:ByteArray)(w:Wq)(hs:s.size<=1048576) :
  Calls Tryz.prog 114 #[.string s] w λe w'=>qei s w.heap.size e w'/\Below w.heap.size w w':=by
 obtain⟨N,hN⟩:∃N,N=w.heap.size:=⟨_,rfl⟩;have hNr:=hN.symm;rw[<- hN];obtain⟨W0,hW0⟩:∃W0,W0=w.alloc (.cells #[.string ⟨#[]⟩,.slice none 0 0] 145):=⟨_,rfl⟩;have hs0:W0.heap.size=N+1:=by rw[hW0];simp[hNr]
 have hb0:Below N w W0:=by rw[hW0];exact (Below.refl _ w).alloc (by omega) _
 have qae:W0.heap[N]?=some (Obj.cells #[.string ⟨#[]⟩,.slice none 0 0] 145):=by rw[hW0,<- hNr];exact World.alloc_heap_new w _
 have hru:=qm0 s W0 hs
 have HKX:Hid (∀X,Below W0.heap.size W0 X->X.heap[N]?=some (Obj.cells #[.string ⟨#[]⟩,.slice none 0 0] 145)/\X.cell? ⟨N,0,none⟩=some (.string ⟨#[]⟩)/\X.cell? ⟨N,1,none⟩=some (.slice none 0 0)/\(∀o,X.frozen? ⟨N,o,none⟩=false)/\Below N w X):=by
  intro X hX;have h1:X.heap[N]?=some (Obj.cells #[.string ⟨#[]⟩,.slice none 0 0] 145):=(hX.block N (by omega)).trans qae;exact⟨h1,by simp[World.cell?,h1],by simp[World.cell?,h1],λo=>by simp[World.frozen?,h1],hb0.trans (hX.mono (by omega))⟩
 have HS0:Hid (W0.heap.size=N+1):=hs0;have HW0:Hid _:=hW0;clear hN hs0 hb0 qae;rw[hW0] at hru;by_cases hlong:300 < (R s 0).length
 ·have HD:Hid (∀(e:Ending) (w':Wq),e=.returned (.tuple #[.agg #[.string ⟨#[]⟩,.slice none 0 0],.bool false])->qei s N e w'):=by
   intro e w' he;unfold qei qgq;rw[if_pos hlong];exact he
  generalize R s 0=L at *;go_enter Tryz.func114,Tryz.ntmps114;go_wp2_with fail;refine hru.mono ?_;rintro e W1 ⟨v1,rfl,ho1,hb1⟩;rw[<- hW0] at hb1;obtain⟨k1,k2,k3,k4,k5⟩:=HKX.out W1 hb1;have hcc:=qsl (a:=.string ⟨#[]⟩) (b:=.slice none 0 0) k1;have HCC:Hid _:=hcc;have HB:Hid (Below N w ((W1.setCell ⟨N,0,none⟩ (.string ⟨#[]⟩)).setCell ⟨N,1,none⟩ (.slice none 0 0))):=(k5.setCell zl _).setCell zl _;obtain⟨a1,c1,rfl⟩:=qd ho1;clear ho1 hru k1 k5 hcc hb1;go_wp2;obtain⟨q1,q2⟩:=HCC.out;refine bodyPost_ret (v:=.tuple #[.agg #[.string ⟨#[]⟩,.slice none 0 0],.bool false]) (by simp[results,Tryz.results114,go_sem,q1,q2]) rfl ?_;exact⟨HD.out _ _ rfl,HB.out⟩
 ·have hL:(R s 0).length<=300:=by omega
  have htk:=λW1=>qqd s W1 hs hL;have hln:=qnp s;have qg7:=qet s;have htz:=qhw s hL;have hD:qgq s=if (Qv (lk0 true) (Q3 s)).1≠0 then none else qpr (Q3 s):=by unfold qgq;rw[if_neg hlong]
  generalize Q3 s=ts at *
  have hne:0 < ts.length:=by
   obtain⟨pre,E,h1,_⟩:=qg7;rw[h1];simp
  have hov:=λ(g cap:Nat) (W:Wq) (h:qex W g ts)=>qvo g cap ts true W h (by omega);by_cases hoe:(Qv (lk0 true) ts).1=0
  ·obtain⟨t,p,us,LL,vsF,k,rfl,hr1,hr2,hr0,hr3⟩:=qvl ts qg7 hoe;rw[if_neg (by simpa using hoe)] at hD;unfold qpr at hD;simp only[hr1] at hD;have hsz:=qii 1200 us _ _ _ _ (λu hu=>htz u (List.mem_cons_of_mem _ (List.mem_cons_of_mem _ hu))) hr1;have htx:=htz t List.mem_cons_self
   have HD:Hid (∀(e:Ending) (w':Wq),(∃va,e=.returned (.tuple #[.agg #[.string t.text,va],.bool true])/\w'.ownsRow N 215 2 va LL.length (LL.flatMap tmC))->qei s N e w'):=by
    rintro e w' ⟨va,h1,h2⟩;unfold qei;rw[hD];exact⟨va,h1,h2,hr2,hr0,hr3,htx,hsz⟩
   have q24:Hid (∀(g cap:Nat) (W:Wq),qgy W g (t::p::us)->Calls Tryz.prog 177 #[.slice (some ⟨g,0,none⟩) (t::p::us).length cap,.int .i64 0,.slice none 0 0] W λe w'=>∃va v' M,e=.returned (.tuple #[.agg #[.string t.text,va],.int .i64 M,v'])/\w'.ownsRow W.heap.size 215 2 va LL.length (LL.flatMap tmC)/\Below W.heap.size W w'):=by
    intro g cap W h;refine (qok g cap (t::p::us) 0 W.heap.size (.slice none 0 0) [] LL vsF k W h (by omega) (by simp) zl (by simp) (World.ownsRow_nil _ _ _ _) hr1).mono ?_;rintro e w' ⟨va,v',rfl,h1,h2,h3⟩;exact⟨va,v',_,rfl,h1,qmj h3 zl⟩
   have q3k:Hid (∀(g cap:Nat) (W:Wq),qex W g (t::p::us)->Calls Tryz.prog 108 #[.slice (some ⟨g,0,none⟩) (t::p::us).length cap,.bool true] W λe w'=>(∃p:Nat,e=.returned (.tuple #[.int .i64 0,.int .i64 p]))/\Below W.heap.size W w'):=by
    intro g cap W h;refine (hov g cap W h).mono ?_;rintro e w' ⟨rfl,hb⟩;refine⟨⟨(Qv (lk0 true) (t::p::us)).2,?_⟩,hb⟩;have e0:(Qv ⟨0,false,true,0,0,0,0⟩ (t::p::us)).1=0:=hoe;rw[e0];rfl
   clear hov hD hr1 hr2 hr3 hoe qg7 hlong htz hsz htx;generalize t.text=tx at *;generalize (t::p::us)=ts at *;generalize R s 0=L at *;go_enter Tryz.func114,Tryz.ntmps114;go_wp2_with fail;refine hru.mono ?_;rintro e W1 ⟨v1,rfl,ho1,hb1⟩;rw[<- hW0] at hb1;obtain⟨a1,c1,rfl⟩:=qd ho1;clear ho1 hru;go_wp2_with fail;refine (htk W1).mono ?_;rintro e W2 ⟨v2,rfl,ho2,hb2⟩;obtain⟨g,cap,rfl,hTA⟩:=ql6 ho2 hne;have qdz:Below W0.heap.size W0 W2:=hb1.trans (hb2.mono hb1.size);clear ho2 htk hb1 hb2;go_wp2_with fail;refine (q3k.out g cap W2 hTA.1).mono ?_;rintro e W3 ⟨⟨p3,rfl⟩,hb3⟩;have q23:=hTA.below hb3 hTA.1.1;have qf5:Below W0.heap.size W0 W3:=qdz.trans (hb3.mono qdz.size);clear hb3 hTA q3k qdz;go_wp2_with fail;refine (q24.out g cap W3 q23).mono ?_;rintro e W4 ⟨va,v4,M,rfl,hva,hb4⟩;have qjv:Below W0.heap.size W0 W4:=qf5.trans (hb4.mono qf5.size);obtain⟨k1,k2,k3,k4,k5⟩:=HKX.out W4 qjv;have hN3:N+1<=W3.heap.size:=by have:=qf5.size;rw[HS0.out] at this;exact this
   have hN4:N < W4.heap.size:=(zg k1).1;obtain⟨a4,c4,rfl⟩:=qd hva;have kA:Hid (∀O,(W4.alloc O).heap[N]?=some (Obj.cells #[.string ⟨#[]⟩,.slice none 0 0] 145)):=λO=>(Below.heap_alloc _ _ _ hN4).trans k1;have hcc:Hid (∀O,((W4.alloc O).setCell ⟨N,0,none⟩ (.string tx)).cell? ⟨N,0,none⟩=some (.string tx)/\(((W4.alloc O).setCell ⟨N,0,none⟩ (.string tx)).setCell ⟨N,1,none⟩ (.slice a4 LL.length c4)).cell? ⟨N,1,none⟩=some (.slice a4 LL.length c4)):=λO=>qsl (kA.out O)
   have q9:Hid (∀O,(((W4.alloc O).setCell ⟨N,0,none⟩ (.string tx)).setCell ⟨N,1,none⟩ (.slice a4 LL.length c4)).ownsRow N 215 2 (.slice a4 LL.length c4) LL.length (LL.flatMap tmC)/\Below N w (((W4.alloc O).setCell ⟨N,0,none⟩ (.string tx)).setCell ⟨N,1,none⟩ (.slice a4 LL.length c4))):=by
    intro O;refine⟨Qm (B:=W3.heap.size) (qm (hva.alloc O) (λg' hg' _=>?_)) (by omega),((k5.alloc (by omega) O).setCell zl _).setCell zl _⟩;have h1:=(Qh hva g' hg').1;rw[Below.heap_setCell _ _ _ _ (by simp;omega),Below.heap_setCell _ _ _ _ (by simp;omega)]
   have kB0:∀O,(W4.alloc O).cell? ⟨N,0,none⟩=some (.string ⟨#[]⟩):=λO=>by simp[World.cell?,kA.out O]
   have kB1:∀O,(W4.alloc O).cell? ⟨N,1,none⟩=some (.slice none 0 0):=λO=>by simp[World.cell?,kA.out O]
   have kBf:∀O o,(W4.alloc O).frozen? ⟨N,o,none⟩=false:=λO o=>by simp[World.frozen?,kA.out O]
   clear q24 hva hb4 qjv qf5 q23 k1 k5;have hNe:N≠W4.heap.size:=by omega
   go_wp2;have hhp:=Qb (Qb (kA.out (.cells #[.string tx,.slice a4 LL.length c4] 145)) 0 (.string tx)) 1 (.slice a4 LL.length c4);rw[World.setCell_alloc_past _ _ _ _ hN4,World.setCell_alloc_past _ _ _ _ (by simpa using hN4)] at hhp;have hff:=q9.out (.cells #[.string tx,.slice a4 LL.length c4] 145);rw[World.setCell_alloc_past _ _ _ _ hN4,World.setCell_alloc_past _ _ _ _ (by simpa using hN4)] at hff;have q1:(((W4.setCell ⟨N,0,none⟩ (.string tx)).setCell ⟨N,1,none⟩ (.slice a4 LL.length c4)).alloc (.cells #[.string tx,.slice a4 LL.length c4] 145)).cell? ⟨N,0,none⟩=some (.string tx):=by simp only[World.cell?,hhp];rfl
   have q2:(((W4.setCell ⟨N,0,none⟩ (.string tx)).setCell ⟨N,1,none⟩ (.slice a4 LL.length c4)).alloc (.cells #[.string tx,.slice a4 LL.length c4] 145)).cell? ⟨N,1,none⟩=some (.slice a4 LL.length c4):=by simp only[World.cell?,hhp];rfl
   refine bodyPost_ret (v:=.tuple #[.agg #[.string tx,.slice a4 LL.length c4],.bool true]) (by simp[results,Tryz.results114,go_sem,q1,q2]) rfl ?_;exact⟨HD.out _ _ ⟨_,rfl,hff.1⟩,hff.2⟩
  ·rw[if_pos hoe] at hD
   have HD:Hid (∀(e:Ending) (w':Wq),e=.returned (.tuple #[.agg #[.string ⟨#[]⟩,.slice none 0 0],.bool false])->qei s N e w'):=by
    intro e w' he;unfold qei;rw[hD];exact he
   have q3m:Hid (∀(g cap:Nat) (W:Wq),qex W g ts->Calls Tryz.prog 108 #[.slice (some ⟨g,0,none⟩) ts.length cap,.bool true] W λe w'=>e=.returned (.tuple #[.int .i64 (Qv (lk0 true) ts).1,.int .i64 (Qv (lk0 true) ts).2])/\Below W.heap.size W w'):=hov;clear hov hD qg7 hlong htz;generalize (Qv (lk0 true) ts).1=oe at *;generalize (Qv (lk0 true) ts).2=op at *;generalize R s 0=L at *;have m0:(oe == 0)=false:=by simpa using hoe
   have m1:(oe != 0)=true:=by simpa using hoe
   go_enter Tryz.func114,Tryz.ntmps114;go_wp2_with fail;refine hru.mono ?_;rintro e W1 ⟨v1,rfl,ho1,hb1⟩;rw[<- hW0] at hb1;obtain⟨a1,c1,rfl⟩:=qd ho1;clear ho1 hru;go_wp2_with fail;refine (htk W1).mono ?_;rintro e W2 ⟨v2,rfl,ho2,hb2⟩;obtain⟨g,cap,rfl,hTA⟩:=ql6 ho2 hne;have qdz:Below W0.heap.size W0 W2:=hb1.trans (hb2.mono hb1.size);clear ho2 htk hb1 hb2;go_wp2_with fail;refine (q3m.out g cap W2 hTA.1).mono ?_;rintro e W3 ⟨rfl,hb3⟩;have qf5:Below W0.heap.size W0 W3:=qdz.trans (hb3.mono qdz.size);obtain⟨k1,k2,k3,k4,k5⟩:=HKX.out W3 qf5;have hcc:=qsl (a:=.string ⟨#[]⟩) (b:=.slice none 0 0) k1;have HCC:Hid _:=hcc;have HB:Hid (Below N w ((W3.setCell ⟨N,0,none⟩ (.string ⟨#[]⟩)).setCell ⟨N,1,none⟩ (.slice none 0 0))):=(k5.setCell zl _).setCell zl _;clear hb3 hTA q3m qdz k1 k5 hcc qf5;go_wp2;obtain⟨q1,q2⟩:=HCC.out;refine bodyPost_ret (v:=.tuple #[.agg #[.string ⟨#[]⟩,.slice none 0 0],.bool false]) (by simp[results,Tryz.results114,go_sem,q1,q2]) rfl ?_;exact⟨HD.out _ _ rfl,HB.out⟩
def q8f:Nat->List ByteArray->ByteArray
 | _,[]=>⟨#[]⟩
 | i,x::l=>(if 0 < i then ⟨#[44]⟩ else ⟨#[]⟩)++x++q8f (i+1) l
def Qd4(g:Gr):ByteArray:=(g.rel ++ ⟨#[40]⟩)++q8f 0 g.args ++ ⟨#[41]⟩
def qdb:List ByteArray:=List.replicate 8 ⟨#[]⟩
theorem qvd(z:Vq)(n:Nat):(madeCells #[z] (n*1)).toList=List.replicate n z:=by
 unfold madeCells;rw[Nat.mul_one];apply List.ext_getElem
 ·simp
 ·intro i h1 h2;simp[Nat.mod_one]
theorem qpi(n:Nat):(madeCells (Value.string ⟨#[]⟩).cells (n*1)).toList=(List.replicate n (⟨#[]⟩:ByteArray)).map Value.string:=by
 have:(Value.string ⟨#[]⟩).cells=#[.string ⟨#[]⟩]:=rfl;rw[this,qvd];simp
theorem Qdp:(madeCells (Value.string ⟨#[]⟩).cells (8*1)).toList=qdb.map Value.string:=qpi 8
theorem qpv(w:Wq):Calls Tryz.prog 124 #[] w λe w'=>∃v,e=.returned v/\w'.ownsRow w.heap.size 9 1 v 8 (qdb.map Value.string)/\Below w.heap.size w w':=by
 obtain⟨i0,hi,hz0,hz1,hz2⟩:=info_parts Tryz.infoStr;have hc:i0.bytes*8<=281474976710656:=by rw[hz2];decide
 have hm:8<=maxLen:=by unfold maxLen;decide
 go_enter Tryz.func124,Tryz.ntmps124
 go_wp2_with (at_make;refine wpList_make_full _ rfl _ _ 22 rfl w.heap.size 9 i0 (.string ⟨#[]⟩) 1 Tryz.underlying22 hi hz0 hz1 .i64 .i64 _ _ 8 rfl rfl rfl rfl hc hm zl ?_;intro w1 hown1 hgrow1)
 go_ret;rw[Qdp] at hown1;exact⟨_,rfl,hown1,(Below.refl _ w).grown hgrow1 zl (λk hk=>by cases hk)⟩
structure qam(W:Wq)(a:Option Addr)(ps:List (Am×Vq)):Prop where
 cells:∀(k:Nat) (hk:k < ps.length),∃g off,a=some ⟨g,off,none⟩/\g < W.heap.size/\W.cell? ⟨g,off+k*2,none⟩=some (.string ps[k].1.rel)/\W.cell? ⟨g,off+k*2+1,none⟩=some ps[k].2
 each:∀p∈ps,qa7 W p
theorem qam.below{W':Wq}(h:qam W a ps)(hb:Below W.heap.size W W'):qam W' a ps:=
 ⟨λk hk=>by
  obtain⟨g,off,e,hg,c0,c1⟩:=h.cells k hk
  exact⟨g,off,e,Nat.lt_of_lt_of_le hg hb.size,(Below.cell hb hg).trans c0,(Below.cell hb hg).trans c1⟩,λp hp=>(h.each p hp).kept (Kp.ofBelow (S:=0) hb)⟩
theorem Qy.at{c:Nat}(h:Qy W (.slice a ps.length c) ps):qam W a ps:=
 ⟨λk hk=>by
  obtain⟨g,cap,e,hg,c0,c1,_⟩:=h.cell k hk;cases e
  exact⟨g,0,rfl,hg,by rw[Nat.zero_add];exact c0,by rw[Nat.zero_add];exact c1⟩,h.each⟩
theorem qam.drop{g off:Nat}(h:qam W (some ⟨g,off,none⟩) ps)(i:Nat):qam W (some ⟨g,off+i*2,none⟩) (ps.drop i):=
 ⟨λk hk=>by
  rw[List.length_drop] at hk;obtain⟨g',off',e,hg,c0,c1⟩:=h.cells (i+k) (by omega);cases e;refine⟨g,off+i*2,rfl,hg,?_,?_⟩
  ·rw[List.getElem_drop];have e:off+i*2+k*2=off+(i+k)*2:=by omega
   rw[e];exact c0
  ·rw[List.getElem_drop];have e:off+i*2+k*2+1=off+(i+k)*2+1:=by omega
   rw[e];exact c1,λp hp=>h.each p (List.mem_of_mem_drop hp)⟩
theorem qip(a:Option Addr)(c:Nat)(ps:List (Am×Vq))(n:Nat)(w:Wq)(hp:qam w a ps)(hl:ps.length<=1000)(hn:n<=1000000)(hm:∀p∈ps,p.1.args.length<=1000000/\∀t∈p.1.args,t.num<=1000000) :
  Calls Tryz.prog 246 #[.slice a ps.length c,.int .i64 n] w λe w'=>e=.returned (.bool (qz (ps.map (·.1)) n))/\w'=w:=by
 have HP:Hid (qam w a ps):=hp;clear hp;go_enter Tryz.func246,Tryz.ntmps246;go_wp2
 go_loopw [5] (λp wr=>∃i:Nat,p=.int .i64 i/\i<=ps.length/\wr=w/\Hid (qz ((ps.drop i).map (·.1)) n=qz (ps.map (·.1)) n)) (λp _=>ps.length - (intOf p).toNat)
 case atStart=>exact⟨0,rfl,Nat.zero_le _,rfl,rfl⟩
 case round=>
  obtain⟨i,rfl,hle,hww,hsp⟩:=hrel;obtain rfl:w=wr:=hww.symm;by_cases hlt:i < ps.length
  ·obtain⟨g,off,rfl,hg,c0,c1⟩:=HP.out.cells i hlt;have hAV:=HP.out.each ps[i] (List.getElem_mem hlt);obtain⟨x1,x2,hx⟩:=qd hAV;rw[List.drop_eq_getElem_cons hlt] at hsp;have hmi:=hm ps[i] (List.getElem_mem hlt);rw[hx] at c1;generalize ps[i]=p at *;simp only[List.map_cons,qz,List.any_cons] at hsp
   have hcl:Hid (∀(j:Nat) (hj:j < p.1.args.length),∃g2,x1=some ⟨g2,0,none⟩/\w.cell? ⟨g2,j*2,none⟩=some (.string p.1.args[j].name)/\w.cell? ⟨g2,j*2+1,none⟩=some (.int .i64 p.1.args[j].num)):=by
    intro j hj;obtain⟨g2,cap2,e2,_,d0,d1⟩:=hAV.cell j hj;rw[hx] at e2;cases e2;exact⟨g2,rfl,d0,d1⟩
   have HSP:Hid ((p.1.args.any (qhg n) || qz ((ps.drop (i+1)).map (·.1)) n)=qz (ps.map (·.1)) n):=hsp;obtain⟨hm1,hm2⟩:=hmi;clear hsp hAV hx c0;generalize p.1.args=args at *;go_wp2
   go_loopw [6] (λp wr=>∃k:Nat,p=.int .i64 k/\k<=args.length/\wr=w/\Hid (((args.drop k).any (qhg n) || qz ((ps.drop (i+1)).map (·.1)) n)=qz (ps.map (·.1)) n)) (λp _=>args.length - (intOf p).toNat)
   case atStart=>exact⟨0,rfl,Nat.zero_le _,rfl,HSP⟩
   case round=>
    obtain⟨k,rfl,qsz,hww,hsk⟩:=hrel;obtain rfl:w=wr:=hww.symm;by_cases hkl:k < args.length
    ·obtain⟨g2,rfl,d0,d1⟩:=hcl.out k hkl;have hm3:=hm2 args[k] (List.getElem_mem hkl);rw[List.drop_eq_getElem_cons hkl] at hsk;generalize args[k]=tm at *;obtain⟨nm,nu⟩:=tm;simp only[List.any_cons] at hsk d0 d1 hm3;by_cases h1:nm.toList.isEmpty=true
     ·by_cases h2:nu=n
      ·subst h2;have hT:qhg nu ⟨nm,nu⟩=true:=by unfold qhg;simp[h1]
       rw[hT] at hsk;go_wp2;go_ret;rw[<- hsk.out];exact⟨by simp,rfl⟩
      ·have hT:qhg n ⟨nm,nu⟩=false:=by unfold qhg;simp[h2]
       rw[hT] at hsk;have m2:((nu:Int) == (n:Int))=false:=by simp;omega
       go_wp2
       go_roundw
       case rel=>exact⟨k+1,by go_num,by omega,by trivial,by simpa using hsk⟩
       case measure=>simp[intOf];omega
     ·have h1':nm.toList.isEmpty=false:=by simpa using h1
      have hT:qhg n ⟨nm,nu⟩=false:=by unfold qhg;simp[h1']
      rw[hT] at hsk;clear h1;go_wp2
      go_roundw
      case rel=>exact⟨k+1,by go_num,by omega,by trivial,by simpa using hsk⟩
      case measure=>simp[intOf];omega
    ·rw[List.drop_eq_nil_of_le (by omega)] at hsk;simp only[List.any_nil,Bool.false_or] at hsk;go_wp2
     go_roundw
     case rel=>exact⟨i+1,by go_num,by omega,by trivial,hsk⟩
     case measure=>simp[intOf];omega
  ·rw[List.drop_eq_nil_of_le (by omega)] at hsp;go_wp2;go_ret;rw[<- hsp.out];exact⟨rfl,rfl⟩
def Qdn(x y:ByteArray):Bool:=Op.bytesLess x.toList y.toList
def Qdj(x:ByteArray):List ByteArray->List ByteArray
 | []=>[x]
 | y::l=>if Qdn x y=true then x::y::l else y::Qdj x l
def Qdx(out l:List ByteArray):List ByteArray:=l.foldl (λo x=>Qdj x o) out
structure qzn(N S:Nat)(w X:Wq)(vo:Vq)(out:List ByteArray)(vm:Vq)(m:List ByteArray):Prop where
 ns:N<=S
 size:S<=X.heap.size
 below:Below N w X
 oown:X.ownsRow N 9 1 vo out.length (out.map Value.string)
 oS:∀g,vo.ownBlock=some g->g < S
 mown:X.ownsRow S 9 1 vm m.length (m.map Value.string)
theorem qzn.app{w:Wq}{vm':Vq}{x:ByteArray}{o:Obj}(h:qzn N S w X vo out vm m)(hg:(X.alloc o).grownBy Y vm.ownBlock)(ho:Y.ownsRow S 9 1 vm' (m.length+1) (m.map Value.string++[.string x])):qzn N S w Y vo out vm' (m++[x]):=by
 have h1:=h.ns;have h2:=h.size;have hsz:=hg.size;simp at hsz;have hlo:∀k,vm.ownBlock=some k->S<=k:=λk e=>(Qh h.mown k e).1;refine⟨h.ns,by omega,(h.below.alloc (by omega) o).grown hg (by simp;omega) (λk e=>by have:=hlo k e;omega),?_,h.oS,by simpa using ho⟩;refine qm h.oown (λg hg' hlt=>?_);exact (hg.block g (by simp;omega) (λe=>by have:=hlo g e.symm;have:=h.oS g hg';omega)).trans (Below.heap_alloc _ _ _ hlt)
theorem qzn.drewN{w:Wq}(h:qzn N S w X vo out vm m)(q:Nat):qzn N S w (X.drewN q) vo out vm m:=⟨h.ns,h.size,qq h.below,h.oown,h.oS,h.mown⟩
def qg(x:ByteArray):Bool:=x.toList.isEmpty
def eqB(x y:ByteArray):Bool:=x.toList == y.toList
def qgo:List Tm->List ByteArray->List ByteArray->Option (List ByteArray)
 | [],_,b=>some b
 | t::ts,[],b=>none
 | t::ts,x::xs,b=>
  if qg t.name=false then (if eqB t.name x=true then qgo ts xs b else none)
  else if qg (b.getD t.num ⟨#[]⟩)=true then qgo ts xs (b.set t.num x)
  else if eqB (b.getD t.num ⟨#[]⟩) x=true then qgo ts xs b else none
def qd9(a:Am)(g:Gr)(b:List ByteArray):Option (List ByteArray):=if eqB a.rel g.rel=true/\a.args.length=g.args.length then qgo a.args g.args b else none
def q5s(b o:List ByteArray):Prop:=o.length=b.length/\∀n,qg (b.getD n ⟨#[]⟩)=false->o.getD n ⟨#[]⟩=b.getD n ⟨#[]⟩
theorem q5s.set{b o:List ByteArray}(h:q5s b o)(n:Nat)(x:ByteArray)(hn:qg (o.getD n ⟨#[]⟩)=true):q5s b (o.set n x):=by
 refine⟨by rw[List.length_set];exact h.1,λm hm=>?_⟩;have h1:=h.2 m hm;by_cases e:m=n
 ·subst e;rw[h1] at hn;rw[hn] at hm;cases hm
 ·rw[<- h1];simp only[List.getD_eq_getElem?_getD,List.getElem?_set];rw[if_neg (λh=>e h.symm)]
theorem q7s(b:List ByteArray):∀(ts:List Tm) (xs o:List ByteArray) (i:Nat) (h1:i < ts.length) (h2:i < xs.length),q5s b o->qg (qi2 b ts[i])=false->eqB (qi2 b ts[i]) xs[i]=false->qgo ts xs o=none
 | t::ts,x::xs,o,0,h1,h2,hE,he,hq=>by
  simp only[List.getElem_cons_zero] at he hq;unfold qgo;unfold qi2 at he hq;by_cases hn:t.name.toList.isEmpty=true
  ·rw[if_pos hn] at he hq;have hn':qg t.name=true:=hn;rw[if_neg (by rw[hn'];simp),hE.2 _ he,if_neg (by rw[he];simp),if_neg (by rw[hq];simp)]
  ·have hn':qg t.name=false:=by unfold qg;simpa using hn
   rw[if_neg hn] at hq;rw[if_pos hn',if_neg (by rw[hq];simp)]
 | t::ts,x::xs,o,i+1,h1,h2,hE,he,hq=>by
  simp only[List.getElem_cons_succ] at he hq;have ih:=λo' hE'=>q7s b ts xs o' i (by simpa using h1) (by simpa using h2) hE' he hq;unfold qgo;split
  ·split
   ·exact ih o hE
   ·rfl
  ·split
   ·rename_i hem;exact ih _ (hE.set _ _ hem)
   ·split
    ·exact ih o hE
    ·rfl
structure qd2(N:Nat)(w X:Wq)(r1:ByteArray)(v1:Vq)(r2:ByteArray)(v2:Vq)(out:List ByteArray):Prop where
 below:Below N w X
 b1:X.heap[N]?=some (Obj.cells #[.string r1,v1] 145)
 b2:X.heap[N+1]?=some (Obj.cells #[.string r2,v2] 226)
 row:X.heap[N+2]?=some (Obj.cells (out.map Value.string).toArray 9)
theorem qd2.alloc{w:Wq}(h:qd2 N w X r1 v1 r2 v2 out)(o:Obj):qd2 N w (X.alloc o) r1 v1 r2 v2 out:=by
 have hs:N+3<=X.heap.size:=(zg h.row).1;exact⟨h.below.alloc (by omega) o,(Below.heap_alloc _ _ _ (by omega)).trans h.b1,(Below.heap_alloc _ _ _ (by omega)).trans h.b2,(Below.heap_alloc _ _ _ (by omega)).trans h.row⟩
theorem qd2.drew{w:Wq}(h:qd2 N w X r1 v1 r2 v2 out):qd2 N w X.drew r1 v1 r2 v2 out:=⟨h.below.drew,h.b1,h.b2,h.row⟩
theorem qd2.drewN{w:Wq}(h:qd2 N w X r1 v1 r2 v2 out)(q:Nat):qd2 N w (X.drewN q) r1 v1 r2 v2 out:=⟨qq h.below,h.b1,h.b2,h.row⟩
theorem qd2.like{w:Wq}(h:qd2 N w X r1 v1 r2 v2 out)(hh:Y.heap=X.heap)(h1:Y.os=X.os)(h2:Y.tape=X.tape)(h3:Y.output=X.output):qd2 N w Y r1 v1 r2 v2 out:=
 ⟨⟨h1.trans h.below.os,h2.trans h.below.tape,h3.trans h.below.output,by rw[hh];exact h.below.size,λk hk=>by rw[hh];exact h.below.block k hk⟩,by rw[hh];exact h.b1,by rw[hh];exact h.b2,by rw[hh];exact h.row⟩
theorem qd2.set{w:Wq}(h:qd2 N w X r1 v1 r2 v2 out)(k:Nat)(x:ByteArray):qd2 N w (X.setCell ⟨N+2,k,none⟩ (.string x)) r1 v1 r2 v2 (out.set k x):=by
 refine⟨h.below.setCell (by simp) _,(Below.heap_setCell _ _ _ _ (by simp)).trans h.b1,(Below.heap_setCell _ _ _ _ (by simp)).trans h.b2,?_⟩;rw[Qb h.row k (.string x)];congr 2;rw[<- Array.toList_inj];simp[List.map_set]
theorem qd2.cell{w:Wq}(h:qd2 N w X r1 v1 r2 v2 out)(k:Nat)(hk:k < out.length):X.cell? ⟨N+2,k,none⟩=some (.string (out.getD k ⟨#[]⟩)):=by
 simp[World.cell?,h.row,List.getElem?_eq_getElem hk]
theorem qd2.own{w:Wq}(h:qd2 N w X r1 v1 r2 v2 out)(hl:out.length<=1000):X.ownsRow N 9 1 (.slice (some ⟨N+2,0,none⟩) out.length out.length) out.length (out.map Value.string):=
 ⟨by simp,.inr ⟨N+2,out.length,(out.map Value.string).toArray,rfl,by omega,h.row,Nat.le_refl _,by unfold maxLen;omega,by simp,by rw[Nat.mul_one];exact List.take_of_length_le (by simp)⟩⟩
