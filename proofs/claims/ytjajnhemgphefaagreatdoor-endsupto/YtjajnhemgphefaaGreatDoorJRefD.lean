/- The document's own answer: the tokens of a text, in a row -/
import Derived.Test.YtjajnhemgphefaaGreatDoorJRefC
set_option linter.unusedVariables false
set_option linter.unusedSimpArgs false
set_option maxRecDepth 100000
set_option maxHeartbeats 4000000
namespace Go.Proofs.YtjajnhemgphefaaGreatDoor
open Go renaming World->Wq,Value->Vq
open Go.RowKit Go.Shelf
variable {wr W0:Wq} {L:List Rn} {B i:Nat} {acc:List RT}
def rtC(t:RT):List Vq:=[.int .i64 t.kind,.string t.text,.int .i64 t.place,.int .i64 t.runes]
theorem q69(t:RT):(rtC t).length=4:=rfl
theorem q4z(t:Rn):(rnC t).length=2:=rfl
theorem Tryz.infoRT:(Tryz.prog.info? 244).map (λi=>(i.zero,i.size,i.bytes))=some (some (.agg #[.int .i64 0,.string ⟨#[]⟩,.int .i64 0,.int .i64 0]),4,40):=by kernel_rfl
def Q3(s:ByteArray):List RT:=qbs (R s 0).length (R s 0) 0++[⟨4,⟨#[]⟩,(R s 0).length,0⟩]
def qe3(w:Wq)(a:Addr):Nat:=match w.cell? a with | some (.int _ n)=>n.toNat | _=>0
theorem qqk{wo:Wq}{N r T:Nat}{k a:Vq}{txt:ByteArray}(hh:wr.heap[N]?=some (Obj.cells #[k,.string txt,a,.int .i64 r] T (0,0)))(hb:Below N wo wr)(hs:wr.heap.size=N+1)(t:ByteArray) :
  ((wr.setCell ⟨N,1,none⟩ (.string t)).setCell ⟨N,3,none⟩ (.int .i64 ((r:Int)+1))).drew.heap[N]?=some (Obj.cells #[k,.string t,a,.int .i64 (r+1:Nat)] T (0,0))/\
  Below N wo ((wr.setCell ⟨N,1,none⟩ (.string t)).setCell ⟨N,3,none⟩ (.int .i64 ((r:Int)+1))).drew/\
  ((wr.setCell ⟨N,1,none⟩ (.string t)).setCell ⟨N,3,none⟩ (.int .i64 ((r:Int)+1))).drew.heap.size=N+1/\
  qe3 ((wr.setCell ⟨N,1,none⟩ (.string t)).setCell ⟨N,3,none⟩ (.int .i64 ((r:Int)+1))).drew ⟨N,3,none⟩=r+1:=by
 have h1:((wr.setCell ⟨N,1,none⟩ (.string t)).setCell ⟨N,3,none⟩ (.int .i64 ((r:Int)+1))).heap[N]?=some (Obj.cells #[k,.string t,a,.int .i64 (r+1:Nat)] T (0,0)):=by
  simp[World.setCell,Array.getElem?_modify,hh]
 refine⟨h1,((hb.setCell zl _).setCell zl _).drew,?_,?_⟩
 ·show ((wr.setCell ⟨N,1,none⟩ (.string t)).setCell ⟨N,3,none⟩ (.int .i64 ((r:Int)+1))).heap.size=N+1;simp[hs]
 ·show qe3 ((wr.setCell ⟨N,1,none⟩ (.string t)).setCell ⟨N,3,none⟩ (.int .i64 ((r:Int)+1))) ⟨N,3,none⟩=r+1;simp[qe3,World.cell?,h1]
theorem quc(L:List Rn)(i r:Nat)(hr:1<=r)(hl:i+r < L.length):∃h:r - 1 < (L.drop (i+1)).length,(L.drop (i+1))[r - 1]=L[i+r]:=by
 refine⟨by rw[List.length_drop];omega,?_⟩;rw[List.getElem_drop];congr 1;omega
structure qsg(L:List Rn)(B:Nat)(W0 wr:Wq)(v:Vq)(i:Nat)(acc:List RT):Prop where
 le:i<=L.length
 spec:acc++qbs L.length (L.drop i) i=qbs L.length L 0
 few:acc.length<=i
 own:wr.ownsRow B 244 4 v acc.length (acc.flatMap rtC)
 below:Below B W0 wr
theorem qsg.blank{wr':Wq}{v:Vq}(h:qsg L B W0 wr v i acc)(hi:i < L.length)(hk:L[i].kind=4)(hb:Below wr.heap.size wr wr')(hB:B<=wr.heap.size):qsg L B W0 wr' v (i+1) acc:=by
 refine⟨hi,?_,by have:=h.few;omega,qk h.own hb,h.below.trans (hb.mono hB)⟩;rw[<- h.spec];have e:=List.drop_eq_getElem_cons hi;congr 1;obtain⟨n,hn⟩:∃n,L.length=n+1:=⟨L.length - 1,by omega⟩;rw[hn,e]
 conv=>rhs;unfold qbs
 rw[if_neg (by omega),if_neg (by omega),if_neg (by omega),if_pos hk];exact qfb _ _ _ _ (by simp;omega) (by simp;omega)
theorem qsg.more{X w1:Wq}{v v':Vq}{d:Nat}(h:qsg L B W0 wr v i acc)(t:RT)(hd:1<=d)(hi:i+d<=L.length)(hs:qbs L.length (L.drop i) i=t::qbs (L.length - 1) (L.drop (i+d)) (i+d))(hX:Below B W0 X)(hXs:B<=X.heap.size)(ho:w1.ownsRow B 244 4 v' (acc.length+1) (acc.flatMap rtC++rtC t))(hg:X.grownBy w1 v.ownBlock):qsg L B W0 w1 v' (i+d) (acc++[t]):=by
 refine⟨hi,?_,by have:=h.few;simp only[List.length_append,List.length_singleton];omega,by simpa using ho,hX.grown hg hXs (λk hk=>(h.own.lt k hk).1)⟩;rw[<- h.spec,hs,List.append_assoc];congr 1;simp only[List.singleton_append,List.cons.injEq,true_and];exact qfb _ _ _ _ (by rw[List.length_drop];omega) (by rw[List.length_drop];omega)
theorem qn9(L:List Rn)(i:Nat)(hi:i < L.length):qbs L.length (L.drop i) i=qbs (L.length - 1+1) (L[i]::L.drop (i+1)) i:=by
 rw[List.drop_eq_getElem_cons hi];congr 1;omega
theorem qrg(L:List Rn)(i:Nat):((L.drop i).head?.map (·.kind))=some 7↔∃h:i < L.length,L[i].kind=7:=by
 rw[List.head?_drop];by_cases h:i < L.length
 ·rw[List.getElem?_eq_getElem h];simp[h]
 ·rw[List.getElem?_eq_none (by omega)];simp[h]
theorem q06(L:List Rn)(i:Nat)(hi:i < L.length)(hk:L[i].kind=5):qbs L.length (L.drop i) i=⟨(byN L[i].text 0:Int),L[i].text,i,1⟩::qbs (L.length - 1) (L.drop (i+1)) (i+1):=by
 rw[qn9 L i hi];conv=>lhs;unfold qbs
 rw[if_neg (by omega),if_pos hk];rfl
theorem q07(L:List Rn)(i:Nat)(hi:i < L.length)(hk:L[i].kind=6)(h:∃h:i+1 < L.length,L[i+1].kind=7):qbs L.length (L.drop i) i=⟨3,⟨#[]⟩,i,2⟩::qbs (L.length - 1) (L.drop (i+2)) (i+2):=by
 rw[qn9 L i hi];conv=>lhs;unfold qbs
 rw[if_neg (by omega),if_neg (by omega),if_pos ⟨hk,(qrg L (i+1)).2 h⟩,List.drop_drop]
theorem q4y(L:List Rn)(i:Nat)(hi:i < L.length)(h1:L[i].kind≠1)(h2:L[i].kind≠2)(h4:L[i].kind≠4)(h5:L[i].kind≠5)(h6:L[i].kind=6->∀h:i+1 < L.length,L[i+1].kind≠7):qbs L.length (L.drop i) i=⟨5,L[i].text,i,1⟩::qbs (L.length - 1) (L.drop (i+1)) (i+1):=by
 rw[qn9 L i hi];conv=>lhs;unfold qbs
 rw[if_neg (by omega),if_neg h5,if_neg (λhh=>by obtain⟨x,y⟩:=(qrg L (i+1)).1 hh.2;exact h6 hh.1 x y),if_neg h4]
theorem q08(L:List Rn)(i:Nat)(hi:i < L.length)(hk:L[i].kind=1\/L[i].kind=2):qbs L.length (L.drop i) i=⟨L[i].kind,L[i].text++cat (tw (L.drop (i+1))),i,1+(tw (L.drop (i+1))).length⟩::qbs (L.length - 1) (L.drop (i+(1+(tw (L.drop (i+1))).length))) (i+(1+(tw (L.drop (i+1))).length)):=by
 rw[qn9 L i hi];conv=>lhs;unfold qbs
 rw[if_pos hk,List.drop_drop,Nat.add_assoc]
theorem qqd(s:ByteArray)(w:Wq)(hs:s.size<=1048576)(hL:(R s 0).length<=300) :
  Calls Tryz.prog 107 #[.string s] w λe w'=>∃v,e=.returned v/\w'.ownsRow w.heap.size 244 4 v (Q3 s).length ((Q3 s).flatMap rtC)/\Below w.heap.size w w':=by
 obtain⟨i0,hi,hz0,hz1,hz2⟩:=info_parts Tryz.infoRT;have hrs:=qwg s s.size 0 (by omega);have hru:=qm0 s w hs;unfold Q3;generalize R s 0=L at *;go_enter Tryz.func107,Tryz.ntmps107
 go_wp2_with (go_at_call 106;refine hru.mono ?_;rintro e W0 ⟨vl,rfl,qo9,hb0⟩)
 obtain⟨la,lc,hvl⟩:=qd qo9
 have qb5:∀(j:Nat) (hj:j < L.length),∃g,la=some ⟨g,0,none⟩/\g < W0.heap.size/\W0.cell? ⟨g,j*2,none⟩=some (.int .i64 L[j].kind)/\W0.cell? ⟨g,j*2+1,none⟩=some (.string L[j].text):=by
  intro j hj;obtain⟨g,cap,e1,e2,e3,e4,e5⟩:=qbq qo9 q4z (by omega);rw[e1] at hvl;cases hvl;exact⟨g,rfl,e3,e5 j 0 hj _ (by decide) rfl,e5 j 1 hj _ (by decide) rfl⟩
 subst hvl;obtain⟨B,hB⟩:∃B,B=W0.heap.size:=⟨_,rfl⟩;have HB:Hid (W0.heap.size=B):=hB.symm;have HCL:Hid (∀(j:Nat) (hj:j < L.length),∃g,la=some ⟨g,0,none⟩/\g < B/\W0.cell? ⟨g,j*2,none⟩=some (.int .i64 L[j].kind)/\W0.cell? ⟨g,j*2+1,none⟩=some (.string L[j].text)):=by rw[hB];exact qb5
 have HW:Hid (w.heap.size<=B/\Below w.heap.size w W0):=by rw[hB];exact⟨hb0.size,hb0⟩
 clear hB qb5 qo9 hb0 hru
 go_loopw [4,5] (λv a wr=>∃(i:Nat) (acc:List RT) (v1:Vq),v1=v/\a=.int .i64 i/\qsg L B W0 wr v1 i acc)
  (λ_ a _=>L.length - (intOf a).toNat)
 case atStart=>exact⟨0,[],_,rfl,rfl,Nat.zero_le _,rfl,Nat.le_refl _,World.ownsRow_nil _ _ _ _,Below.refl _ _⟩
 case round=>
  obtain⟨i,acc,v,rfl,rfl,hT⟩:=hrel;by_cases hlt:i < L.length
  ·obtain⟨g,rfl,hgB,hc0,hc1⟩:=HCL.out i hlt;have qiq:=hT.below;have hsz:=qiq.size;have d0:wr.cell? ⟨g,i*2,none⟩=some (.int .i64 L[i].kind):=(qiq.cell hgB).trans hc0;have d1:wr.cell? ⟨g,i*2+1,none⟩=some (.string L[i].text):=(qiq.cell hgB).trans hc1;have hrz:=hrs L[i] (List.getElem_mem hlt);have HT:Hid (qsg L B W0 wr v i acc):=hT;have qmq:=hT.few;have hbs:B<=wr.heap.size:=Nat.le_trans (Nat.le_of_eq HB.out.symm) hsz;have Qcc:g≠wr.heap.size:=by omega
   clear hT hc0 hc1 qiq hsz;obtain⟨kd,hkd⟩:∃kd,L[i].kind=kd:=⟨_,rfl⟩;obtain⟨tx,htx⟩:∃tx,L[i].text=tx:=⟨_,rfl⟩;rw[hkd] at d0;rw[htx] at d1 hrz;have HK:Hid (L[i].kind=kd):=hkd;have HX:Hid (L[i].text=tx):=htx;clear hkd htx
   have qdt:Hid (∀(O:Obj) (x y z u:Vq) (t:TypeId) (j:Nat) (q:Vq),[x,y,z,u][j]?=some q->((wr.alloc O).alloc (.cells #[x,y,z,u] t)).cell? ((⟨wr.heap.size+1,0,none⟩:Addr).add j)=some q):=by
    intro O x y z u t j q hq;have:=qg5 (wr.alloc O) x y z u t j q hq;rw[World.size_alloc] at this;exact this
   have h1c:∀(k r:Int) (t:ByteArray),∀u∈[Value.int .i64 k,.string t,.int .i64 i,.int .i64 r],u.oneCell'=true:=λk r t=>by simp[Value.oneCell']
   have hc3:acc.length+1<=maxLen:=by unfold maxLen;omega
   have hc4:(acc.length+1)*40<=140737488355328:=by omega
   have hc5:Hid (∀(O O':Obj),B<=((wr.alloc O).alloc O').heap.size):=λO O'=>by simp;omega
   have hbl:Hid (∀(O O':Obj),Below B W0 ((wr.alloc O).alloc O')):=λO O'=>(HT.out.below.alloc hbs O).alloc (by simp;omega) O'
   have qc8:Hid (∀(a b c d:Vq) (O:Obj) (w1:Wq),((wr.alloc (.cells #[a,b,c,d] 244)).alloc O).grownBy w1 v.ownBlock->w1.cell? ⟨wr.heap.size,3,none⟩=some d):=by
    intro a b c d O w1 hg
    have h1:w1.heap[wr.heap.size]?=some (Obj.cells #[a,b,c,d] 244):=by
     rw[hg.block wr.heap.size (by simp;omega) (λe=>?_),Below.heap_alloc _ _ _ (by simp),World.alloc_heap_new];have:=(HT.out.own.lt _ e.symm).2;omega
    simp[World.cell?,h1]
   by_cases k4:kd=4
   ·subst k4;go_wp2;have hT':=HT.out.blank hlt HK.out ((Below.refl wr.heap.size wr).alloc zl (Obj.cells #[.int .i64 5,.string tx,.int .i64 i,.int .i64 1] 244)) hbs
    go_roundw
    case rel=>exact⟨i+1,acc,v,rfl,by go_num,hT'⟩
    case measure=>simp[intOf];omega
   by_cases k5:kd=5
   ·subst k5;have h0:0 < tx.size:=by omega
    have hb:=qoq tx 0 h0;have hcb:=qgn tx 0;have dA1:∀O,(wr.alloc O).cell? ⟨g,i*2+1,none⟩=some (.string tx):=λO=>(Below.cell ((Below.refl wr.heap.size wr).alloc zl O) (by simp;omega)).trans d1;have hsp:=q06 L i hlt HK.out;rw[HX.out] at hsp;have HS:Hid _:=hsp;clear hsp;generalize byN tx 0=c at *
    go_wp2_with (first
     | (at_builtin;refine wpList_append_own _ rfl (.tmp 105) (.tmp 107) 209 rfl B 244 i0 (.agg #[.int .i64 0,.string ⟨#[]⟩,.int .i64 0,.int .i64 0]) 4 40 Tryz.underlying209 hi hz0 hz1 hz2 rfl (by decide) _ _ _ rfl ((HT.out.own.alloc _).alloc _) ⟨wr.heap.size+1,0,none⟩ 1 1 [.int .i64 c,.string tx,.int .i64 i,.int .i64 1] rfl rfl (qdt.out _ _ _ _ _ _) (h1c _ _ _) hc3 hc4 (hc5.out _ _) ?_;intro v' w1 hown1 hgrow1 _;have hck:=qc8.out _ _ _ _ _ _ hgrow1))
    have hT':=HT.out.more ⟨c,tx,i,1⟩ (Nat.le_refl 1) hlt HS.out (hbl.out _ _) (hc5.out _ _) hown1 hgrow1;clear hown1 hgrow1
    go_roundw
    case rel=>exact⟨i+1,_,v',rfl,by go_num,hT'⟩
    case measure=>simp[intOf];omega
   have Qbw:Hid (kd≠1->kd≠2->(kd=6->∀h:i+1 < L.length,L[i+1].kind≠7)->qbs L.length (L.drop i) i=⟨5,tx,i,1⟩::qbs (L.length - 1) (L.drop (i+1)) (i+1)):=by
    intro a1 a2 a6;have:=q4y L i hlt (by rw[HK.out];exact a1) (by rw[HK.out];exact a2) (by rw[HK.out];exact k4) (by rw[HK.out];exact k5) (by rw[HK.out];exact a6);rw[HX.out] at this;exact this
   have k4':((kd:Int) == 4)=false:=by simp;omega
   have k5':((kd:Int) == 5)=false:=by simp;omega
   by_cases k6:kd=6
   ·subst k6;by_cases h7:∃h:i+1 < L.length,L[i+1].kind=7
    ·obtain⟨hl1,h7⟩:=h7;have hsp:Hid _:=q07 L i hlt HK.out ⟨hl1,h7⟩;obtain⟨g',e',Qb9,qsw,qut⟩:=HCL.out (i+1) hl1
     cases e'
     rw[h7] at qsw;have dA0:∀O,(wr.alloc O).cell? ⟨g,(i+1)*2,none⟩=some (.int .i64 7):=λO=>(Below.cell (HT.out.below.alloc hbs O) hgB).trans qsw;clear qsw qut h7
     go_wp2_with (first
      | (at_builtin;refine wpList_append_own _ rfl (.tmp 105) (.tmp 107) 209 rfl B 244 i0 (.agg #[.int .i64 0,.string ⟨#[]⟩,.int .i64 0,.int .i64 0]) 4 40 Tryz.underlying209 hi hz0 hz1 hz2 rfl (by decide) _ _ _ rfl ((HT.out.own.alloc _).alloc _) ⟨wr.heap.size+1,0,none⟩ 1 1 [.int .i64 3,.string ⟨#[]⟩,.int .i64 i,.int .i64 2] rfl rfl (qdt.out _ _ _ _ _ _) (h1c _ _ _) hc3 hc4 (hc5.out _ _) ?_;intro v' w1 hown1 hgrow1 _;have hck:=qc8.out _ _ _ _ _ _ hgrow1))
     have hT':=HT.out.more ⟨3,⟨#[]⟩,i,2⟩ (by decide) hl1 hsp.out (hbl.out _ _) (hc5.out _ _) hown1 hgrow1;clear hown1 hgrow1
     go_roundw
     case rel=>exact⟨i+2,_,v',rfl,by go_num,hT'⟩
     case measure=>simp[intOf];omega
    ·have hsp:Hid _:=Qbw.out (by decide) (by decide) (λ_ h e=>h7 ⟨h,e⟩);by_cases hl1:i+1 < L.length
     ·obtain⟨g',e',Qb9,qsw,qut⟩:=HCL.out (i+1) hl1
      cases e'
      have h7':L[i+1].kind≠7:=λe=>h7 ⟨hl1,e⟩;generalize L[i+1].kind=k7 at *;have m7:((k7:Int) == 7)=false:=by simp;omega
      have dA0:∀O,(wr.alloc O).cell? ⟨g,(i+1)*2,none⟩=some (.int .i64 k7):=λO=>(Below.cell (HT.out.below.alloc hbs O) hgB).trans qsw;clear qsw qut h7
      go_wp2_with (first
       | (at_builtin;refine wpList_append_own _ rfl (.tmp 105) (.tmp 107) 209 rfl B 244 i0 (.agg #[.int .i64 0,.string ⟨#[]⟩,.int .i64 0,.int .i64 0]) 4 40 Tryz.underlying209 hi hz0 hz1 hz2 rfl (by decide) _ _ _ rfl ((HT.out.own.alloc _).alloc _) ⟨wr.heap.size+1,0,none⟩ 1 1 [.int .i64 5,.string tx,.int .i64 i,.int .i64 1] rfl rfl (qdt.out _ _ _ _ _ _) (h1c _ _ _) hc3 hc4 (hc5.out _ _) ?_;intro v' w1 hown1 hgrow1 _;have hck:=qc8.out _ _ _ _ _ _ hgrow1))
      have hT':=HT.out.more ⟨5,tx,i,1⟩ (by decide) hlt hsp.out (hbl.out _ _) (hc5.out _ _) hown1 hgrow1;clear hown1 hgrow1
      go_roundw
      case rel=>exact⟨i+1,_,v',rfl,by go_num,hT'⟩
      case measure=>simp[intOf];omega
     ·go_wp2_with (first
       | (at_builtin;refine wpList_append_own _ rfl (.tmp 105) (.tmp 107) 209 rfl B 244 i0 (.agg #[.int .i64 0,.string ⟨#[]⟩,.int .i64 0,.int .i64 0]) 4 40 Tryz.underlying209 hi hz0 hz1 hz2 rfl (by decide) _ _ _ rfl ((HT.out.own.alloc _).alloc _) ⟨wr.heap.size+1,0,none⟩ 1 1 [.int .i64 5,.string tx,.int .i64 i,.int .i64 1] rfl rfl (qdt.out _ _ _ _ _ _) (h1c _ _ _) hc3 hc4 (hc5.out _ _) ?_;intro v' w1 hown1 hgrow1 _;have hck:=qc8.out _ _ _ _ _ _ hgrow1))
      have hT':=HT.out.more ⟨5,tx,i,1⟩ (by decide) hlt hsp.out (hbl.out _ _) (hc5.out _ _) hown1 hgrow1;clear hown1 hgrow1
      go_roundw
      case rel=>exact⟨i+1,_,v',rfl,by go_num,hT'⟩
      case measure=>simp[intOf];omega
   have k6':((kd:Int) == 6)=false:=by simp;omega
   by_cases kw:kd=1\/kd=2
   ·have hsp:Hid _:=q08 L i hlt (by rw[HK.out];exact kw);have htl:=qzc (L.drop (i+1));rw[List.length_drop] at htl;have hgo:=Qd5 (L.drop (i+1));have qiw:=q7g (L.drop (i+1));have HGO:Hid _:=hgo;have HST:Hid _:=qiw;clear hgo qiw;obtain⟨wo,rfl⟩:∃wo,wo=wr:=⟨_,rfl⟩;obtain⟨N,hN⟩:∃N,N=wo.heap.size:=⟨_,rfl⟩;have hNB:B<=N:=by omega
    have hNr:=hN.symm;have hgN:g < N:=by omega
    have HCW:Hid (∀(j:Nat) (hj:j < L.length),wo.cell? ⟨g,j*2,none⟩=some (.int .i64 L[j].kind)/\wo.cell? ⟨g,j*2+1,none⟩=some (.string L[j].text)):=by
     intro j hj;obtain⟨g',e',Qb9,qsw,qut⟩:=HCL.out j hj
     cases e'
     exact⟨(Below.cell HT.out.below hgB).trans qsw,(Below.cell HT.out.below hgB).trans qut⟩
    clear hN;rcases kw with rfl | rfl
    ·go_wp2
     go_loopw [37] (λ_ wr'=>∃(r:Nat) (txt:ByteArray),1<=r/\r<=1+(tw (L.drop (i+1))).length/\Hid (txt=tx++cat ((L.drop (i+1)).take (r - 1)))/\txt.size<=4*r/\
       wr'.heap[N]?=some (Obj.cells #[.int .i64 1,.string txt,.int .i64 i,.int .i64 r] 244)/\Below N wo wr'/\wr'.heap.size=N+1) (λ_ wr'=>L.length+1 - qe3 wr' ⟨N,3,none⟩)
     case atStart=>
      refine⟨1,tx,Nat.le_refl _,by omega,?_,by omega,?_,(Below.refl _ _).alloc (by omega) _,by simp;omega⟩
      ·show tx=tx++ByteArray.empty;simp
      ·rw[<- hNr];exact World.alloc_heap_new wo _
     case round=>
      obtain⟨r,txt,hr1,hr2,qmt,htz,hh,hbw,hsw⟩:=hrel;have c0:wr.cell? ⟨N,0,none⟩=some (.int .i64 1):=by simp[World.cell?,hh]
      have c1:wr.cell? ⟨N,1,none⟩=some (.string txt):=by simp[World.cell?,hh]
      have c2:wr.cell? ⟨N,2,none⟩=some (.int .i64 i):=by simp[World.cell?,hh]
      have c3:wr.cell? ⟨N,3,none⟩=some (.int .i64 r):=by simp[World.cell?,hh]
      have f1:wr.frozen? ⟨N,1,none⟩=false:=by simp[World.frozen?,hh]
      have f3:wr.frozen? ⟨N,3,none⟩=false:=by simp[World.frozen?,hh]
      by_cases hl:i+r < L.length
      ·obtain⟨e0,e1⟩:=HCW.out (i+r) hl;have e0':wr.cell? ⟨g,(i+r)*2,none⟩=some (.int .i64 L[i+r].kind):=(Below.cell hbw hgN).trans e0;have e1':wr.cell? ⟨g,(i+r)*2+1,none⟩=some (.string L[i+r].text):=(Below.cell hbw hgN).trans e1;have q9x:=hrs L[i+r] (List.getElem_mem hl);obtain⟨hd1,hd2⟩:=quc L i r hr1 hl;obtain⟨k2,hk2⟩:∃k2,L[i+r].kind=k2:=⟨_,rfl⟩;obtain⟨t2,ht2⟩:∃t2,L[i+r].text=t2:=⟨_,rfl⟩;rw[hk2] at e0';rw[ht2] at e1' q9x;have HK2:Hid (L[i+r].kind=k2):=hk2;have HT2:Hid (L[i+r].text=t2):=ht2;clear hk2 ht2 e0 e1;by_cases hk3:k2<=3
       ·have hgo:=HGO.out (r - 1) (by omega) hd1 (by rw[hd2,HK2.out];exact hk3);have hw:=qqk hh hbw hsw (txt++t2)
        have q95:Hid (txt++t2=tx++cat ((L.drop (i+1)).take (r+1 - 1))):=by
         show _=_;have e:r+1 - 1=(r - 1)+1:=by omega
         rw[qmt.out,e,List.take_succ_eq_append_getElem hd1,qt3,hd2,HT2.out,ByteArray.append_assoc]
        have HW':Hid _:=hw;have hci:Hid (qe3 wr ⟨N,3,none⟩=r):=by show _=_;simp[qe3,c3]
        clear hh hbw hw hd1 hd2 qmt;have hts:txt.size+t2.size<=5000:=by omega
        go_wp2
        go_region
        go_wp2
        go_roundw
        case rel=>exact⟨r+1,txt++t2,by omega,by omega,q95,by rw[ByteArray.size_append];omega,HW'.out.1,HW'.out.2.1,HW'.out.2.2.1⟩
        case measure=>rw[HW'.out.2.2.2,hci.out];omega
       ·have hrt:r=1+(tw (L.drop (i+1))).length:=by
         have:=HST.out (r - 1) (by omega) (λhm=>by rw[hd2,HK2.out];exact hk3);omega
        have qit:wr.ownsRow B 244 4 v acc.length (acc.flatMap rtC):=qm HT.out.own (λg' _ hg'=>hbw.block g' (by omega));have hbR:Below B W0 wr:=HT.out.below.trans (hbw.mono hNB);have hxs:tx++cat (tw (L.drop (i+1)))=txt:=by rw[qmt.out,hrt,Nat.add_sub_cancel_left,<- qgj]
        rw[HX.out,HK.out,hxs,<- hrt] at hsp
        have hgv:Hid (∀(O:Obj) (w1:Wq),(wr.alloc O).grownBy w1 v.ownBlock->w1.cell? ⟨N,3,none⟩=some (.int .i64 r)):=by
         intro O w1 hg
         have h1:w1.heap[N]?=some (Obj.cells #[.int .i64 1,.string txt,.int .i64 i,.int .i64 r] 244):=by
          rw[hg.block N (by simp;omega) (λe=>?_),Below.heap_alloc _ _ _ (by omega)]
          ·exact hh
          ·have:=(HT.out.own.lt _ e.symm).2;omega
         simp[World.cell?,h1]
        have HOR:Hid (wr.ownsRow B 244 4 v acc.length (acc.flatMap rtC)):=qit;have HBR:Hid (Below B W0 wr):=hbR;have qo3:Hid (∀O,B<=(wr.alloc O).heap.size):=λO=>by simp;omega
        have hbb:B<=wr.heap.size:=by omega
        have HSP:Hid _:=hsp;have HRT:Hid _:=hrt;clear hh hbw hxs qit hbR qmt hrt hsp HGO HST hsw
        go_wp2_with (first
         | (at_builtin;refine wpList_append_own _ rfl (.tmp 105) (.tmp 107) 209 rfl B 244 i0 (.agg #[.int .i64 0,.string ⟨#[]⟩,.int .i64 0,.int .i64 0]) 4 40 Tryz.underlying209 hi hz0 hz1 hz2 rfl (by decide) _ _ _ rfl (HOR.out.alloc _) ⟨wr.heap.size,0,none⟩ 1 1 [.int .i64 1,.string txt,.int .i64 i,.int .i64 r] rfl rfl (qg5 _ _ _ _ _ _) (h1c _ _ _) hc3 hc4 (qo3.out _) ?_;intro v' w1 hown1 hgrow1 _;have hck:=hgv.out _ _ hgrow1))
        have hT':=HT.out.more ⟨1,txt,i,r⟩ hr1 (by have:=HRT.out;omega) HSP.out (HBR.out.alloc hbb _) (qo3.out _) hown1 hgrow1;clear hown1 hgrow1
        go_roundw
        case rel=>exact⟨i+r,_,v',rfl,by go_num,hT'⟩
        case measure=>simp[intOf];omega
      ·have hrt:r=1+(tw (L.drop (i+1))).length:=by
        have:=HST.out (r - 1) (by omega) (λhm=>by rw[List.length_drop] at hm;omega);omega
       have qit:wr.ownsRow B 244 4 v acc.length (acc.flatMap rtC):=qm HT.out.own (λg' _ hg'=>hbw.block g' (by omega));have hbR:Below B W0 wr:=HT.out.below.trans (hbw.mono hNB);have hxs:tx++cat (tw (L.drop (i+1)))=txt:=by rw[qmt.out,hrt,Nat.add_sub_cancel_left,<- qgj]
       rw[HX.out,HK.out,hxs,<- hrt] at hsp
       have hgv:Hid (∀(O:Obj) (w1:Wq),(wr.alloc O).grownBy w1 v.ownBlock->w1.cell? ⟨N,3,none⟩=some (.int .i64 r)):=by
        intro O w1 hg
        have h1:w1.heap[N]?=some (Obj.cells #[.int .i64 1,.string txt,.int .i64 i,.int .i64 r] 244):=by
         rw[hg.block N (by simp;omega) (λe=>?_),Below.heap_alloc _ _ _ (by omega)]
         ·exact hh
         ·have:=(HT.out.own.lt _ e.symm).2;omega
        simp[World.cell?,h1]
       have HOR:Hid (wr.ownsRow B 244 4 v acc.length (acc.flatMap rtC)):=qit;have HBR:Hid (Below B W0 wr):=hbR;have qo3:Hid (∀O,B<=(wr.alloc O).heap.size):=λO=>by simp;omega
       have hbb:B<=wr.heap.size:=by omega
       have HSP:Hid _:=hsp;have HRT:Hid _:=hrt;clear hh hbw hxs qit hbR qmt hrt hsp HGO HST hsw
       go_wp2_with (first
        | (at_builtin;refine wpList_append_own _ rfl (.tmp 105) (.tmp 107) 209 rfl B 244 i0 (.agg #[.int .i64 0,.string ⟨#[]⟩,.int .i64 0,.int .i64 0]) 4 40 Tryz.underlying209 hi hz0 hz1 hz2 rfl (by decide) _ _ _ rfl (HOR.out.alloc _) ⟨wr.heap.size,0,none⟩ 1 1 [.int .i64 1,.string txt,.int .i64 i,.int .i64 r] rfl rfl (qg5 _ _ _ _ _ _) (h1c _ _ _) hc3 hc4 (qo3.out _) ?_;intro v' w1 hown1 hgrow1 _;have hck:=hgv.out _ _ hgrow1))
       have hT':=HT.out.more ⟨1,txt,i,r⟩ hr1 (by have:=HRT.out;omega) HSP.out (HBR.out.alloc hbb _) (qo3.out _) hown1 hgrow1;clear hown1 hgrow1
       go_roundw
       case rel=>exact⟨i+r,_,v',rfl,by go_num,hT'⟩
       case measure=>simp[intOf];omega
    ·go_wp2
     go_loopw [37] (λ_ wr'=>∃(r:Nat) (txt:ByteArray),1<=r/\r<=1+(tw (L.drop (i+1))).length/\Hid (txt=tx++cat ((L.drop (i+1)).take (r - 1)))/\txt.size<=4*r/\
       wr'.heap[N]?=some (Obj.cells #[.int .i64 2,.string txt,.int .i64 i,.int .i64 r] 244)/\Below N wo wr'/\wr'.heap.size=N+1) (λ_ wr'=>L.length+1 - qe3 wr' ⟨N,3,none⟩)
     case atStart=>
      refine⟨1,tx,Nat.le_refl _,by omega,?_,by omega,?_,(Below.refl _ _).alloc (by omega) _,by simp;omega⟩
      ·show tx=tx++ByteArray.empty;simp
      ·rw[<- hNr];exact World.alloc_heap_new wo _
     case round=>
      obtain⟨r,txt,hr1,hr2,qmt,htz,hh,hbw,hsw⟩:=hrel;have c0:wr.cell? ⟨N,0,none⟩=some (.int .i64 2):=by simp[World.cell?,hh]
      have c1:wr.cell? ⟨N,1,none⟩=some (.string txt):=by simp[World.cell?,hh]
      have c2:wr.cell? ⟨N,2,none⟩=some (.int .i64 i):=by simp[World.cell?,hh]
      have c3:wr.cell? ⟨N,3,none⟩=some (.int .i64 r):=by simp[World.cell?,hh]
      have f1:wr.frozen? ⟨N,1,none⟩=false:=by simp[World.frozen?,hh]
      have f3:wr.frozen? ⟨N,3,none⟩=false:=by simp[World.frozen?,hh]
      by_cases hl:i+r < L.length
      ·obtain⟨e0,e1⟩:=HCW.out (i+r) hl;have e0':wr.cell? ⟨g,(i+r)*2,none⟩=some (.int .i64 L[i+r].kind):=(Below.cell hbw hgN).trans e0;have e1':wr.cell? ⟨g,(i+r)*2+1,none⟩=some (.string L[i+r].text):=(Below.cell hbw hgN).trans e1;have q9x:=hrs L[i+r] (List.getElem_mem hl);obtain⟨hd1,hd2⟩:=quc L i r hr1 hl;obtain⟨k2,hk2⟩:∃k2,L[i+r].kind=k2:=⟨_,rfl⟩;obtain⟨t2,ht2⟩:∃t2,L[i+r].text=t2:=⟨_,rfl⟩;rw[hk2] at e0';rw[ht2] at e1' q9x;have HK2:Hid (L[i+r].kind=k2):=hk2;have HT2:Hid (L[i+r].text=t2):=ht2;clear hk2 ht2 e0 e1;by_cases hk3:k2<=3
       ·have hgo:=HGO.out (r - 1) (by omega) hd1 (by rw[hd2,HK2.out];exact hk3);have hw:=qqk hh hbw hsw (txt++t2)
        have q95:Hid (txt++t2=tx++cat ((L.drop (i+1)).take (r+1 - 1))):=by
         show _=_;have e:r+1 - 1=(r - 1)+1:=by omega
         rw[qmt.out,e,List.take_succ_eq_append_getElem hd1,qt3,hd2,HT2.out,ByteArray.append_assoc]
        have HW':Hid _:=hw;have hci:Hid (qe3 wr ⟨N,3,none⟩=r):=by show _=_;simp[qe3,c3]
        clear hh hbw hw hd1 hd2 qmt;have hts:txt.size+t2.size<=5000:=by omega
        go_wp2
        go_region
        go_wp2
        go_roundw
        case rel=>exact⟨r+1,txt++t2,by omega,by omega,q95,by rw[ByteArray.size_append];omega,HW'.out.1,HW'.out.2.1,HW'.out.2.2.1⟩
        case measure=>rw[HW'.out.2.2.2,hci.out];omega
       ·have hrt:r=1+(tw (L.drop (i+1))).length:=by
         have:=HST.out (r - 1) (by omega) (λhm=>by rw[hd2,HK2.out];exact hk3);omega
        have qit:wr.ownsRow B 244 4 v acc.length (acc.flatMap rtC):=qm HT.out.own (λg' _ hg'=>hbw.block g' (by omega));have hbR:Below B W0 wr:=HT.out.below.trans (hbw.mono hNB);have hxs:tx++cat (tw (L.drop (i+1)))=txt:=by rw[qmt.out,hrt,Nat.add_sub_cancel_left,<- qgj]
        rw[HX.out,HK.out,hxs,<- hrt] at hsp
        have hgv:Hid (∀(O:Obj) (w1:Wq),(wr.alloc O).grownBy w1 v.ownBlock->w1.cell? ⟨N,3,none⟩=some (.int .i64 r)):=by
         intro O w1 hg
         have h1:w1.heap[N]?=some (Obj.cells #[.int .i64 2,.string txt,.int .i64 i,.int .i64 r] 244):=by
          rw[hg.block N (by simp;omega) (λe=>?_),Below.heap_alloc _ _ _ (by omega)]
          ·exact hh
          ·have:=(HT.out.own.lt _ e.symm).2;omega
         simp[World.cell?,h1]
        have HOR:Hid (wr.ownsRow B 244 4 v acc.length (acc.flatMap rtC)):=qit;have HBR:Hid (Below B W0 wr):=hbR;have qo3:Hid (∀O,B<=(wr.alloc O).heap.size):=λO=>by simp;omega
        have hbb:B<=wr.heap.size:=by omega
        have HSP:Hid _:=hsp;have HRT:Hid _:=hrt;clear hh hbw hxs qit hbR qmt hrt hsp HGO HST hsw
        go_wp2_with (first
         | (at_builtin;refine wpList_append_own _ rfl (.tmp 105) (.tmp 107) 209 rfl B 244 i0 (.agg #[.int .i64 0,.string ⟨#[]⟩,.int .i64 0,.int .i64 0]) 4 40 Tryz.underlying209 hi hz0 hz1 hz2 rfl (by decide) _ _ _ rfl (HOR.out.alloc _) ⟨wr.heap.size,0,none⟩ 1 1 [.int .i64 2,.string txt,.int .i64 i,.int .i64 r] rfl rfl (qg5 _ _ _ _ _ _) (h1c _ _ _) hc3 hc4 (qo3.out _) ?_;intro v' w1 hown1 hgrow1 _;have hck:=hgv.out _ _ hgrow1))
        have hT':=HT.out.more ⟨2,txt,i,r⟩ hr1 (by have:=HRT.out;omega) HSP.out (HBR.out.alloc hbb _) (qo3.out _) hown1 hgrow1;clear hown1 hgrow1
        go_roundw
        case rel=>exact⟨i+r,_,v',rfl,by go_num,hT'⟩
        case measure=>simp[intOf];omega
      ·have hrt:r=1+(tw (L.drop (i+1))).length:=by
        have:=HST.out (r - 1) (by omega) (λhm=>by rw[List.length_drop] at hm;omega);omega
       have qit:wr.ownsRow B 244 4 v acc.length (acc.flatMap rtC):=qm HT.out.own (λg' _ hg'=>hbw.block g' (by omega));have hbR:Below B W0 wr:=HT.out.below.trans (hbw.mono hNB);have hxs:tx++cat (tw (L.drop (i+1)))=txt:=by rw[qmt.out,hrt,Nat.add_sub_cancel_left,<- qgj]
       rw[HX.out,HK.out,hxs,<- hrt] at hsp
       have hgv:Hid (∀(O:Obj) (w1:Wq),(wr.alloc O).grownBy w1 v.ownBlock->w1.cell? ⟨N,3,none⟩=some (.int .i64 r)):=by
        intro O w1 hg
        have h1:w1.heap[N]?=some (Obj.cells #[.int .i64 2,.string txt,.int .i64 i,.int .i64 r] 244):=by
         rw[hg.block N (by simp;omega) (λe=>?_),Below.heap_alloc _ _ _ (by omega)]
         ·exact hh
         ·have:=(HT.out.own.lt _ e.symm).2;omega
        simp[World.cell?,h1]
       have HOR:Hid (wr.ownsRow B 244 4 v acc.length (acc.flatMap rtC)):=qit;have HBR:Hid (Below B W0 wr):=hbR;have qo3:Hid (∀O,B<=(wr.alloc O).heap.size):=λO=>by simp;omega
       have hbb:B<=wr.heap.size:=by omega
       have HSP:Hid _:=hsp;have HRT:Hid _:=hrt;clear hh hbw hxs qit hbR qmt hrt hsp HGO HST hsw
       go_wp2_with (first
        | (at_builtin;refine wpList_append_own _ rfl (.tmp 105) (.tmp 107) 209 rfl B 244 i0 (.agg #[.int .i64 0,.string ⟨#[]⟩,.int .i64 0,.int .i64 0]) 4 40 Tryz.underlying209 hi hz0 hz1 hz2 rfl (by decide) _ _ _ rfl (HOR.out.alloc _) ⟨wr.heap.size,0,none⟩ 1 1 [.int .i64 2,.string txt,.int .i64 i,.int .i64 r] rfl rfl (qg5 _ _ _ _ _ _) (h1c _ _ _) hc3 hc4 (qo3.out _) ?_;intro v' w1 hown1 hgrow1 _;have hck:=hgv.out _ _ hgrow1))
       have hT':=HT.out.more ⟨2,txt,i,r⟩ hr1 (by have:=HRT.out;omega) HSP.out (HBR.out.alloc hbb _) (qo3.out _) hown1 hgrow1;clear hown1 hgrow1
       go_roundw
       case rel=>exact⟨i+r,_,v',rfl,by go_num,hT'⟩
       case measure=>simp[intOf];omega
   ·have m1:((kd:Int) == 1)=false:=by simp;omega
    have m2:((kd:Int) == 2)=false:=by simp;omega
    have hsp:Hid _:=Qbw.out (by omega) (by omega) (λe=>absurd e k6);clear kw k4 k5 k6
    go_wp2_with (first
     | (at_builtin;refine wpList_append_own _ rfl (.tmp 105) (.tmp 107) 209 rfl B 244 i0 (.agg #[.int .i64 0,.string ⟨#[]⟩,.int .i64 0,.int .i64 0]) 4 40 Tryz.underlying209 hi hz0 hz1 hz2 rfl (by decide) _ _ _ rfl ((HT.out.own.alloc _).alloc _) ⟨wr.heap.size+1,0,none⟩ 1 1 [.int .i64 5,.string tx,.int .i64 i,.int .i64 1] rfl rfl (qdt.out _ _ _ _ _ _) (h1c _ _ _) hc3 hc4 (hc5.out _ _) ?_;intro v' w1 hown1 hgrow1 _;have hck:=qc8.out _ _ _ _ _ _ hgrow1))
    have hT':=HT.out.more ⟨5,tx,i,1⟩ (by decide) hlt hsp.out (hbl.out _ _) (hc5.out _ _) hown1 hgrow1;clear hown1 hgrow1
    go_roundw
    case rel=>exact⟨i+1,_,v',rfl,by go_num,hT'⟩
    case measure=>simp[intOf];omega
  ·have hsp:=hT.spec;rw[List.drop_eq_nil_of_le (by omega)] at hsp;have Qcr:qbs L.length [] i=[]:=by cases L.length <;> rfl
   rw[Qcr,List.append_nil] at hsp;have qmq:=hT.few;have hle:=hT.le;have Q7:acc.length<=300:=by omega
   have hbs:B<=wr.heap.size:=Nat.le_trans (Nat.le_of_eq HB.out.symm) hT.below.size;have h1c:∀u∈[Value.int .i64 4,.string ⟨#[]⟩,.int .i64 L.length,.int .i64 0],u.oneCell'=true:=by simp[Value.oneCell']
   have hc3:acc.length+1<=maxLen:=by unfold maxLen;omega
   have hc4:(acc.length+1)*40<=140737488355328:=by omega
   have hc5:Hid (∀(O:Obj),B<=(wr.alloc O).heap.size):=λO=>by simp;omega
   have HT:Hid (qsg L B W0 wr v i acc):=hT;have HS:Hid (acc=qbs L.length L 0):=hsp;clear hT hsp Qcr
   go_wp2_with (first
    | (at_builtin;refine wpList_append_own _ rfl (.tmp 113) (.tmp 117) 209 rfl B 244 i0 (.agg #[.int .i64 0,.string ⟨#[]⟩,.int .i64 0,.int .i64 0]) 4 40 Tryz.underlying209 hi hz0 hz1 hz2 rfl (by decide) _ _ _ rfl (HT.out.own.alloc _) ⟨wr.heap.size,0,none⟩ 1 1 [.int .i64 4,.string ⟨#[]⟩,.int .i64 L.length,.int .i64 0] rfl rfl (qg5 _ _ _ _ _ _) h1c hc3 hc4 (hc5.out _) ?_;intro v' w1 hown1 hgrow1 _))
   go_ret;rw[<- HS.out];refine⟨v',rfl,Qm ?_ HW.out.1,HW.out.2.trans (Below.mono ((HT.out.below.alloc hbs _).grown hgrow1 (hc5.out _) (λk hk=>(HT.out.own.lt k hk).1)) HW.out.1)⟩;simpa [rtC] using hown1
