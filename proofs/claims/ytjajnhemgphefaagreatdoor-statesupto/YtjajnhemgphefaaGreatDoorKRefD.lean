/- A part -/
import Derived.Test.YtjajnhemgphefaaGreatDoorKRefC
set_option linter.all false
set_option maxRecDepth 100000
set_option maxHeartbeats 4000000
namespace Go.Proofs.YtjajnhemgphefaaGreatDoor
open Go renaming World->Wq,Value->Vq
open Go.RowKit Go.Shelf
variable {wr W0:Wq} {L:List Rn} {B i:Nat} {ac:List RT}
def rtC(t:RT):List Vq:=[Ii t.kind,St t.text,Ii t.place,Ii t.runes]
theorem q8o(t:RT):(rtC t).length=4:=rfl
theorem q51(t:Rn):(rnC t).length=2:=rfl
theorem Tryz.infoRT:(Tryz.prog.info? 244).map (λi=>(i.zero,i.size,i.bytes))=some (some (.agg #[Ii 0,St ⟨#[]⟩,Ii 0,Ii 0]),4,40):=by kernel_rfl
def Q6(s:By):List RT:=qbt (R s 0).length (R s 0) 0++[⟨4,⟨#[]⟩,(R s 0).length,0⟩]
def qff(w:Wq)(a:Addr):Nat:=match w.cell? a with | some (.int _ n)=>n.toNat | _=>0
theorem qq6{wo:Wq}{N r T:Nat}{k a:Vq}{ad:By}(hh:wr.heap[N]?=cC #[k,St ad,a,Ii r] T)(hb:Below N wo wr)(hs:wr.heap.size=N+1)(t:By) :
  ((wr.setCell (Ad N 1) (St t)).setCell (Ad N 3) (Ii ((r:Int)+1))).drew.heap[N]?=cC #[k,St t,a,Ii (r+1:Nat)] T/\
  Below N wo ((wr.setCell (Ad N 1) (St t)).setCell (Ad N 3) (Ii ((r:Int)+1))).drew/\
  ((wr.setCell (Ad N 1) (St t)).setCell (Ad N 3) (Ii ((r:Int)+1))).drew.heap.size=N+1/\
  qff ((wr.setCell (Ad N 1) (St t)).setCell (Ad N 3) (Ii ((r:Int)+1))).drew ⟨N,3,none⟩=r+1:=by
 have h1:((wr.setCell (Ad N 1) (St t)).setCell (Ad N 3) (Ii ((r:Int)+1))).heap[N]?=cC #[k,St t,a,Ii (r+1:Nat)] T:=by
  simp[World.setCell,Array.getElem?_modify,hh]
 refine⟨h1,((hb.setCell zl _).setCell zl _).drew,?_,?_⟩
 .show ((wr.setCell (Ad N 1) (St t)).setCell (Ad N 3) (Ii ((r:Int)+1))).heap.size=N+1;simp[hs]
 .show qff ((wr.setCell (Ad N 1) (St t)).setCell (Ad N 3) (Ii ((r:Int)+1))) ⟨N,3,none⟩=r+1;simp[qff,World.cell?,h1]
theorem quz(L:List Rn)(i r:Nat)(hr:1<=r)(hl:i+r < L.length):∃h:r - 1 < (L.drop (i+1)).length,(L.drop (i+1))[r - 1]=L[i+r]:=by
 refine⟨by rw[List.length_drop];omega,?_⟩;rw[List.getElem_drop];congr 1;omega
structure qs6(L:List Rn)(B:Nat)(W0 wr:Wq)(v:Vq)(i:Nat)(ac:List RT):Prop where
 le:i<=L.length
 spec:ac++qbt L.length (L.drop i) i=qbt L.length L 0
 few:ac.length<=i
 own:wr.ownsRow B 244 4 v ac.length (ac.flatMap rtC)
 below:Below B W0 wr
theorem qs6.blank{ai:Wq}{v:Vq}(h:qs6 L B W0 wr v i ac)(hi:i < L.length)(hk:L[i].kind=4)(hb:Below wr.heap.size wr ai)(hB:B<=wr.heap.size):qs6 L B W0 ai v (i+1) ac:=by
 refine⟨hi,?_,by have:=h.few;omega,qk h.own hb,h.below.trans (hb.mono hB)⟩;rw[<- h.spec];have e:=List.drop_eq_getElem_cons hi;congr 1;obtain⟨n,hn⟩:∃n,L.length=n+1:=⟨L.length - 1,by omega⟩;rw[hn,e]
 conv=>rhs;unfold qbt
 rw[if_neg (by omega),if_neg (by omega),if_neg (by omega),if_pos hk];exact qfm _ _ _ _ (by simp;omega) (by simp;omega)
theorem qs6.more{X w1:Wq}{v v':Vq}{d:Nat}(h:qs6 L B W0 wr v i ac)(t:RT)(hd:1<=d)(hi:i+d<=L.length)(hs:qbt L.length (L.drop i) i=t::qbt (L.length - 1) (L.drop (i+d)) (i+d))(hX:Below B W0 X)(c4:B<=X.heap.size)(ho:w1.ownsRow B 244 4 v' (ac.length+1) (ac.flatMap rtC++rtC t))(hg:X.grownBy w1 v.ownBlock):qs6 L B W0 w1 v' (i+d) (ac++[t]):=by
 refine⟨hi,?_,by have:=h.few;simp only[List.length_append,List.length_singleton];omega,by simpa using ho,hX.grown hg c4 (λk hk=>(h.own.lt k hk).1)⟩;rw[<- h.spec,hs,List.append_assoc];congr 1;simp only[List.singleton_append,List.cons.injEq,true_and];exact qfm _ _ _ _ (by rw[List.length_drop];omega) (by rw[List.length_drop];omega)
theorem qoy(L:List Rn)(i:Nat)(hi:i < L.length):qbt L.length (L.drop i) i=qbt (L.length - 1+1) (L[i]::L.drop (i+1)) i:=by
 rw[List.drop_eq_getElem_cons hi];congr 1;omega
theorem qr6(L:List Rn)(i:Nat):((L.drop i).head?.map (·.kind))=some 7↔∃h:i < L.length,L[i].kind=7:=by
 rw[List.head?_drop];by_cases h:i < L.length
 .rw[List.getElem?_eq_getElem h];simp[h]
 .rw[List.getElem?_eq_none (by omega)];simp[h]
theorem q1z(L:List Rn)(i:Nat)(hi:i < L.length)(hk:L[i].kind=5):qbt L.length (L.drop i) i=⟨(byN L[i].text 0:Int),L[i].text,i,1⟩::qbt (L.length - 1) (L.drop (i+1)) (i+1):=by
 rw[qoy L i hi];conv=>lhs;unfold qbt
 rw[if_neg (by omega),if_pos hk];rfl
theorem q10(L:List Rn)(i:Nat)(hi:i < L.length)(hk:L[i].kind=6)(h:∃h:i+1 < L.length,L[i+1].kind=7):qbt L.length (L.drop i) i=⟨3,⟨#[]⟩,i,2⟩::qbt (L.length - 1) (L.drop (i+2)) (i+2):=by
 rw[qoy L i hi];conv=>lhs;unfold qbt
 rw[if_neg (by omega),if_neg (by omega),if_pos ⟨hk,(qr6 L (i+1)).2 h⟩,List.drop_drop]
theorem q50(L:List Rn)(i:Nat)(hi:i < L.length)(h1:L[i].kind≠1)(h2:L[i].kind≠2)(h4:L[i].kind≠4)(h5:L[i].kind≠5)(h6:L[i].kind=6->∀h:i+1 < L.length,L[i+1].kind≠7):qbt L.length (L.drop i) i=⟨5,L[i].text,i,1⟩::qbt (L.length - 1) (L.drop (i+1)) (i+1):=by
 rw[qoy L i hi];conv=>lhs;unfold qbt
 rw[if_neg (by omega),if_neg h5,if_neg (λhh=>by obtain⟨x,y⟩:=(qr6 L (i+1)).1 hh.2;exact h6 hh.1 x y),if_neg h4]
theorem q11(L:List Rn)(i:Nat)(hi:i < L.length)(hk:L[i].kind=1\/L[i].kind=2):qbt L.length (L.drop i) i=⟨L[i].kind,L[i].text++cat (tw (L.drop (i+1))),i,1+(tw (L.drop (i+1))).length⟩::qbt (L.length - 1) (L.drop (i+(1+(tw (L.drop (i+1))).length))) (i+(1+(tw (L.drop (i+1))).length)):=by
 rw[qoy L i hi];conv=>lhs;unfold qbt
 rw[if_pos hk,List.drop_drop,Nat.add_assoc]
theorem qqz(s:By)(w:Wq)(hs:s.size<=1048576)(hL:(R s 0).length<=300) :
  Cs 107 #[St s] w λe w'=>∃v,e=.returned v/\w'.ownsRow w.heap.size 244 4 v (Q6 s).length ((Q6 s).flatMap rtC)/\Below w.heap.size w w':=by
 obtain⟨i0,hi,az,ay,ax⟩:=info_parts Tryz.infoRT;have ck:=qw2 s s.size 0 (by omega);have cu:=qnj s w hs;unfold Q6;generalize R s 0=L at *;go_enter Tryz.func107,Tryz.ntmps107
 go_wp2_with (go_at_call 106;refine cu.mono ?_;rintro e W0 ⟨vl,rfl,co,ch⟩)
 obtain⟨la,lc,ci⟩:=qd co
 have aw:∀(j:Nat) (hj:j < L.length),∃g,la=some ⟨g,0,none⟩/\g < W0.heap.size/\W0.cell? (Ad g (j*2))=some (Ii L[j].kind)/\W0.cell? (Ad g (j*2+1))=some (St L[j].text):=by
  intro j hj;obtain⟨g,cap,e1,e2,e3,e4,e5⟩:=qb0 co q51 (by omega);rw[e1] at ci;cases ci;exact⟨g,rfl,e3,e5 j 0 hj _ (by decide) rfl,e5 j 1 hj _ (by decide) rfl⟩
 subst ci;obtain⟨B,hB⟩:∃B,B=W0.heap.size:=⟨_,rfl⟩;have HB:Hid (W0.heap.size=B):=hB.symm;have ce:Hid (∀(j:Nat) (hj:j < L.length),∃g,la=some ⟨g,0,none⟩/\g < B/\W0.cell? (Ad g (j*2))=some (Ii L[j].kind)/\W0.cell? (Ad g (j*2+1))=some (St L[j].text)):=by rw[hB];exact aw
 have HW:Hid (w.heap.size<=B/\Below w.heap.size w W0):=by rw[hB];exact⟨ch.size,ch⟩
 clear hB aw co ch cu
 go_loopw [4,5] (λv a wr=>∃(i:Nat) (ac:List RT) (v1:Vq),v1=v/\a=.int .i64 i/\qs6 L B W0 wr v1 i ac)
  (λ_ a _=>L.length - (intOf a).toNat)
 case atStart=>exact⟨0,[],_,rfl,rfl,zz,rfl,Nat.le_refl _,zo,zr⟩
 case round=>
  obtain⟨i,ac,v,rfl,rfl,hT⟩:=hrel;by_cases au:i < L.length
  .obtain⟨g,rfl,b0,ct,cx⟩:=ce.out i au;have cb:=hT.below;have cq:=cb.size;have d0:wr.cell? (Ad g (i*2))=some (Ii L[i].kind):=(cb.cell b0).trans ct;have d1:wr.cell? (Ad g (i*2+1))=some (St L[i].text):=(cb.cell b0).trans cx;have c6:=ck L[i] (zm au);have HT:Hid (qs6 L B W0 wr v i ac):=hT;have da:=hT.few;have b3:B<=wr.heap.size:=Nat.le_trans (Nat.le_of_eq HB.out.symm) cq;have Qdt:g≠wr.heap.size:=by omega
   clear hT ct cx cb cq;obtain⟨kd,cn⟩:∃kd,L[i].kind=kd:=⟨_,rfl⟩;obtain⟨tx,cg⟩:∃tx,L[i].text=tx:=⟨_,rfl⟩;rw[cn] at d0;rw[cg] at d1 c6;have HK:Hid (L[i].kind=kd):=cn;have HX:Hid (L[i].text=tx):=cg;clear cn cg
   have b5:Hid (∀(O:Obj) (x y z u:Vq) (t:TypeId) (j:Nat) (q:Vq),[x,y,z,u][j]?=some q->((wr.alloc O).alloc (.cells #[x,y,z,u] t)).cell? ((⟨wr.heap.size+1,0,none⟩:Addr).add j)=some q):=by
    intro O x y z u t j q hq;have:=qhc (wr.alloc O) x y z u t j q hq;rw[World.size_alloc] at this;exact this
   have ap:∀(k r:Int) (t:By),∀u∈[Value.int .i64 k,St t,Ii i,Ii r],u.oneCell'=true:=λk r t=>by simp[Value.oneCell']
   have am:ac.length+1<=maxLen:=by unfold maxLen;omega
   have al:(ac.length+1)*40<=140737488355328:=by omega
   have ak:Hid (∀(O O':Obj),B<=((wr.alloc O).alloc O').heap.size):=λO O'=>by simp;omega
   have b4:Hid (∀(O O':Obj),Below B W0 ((wr.alloc O).alloc O')):=λO O'=>(HT.out.below.alloc b3 O).alloc (by simp;omega) O'
   have b8:Hid (∀(a b c d:Vq) (O:Obj) (w1:Wq),((wr.alloc (.cells #[a,b,c,d] 244)).alloc O).grownBy w1 v.ownBlock->w1.cell? (Ad wr.heap.size 3)=some d):=by
    intro a b c d O w1 hg
    have h1:w1.heap[wr.heap.size]?=cC #[a,b,c,d] 244:=by
     rw[hg.block wr.heap.size (by simp;omega) (λe=>?_),Below.heap_alloc _ _ _ (by simp),World.alloc_heap_new];have:=(HT.out.own.lt _ e.symm).2;omega
    simp[World.cell?,h1]
   by_cases k4:kd=4
   .subst k4;go_wp2;have ag:=HT.out.blank au HK.out ((Below.refl wr.heap.size wr).alloc zl (Obj.cells #[Ii 5,St tx,Ii i,Ii 1] 244)) b3
    go_roundw
    case rel=>exact⟨i+1,ac,v,rfl,by go_num,ag⟩
    case measure=>simp[intOf];omega
   by_cases k5:kd=5
   .subst k5;have h0:0 < tx.size:=by omega
    have hb:=qpa tx 0 h0;have df:=qgu tx 0;have dg:∀O,(wr.alloc O).cell? (Ad g (i*2+1))=some (St tx):=λO=>(Below.cell ((Below.refl wr.heap.size wr).alloc zl O) (by simp;omega)).trans d1;have ae:=q1z L i au HK.out;rw[HX.out] at ae;have HS:Hid _:=ae;clear ae;generalize byN tx 0=c at *
    go_wp2_with (first
     | (at_builtin;refine wpList_append_own _ rfl (.tmp 105) (.tmp 107) 209 rfl B 244 i0 (.agg #[Ii 0,St ⟨#[]⟩,Ii 0,Ii 0]) 4 40 Tryz.underlying209 hi az ay ax rfl (by decide) _ _ _ rfl ((HT.out.own.alloc _).alloc _) ⟨wr.heap.size+1,0,none⟩ 1 1 [Ii c,St tx,Ii i,Ii 1] rfl rfl (b5.out _ _ _ _ _ _) (ap _ _ _) am al (ak.out _ _) ?_;intro v' w1 ab aa _;have bc:=b8.out _ _ _ _ _ _ aa))
    have ag:=HT.out.more ⟨c,tx,i,1⟩ (Nat.le_refl 1) au HS.out (b4.out _ _) (ak.out _ _) ab aa;clear ab aa
    go_roundw
    case rel=>exact⟨i+1,_,v',rfl,by go_num,ag⟩
    case measure=>simp[intOf];omega
   have Qde:Hid (kd≠1->kd≠2->(kd=6->∀h:i+1 < L.length,L[i+1].kind≠7)->qbt L.length (L.drop i) i=⟨5,tx,i,1⟩::qbt (L.length - 1) (L.drop (i+1)) (i+1)):=by
    intro a1 a2 a6;have:=q50 L i au (by rw[HK.out];exact a1) (by rw[HK.out];exact a2) (by rw[HK.out];exact k4) (by rw[HK.out];exact k5) (by rw[HK.out];exact a6);rw[HX.out] at this;exact this
   have dc:((kd:Int) == 4)=false:=by simp;omega
   have de:((kd:Int) == 5)=false:=by simp;omega
   by_cases k6:kd=6
   .subst k6;by_cases h7:∃h:i+1 < L.length,L[i+1].kind=7
    .obtain⟨bu,h7⟩:=h7;have ae:Hid _:=q10 L i au HK.out ⟨bu,h7⟩;obtain⟨g',e',Qdr,bb,b7⟩:=ce.out (i+1) bu
     cases e'
     rw[h7] at bb;have cz:∀O,(wr.alloc O).cell? (Ad g ((i+1)*2))=some (Ii 7):=λO=>(Below.cell (HT.out.below.alloc b3 O) b0).trans bb;clear bb b7 h7
     go_wp2_with (first
      | (at_builtin;refine wpList_append_own _ rfl (.tmp 105) (.tmp 107) 209 rfl B 244 i0 (.agg #[Ii 0,St ⟨#[]⟩,Ii 0,Ii 0]) 4 40 Tryz.underlying209 hi az ay ax rfl (by decide) _ _ _ rfl ((HT.out.own.alloc _).alloc _) ⟨wr.heap.size+1,0,none⟩ 1 1 [Ii 3,St ⟨#[]⟩,Ii i,Ii 2] rfl rfl (b5.out _ _ _ _ _ _) (ap _ _ _) am al (ak.out _ _) ?_;intro v' w1 ab aa _;have bc:=b8.out _ _ _ _ _ _ aa))
     have ag:=HT.out.more ⟨3,⟨#[]⟩,i,2⟩ (by decide) bu ae.out (b4.out _ _) (ak.out _ _) ab aa;clear ab aa
     go_roundw
     case rel=>exact⟨i+2,_,v',rfl,by go_num,ag⟩
     case measure=>simp[intOf];omega
    .have ae:Hid _:=Qde.out (by decide) (by decide) (λ_ h e=>h7 ⟨h,e⟩);by_cases bu:i+1 < L.length
     .obtain⟨g',e',Qdr,bb,b7⟩:=ce.out (i+1) bu
      cases e'
      have dd:L[i+1].kind≠7:=λe=>h7 ⟨bu,e⟩;generalize L[i+1].kind=k7 at *;have m7:((k7:Int) == 7)=false:=by simp;omega
      have cz:∀O,(wr.alloc O).cell? (Ad g ((i+1)*2))=some (Ii k7):=λO=>(Below.cell (HT.out.below.alloc b3 O) b0).trans bb;clear bb b7 h7
      go_wp2_with (first
       | (at_builtin;refine wpList_append_own _ rfl (.tmp 105) (.tmp 107) 209 rfl B 244 i0 (.agg #[Ii 0,St ⟨#[]⟩,Ii 0,Ii 0]) 4 40 Tryz.underlying209 hi az ay ax rfl (by decide) _ _ _ rfl ((HT.out.own.alloc _).alloc _) ⟨wr.heap.size+1,0,none⟩ 1 1 [Ii 5,St tx,Ii i,Ii 1] rfl rfl (b5.out _ _ _ _ _ _) (ap _ _ _) am al (ak.out _ _) ?_;intro v' w1 ab aa _;have bc:=b8.out _ _ _ _ _ _ aa))
      have ag:=HT.out.more ⟨5,tx,i,1⟩ (by decide) au ae.out (b4.out _ _) (ak.out _ _) ab aa;clear ab aa
      go_roundw
      case rel=>exact⟨i+1,_,v',rfl,by go_num,ag⟩
      case measure=>simp[intOf];omega
     .go_wp2_with (first
       | (at_builtin;refine wpList_append_own _ rfl (.tmp 105) (.tmp 107) 209 rfl B 244 i0 (.agg #[Ii 0,St ⟨#[]⟩,Ii 0,Ii 0]) 4 40 Tryz.underlying209 hi az ay ax rfl (by decide) _ _ _ rfl ((HT.out.own.alloc _).alloc _) ⟨wr.heap.size+1,0,none⟩ 1 1 [Ii 5,St tx,Ii i,Ii 1] rfl rfl (b5.out _ _ _ _ _ _) (ap _ _ _) am al (ak.out _ _) ?_;intro v' w1 ab aa _;have bc:=b8.out _ _ _ _ _ _ aa))
      have ag:=HT.out.more ⟨5,tx,i,1⟩ (by decide) au ae.out (b4.out _ _) (ak.out _ _) ab aa;clear ab aa
      go_roundw
      case rel=>exact⟨i+1,_,v',rfl,by go_num,ag⟩
      case measure=>simp[intOf];omega
   have dh:((kd:Int) == 6)=false:=by simp;omega
   by_cases kw:kd=1\/kd=2
   .have ae:Hid _:=q11 L i au (by rw[HK.out];exact kw);have c8:=qzz (L.drop (i+1));rw[List.length_drop] at c8;have cc:=Qfa (L.drop (i+1));have cv:=q8v (L.drop (i+1));have bv:Hid _:=cc;have a9:Hid _:=cv;clear cc cv;obtain⟨wo,rfl⟩:∃wo,wo=wr:=⟨_,rfl⟩;obtain⟨N,hN⟩:∃N,N=wo.heap.size:=⟨_,rfl⟩;have ca:B<=N:=by omega
    have cr:=hN.symm;have cd:g < N:=by omega
    have cw:Hid (∀(j:Nat) (hj:j < L.length),wo.cell? (Ad g (j*2))=some (Ii L[j].kind)/\wo.cell? (Ad g (j*2+1))=some (St L[j].text)):=by
     intro j hj;obtain⟨g',e',Qdr,bb,b7⟩:=ce.out j hj
     cases e'
     exact⟨(Below.cell HT.out.below b0).trans bb,(Below.cell HT.out.below b0).trans b7⟩
    clear hN;rcases kw with rfl | rfl
    .go_wp2
     go_loopw [37] (λ_ ai=>∃(r:Nat) (ad:ByteArray),1<=r/\r<=1+(tw (L.drop (i+1))).length/\Hid (ad=tx++cat ((L.drop (i+1)).take (r - 1)))/\ad.size<=4*r/\
       ai.heap[N]?=cC #[Ii 1,St ad,Ii i,Ii r] 244/\Below N wo ai/\ai.heap.size=N+1) (λ_ ai=>L.length+1 - qff ai ⟨N,3,none⟩)
     case atStart=>
      refine⟨1,tx,Nat.le_refl _,by omega,?_,by omega,?_,zr.alloc (by omega) _,by simp;omega⟩
      .show tx=tx++ByteArray.empty;simp
      .rw[<- cr];exact zn wo _
     case round=>
      obtain⟨r,ad,bi,c9,aj,c7,hh,af,bn⟩:=hrel;have c0:wr.cell? (Ad N 0)=some (Ii 1):=zc hh
      have c1:wr.cell? (Ad N 1)=some (St ad):=zc hh
      have c2:wr.cell? (Ad N 2)=some (Ii i):=zc hh
      have c3:wr.cell? (Ad N 3)=some (Ii r):=zc hh
      have f1:wr.frozen? (Ad N 1)=false:=by simp[World.frozen?,hh]
      have f3:wr.frozen? (Ad N 3)=false:=by simp[World.frozen?,hh]
      by_cases hl:i+r < L.length
      .obtain⟨e0,e1⟩:=cw.out (i+r) hl;have cm:wr.cell? (Ad g ((i+r)*2))=some (Ii L[i+r].kind):=(Below.cell af cd).trans e0;have cp:wr.cell? (Ad g ((i+r)*2+1))=some (St L[i+r].text):=(Below.cell af cd).trans e1;have Qbg:=ck L[i+r] (zm hl);obtain⟨bh,a7⟩:=quz L i r bi hl;obtain⟨k2,bo⟩:∃k2,L[i+r].kind=k2:=⟨_,rfl⟩;obtain⟨t2,bf⟩:∃t2,L[i+r].text=t2:=⟨_,rfl⟩;rw[bo] at cm;rw[bf] at cp Qbg;have b9:Hid (L[i+r].kind=k2):=bo;have cf:Hid (L[i+r].text=t2):=bf;clear bo bf e0 e1;by_cases b6:k2<=3
       .have cc:=bv.out (r - 1) (by omega) bh (by rw[a7,b9.out];exact b6);have hw:=qq6 hh af bn (ad++t2)
        have Qbs:Hid (ad++t2=tx++cat ((L.drop (i+1)).take (r+1 - 1))):=by
         show _=_;have e:r+1 - 1=(r - 1)+1:=by omega
         rw[aj.out,e,List.take_succ_eq_append_getElem bh,quq,a7,cf.out,ByteArray.append_assoc]
        have a8:Hid _:=hw;have cj:Hid (qff wr ⟨N,3,none⟩=r):=by show _=_;simp[qff,c3]
        clear hh af hw bh a7 aj;have cy:ad.size+t2.size<=5000:=by omega
        go_wp2
        go_region
        go_wp2
        go_roundw
        case rel=>exact⟨r+1,ad++t2,by omega,by omega,Qbs,by rw[ByteArray.size_append];omega,a8.out.1,a8.out.2.1,a8.out.2.2.1⟩
        case measure=>rw[a8.out.2.2.2,cj.out];omega
       .have ah:r=1+(tw (L.drop (i+1))).length:=by
         have:=a9.out (r - 1) (by omega) (λhm=>by rw[a7,b9.out];exact b6);omega
        have an:wr.ownsRow B 244 4 v ac.length (ac.flatMap rtC):=qm HT.out.own (λg' _ cl=>af.block g' (by omega));have ao:Below B W0 wr:=HT.out.below.trans (af.mono ca);have aq:tx++cat (tw (L.drop (i+1)))=ad:=by rw[aj.out,ah,Nat.add_sub_cancel_left,<- qgs]
        rw[HX.out,HK.out,aq,<- ah] at ae
        have bt:Hid (∀(O:Obj) (w1:Wq),(wr.alloc O).grownBy w1 v.ownBlock->w1.cell? (Ad N 3)=some (Ii r)):=by
         intro O w1 hg
         have h1:w1.heap[N]?=cC #[Ii 1,St ad,Ii i,Ii r] 244:=by
          rw[hg.block N (by simp;omega) (λe=>?_),Below.heap_alloc _ _ _ (by omega)]
          .exact hh
          .have:=(HT.out.own.lt _ e.symm).2;omega
         simp[World.cell?,h1]
        have bj:Hid (wr.ownsRow B 244 4 v ac.length (ac.flatMap rtC)):=an;have bq:Hid (Below B W0 wr):=ao;have av:Hid (∀O,B<=(wr.alloc O).heap.size):=λO=>by simp;omega
        have bk:B<=wr.heap.size:=by omega
        have be:Hid _:=ae;have bd:Hid _:=ah;clear hh af aq an ao aj ah ae bv a9 bn
        go_wp2_with (first
         | (at_builtin;refine wpList_append_own _ rfl (.tmp 105) (.tmp 107) 209 rfl B 244 i0 (.agg #[Ii 0,St ⟨#[]⟩,Ii 0,Ii 0]) 4 40 Tryz.underlying209 hi az ay ax rfl (by decide) _ _ _ rfl (bj.out.alloc _) ⟨wr.heap.size,0,none⟩ 1 1 [Ii 1,St ad,Ii i,Ii r] rfl rfl (qhc _ _ _ _ _ _) (ap _ _ _) am al (av.out _) ?_;intro v' w1 ab aa _;have bc:=bt.out _ _ aa))
        have ag:=HT.out.more ⟨1,ad,i,r⟩ bi (by have:=bd.out;omega) be.out (bq.out.alloc bk _) (av.out _) ab aa;clear ab aa
        go_roundw
        case rel=>exact⟨i+r,_,v',rfl,by go_num,ag⟩
        case measure=>simp[intOf];omega
      .have ah:r=1+(tw (L.drop (i+1))).length:=by
        have:=a9.out (r - 1) (by omega) (λhm=>by rw[List.length_drop] at hm;omega);omega
       have an:wr.ownsRow B 244 4 v ac.length (ac.flatMap rtC):=qm HT.out.own (λg' _ cl=>af.block g' (by omega));have ao:Below B W0 wr:=HT.out.below.trans (af.mono ca);have aq:tx++cat (tw (L.drop (i+1)))=ad:=by rw[aj.out,ah,Nat.add_sub_cancel_left,<- qgs]
       rw[HX.out,HK.out,aq,<- ah] at ae
       have bt:Hid (∀(O:Obj) (w1:Wq),(wr.alloc O).grownBy w1 v.ownBlock->w1.cell? (Ad N 3)=some (Ii r)):=by
        intro O w1 hg
        have h1:w1.heap[N]?=cC #[Ii 1,St ad,Ii i,Ii r] 244:=by
         rw[hg.block N (by simp;omega) (λe=>?_),Below.heap_alloc _ _ _ (by omega)]
         .exact hh
         .have:=(HT.out.own.lt _ e.symm).2;omega
        simp[World.cell?,h1]
       have bj:Hid (wr.ownsRow B 244 4 v ac.length (ac.flatMap rtC)):=an;have bq:Hid (Below B W0 wr):=ao;have av:Hid (∀O,B<=(wr.alloc O).heap.size):=λO=>by simp;omega
       have bk:B<=wr.heap.size:=by omega
       have be:Hid _:=ae;have bd:Hid _:=ah;clear hh af aq an ao aj ah ae bv a9 bn
       go_wp2_with (first
        | (at_builtin;refine wpList_append_own _ rfl (.tmp 105) (.tmp 107) 209 rfl B 244 i0 (.agg #[Ii 0,St ⟨#[]⟩,Ii 0,Ii 0]) 4 40 Tryz.underlying209 hi az ay ax rfl (by decide) _ _ _ rfl (bj.out.alloc _) ⟨wr.heap.size,0,none⟩ 1 1 [Ii 1,St ad,Ii i,Ii r] rfl rfl (qhc _ _ _ _ _ _) (ap _ _ _) am al (av.out _) ?_;intro v' w1 ab aa _;have bc:=bt.out _ _ aa))
       have ag:=HT.out.more ⟨1,ad,i,r⟩ bi (by have:=bd.out;omega) be.out (bq.out.alloc bk _) (av.out _) ab aa;clear ab aa
       go_roundw
       case rel=>exact⟨i+r,_,v',rfl,by go_num,ag⟩
       case measure=>simp[intOf];omega
    .go_wp2
     go_loopw [37] (λ_ ai=>∃(r:Nat) (ad:ByteArray),1<=r/\r<=1+(tw (L.drop (i+1))).length/\Hid (ad=tx++cat ((L.drop (i+1)).take (r - 1)))/\ad.size<=4*r/\
       ai.heap[N]?=cC #[Ii 2,St ad,Ii i,Ii r] 244/\Below N wo ai/\ai.heap.size=N+1) (λ_ ai=>L.length+1 - qff ai ⟨N,3,none⟩)
     case atStart=>
      refine⟨1,tx,Nat.le_refl _,by omega,?_,by omega,?_,zr.alloc (by omega) _,by simp;omega⟩
      .show tx=tx++ByteArray.empty;simp
      .rw[<- cr];exact zn wo _
     case round=>
      obtain⟨r,ad,bi,c9,aj,c7,hh,af,bn⟩:=hrel;have c0:wr.cell? (Ad N 0)=some (Ii 2):=zc hh
      have c1:wr.cell? (Ad N 1)=some (St ad):=zc hh
      have c2:wr.cell? (Ad N 2)=some (Ii i):=zc hh
      have c3:wr.cell? (Ad N 3)=some (Ii r):=zc hh
      have f1:wr.frozen? (Ad N 1)=false:=by simp[World.frozen?,hh]
      have f3:wr.frozen? (Ad N 3)=false:=by simp[World.frozen?,hh]
      by_cases hl:i+r < L.length
      .obtain⟨e0,e1⟩:=cw.out (i+r) hl;have cm:wr.cell? (Ad g ((i+r)*2))=some (Ii L[i+r].kind):=(Below.cell af cd).trans e0;have cp:wr.cell? (Ad g ((i+r)*2+1))=some (St L[i+r].text):=(Below.cell af cd).trans e1;have Qbg:=ck L[i+r] (zm hl);obtain⟨bh,a7⟩:=quz L i r bi hl;obtain⟨k2,bo⟩:∃k2,L[i+r].kind=k2:=⟨_,rfl⟩;obtain⟨t2,bf⟩:∃t2,L[i+r].text=t2:=⟨_,rfl⟩;rw[bo] at cm;rw[bf] at cp Qbg;have b9:Hid (L[i+r].kind=k2):=bo;have cf:Hid (L[i+r].text=t2):=bf;clear bo bf e0 e1;by_cases b6:k2<=3
       .have cc:=bv.out (r - 1) (by omega) bh (by rw[a7,b9.out];exact b6);have hw:=qq6 hh af bn (ad++t2)
        have Qbs:Hid (ad++t2=tx++cat ((L.drop (i+1)).take (r+1 - 1))):=by
         show _=_;have e:r+1 - 1=(r - 1)+1:=by omega
         rw[aj.out,e,List.take_succ_eq_append_getElem bh,quq,a7,cf.out,ByteArray.append_assoc]
        have a8:Hid _:=hw;have cj:Hid (qff wr ⟨N,3,none⟩=r):=by show _=_;simp[qff,c3]
        clear hh af hw bh a7 aj;have cy:ad.size+t2.size<=5000:=by omega
        go_wp2
        go_region
        go_wp2
        go_roundw
        case rel=>exact⟨r+1,ad++t2,by omega,by omega,Qbs,by rw[ByteArray.size_append];omega,a8.out.1,a8.out.2.1,a8.out.2.2.1⟩
        case measure=>rw[a8.out.2.2.2,cj.out];omega
       .have ah:r=1+(tw (L.drop (i+1))).length:=by
         have:=a9.out (r - 1) (by omega) (λhm=>by rw[a7,b9.out];exact b6);omega
        have an:wr.ownsRow B 244 4 v ac.length (ac.flatMap rtC):=qm HT.out.own (λg' _ cl=>af.block g' (by omega));have ao:Below B W0 wr:=HT.out.below.trans (af.mono ca);have aq:tx++cat (tw (L.drop (i+1)))=ad:=by rw[aj.out,ah,Nat.add_sub_cancel_left,<- qgs]
        rw[HX.out,HK.out,aq,<- ah] at ae
        have bt:Hid (∀(O:Obj) (w1:Wq),(wr.alloc O).grownBy w1 v.ownBlock->w1.cell? (Ad N 3)=some (Ii r)):=by
         intro O w1 hg
         have h1:w1.heap[N]?=cC #[Ii 2,St ad,Ii i,Ii r] 244:=by
          rw[hg.block N (by simp;omega) (λe=>?_),Below.heap_alloc _ _ _ (by omega)]
          .exact hh
          .have:=(HT.out.own.lt _ e.symm).2;omega
         simp[World.cell?,h1]
        have bj:Hid (wr.ownsRow B 244 4 v ac.length (ac.flatMap rtC)):=an;have bq:Hid (Below B W0 wr):=ao;have av:Hid (∀O,B<=(wr.alloc O).heap.size):=λO=>by simp;omega
        have bk:B<=wr.heap.size:=by omega
        have be:Hid _:=ae;have bd:Hid _:=ah;clear hh af aq an ao aj ah ae bv a9 bn
        go_wp2_with (first
         | (at_builtin;refine wpList_append_own _ rfl (.tmp 105) (.tmp 107) 209 rfl B 244 i0 (.agg #[Ii 0,St ⟨#[]⟩,Ii 0,Ii 0]) 4 40 Tryz.underlying209 hi az ay ax rfl (by decide) _ _ _ rfl (bj.out.alloc _) ⟨wr.heap.size,0,none⟩ 1 1 [Ii 2,St ad,Ii i,Ii r] rfl rfl (qhc _ _ _ _ _ _) (ap _ _ _) am al (av.out _) ?_;intro v' w1 ab aa _;have bc:=bt.out _ _ aa))
        have ag:=HT.out.more ⟨2,ad,i,r⟩ bi (by have:=bd.out;omega) be.out (bq.out.alloc bk _) (av.out _) ab aa;clear ab aa
        go_roundw
        case rel=>exact⟨i+r,_,v',rfl,by go_num,ag⟩
        case measure=>simp[intOf];omega
      .have ah:r=1+(tw (L.drop (i+1))).length:=by
        have:=a9.out (r - 1) (by omega) (λhm=>by rw[List.length_drop] at hm;omega);omega
       have an:wr.ownsRow B 244 4 v ac.length (ac.flatMap rtC):=qm HT.out.own (λg' _ cl=>af.block g' (by omega));have ao:Below B W0 wr:=HT.out.below.trans (af.mono ca);have aq:tx++cat (tw (L.drop (i+1)))=ad:=by rw[aj.out,ah,Nat.add_sub_cancel_left,<- qgs]
       rw[HX.out,HK.out,aq,<- ah] at ae
       have bt:Hid (∀(O:Obj) (w1:Wq),(wr.alloc O).grownBy w1 v.ownBlock->w1.cell? (Ad N 3)=some (Ii r)):=by
        intro O w1 hg
        have h1:w1.heap[N]?=cC #[Ii 2,St ad,Ii i,Ii r] 244:=by
         rw[hg.block N (by simp;omega) (λe=>?_),Below.heap_alloc _ _ _ (by omega)]
         .exact hh
         .have:=(HT.out.own.lt _ e.symm).2;omega
        simp[World.cell?,h1]
       have bj:Hid (wr.ownsRow B 244 4 v ac.length (ac.flatMap rtC)):=an;have bq:Hid (Below B W0 wr):=ao;have av:Hid (∀O,B<=(wr.alloc O).heap.size):=λO=>by simp;omega
       have bk:B<=wr.heap.size:=by omega
       have be:Hid _:=ae;have bd:Hid _:=ah;clear hh af aq an ao aj ah ae bv a9 bn
       go_wp2_with (first
        | (at_builtin;refine wpList_append_own _ rfl (.tmp 105) (.tmp 107) 209 rfl B 244 i0 (.agg #[Ii 0,St ⟨#[]⟩,Ii 0,Ii 0]) 4 40 Tryz.underlying209 hi az ay ax rfl (by decide) _ _ _ rfl (bj.out.alloc _) ⟨wr.heap.size,0,none⟩ 1 1 [Ii 2,St ad,Ii i,Ii r] rfl rfl (qhc _ _ _ _ _ _) (ap _ _ _) am al (av.out _) ?_;intro v' w1 ab aa _;have bc:=bt.out _ _ aa))
       have ag:=HT.out.more ⟨2,ad,i,r⟩ bi (by have:=bd.out;omega) be.out (bq.out.alloc bk _) (av.out _) ab aa;clear ab aa
       go_roundw
       case rel=>exact⟨i+r,_,v',rfl,by go_num,ag⟩
       case measure=>simp[intOf];omega
   .have m1:((kd:Int) == 1)=false:=by simp;omega
    have m2:((kd:Int) == 2)=false:=by simp;omega
    have ae:Hid _:=Qde.out (by omega) (by omega) (λe=>absurd e k6);clear kw k4 k5 k6
    go_wp2_with (first
     | (at_builtin;refine wpList_append_own _ rfl (.tmp 105) (.tmp 107) 209 rfl B 244 i0 (.agg #[Ii 0,St ⟨#[]⟩,Ii 0,Ii 0]) 4 40 Tryz.underlying209 hi az ay ax rfl (by decide) _ _ _ rfl ((HT.out.own.alloc _).alloc _) ⟨wr.heap.size+1,0,none⟩ 1 1 [Ii 5,St tx,Ii i,Ii 1] rfl rfl (b5.out _ _ _ _ _ _) (ap _ _ _) am al (ak.out _ _) ?_;intro v' w1 ab aa _;have bc:=b8.out _ _ _ _ _ _ aa))
    have ag:=HT.out.more ⟨5,tx,i,1⟩ (by decide) au ae.out (b4.out _ _) (ak.out _ _) ab aa;clear ab aa
    go_roundw
    case rel=>exact⟨i+1,_,v',rfl,by go_num,ag⟩
    case measure=>simp[intOf];omega
  .have ae:=hT.spec;rw[List.drop_eq_nil_of_le (by omega)] at ae;have Qd7:qbt L.length [] i=[]:=by cases L.length <;> rfl
   rw[Qd7,List.append_nil] at ae;have da:=hT.few;have db:=hT.le;have c5:ac.length<=300:=by omega
   have b3:B<=wr.heap.size:=Nat.le_trans (Nat.le_of_eq HB.out.symm) hT.below.size;have ap:∀u∈[Value.int .i64 4,St ⟨#[]⟩,Ii L.length,Ii 0],u.oneCell'=true:=by simp[Value.oneCell']
   have am:ac.length+1<=maxLen:=by unfold maxLen;omega
   have al:(ac.length+1)*40<=140737488355328:=by omega
   have ak:Hid (∀(O:Obj),B<=(wr.alloc O).heap.size):=λO=>by simp;omega
   have HT:Hid (qs6 L B W0 wr v i ac):=hT;have HS:Hid (ac=qbt L.length L 0):=ae;clear hT ae Qd7
   go_wp2_with (first
    | (at_builtin;refine wpList_append_own _ rfl (.tmp 113) (.tmp 117) 209 rfl B 244 i0 (.agg #[Ii 0,St ⟨#[]⟩,Ii 0,Ii 0]) 4 40 Tryz.underlying209 hi az ay ax rfl (by decide) _ _ _ rfl (HT.out.own.alloc _) ⟨wr.heap.size,0,none⟩ 1 1 [Ii 4,St ⟨#[]⟩,Ii L.length,Ii 0] rfl rfl (qhc _ _ _ _ _ _) ap am al (ak.out _) ?_;intro v' w1 ab aa _))
   go_ret;rw[<- HS.out];refine⟨v',rfl,Qa ?_ HW.out.1,HW.out.2.trans (Below.mono ((HT.out.below.alloc b3 _).grown aa (ak.out _) (λk hk=>(HT.out.own.lt k hk).1)) HW.out.1)⟩;simpa [rtC] using ab
