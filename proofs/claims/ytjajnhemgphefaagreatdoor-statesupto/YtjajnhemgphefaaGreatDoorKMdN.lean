/- A part -/
import Derived.Test.YtjajnhemgphefaaGreatDoorKMdK
set_option linter.all false
set_option maxRecDepth 100000
set_option maxHeartbeats 16000000
namespace Go.Proofs.YtjajnhemgphefaaGreatDoor
open Go renaming World->Wq,Value->Vq
open Go.RowKit Go.Shelf
variable {W:Wq} {ps:List (Am×Vq)} {a:Option Addr}
def qij(a:Am)(g:Gr)(b:List By)(vb:Vq)(N:Nat)(e:Ending)(w':Wq):Prop:=
 match qcd a g b with
 | none=>e=.returned (.tuple #[vb,.bool false])
 | some b'=>∃v',e=.returned (.tuple #[v',.bool true])/\w'.ownsRow N 9 1 v' b'.length (b'.map Value.string)
theorem qzg(p:Am×Vq)(q:Gr×Vq)(vb:Vq)(b:List By)(w:Wq)(hA:qa5 w p)(hG:qt w q.2 q.1.args)(hB:qt w vb b)(hl:p.1.args.length<=1000)(a7:0 < b.length)(cy:b.length<=1000)(hn:∀t∈p.1.args,t.num < b.length) :
  Cs 123 #[.agg #[St p.1.rel,p.2],gdV q,vb] w λe w'=>qij p.1 q.1 b vb w.heap.size e w'/\Below w.heap.size w w':=by
 obtain⟨i0,hi,db,b7,cv⟩:=info_parts Tryz.infoStr;obtain⟨⟨r1,l1⟩,v1⟩:=p;obtain⟨⟨r2,l2⟩,v2⟩:=q;unfold gdV;simp only at hl hn hG ⊢;obtain⟨a1,c1,hq⟩:=qd hA;simp only at hq;subst hq;obtain⟨a2,c2,rfl⟩:=qd hG;obtain⟨gb,cb,e1,di,_⟩:=hB.cell 0 a7;subst e1;obtain⟨N,hN⟩:∃N,N=w.heap.size:=⟨_,rfl⟩;have ah:=hN.symm;have Qa1:gb < N:=by rw[hN];exact di
 have ce:Hid (∀(X:Wq),Below N w X->∀(j:Nat) (hj:j < l1.length),∃g,a1=some ⟨g,0,none⟩/\g < N/\X.cell? (Ad g (j*2))=some (St l1[j].name)/\X.cell? (Ad g (j*2+1))=some (Ii l1[j].num)):=by
  intro X hX j hj;obtain⟨g,cap,e1,hg,c0,c1⟩:=hA.cell j hj;cases e1;have a6:g < N:=by rw[hN];exact hg
  exact⟨g,rfl,a6,(Below.cell hX a6).trans c0,(Below.cell hX a6).trans c1⟩
 have cr:Hid (∀(X:Wq),Below N w X->∀(j:Nat) (hj:j < l2.length),∃g,a2=some ⟨g,0,none⟩/\g < N/\X.cell? (Ad g j)=some (St l2[j])):=by
  intro X hX j hj;obtain⟨g,cap,e1,hg,c0⟩:=hG.cell j hj;cases e1;have a6:g < N:=by rw[hN];exact hg
  exact⟨g,rfl,a6,(Below.cell hX a6).trans c0⟩
 have ck:Hid (∀(X:Wq),Below N w X->∀(j:Nat) (hj:j < b.length),X.cell? (Ad gb j)=some (St (b.getD j ⟨#[]⟩))):=by
  intro X hX j hj;obtain⟨g,cap,e1,hg,c0⟩:=hB.cell j hj;cases e1;rw[(Below.cell hX Qa1),c0];simp[List.getElem?_eq_getElem hj]
 have HNo:Hid (qcd ⟨r1,l1⟩ ⟨r2,l2⟩ b=none->∀(e:Ending) (w':Wq),e=.returned (.tuple #[Sc gb b.length cb,.bool false])->qij ⟨r1,l1⟩ ⟨r2,l2⟩ b (Sc gb b.length cb) N e w'):=by
  intro h e w' he;unfold qij;rw[h];exact he
 have Qcq:Hid (∀b',qcd ⟨r1,l1⟩ ⟨r2,l2⟩ b=some b'->∀(e:Ending) (w':Wq),(∃v',e=.returned (.tuple #[v',.bool true])/\w'.ownsRow N 9 1 v' b'.length (b'.map Value.string))->qij ⟨r1,l1⟩ ⟨r2,l2⟩ b (Sc gb b.length cb) N e w'):=by
  intro b' h e w' he;unfold qij;rw[h];exact he
 have al:Hid (∀O O',Below N w ((w.alloc O).alloc O')):=λO O'=>((Below.refl _ w).alloc (by omega) O).alloc (by simp;omega) O';rw[<- hN];clear hA hG hB hN
 cases hr:(r1.toList == r2.toList) with
 | false=>
  have ag:Hid (qcd ⟨r1,l1⟩ ⟨r2,l2⟩ b=none):=by
   show _=_;unfold qcd eqB;rw[if_neg (by simp[hr])]
  go_enter Tryz.func123,Tryz.ntmps123;go_wp2;go_ret2;exact⟨HNo.out ag.out _ _ rfl,al.out _ _⟩
 | true=>
  by_cases ab:l1.length=l2.length
  .have hF:qcd ⟨r1,l1⟩ ⟨r2,l2⟩ b=qgv l1 l2 b:=by unfold qcd eqB;rw[if_pos ⟨hr,ab⟩]
   rw[hF] at HNo Qcq;obtain⟨n,a9⟩:∃n,l2.length=n:=⟨_,rfl⟩;have cg:Hid (l2.length=n):=a9;have bt:Hid (l1.length=n):=ab.trans a9;have e1:l1.length=n:=ab.trans a9;rw[e1] at hl ⊢;rw[a9];clear ab a9 e1 hF;go_enter Tryz.func123,Tryz.ntmps123;go_wp2
   go_loopw [8] (λx wr=>∃k:Nat,x=.int .i64 k/\k<=n/\wr=(w.alloc (.cells #[.string r1,.slice a1 n c1] 145)).alloc (.cells #[.string r2,.slice a2 n c2] 226)) (λx _=>n - (intOf x).toNat)
   case atStart=>exact⟨0,rfl,zz,rfl⟩
   case round=>
    obtain⟨k,rfl,bq,rfl⟩:=hrel;by_cases ad:k < n
    .have aw:k < l1.length:=by rw[bt.out];exact ad
     have bc:k < l2.length:=by rw[cg.out];exact ad
     obtain⟨g1,rfl,Qgi,d0,d1⟩:=ce.out _ (al.out (.cells #[St r1,.slice a1 n c1] 145) (.cells #[St r2,.slice a2 n c2] 226)) k aw;obtain⟨g2,rfl,Qdq,d2⟩:=cr.out _ (al.out (.cells #[St r1,Sc g1 n c1] 145) (.cells #[St r2,.slice a2 n c2] 226)) k bc;have bb:=hn l1[k] (zm aw);have d3:=ck.out _ (al.out (.cells #[St r1,Sc g1 n c1] 145) (.cells #[St r2,Sc g2 n c2] 226)) l1[k].num bb;have cq:=λh1 h2=>q88 b l1 l2 b k aw bc ⟨rfl,λ_ _=>rfl⟩ h1 h2;have af:Hid _:=cq;clear cq;generalize l1[k]=tm at *;generalize l2[k]=y at *;obtain⟨nm,nu⟩:=tm;simp only at d0 d1 d3 bb;have b8:qih b ⟨nm,nu⟩=if nm.toList.isEmpty=true then b.getD nu ⟨#[]⟩ else nm:=rfl;rw[b8] at af;clear b8;generalize b.getD nu ⟨#[]⟩=bn at *;unfold qg eqB at af
     cases h1:nm.toList.isEmpty with
     | true=>
      rw[h1] at af;simp only[if_true] at af
      cases h2:bn.toList.isEmpty with
      | true=>
       go_wp2
       go_roundw
       case rel=>exact⟨k+1,by go_num,by omega,by trivial⟩
       case measure=>simp[intOf];omega
      | false=>
       cases h3:(bn.toList == y.toList) with
       | true=>
        go_wp2
        go_roundw
        case rel=>exact⟨k+1,by go_num,by omega,by trivial⟩
        case measure=>simp[intOf];omega
       | false=>
        have ag:=af.out h2 h3;have av:Hid _:=HNo.out ag;clear ag af;go_wp2;go_ret2;exact⟨av.out _ _ rfl,al.out _ _⟩
     | false=>
      rw[h1] at af;simp only[Bool.false_eq_true,if_false] at af
      cases h3:(nm.toList == y.toList) with
      | true=>
       go_wp2
       go_roundw
       case rel=>exact⟨k+1,by go_num,by omega,by trivial⟩
       case measure=>simp[intOf];omega
      | false=>
       have ag:=af.out h1 h3;have av:Hid _:=HNo.out ag;clear ag af;go_wp2;go_ret2;exact⟨av.out _ _ rfl,al.out _ _⟩
    .have Qav:i0.bytes*b.length<=281474976710656:=by rw[cv];omega
     have c8:b.length<=maxLen:=by unfold maxLen;omega
     obtain⟨W2,a8⟩:∃W2,(w.alloc (.cells #[St r1,.slice a1 n c1] 145)).alloc (.cells #[St r2,.slice a2 n c2] 226)=W2:=⟨_,rfl⟩;have dl:W2.heap.size=N+2:=by rw[<- a8];simp[ah]
     have aj:Below N w W2:=by rw[<- a8];exact al.out _ _
     have x1:W2.heap[N]?=cC #[St r1,.slice a1 n c1] 145:=by
      rw[<- a8,Below.heap_alloc _ _ _ (by simp;omega),<- ah];exact zn w _
     have x2:W2.heap[N+1]?=cC #[St r2,.slice a2 n c2] 226:=by
      rw[<- a8];have:=zn (w.alloc (.cells #[St r1,.slice a1 n c1] 145)) (.cells #[St r2,.slice a2 n c2] 226);rw[World.size_alloc,ah] at this;exact this
     have y1:W2.cell? (Ad N 1)=some (.slice a1 n c1):=zc x1
     have HMk:Hid (∀w1,w1.ownsRow N 9 1 (Sc (N+2) b.length b.length) b.length (madeCells (Value.string ⟨#[]⟩).cells (b.length*1)).toList->W2.grownBy w1 none->qeu N w w1 r1 (.slice a1 n c1) r2 (.slice a2 n c2) (List.replicate b.length ⟨#[]⟩)):=by
      intro w1 ho hg;rw[qp3] at ho;refine⟨aj.grown hg (by omega) (λk e=>by cases e),(hg.block N (by omega) (by simp)).trans x1,(hg.block (N+1) (by omega) (by simp)).trans x2,?_⟩;obtain⟨_,⟨hv,_⟩ | ⟨g',c5,dr,hv,_,hh,h1,h2,h3,h4⟩⟩:=ho
      .cases hv
      .cases hv;rw[hh];congr 2;rw[<- Array.toList_inj];simp only[Nat.mul_one] at h3 h4;rw[<- h4,List.take_of_length_le (by simp[h3])]
     have HCp:Hid (∀w1,qeu N w w1 r1 (.slice a1 n c1) r2 (.slice a2 n c2) (List.replicate b.length ⟨#[]⟩)->(∀j v,(b.map Value.string)[j]?=some v->w1.cell? ((⟨gb,0,none⟩:Addr).add j)=some v)/\qeu N w (w1.setRow (N+2) ((((List.replicate b.length (⟨#[]⟩:By)).map Value.string).toArray.toList.take 0++(b.map Value.string++((List.replicate b.length (⟨#[]⟩:By)).map Value.string).toArray.toList.drop (0+(b.map Value.string).length))).toArray)) r1 (.slice a1 n c1) r2 (.slice a2 n c2) b):=by
      intro w1 hF;refine⟨λj v hj=>?_,?_⟩
      .have bo:j < b.length:=by
        apply Classical.byContradiction;intro h;rw[List.getElem?_eq_none (by simp;omega)] at hj;cases hj
       have h1:=ck.out w1 hF.below j bo;rw[List.getElem?_map,List.getElem?_eq_getElem bo] at hj;simp only[Option.map_some,Option.some.injEq] at hj;subst hj;have e:(⟨gb,0,none⟩:Addr).add j=⟨gb,j,none⟩:=by simp[Addr.add];intro h;exact h.symm
       rw[e,h1];simp[List.getElem?_eq_getElem bo]
      .have Qv:=setRow_heap w1 (N+2) _ ((((List.replicate b.length (⟨#[]⟩:By)).map Value.string).toArray.toList.take 0++(b.map Value.string++((List.replicate b.length (⟨#[]⟩:By)).map Value.string).toArray.toList.drop (0+(b.map Value.string).length))).toArray) _ _ hF.row;refine⟨below_setRow hF.below (by omega) _,(setRow_other w1 _ _ _ (by omega)).trans hF.b1,(setRow_other w1 _ _ _ (by omega)).trans hF.b2,?_⟩;rw[Qv];congr 2;simp
     have Qfr:∀v∈b.map Value.string,v.oneCell'=true:=by
      intro v hv;obtain⟨x,_,rfl⟩:=List.mem_map.1 hv;rfl
     have Qek:(Tryz.prog.info? 9).map (·.size)=some 1:=by rw[hi];simp[b7]
     rw[a8];clear x1 x2 aj
     go_wp2_with (first | (at_make;refine wpList_make_full _ rfl (.tmp 65) (.tmp 65) 22 rfl N 9 i0 (St ⟨#[]⟩) 1 Tryz.underlying22 hi db b7 .i64 .i64 _ _ b.length rfl rfl rfl rfl Qav c8 (by omega) ?_;rw[dl];intro w1 an ae;have bi:Hid _:=HMk.out w1 an ae;clear an ae) | (refine wpList_copy_own rfl (.tmp 67) (.tmp 68) 22 239 rfl 9 Tryz.underlying22 Qek (N+2) 0 b.length b.length ⟨gb,0,none⟩ b.length cb rfl rfl _ _ bi.out.row (b.map Value.string) (by simp) (HCp.out w1 bi.out).1 (by simp) Qfr ?_;have cp:Hid _:=(HCp.out w1 bi.out).2))
     have ct:Hid (qeu N w (w1.setRow (N+2) (List.map Value.string b).toArray) r1 (.slice a1 n c1) r2 (.slice a2 n c2) b):=by
      have h:qeu N w (w1.setRow (N+2) (List.map Value.string b).toArray) r1 (.slice a1 n c1) r2 (.slice a2 n c2) b:=by simpa using cp.out
      exact h
     clear bi HMk HCp cp
     go_loopw [11] (λx wr=>∃(k:Nat) (out:List ByteArray),x=.int .i64 k/\k<=n/\qeu N w wr r1 (.slice a1 n c1) r2 (.slice a2 n c2) out/\Hid (out.length=b.length)/\Hid (qgv (l1.drop k) (l2.drop k) out=qgv l1 l2 b)) (λx _=>n - (intOf x).toNat)
     case atStart=>exact⟨0,b,rfl,zz,ct.out,rfl,rfl⟩
     case round=>
      clear ct;obtain⟨k,out,rfl,bq,hF,aq,aa⟩:=hrel;have y1:wr.cell? (Ad N 1)=some (.slice a1 n c1):=by simp[World.cell?,hF.b1]
      by_cases ad:k < n
      .have aw:k < l1.length:=by rw[bt.out];exact ad
       have bc:k < l2.length:=by rw[cg.out];exact ad
       obtain⟨g1,rfl,Qgi,d0,d1⟩:=ce.out wr hF.below k aw;have bb:=hn l1[k] (zm aw);rw[List.drop_eq_getElem_cons aw,List.drop_eq_getElem_cons bc] at aa;have hA:=hF.alloc (.cells #[St l1[k].name,Ii l1[k].num] 215);obtain⟨g2,rfl,Qdq,d2⟩:=cr.out _ hA.below k bc;have d3:=hA.cell l1[k].num (by rw[aq.out];exact bb);have dw:N+3<=wr.heap.size:=(zg hF.row).1;have b4:=λx=>hA.set l1[k].num x;generalize l1[k]=tm at *;generalize l2[k]=y at *;obtain⟨nm,nu⟩:=tm;simp only at d0 d1 d3 bb hA b4 d2;have z1:(wr.alloc (.cells #[St nm,Ii nu] 215)).cell? (Ad (N+1) 1)=some (Sc g2 n c2):=by simp[World.cell?,hA.b2]
       have z2:(wr.alloc (.cells #[St nm,Ii nu] 215)).frozen? (Ad (N+2) nu)=false:=by simp[World.frozen?,hA.row]
       simp only[qgv] at aa;unfold qg eqB at aa;have HA:Hid (qeu N w (wr.alloc (.cells #[St nm,Ii nu] 215)) r1 (Sc g1 n c1) r2 (Sc g2 n c2) out):=hA;have bj:Hid _:=b4;have az:out.length=b.length:=aq.out;obtain⟨on,cn⟩:∃on,out.getD nu ⟨#[]⟩=on:=⟨_,rfl⟩;rw[cn] at d3 aa;clear hA b4 hF cn
       cases h1:nm.toList.isEmpty with
       | false=>
        rw[h1] at aa;simp only[if_true] at aa
        cases h3:(nm.toList == y.toList) with
        | true=>
         rw[h3] at aa;simp only[if_true] at aa;clear az;go_wp2;go_quiet (fail);go_wp2;go_quiet (fail);go_wp2
         go_roundw
         case rel=>exact⟨k+1,out,by go_num,by omega,HA.out.drewN _,aq,aa⟩
         case measure=>simp[intOf];omega
        | false=>
         rw[h3] at aa;simp only[Bool.false_eq_true,if_false] at aa;have av:Hid _:=HNo.out aa.out.symm;clear az aa;go_wp2;go_quiet (fail);go_wp2;go_ret2;exact⟨av.out _ _ rfl,qu HA.out.below⟩
       | true=>
        rw[h1] at aa;simp only[Bool.true_eq_false,if_false] at aa
        cases h2:on.toList.isEmpty with
        | true=>
         rw[h2] at aa;simp only[if_true] at aa;have Qg0:Hid ((out.set nu y).length=b.length):=by show _=_;rw[List.length_set];exact az
         have c6:Hid (qeu N w ((wr.alloc (.cells #[St nm,Ii nu] 215)).setCell (Ad (N+2) nu) (St y)) r1 (Sc g1 n c1) r2 (Sc g2 n c2) (out.set nu y)):=bj.out y;clear az bj;go_wp2;go_quiet (fail);go_wp2
         go_region
         all_goals
          go_wp2
          go_roundw
          case rel=>exact⟨k+1,out.set nu y,by go_num,by omega,qeu.like c6.out rfl rfl rfl rfl,Qg0,aa⟩
          case measure=>simp[intOf];omega
        | false=>
         rw[h2] at aa;simp only[Bool.false_eq_true,if_false] at aa
         cases h3:(on.toList == y.toList) with
         | true=>
          rw[h3] at aa;simp only[if_true] at aa;clear az bj;go_wp2;go_quiet (fail);go_wp2;go_quiet (fail);go_wp2
          go_roundw
          case rel=>exact⟨k+1,out,by go_num,by omega,qeu.like HA.out rfl rfl rfl rfl,aq,aa⟩
          case measure=>simp[intOf];omega
         | false=>
          rw[h3] at aa;simp only[Bool.false_eq_true,if_false] at aa;have av:Hid _:=HNo.out aa.out.symm;clear az bj aa;go_wp2;go_quiet (fail);go_wp2;go_quiet (fail);go_wp2;go_ret2;exact⟨av.out _ _ rfl,qu (qu HA.out.below)⟩
      .have h1:l1.drop k=[]:=List.drop_eq_nil_of_le (by rw[bt.out];omega);rw[h1] at aa;simp only[qgv] at aa;have cu:Hid _:=Qcq.out out aa.out.symm;have b3:=hF.own (by rw[aq.out];exact cy);rw[aq.out] at b3;have cz:Hid _:=b3;have df:Hid (out.length=b.length):=aq;have HB:Hid (Below N w wr):=hF.below;clear hF b3 aa;go_wp2;go_ret2;refine⟨cu.out _ _ ⟨_,rfl,?_⟩,HB.out⟩;rw[df.out];exact cz.out
  .have ag:Hid (qcd ⟨r1,l1⟩ ⟨r2,l2⟩ b=none):=by
    show _=_;unfold qcd;rw[if_neg (by simp[ab])]
   have h1:((l1.length:Int) == (l2.length:Int))=false:=by simp;omega
   have h2:((l1.length:Int) != (l2.length:Int))=true:=by simp;omega
   go_enter Tryz.func123,Tryz.ntmps123;go_wp2;go_ret2;exact⟨HNo.out ag.out _ _ rfl,al.out _ _⟩
def qa7(vs l:List By):List By:=l.foldl Qh vs
def qam(gs:List Gr):List By:=gs.flatMap (·.args)
theorem qsw(vs:List By)(x:By):vs.length<=(Qh vs x).length/\(Qh vs x).length<=vs.length+1:=by
 unfold Qh;split <;> simp
theorem quk(l:List By):∀vs,vs.length<=(qa7 vs l).length/\(qa7 vs l).length<=vs.length+l.length:=by
 induction l with
 | nil=>intro vs;simp[qa7]
 | cons t l ih=>
  intro vs;have h1:=qsw vs t;have h2:=ih (Qh vs t);simp only[qa7,List.foldl_cons,List.length_cons] at h2 ⊢;omega
theorem q1n(v:Vq)(ps:List (Gr×Vq))(w:Wq)(hp:qc3 w v ps)(hl:ps.length<=100000)(ha:∀p∈ps,p.1.args.length<=1000)(ht:(qa7 [] (qam (ps.map (·.1)))).length<=100000) :
  Cs 222 #[v] w λe w'=>∃v',e=.returned v'/\qgc w.heap.size w w' v' (qa7 [] (qam (ps.map (·.1)))):=by
 obtain⟨N,hN⟩:∃N,N=w.heap.size:=⟨_,rfl⟩;have ah:=hN.symm;obtain⟨va,vc,hv⟩:=qd hp.row;rw[<- hN];have HP:Hid (qc3 w v ps):=hp;subst hv;clear hp hN;generalize hTT:qa7 [] (qam (ps.map (·.1)))=T at *;go_enter Tryz.func222,Tryz.ntmps222;go_wp2
 go_loopw [3,4] (λo p wr=>∃(i:Nat) (vo:Vq) (vs:List ByteArray),vo=o/\p=.int .i64 i/\i<=ps.length/\qgc N w wr vo vs/\Hid (qa7 vs (qam ((ps.drop i).map (·.1)))=T)) (λ_ p _=>ps.length - (intOf p).toNat)
 case atStart=>exact⟨0,_,[],rfl,rfl,zz,⟨zr,by omega,zo⟩,hTT⟩
 case round=>
  obtain⟨i,vo,vs,rfl,rfl,bq,ac,aa⟩:=hrel;by_cases ad:i < ps.length
  .have cd:Hid (qa7 vs (ps[i].1.args++qam ((ps.drop (i+1)).map (·.1)))=T):=by
    have:=aa.out;rw[List.drop_eq_getElem_cons ad,List.map_cons] at this;unfold qam at this ⊢;rw[List.flatMap_cons] at this;exact this
   have dp:=ha ps[i] (zm ad);have ai:Hid (qgc N w wr vo vs):=ac;clear aa ac;go_wp2
   go_loopw [3,5] (λo p wr=>∃(m:Nat) (vo:Vq) (vs:List ByteArray),vo=o/\p=.int .i64 m/\m<=ps[i].1.args.length/\qgc N w wr vo vs/\Hid (qa7 vs (ps[i].1.args.drop m++qam ((ps.drop (i+1)).map (·.1)))=T)) (λ_ p _=>ps[i].1.args.length - (intOf p).toNat)
   case atStart=>exact⟨0,_,vs,rfl,rfl,zz,ai.out,cd⟩
   case round=>
    clear ai cd;obtain⟨m,vo,vs,rfl,rfl,Qgu,ac,au⟩:=hrel;obtain⟨g,cap,e1,hg,d0,d1,⟨x1,x2,hx⟩,hS⟩:=(HP.out.below (by rw[ah];exact ac.below)).cell i ad;cases e1;rw[hx] at d1;by_cases b6:m < ps[i].1.args.length
    .obtain⟨g3,de,e3,_,f0⟩:=hS.cell m b6;rw[hx] at e3;cases e3;rw[List.drop_eq_getElem_cons b6] at au;generalize ps[i].1.args[m]=nm at *;simp only[List.cons_append,qa7,List.foldl_cons] at au;have cl:Hid (qa7 (Qh vs nm) (ps[i].1.args.drop (m+1)++qam ((ps.drop (i+1)).map (·.1)))=T):=au;have cc:=(quk (ps[i].1.args.drop (m+1)++qam ((ps.drop (i+1)).map (·.1))) (Qh vs nm)).1;rw[cl.out] at cc;have dk:=(qsw vs nm).1;have dn:vs.length<=100000:=by omega
     have dm:=qrv N vo vs nm wr ac.size (by omega) ac.own;have ai:Hid (qgc N w wr vo vs):=ac;clear au cc dk hx hS d0 ac
     go_wp2_with (go_at_call 119;refine dm.mono ?_;rintro e w2 ⟨v2,rfl,ak,ay⟩)
     have bv:qgc N w w2 v2 (Qh vs nm):=⟨ai.out.below.grown ay ai.out.size (λk e=>(Qe ai.out.own k e).1),Nat.le_trans ai.out.size ay.size,ak⟩;clear ak ay
     go_roundw
     case rel=>exact⟨m+1,v2,_,rfl,by go_num,by omega,bv,cl⟩
     case measure=>simp[intOf];omega
    .rw[List.drop_eq_nil_of_le (by omega)] at au;simp only[List.nil_append] at au;have ai:Hid (qgc N w wr vo vs):=ac;clear ac hS hx;go_wp2
     go_roundw
     case rel=>exact⟨i+1,vo,vs,rfl,by go_num,by omega,ai.out,au⟩
     case measure=>simp[intOf];omega
  .rw[List.drop_eq_nil_of_le (by omega)] at aa;have dd:vs=T:=by have:=aa.out;simpa [qa7,qam] using this
   subst dd;go_wp2;go_ret;exact⟨vo,rfl,ac⟩
def q3v(r:Rl)(at' v:Nat):Bool:=qy (r.body.take (at'+1)) v && !qy [r.head] v && !qy (r.body.drop (at'+1)) v
def qds(r:Rl)(at':Nat):Bool:=(List.range 8).any (q3v r at')
structure qms(W:Wq)(q:Rl×Vq×Vq)(g c:Nat)(ps:List (Am×Vq)):Prop where
 head:qa5 W (q.1.head,q.2.1)
 body:qal W (some ⟨g,0,none⟩) ps
 eq:ps.map (·.1)=q.1.body
 val:q.2.2=Sc g ps.length c
 cap:ps.length<=c
theorem qms.below{W':Wq}{q:Rl×Vq×Vq}{g c:Nat}(h:qms W q g c ps)(hb:Below W.heap.size W W'):qms W' q g c ps:=⟨h.head.kept (Kp.ofBelow (S:=0) hb),h.body.below hb,h.eq,h.val,h.cap⟩
theorem qal.take(h:qal W a ps)(i:Nat):qal W a (ps.take i):=
 ⟨λk hk=>by
  have dj:k < ps.length:=by rw[List.length_take] at hk;omega
  have e:(ps.take i)[k]=ps[k]:=by rw[List.getElem_take]
  rw[e];exact h.cells k dj,λp hp=>h.each p (List.mem_of_mem_take hp)⟩
theorem qal.nil:qal W a []:=⟨λk hk=>by simp at hk,λp hp=>by cases hp⟩
theorem qal.single(X:Wq)(hd:Am)(va:Vq)(h:qa5 X (hd,va)):qal (X.alloc (.cells #[St hd.rel,va] 145)) (some ⟨X.heap.size,0,none⟩) [(hd,va)]:=
 ⟨λk hk=>by
  have cw:k=0:=by simp at hk;exact hk
  subst cw
  exact⟨X.heap.size,0,rfl,by simp,by simp,by simp⟩,λp hp=>by
  simp at hp;subst hp
  exact h.kept (Kp.alloc (S:=0) _ _)⟩
theorem q5j(q:Rl×Vq×Vq)(g c:Nat)(ps:List (Am×Vq))(at':Nat)(w:Wq)(hR:qms w q g c ps)(dt:at' < ps.length)(hl:ps.length<=900)(hm:∀p∈(q.1.head,q.2.1)::ps,p.1.args.length<=1000000/\∀t∈p.1.args,t.num<=1000000) :
  Cs 223 #[rlV q,Ii at'] w λe w'=>e=.returned (.bool (qds q.1 at'))/\Below w.heap.size w w':=by
 unfold rlV;obtain⟨a1,a2,bk⟩:=qd hR.head;simp only at bk;have cm:=hR.val;have dc:=hR.cap;rw[bk,cm];obtain⟨N,hN⟩:∃N,N=w.heap.size:=⟨_,rfl⟩;have ah:=hN.symm;have ci:q.1.body=ps.map (·.1):=hR.eq.symm
 have co:∀v,q3v q.1 at' v=(qy ((ps.take (at'+1)).map (·.1)) v && !qy [q.1.head] v && !qy ((ps.drop (at'+1)).map (·.1)) v):=by
  intro v;unfold q3v;rw[ci,List.map_take,List.map_drop]
 obtain⟨W0,bd⟩:∃W0,W0=w.alloc (.cells #[St q.1.head.rel,.slice a1 q.1.head.args.length a2,Sc g ps.length c] 148):=⟨_,rfl⟩;have c9:W0.heap.size=N+1:=by rw[bd];simp[ah]
 have a7:Below N w W0:=by rw[bd];exact (Below.refl _ w).alloc (by omega) _
 have Qs:W0.heap[N]?=cC #[St q.1.head.rel,.slice a1 q.1.head.args.length a2,Sc g ps.length c] 148:=by rw[bd,<- ah];exact zn w _
 have cf:=hR.below (by rw[ah];exact a7)
 have HX:Hid (∀X,Below (N+1) W0 X->qal X (some ⟨g,0,none⟩) ps/\qa5 X (q.1.head,.slice a1 q.1.head.args.length a2)/\X.cell? (Ad N 0)=some (St q.1.head.rel)/\X.cell? (Ad N 1)=some (.slice a1 q.1.head.args.length a2)/\X.cell? (Ad N 2)=some (Sc g ps.length c)/\Below N w X/\N+1<=X.heap.size):=by
  intro X hX;have c3:Below W0.heap.size W0 X:=by rw[c9];exact hX
  have h1:X.heap[N]?=_:=(hX.block N (by omega)).trans Qs;have ch:=cf.below c3;refine⟨ch.body,by have:=ch.head;rw[bk] at this;exact this,zc h1,zc h1,zc h1,a7.trans (hX.mono (by omega)),by have:=hX.size;omega⟩
 have Qck:Hid (∀(X:Wq) (v:Nat),Below (N+1) W0 X->v<=8->Cs 246 #[Sc g (at'+1) c,Ii v] X λe w'=>e=.returned (.bool (qy ((ps.take (at'+1)).map (·.1)) v))/\w'=X):=by
  intro X v hX hv;have ab:(ps.take (at'+1)).length=at'+1:=by rw[List.length_take];omega
  have h:=qi2 (some ⟨g,0,none⟩) c (ps.take (at'+1)) v X ((HX.out X hX).1.take _) (by omega) (by omega) (λp hp=>hm p (zt (List.mem_of_mem_take hp)));rw[ab] at h;exact h
 have c7:Hid (∀(X:Wq) (v:Nat),Below (N+1) W0 X->v<=8->Cs 246 #[Sc X.heap.size 1 1,Ii v] (X.alloc (.cells #[St q.1.head.rel,.slice a1 q.1.head.args.length a2] 145)) λe w'=>e=.returned (.bool (qy [q.1.head] v))/\w'=X.alloc (.cells #[St q.1.head.rel,.slice a1 q.1.head.args.length a2] 145)):=by
  intro X v hX hv
  have h:=qi2 (some ⟨X.heap.size,0,none⟩) 1 [(q.1.head,.slice a1 q.1.head.args.length a2)] v _ (qal.single X q.1.head _ (HX.out X hX).2.1) (by simp) (by omega) (λp hp=>by
   simp at hp;subst hp
   exact hm (q.1.head,q.2.1) zs)
  exact h
 have c4:Hid (∀(X:Wq) (v:Nat),Below (N+1) W0 X->v<=8->Cs 246 #[.slice (if c=at'+1 then some ⟨g,0,none⟩ else some ⟨g,(at'+1)*2,none⟩) (ps.length - (at'+1)) (c - (at'+1)),Ii v] X λe w'=>e=.returned (.bool (qy ((ps.drop (at'+1)).map (·.1)) v))/\w'=X):=by
  intro X v hX hv;have ab:(ps.drop (at'+1)).length=ps.length - (at'+1):=List.length_drop
  have hA:qal X (if c=at'+1 then some ⟨g,0,none⟩ else some ⟨g,(at'+1)*2,none⟩) (ps.drop (at'+1)):=by
   split
   .rw[List.drop_eq_nil_of_le (by omega)];exact qal.nil
   .have:=(HX.out X hX).1.drop (at'+1);rw[Nat.zero_add] at this;exact this
  have h:=qi2 _ (c - (at'+1)) (ps.drop (at'+1)) v X hA (by omega) (by omega) (λp hp=>hm p (zt (List.mem_of_mem_drop hp)));rw[ab] at h;exact h
 have hL:Hid (qds q.1 at'=(List.range 8).any (λv=>qy ((ps.take (at'+1)).map (·.1)) v && !qy [q.1.head] v && !qy ((ps.drop (at'+1)).map (·.1)) v)):=by
  show _=_;unfold qds;congr 1;funext v;exact co v
 generalize qds q.1 at'=T at *;rw[<- hN];clear hR cf a7 Qs co ci hm hN bk cm;generalize q.1.head.rel=hrl at *;generalize q.1.head.args.length=hal at *;have h8:qao.length=8:=rfl;go_enter Tryz.func223,Tryz.ntmps223;go_wp2
 go_loopw [5] (λx wr=>∃k:Nat,x=.int .i64 k/\k<=8/\Below (N+1) W0 wr/\Hid (T=((List.range 8).drop k).any (λv=>qy ((ps.take (at'+1)).map (·.1)) v && !qy [q.1.head] v && !qy ((ps.drop (at'+1)).map (·.1)) v))) (λx _=>8 - (intOf x).toNat)
 case atStart=>exact⟨0,rfl,zz,by rw[bd];exact zr,hL⟩
 case round=>
  obtain⟨k,rfl,bq,be,aa⟩:=hrel;have bh:=qk6 wr;have dg:=(HX.out wr be).2.2.2.2.2.2;by_cases ad:k < 8
  .have ca:(List.range 8).drop k=k::(List.range 8).drop (k+1):=by
    rw[List.drop_eq_getElem_cons (by simpa using ad)];simp
   rw[ca] at aa;simp only[List.any_cons] at aa;have dh:Hid (Below (N+1) W0 wr):=be;clear be ca;go_wp2_with fail;refine bh.mono ?_;rintro e W2 ⟨v2,rfl,ak,aj⟩;obtain⟨p1,p2,rfl⟩:=qd ak;have ax:Below (N+1) W0 W2:=dh.out.trans (aj.mono dg);obtain⟨_,_,k0,k1,k2,_,bv⟩:=HX.out W2 ax;have b9:=Qck.out W2 k ax (by omega);have cj:=c7.out W2 k ax (by omega);have Qci:Hid (Below (N+1) W0 W2):=ax;clear bh ak aj ax;have i1:at'+1<=c:=by omega
   have i2:(at':Int)+1<=(c:Int):=by omega
   generalize qy ((ps.take (at'+1)).map (·.1)) k=B1 at *;generalize qy [q.1.head] k=B2 at *;go_wp2_with fail;refine b9.mono ?_;rintro e w' ⟨rfl,am⟩;obtain rfl:W2=w':=am.symm;go_wp2_with fail;refine cj.mono ?_;rintro e w' ⟨rfl,am⟩;obtain⟨W3,bu⟩:∃W3,W2.alloc (.cells #[St hrl,.slice a1 hal a2] 145)=W3:=⟨_,rfl⟩;rw[bu] at am;obtain rfl:W3=w':=am.symm;have bf:Below (N+1) W0 W3:=by rw[<- bu];exact Qci.out.alloc bv _
   obtain⟨_,_,du,dq,dx,_,dv⟩:=HX.out W3 bf;have ap:=c4.out W3 k bf (by omega);have ao:Hid (Below (N+1) W0 W3):=bf;generalize qy ((ps.drop (at'+1)).map (·.1)) k=B3 at *;clear b9 cj bf bu Qci;have i3:at'+1<=ps.length:=by omega
   have i4:(at':Int)+1<=(ps.length:Int):=by omega
   have i5:(ps.length:Int)<=(c:Int):=by omega
   by_cases b5:c=at'+1
   .rw[if_pos b5] at ap;have Qaw:c - (at'+1)=0:=by omega
    rw[Qaw] at ap;clear b5;go_wp2_with fail;refine ap.mono ?_;rintro e w' ⟨rfl,am⟩;obtain rfl:W3=w':=am.symm;clear ap
    cases B1 with
    | false=>
     simp only[Bool.false_and,Bool.false_or] at aa;go_wp2
     go_roundw
     case rel=>exact⟨k+1,by go_num,by omega,ao.out,aa⟩
     case measure=>simp[intOf];omega
    | true=>
     cases B2 with
     | true=>
      simp only[Bool.not_true,Bool.and_false,Bool.false_and,Bool.false_or] at aa;go_wp2
      go_roundw
      case rel=>exact⟨k+1,by go_num,by omega,ao.out,aa⟩
      case measure=>simp[intOf];omega
     | false=>
      cases B3 with
      | true=>
       simp only[Bool.not_true,Bool.and_false,Bool.false_or] at aa;go_wp2
       go_roundw
       case rel=>exact⟨k+1,by go_num,by omega,ao.out,aa⟩
       case measure=>simp[intOf];omega
      | false=>
       have hT:Hid (T=true):=by show _=_;rw[aa.out];simp
       clear aa;have b0:=(HX.out W3 ao.out).2.2.2.2.2.1;go_wp2;go_ret;rw[hT.out];exact⟨rfl,b0⟩
   .rw[if_neg b5] at ap;go_wp2_with fail;refine ap.mono ?_;rintro e w' ⟨rfl,am⟩;obtain rfl:W3=w':=am.symm;clear ap
    cases B1 with
    | false=>
     simp only[Bool.false_and,Bool.false_or] at aa;go_wp2
     go_roundw
     case rel=>exact⟨k+1,by go_num,by omega,ao.out,aa⟩
     case measure=>simp[intOf];omega
    | true=>
     cases B2 with
     | true=>
      simp only[Bool.not_true,Bool.and_false,Bool.false_and,Bool.false_or] at aa;go_wp2
      go_roundw
      case rel=>exact⟨k+1,by go_num,by omega,ao.out,aa⟩
      case measure=>simp[intOf];omega
     | false=>
      cases B3 with
      | true=>
       simp only[Bool.not_true,Bool.and_false,Bool.false_or] at aa;go_wp2
       go_roundw
       case rel=>exact⟨k+1,by go_num,by omega,ao.out,aa⟩
       case measure=>simp[intOf];omega
      | false=>
       have hT:Hid (T=true):=by show _=_;rw[aa.out];simp
       clear aa;have b0:=(HX.out W3 ao.out).2.2.2.2.2.1;go_wp2;go_ret;rw[hT.out];exact⟨rfl,b0⟩
  .rw[List.drop_eq_nil_of_le (by simp;omega)] at aa;simp only[List.any_nil] at aa;have da:=(HX.out wr be).2.2.2.2.2.1;have cx:N<=wr.heap.size:=by omega
   go_wp2_with fail;refine bh.mono ?_;rintro e W2 ⟨v2,rfl,ak,aj⟩;obtain⟨p1,p2,rfl⟩:=qd ak;have ax:Below N w W2:=da.trans (aj.mono cx);clear bh ak aj;go_wp2;go_ret;rw[aa.out];exact⟨rfl,ax⟩
