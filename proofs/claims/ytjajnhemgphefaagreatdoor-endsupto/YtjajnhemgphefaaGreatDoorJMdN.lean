/- The document's own answer: is there a variable, in a rule's -/
import Derived.Test.YtjajnhemgphefaaGreatDoorJMdK
set_option linter.unusedVariables false
set_option linter.unusedSimpArgs false
set_option maxRecDepth 100000
set_option maxHeartbeats 16000000
namespace Go.Proofs.YtjajnhemgphefaaGreatDoor
open Go renaming World->Wq,Value->Vq
open Go.RowKit Go.Shelf
variable {W:Wq} {ps:List (Am×Vq)} {a:Option Addr}
def qkd(a:Am)(g:Gr)(b:List ByteArray)(vb:Vq)(N:Nat)(e:Ending)(w':Wq):Prop:=
 match qd9 a g b with
 | none=>e=.returned (.tuple #[vb,.bool false])
 | some b'=>∃v',e=.returned (.tuple #[v',.bool true])/\w'.ownsRow N 9 1 v' b'.length (b'.map Value.string)
theorem q59(p:Am×Vq)(q:Gr×Vq)(vb:Vq)(b:List ByteArray)(w:Wq)(hA:qa7 w p)(hG:qu w q.2 q.1.args)(hB:qu w vb b)(hl:p.1.args.length<=1000)(hb0:0 < b.length)(hbl:b.length<=1000)(hn:∀t∈p.1.args,t.num < b.length) :
  Calls Tryz.prog 123 #[.agg #[.string p.1.rel,p.2],gdV q,vb] w λe w'=>qkd p.1 q.1 b vb w.heap.size e w'/\Below w.heap.size w w':=by
 obtain⟨i0,hi,hz0,hz1,hz2⟩:=info_parts Tryz.infoStr;obtain⟨⟨r1,l1⟩,v1⟩:=p;obtain⟨⟨r2,l2⟩,v2⟩:=q;unfold gdV;simp only at hl hn hG ⊢;obtain⟨a1,c1,hq⟩:=qd hA;simp only at hq;subst hq;obtain⟨a2,c2,rfl⟩:=qd hG;obtain⟨gb,cb,e1,hgb,_⟩:=hB.cell 0 hb0;subst e1;obtain⟨N,hN⟩:∃N,N=w.heap.size:=⟨_,rfl⟩;have hNr:=hN.symm;have q9k:gb < N:=by rw[hN];exact hgb
 have HC1:Hid (∀(X:Wq),Below N w X->∀(j:Nat) (hj:j < l1.length),∃g,a1=some ⟨g,0,none⟩/\g < N/\X.cell? ⟨g,j*2,none⟩=some (.string l1[j].name)/\X.cell? ⟨g,j*2+1,none⟩=some (.int .i64 l1[j].num)):=by
  intro X hX j hj;obtain⟨g,cap,e1,hg,c0,c1⟩:=hA.cell j hj;cases e1;have hgN:g < N:=by rw[hN];exact hg
  exact⟨g,rfl,hgN,(Below.cell hX hgN).trans c0,(Below.cell hX hgN).trans c1⟩
 have HC2:Hid (∀(X:Wq),Below N w X->∀(j:Nat) (hj:j < l2.length),∃g,a2=some ⟨g,0,none⟩/\g < N/\X.cell? ⟨g,j,none⟩=some (.string l2[j])):=by
  intro X hX j hj;obtain⟨g,cap,e1,hg,c0⟩:=hG.cell j hj;cases e1;have hgN:g < N:=by rw[hN];exact hg
  exact⟨g,rfl,hgN,(Below.cell hX hgN).trans c0⟩
 have HCB:Hid (∀(X:Wq),Below N w X->∀(j:Nat) (hj:j < b.length),X.cell? ⟨gb,j,none⟩=some (.string (b.getD j ⟨#[]⟩))):=by
  intro X hX j hj;obtain⟨g,cap,e1,hg,c0⟩:=hB.cell j hj;cases e1;rw[(Below.cell hX q9k),c0];simp[List.getElem?_eq_getElem hj]
 have HNo:Hid (qd9 ⟨r1,l1⟩ ⟨r2,l2⟩ b=none->∀(e:Ending) (w':Wq),e=.returned (.tuple #[.slice (some ⟨gb,0,none⟩) b.length cb,.bool false])->qkd ⟨r1,l1⟩ ⟨r2,l2⟩ b (.slice (some ⟨gb,0,none⟩) b.length cb) N e w'):=by
  intro h e w' he;unfold qkd;rw[h];exact he
 have Qa5:Hid (∀b',qd9 ⟨r1,l1⟩ ⟨r2,l2⟩ b=some b'->∀(e:Ending) (w':Wq),(∃v',e=.returned (.tuple #[v',.bool true])/\w'.ownsRow N 9 1 v' b'.length (b'.map Value.string))->qkd ⟨r1,l1⟩ ⟨r2,l2⟩ b (.slice (some ⟨gb,0,none⟩) b.length cb) N e w'):=by
  intro b' h e w' he;unfold qkd;rw[h];exact he
 have hbw:Hid (∀O O',Below N w ((w.alloc O).alloc O')):=λO O'=>((Below.refl _ w).alloc (by omega) O).alloc (by simp;omega) O';rw[<- hN];clear hA hG hB hN
 cases hr:(r1.toList == r2.toList) with
 | false=>
  have hno:Hid (qd9 ⟨r1,l1⟩ ⟨r2,l2⟩ b=none):=by
   show _=_;unfold qd9 eqB;rw[if_neg (by simp[hr])]
  go_enter Tryz.func123,Tryz.ntmps123;go_wp2;go_ret2;exact⟨HNo.out hno.out _ _ rfl,hbw.out _ _⟩
 | true=>
  by_cases Q7:l1.length=l2.length
  ·have hF:qd9 ⟨r1,l1⟩ ⟨r2,l2⟩ b=qgo l1 l2 b:=by unfold qd9 eqB;rw[if_pos ⟨hr,Q7⟩]
   rw[hF] at HNo Qa5;obtain⟨n,hnn⟩:∃n,l2.length=n:=⟨_,rfl⟩;have HN2:Hid (l2.length=n):=hnn;have HN1:Hid (l1.length=n):=Q7.trans hnn;have e1:l1.length=n:=Q7.trans hnn;rw[e1] at hl ⊢;rw[hnn];clear Q7 hnn e1 hF;go_enter Tryz.func123,Tryz.ntmps123;go_wp2
   go_loopw [8] (λx wr=>∃k:Nat,x=.int .i64 k/\k<=n/\wr=(w.alloc (.cells #[.string r1,.slice a1 n c1] 145)).alloc (.cells #[.string r2,.slice a2 n c2] 226)) (λx _=>n - (intOf x).toNat)
   case atStart=>exact⟨0,rfl,Nat.zero_le _,rfl⟩
   case round=>
    obtain⟨k,rfl,hle,rfl⟩:=hrel;by_cases hlt:k < n
    ·have hk1:k < l1.length:=by rw[HN1.out];exact hlt
     have hk2:k < l2.length:=by rw[HN2.out];exact hlt
     obtain⟨g1,rfl,Qfb,d0,d1⟩:=HC1.out _ (hbw.out (.cells #[.string r1,.slice a1 n c1] 145) (.cells #[.string r2,.slice a2 n c2] 226)) k hk1;obtain⟨g2,rfl,Qb8,d2⟩:=HC2.out _ (hbw.out (.cells #[.string r1,.slice (some ⟨g1,0,none⟩) n c1] 145) (.cells #[.string r2,.slice a2 n c2] 226)) k hk2;have hnu:=hn l1[k] (List.getElem_mem hk1);have d3:=HCB.out _ (hbw.out (.cells #[.string r1,.slice (some ⟨g1,0,none⟩) n c1] 145) (.cells #[.string r2,.slice (some ⟨g2,0,none⟩) n c2] 226)) l1[k].num hnu;have hcl:=λh1 h2=>q7s b l1 l2 b k hk1 hk2 ⟨rfl,λ_ _=>rfl⟩ h1 h2;have HCL:Hid _:=hcl;clear hcl;generalize l1[k]=tm at *;generalize l2[k]=y at *;obtain⟨nm,nu⟩:=tm;simp only at d0 d1 d3 hnu;have hnm:qi2 b ⟨nm,nu⟩=if nm.toList.isEmpty=true then b.getD nu ⟨#[]⟩ else nm:=rfl;rw[hnm] at HCL;clear hnm;generalize b.getD nu ⟨#[]⟩=bn at *;unfold qg eqB at HCL
     cases h1:nm.toList.isEmpty with
     | true=>
      rw[h1] at HCL;simp only[if_true] at HCL
      cases h2:bn.toList.isEmpty with
      | true=>
       go_wp2
       go_roundw
       case rel=>exact⟨k+1,by go_num,by omega,by trivial⟩
       case measure=>simp[intOf];omega
      | false=>
       cases h3:(bn.toList == y.toList) with
       | true=>
        go_wp2
        go_roundw
        case rel=>exact⟨k+1,by go_num,by omega,by trivial⟩
        case measure=>simp[intOf];omega
       | false=>
        have hno:=HCL.out h2 h3;have HNN:Hid _:=HNo.out hno;clear hno HCL;go_wp2;go_ret2;exact⟨HNN.out _ _ rfl,hbw.out _ _⟩
     | false=>
      rw[h1] at HCL;simp only[Bool.false_eq_true,if_false] at HCL
      cases h3:(nm.toList == y.toList) with
      | true=>
       go_wp2
       go_roundw
       case rel=>exact⟨k+1,by go_num,by omega,by trivial⟩
       case measure=>simp[intOf];omega
      | false=>
       have hno:=HCL.out h1 h3;have HNN:Hid _:=HNo.out hno;clear hno HCL;go_wp2;go_ret2;exact⟨HNN.out _ _ rfl,hbw.out _ _⟩
    ·have q9e:i0.bytes*b.length<=281474976710656:=by rw[hz2];omega
     have hmx:b.length<=maxLen:=by unfold maxLen;omega
     obtain⟨W2,hW2⟩:∃W2,(w.alloc (.cells #[.string r1,.slice a1 n c1] 145)).alloc (.cells #[.string r2,.slice a2 n c2] 226)=W2:=⟨_,rfl⟩;have hs2:W2.heap.size=N+2:=by rw[<- hW2];simp[hNr]
     have hb2:Below N w W2:=by rw[<- hW2];exact hbw.out _ _
     have x1:W2.heap[N]?=some (Obj.cells #[.string r1,.slice a1 n c1] 145):=by
      rw[<- hW2,Below.heap_alloc _ _ _ (by simp;omega),<- hNr];exact World.alloc_heap_new w _
     have x2:W2.heap[N+1]?=some (Obj.cells #[.string r2,.slice a2 n c2] 226):=by
      rw[<- hW2];have:=World.alloc_heap_new (w.alloc (.cells #[.string r1,.slice a1 n c1] 145)) (.cells #[.string r2,.slice a2 n c2] 226);rw[World.size_alloc,hNr] at this;exact this
     have y1:W2.cell? ⟨N,1,none⟩=some (.slice a1 n c1):=by simp[World.cell?,x1]
     have HMk:Hid (∀w1,w1.ownsRow N 9 1 (.slice (some ⟨N+2,0,none⟩) b.length b.length) b.length (madeCells (Value.string ⟨#[]⟩).cells (b.length*1)).toList->W2.grownBy w1 none->qd2 N w w1 r1 (.slice a1 n c1) r2 (.slice a2 n c2) (List.replicate b.length ⟨#[]⟩)):=by
      intro w1 ho hg;rw[qpi] at ho;refine⟨hb2.grown hg (by omega) (λk e=>by cases e),(hg.block N (by omega) (by simp)).trans x1,(hg.block (N+1) (by omega) (by simp)).trans x2,?_⟩;obtain⟨_,⟨hv,_⟩ | ⟨g',cap',cur,hv,_,hh,h1,h2,h3,h4⟩⟩:=ho
      ·cases hv
      ·cases hv;rw[hh];congr 2;rw[<- Array.toList_inj];simp only[Nat.mul_one] at h3 h4;rw[<- h4,List.take_of_length_le (by simp[h3])]
     have HCp:Hid (∀w1,qd2 N w w1 r1 (.slice a1 n c1) r2 (.slice a2 n c2) (List.replicate b.length ⟨#[]⟩)->(∀j v,(b.map Value.string)[j]?=some v->w1.cell? ((⟨gb,0,none⟩:Addr).add j)=some v)/\qd2 N w (w1.setRow (N+2) ((((List.replicate b.length (⟨#[]⟩:ByteArray)).map Value.string).toArray.toList.take 0++(b.map Value.string++((List.replicate b.length (⟨#[]⟩:ByteArray)).map Value.string).toArray.toList.drop (0+(b.map Value.string).length))).toArray)) r1 (.slice a1 n c1) r2 (.slice a2 n c2) b):=by
      intro w1 hF;refine⟨λj v hj=>?_,?_⟩
      ·have hjb:j < b.length:=by
        apply Classical.byContradiction;intro h;rw[List.getElem?_eq_none (by simp;omega)] at hj;cases hj
       have h1:=HCB.out w1 hF.below j hjb;rw[List.getElem?_map,List.getElem?_eq_getElem hjb] at hj;simp only[Option.map_some,Option.some.injEq] at hj;subst hj;have e:(⟨gb,0,none⟩:Addr).add j=⟨gb,j,none⟩:=by simp[Addr.add];intro h;exact h.symm
       rw[e,h1];simp[List.getElem?_eq_getElem hjb]
      ·have Q4:=setRow_heap w1 (N+2) _ ((((List.replicate b.length (⟨#[]⟩:ByteArray)).map Value.string).toArray.toList.take 0++(b.map Value.string++((List.replicate b.length (⟨#[]⟩:ByteArray)).map Value.string).toArray.toList.drop (0+(b.map Value.string).length))).toArray) _ _ hF.row;refine⟨below_setRow hF.below (by omega) _,(setRow_other w1 _ _ _ (by omega)).trans hF.b1,(setRow_other w1 _ _ _ (by omega)).trans hF.b2,?_⟩;rw[Q4];congr 2;simp
     have Qel:∀v∈b.map Value.string,v.oneCell'=true:=by
      intro v hv;obtain⟨x,_,rfl⟩:=List.mem_map.1 hv;rfl
     have Qc6:(Tryz.prog.info? 9).map (·.size)=some 1:=by rw[hi];simp[hz1]
     rw[hW2];clear x1 x2 hb2
     go_wp2_with (first | (at_make;refine wpList_make_full _ rfl (.tmp 65) (.tmp 65) 22 rfl N 9 i0 (.string ⟨#[]⟩) 1 Tryz.underlying22 hi hz0 hz1 .i64 .i64 _ _ b.length rfl rfl rfl rfl q9e hmx (by omega) ?_;rw[hs2];intro w1 hown1 hgrow1;have HM1:Hid _:=HMk.out w1 hown1 hgrow1;clear hown1 hgrow1) | (refine wpList_copy_own rfl (.tmp 67) (.tmp 68) 22 239 rfl 9 Tryz.underlying22 Qc6 (N+2) 0 b.length b.length ⟨gb,0,none⟩ b.length cb rfl rfl _ _ HM1.out.row (b.map Value.string) (by simp) (HCp.out w1 HM1.out).1 (by simp) Qel ?_;have HF0:Hid _:=(HCp.out w1 HM1.out).2))
     have HF1:Hid (qd2 N w (w1.setRow (N+2) (List.map Value.string b).toArray) r1 (.slice a1 n c1) r2 (.slice a2 n c2) b):=by
      have h:qd2 N w (w1.setRow (N+2) (List.map Value.string b).toArray) r1 (.slice a1 n c1) r2 (.slice a2 n c2) b:=by simpa using HF0.out
      exact h
     clear HM1 HMk HCp HF0
     go_loopw [11] (λx wr=>∃(k:Nat) (out:List ByteArray),x=.int .i64 k/\k<=n/\qd2 N w wr r1 (.slice a1 n c1) r2 (.slice a2 n c2) out/\Hid (out.length=b.length)/\Hid (qgo (l1.drop k) (l2.drop k) out=qgo l1 l2 b)) (λx _=>n - (intOf x).toNat)
     case atStart=>exact⟨0,b,rfl,Nat.zero_le _,HF1.out,rfl,rfl⟩
     case round=>
      clear HF1;obtain⟨k,out,rfl,hle,hF,hol,hsp⟩:=hrel;have y1:wr.cell? ⟨N,1,none⟩=some (.slice a1 n c1):=by simp[World.cell?,hF.b1]
      by_cases hlt:k < n
      ·have hk1:k < l1.length:=by rw[HN1.out];exact hlt
       have hk2:k < l2.length:=by rw[HN2.out];exact hlt
       obtain⟨g1,rfl,Qfb,d0,d1⟩:=HC1.out wr hF.below k hk1;have hnu:=hn l1[k] (List.getElem_mem hk1);rw[List.drop_eq_getElem_cons hk1,List.drop_eq_getElem_cons hk2] at hsp;have hA:=hF.alloc (.cells #[.string l1[k].name,.int .i64 l1[k].num] 215);obtain⟨g2,rfl,Qb8,d2⟩:=HC2.out _ hA.below k hk2;have d3:=hA.cell l1[k].num (by rw[hol.out];exact hnu);have hNs:N+3<=wr.heap.size:=(zg hF.row).1;have qs3:=λx=>hA.set l1[k].num x;generalize l1[k]=tm at *;generalize l2[k]=y at *;obtain⟨nm,nu⟩:=tm;simp only at d0 d1 d3 hnu hA qs3 d2;have z1:(wr.alloc (.cells #[.string nm,.int .i64 nu] 215)).cell? ⟨N+1,1,none⟩=some (.slice (some ⟨g2,0,none⟩) n c2):=by simp[World.cell?,hA.b2]
       have z2:(wr.alloc (.cells #[.string nm,.int .i64 nu] 215)).frozen? ⟨N+2,nu,none⟩=false:=by simp[World.frozen?,hA.row]
       simp only[qgo] at hsp;unfold qg eqB at hsp;have HA:Hid (qd2 N w (wr.alloc (.cells #[.string nm,.int .i64 nu] 215)) r1 (.slice (some ⟨g1,0,none⟩) n c1) r2 (.slice (some ⟨g2,0,none⟩) n c2) out):=hA;have q5v:Hid _:=qs3;have hob:out.length=b.length:=hol.out;obtain⟨on,hon⟩:∃on,out.getD nu ⟨#[]⟩=on:=⟨_,rfl⟩;rw[hon] at d3 hsp;clear hA qs3 hF hon
       cases h1:nm.toList.isEmpty with
       | false=>
        rw[h1] at hsp;simp only[if_true] at hsp
        cases h3:(nm.toList == y.toList) with
        | true=>
         rw[h3] at hsp;simp only[if_true] at hsp;clear hob;go_wp2;go_quiet (fail);go_wp2;go_quiet (fail);go_wp2
         go_roundw
         case rel=>exact⟨k+1,out,by go_num,by omega,HA.out.drewN _,hol,hsp⟩
         case measure=>simp[intOf];omega
        | false=>
         rw[h3] at hsp;simp only[Bool.false_eq_true,if_false] at hsp;have HNN:Hid _:=HNo.out hsp.out.symm;clear hob hsp;go_wp2;go_quiet (fail);go_wp2;go_ret2;exact⟨HNN.out _ _ rfl,qq HA.out.below⟩
       | true=>
        rw[h1] at hsp;simp only[Bool.true_eq_false,if_false] at hsp
        cases h2:on.toList.isEmpty with
        | true=>
         rw[h2] at hsp;simp only[if_true] at hsp;have Qft:Hid ((out.set nu y).length=b.length):=by show _=_;rw[List.length_set];exact hob
         have hS2:Hid (qd2 N w ((wr.alloc (.cells #[.string nm,.int .i64 nu] 215)).setCell ⟨N+2,nu,none⟩ (.string y)) r1 (.slice (some ⟨g1,0,none⟩) n c1) r2 (.slice (some ⟨g2,0,none⟩) n c2) (out.set nu y)):=q5v.out y;clear hob q5v;go_wp2;go_quiet (fail);go_wp2
         go_region
         all_goals
          go_wp2
          go_roundw
          case rel=>exact⟨k+1,out.set nu y,by go_num,by omega,qd2.like hS2.out rfl rfl rfl rfl,Qft,hsp⟩
          case measure=>simp[intOf];omega
        | false=>
         rw[h2] at hsp;simp only[Bool.false_eq_true,if_false] at hsp
         cases h3:(on.toList == y.toList) with
         | true=>
          rw[h3] at hsp;simp only[if_true] at hsp;clear hob q5v;go_wp2;go_quiet (fail);go_wp2;go_quiet (fail);go_wp2
          go_roundw
          case rel=>exact⟨k+1,out,by go_num,by omega,qd2.like HA.out rfl rfl rfl rfl,hol,hsp⟩
          case measure=>simp[intOf];omega
         | false=>
          rw[h3] at hsp;simp only[Bool.false_eq_true,if_false] at hsp;have HNN:Hid _:=HNo.out hsp.out.symm;clear hob q5v hsp;go_wp2;go_quiet (fail);go_wp2;go_quiet (fail);go_wp2;go_ret2;exact⟨HNN.out _ _ rfl,qq (qq HA.out.below)⟩
      ·have h1:l1.drop k=[]:=List.drop_eq_nil_of_le (by rw[HN1.out];omega);rw[h1] at hsp;simp only[qgo] at hsp;have HYY:Hid _:=Qa5.out out hsp.out.symm;have how:=hF.own (by rw[hol.out];exact hbl);rw[hol.out] at how;have HOW:Hid _:=how;have HOL:Hid (out.length=b.length):=hol;have HB:Hid (Below N w wr):=hF.below;clear hF how hsp;go_wp2;go_ret2;refine⟨HYY.out _ _ ⟨_,rfl,?_⟩,HB.out⟩;rw[HOL.out];exact HOW.out
  ·have hno:Hid (qd9 ⟨r1,l1⟩ ⟨r2,l2⟩ b=none):=by
    show _=_;unfold qd9;rw[if_neg (by simp[Q7])]
   have h1:((l1.length:Int) == (l2.length:Int))=false:=by simp;omega
   have h2:((l1.length:Int) != (l2.length:Int))=true:=by simp;omega
   go_enter Tryz.func123,Tryz.ntmps123;go_wp2;go_ret2;exact⟨HNo.out hno.out _ _ rfl,hbw.out _ _⟩
def qa8(vs l:List ByteArray):List ByteArray:=l.foldl Qc vs
def qan(gs:List Gr):List ByteArray:=gs.flatMap (·.args)
theorem qr6(vs:List ByteArray)(x:ByteArray):vs.length<=(Qc vs x).length/\(Qc vs x).length<=vs.length+1:=by
 unfold Qc;split <;> simp
theorem qty(l:List ByteArray):∀vs,vs.length<=(qa8 vs l).length/\(qa8 vs l).length<=vs.length+l.length:=by
 induction l with
 | nil=>intro vs;simp[qa8]
 | cons t l ih=>
  intro vs;have h1:=qr6 vs t;have h2:=ih (Qc vs t);simp only[qa8,List.foldl_cons,List.length_cons] at h2 ⊢;omega
theorem q0t(v:Vq)(ps:List (Gr×Vq))(w:Wq)(hp:qcu w v ps)(hl:ps.length<=100000)(ha:∀p∈ps,p.1.args.length<=1000)(ht:(qa8 [] (qan (ps.map (·.1)))).length<=100000) :
  Calls Tryz.prog 222 #[v] w λe w'=>∃v',e=.returned v'/\qf0 w.heap.size w w' v' (qa8 [] (qan (ps.map (·.1)))):=by
 obtain⟨N,hN⟩:∃N,N=w.heap.size:=⟨_,rfl⟩;have hNr:=hN.symm;obtain⟨va,vc,hv⟩:=qd hp.row;rw[<- hN];have HP:Hid (qcu w v ps):=hp;subst hv;clear hp hN;generalize hTT:qa8 [] (qan (ps.map (·.1)))=T at *;go_enter Tryz.func222,Tryz.ntmps222;go_wp2
 go_loopw [3,4] (λo p wr=>∃(i:Nat) (vo:Vq) (vs:List ByteArray),vo=o/\p=.int .i64 i/\i<=ps.length/\qf0 N w wr vo vs/\Hid (qa8 vs (qan ((ps.drop i).map (·.1)))=T)) (λ_ p _=>ps.length - (intOf p).toNat)
 case atStart=>exact⟨0,_,[],rfl,rfl,Nat.zero_le _,⟨Below.refl _ _,by omega,World.ownsRow_nil _ _ _ _⟩,hTT⟩
 case round=>
  obtain⟨i,vo,vs,rfl,rfl,hle,hNm,hsp⟩:=hrel;by_cases hlt:i < ps.length
  ·have HSP:Hid (qa8 vs (ps[i].1.args++qan ((ps.drop (i+1)).map (·.1)))=T):=by
    have:=hsp.out;rw[List.drop_eq_getElem_cons hlt,List.map_cons] at this;unfold qan at this ⊢;rw[List.flatMap_cons] at this;exact this
   have hai:=ha ps[i] (List.getElem_mem hlt);have HNM:Hid (qf0 N w wr vo vs):=hNm;clear hsp hNm;go_wp2
   go_loopw [3,5] (λo p wr=>∃(m:Nat) (vo:Vq) (vs:List ByteArray),vo=o/\p=.int .i64 m/\m<=ps[i].1.args.length/\qf0 N w wr vo vs/\Hid (qa8 vs (ps[i].1.args.drop m++qan ((ps.drop (i+1)).map (·.1)))=T)) (λ_ p _=>ps[i].1.args.length - (intOf p).toNat)
   case atStart=>exact⟨0,_,vs,rfl,rfl,Nat.zero_le _,HNM.out,HSP⟩
   case round=>
    clear HNM HSP;obtain⟨m,vo,vs,rfl,rfl,Qfn,hNm,hsm⟩:=hrel;obtain⟨g,cap,e1,hg,d0,d1,⟨x1,x2,hx⟩,hS⟩:=(HP.out.below (by rw[hNr];exact hNm.below)).cell i hlt;cases e1;rw[hx] at d1;by_cases hml:m < ps[i].1.args.length
    ·obtain⟨g3,cap3,e3,_,f0⟩:=hS.cell m hml;rw[hx] at e3;cases e3;rw[List.drop_eq_getElem_cons hml] at hsm;generalize ps[i].1.args[m]=nm at *;simp only[List.cons_append,qa8,List.foldl_cons] at hsm;have HSM:Hid (qa8 (Qc vs nm) (ps[i].1.args.drop (m+1)++qan ((ps.drop (i+1)).map (·.1)))=T):=hsm;have hvl:=(qty (ps[i].1.args.drop (m+1)++qan ((ps.drop (i+1)).map (·.1))) (Qc vs nm)).1;rw[HSM.out] at hvl;have q0i:=(qr6 vs nm).1;have hvs:vs.length<=100000:=by omega
     have had:=qq5 N vo vs nm wr hNm.size (by omega) hNm.own;have HNM:Hid (qf0 N w wr vo vs):=hNm;clear hsm hvl q0i hx hS d0 hNm
     go_wp2_with (go_at_call 119;refine had.mono ?_;rintro e w2 ⟨v2,rfl,ho2,hg2'⟩)
     have hN2:qf0 N w w2 v2 (Qc vs nm):=⟨HNM.out.below.grown hg2' HNM.out.size (λk e=>(Qh HNM.out.own k e).1),Nat.le_trans HNM.out.size hg2'.size,ho2⟩;clear ho2 hg2'
     go_roundw
     case rel=>exact⟨m+1,v2,_,rfl,by go_num,by omega,hN2,HSM⟩
     case measure=>simp[intOf];omega
    ·rw[List.drop_eq_nil_of_le (by omega)] at hsm;simp only[List.nil_append] at hsm;have HNM:Hid (qf0 N w wr vo vs):=hNm;clear hNm hS hx;go_wp2
     go_roundw
     case rel=>exact⟨i+1,vo,vs,rfl,by go_num,by omega,HNM.out,hsm⟩
     case measure=>simp[intOf];omega
  ·rw[List.drop_eq_nil_of_le (by omega)] at hsp;have hvT:vs=T:=by have:=hsp.out;simpa [qa8,qan] using this
   subst hvT;go_wp2;go_ret;exact⟨vo,rfl,hNm⟩
def q2x(r:Rl)(at' v:Nat):Bool:=qz (r.body.take (at'+1)) v && !qz [r.head] v && !qz (r.body.drop (at'+1)) v
def qdn(r:Rl)(at':Nat):Bool:=(List.range 8).any (q2x r at')
structure qmb(W:Wq)(q:Rl×Vq×Vq)(g c:Nat)(ps:List (Am×Vq)):Prop where
 head:qa7 W (q.1.head,q.2.1)
 body:qam W (some ⟨g,0,none⟩) ps
 eq:ps.map (·.1)=q.1.body
 val:q.2.2=.slice (some ⟨g,0,none⟩) ps.length c
 cap:ps.length<=c
theorem qmb.below{W':Wq}{q:Rl×Vq×Vq}{g c:Nat}(h:qmb W q g c ps)(hb:Below W.heap.size W W'):qmb W' q g c ps:=⟨h.head.kept (Kp.ofBelow (S:=0) hb),h.body.below hb,h.eq,h.val,h.cap⟩
theorem qam.take(h:qam W a ps)(i:Nat):qam W a (ps.take i):=
 ⟨λk hk=>by
  have hk':k < ps.length:=by rw[List.length_take] at hk;omega
  have e:(ps.take i)[k]=ps[k]:=by rw[List.getElem_take]
  rw[e];exact h.cells k hk',λp hp=>h.each p (List.mem_of_mem_take hp)⟩
theorem qam.nil:qam W a []:=⟨λk hk=>by simp at hk,λp hp=>by cases hp⟩
theorem qam.single(X:Wq)(hd:Am)(va:Vq)(h:qa7 X (hd,va)):qam (X.alloc (.cells #[.string hd.rel,va] 145)) (some ⟨X.heap.size,0,none⟩) [(hd,va)]:=
 ⟨λk hk=>by
  have hk0:k=0:=by simp at hk;exact hk
  subst hk0
  exact⟨X.heap.size,0,rfl,by simp,by simp,by simp⟩,λp hp=>by
  simp at hp;subst hp
  exact h.kept (Kp.alloc (S:=0) _ _)⟩
theorem q4h(q:Rl×Vq×Vq)(g c:Nat)(ps:List (Am×Vq))(at':Nat)(w:Wq)(hR:qmb w q g c ps)(hat:at' < ps.length)(hl:ps.length<=900)(hm:∀p∈(q.1.head,q.2.1)::ps,p.1.args.length<=1000000/\∀t∈p.1.args,t.num<=1000000) :
  Calls Tryz.prog 223 #[rlV q,.int .i64 at'] w λe w'=>e=.returned (.bool (qdn q.1 at'))/\Below w.heap.size w w':=by
 unfold rlV;obtain⟨a1,a2,hq1⟩:=qd hR.head;simp only at hq1;have qqy:=hR.val;have qer:=hR.cap;rw[hq1,qqy];obtain⟨N,hN⟩:∃N,N=w.heap.size:=⟨_,rfl⟩;have hNr:=hN.symm;have heq:q.1.body=ps.map (·.1):=hR.eq.symm
 have q7z:∀v,q2x q.1 at' v=(qz ((ps.take (at'+1)).map (·.1)) v && !qz [q.1.head] v && !qz ((ps.drop (at'+1)).map (·.1)) v):=by
  intro v;unfold q2x;rw[heq,List.map_take,List.map_drop]
 obtain⟨W0,hW0⟩:∃W0,W0=w.alloc (.cells #[.string q.1.head.rel,.slice a1 q.1.head.args.length a2,.slice (some ⟨g,0,none⟩) ps.length c] 148):=⟨_,rfl⟩;have hs0:W0.heap.size=N+1:=by rw[hW0];simp[hNr]
 have hb0:Below N w W0:=by rw[hW0];exact (Below.refl _ w).alloc (by omega) _
 have qae:W0.heap[N]?=some (Obj.cells #[.string q.1.head.rel,.slice a1 q.1.head.args.length a2,.slice (some ⟨g,0,none⟩) ps.length c] 148):=by rw[hW0,<- hNr];exact World.alloc_heap_new w _
 have hR0:=hR.below (by rw[hNr];exact hb0)
 have HX:Hid (∀X,Below (N+1) W0 X->qam X (some ⟨g,0,none⟩) ps/\qa7 X (q.1.head,.slice a1 q.1.head.args.length a2)/\X.cell? ⟨N,0,none⟩=some (.string q.1.head.rel)/\X.cell? ⟨N,1,none⟩=some (.slice a1 q.1.head.args.length a2)/\X.cell? ⟨N,2,none⟩=some (.slice (some ⟨g,0,none⟩) ps.length c)/\Below N w X/\N+1<=X.heap.size):=by
  intro X hX;have hX':Below W0.heap.size W0 X:=by rw[hs0];exact hX
  have h1:X.heap[N]?=_:=(hX.block N (by omega)).trans qae;have hRX:=hR0.below hX';refine⟨hRX.body,by have:=hRX.head;rw[hq1] at this;exact this,by simp[World.cell?,h1],by simp[World.cell?,h1],by simp[World.cell?,h1],hb0.trans (hX.mono (by omega)),by have:=hX.size;omega⟩
 have Qaz:Hid (∀(X:Wq) (v:Nat),Below (N+1) W0 X->v<=8->Calls Tryz.prog 246 #[.slice (some ⟨g,0,none⟩) (at'+1) c,.int .i64 v] X λe w'=>e=.returned (.bool (qz ((ps.take (at'+1)).map (·.1)) v))/\w'=X):=by
  intro X v hX hv;have Q7:(ps.take (at'+1)).length=at'+1:=by rw[List.length_take];omega
  have h:=qip (some ⟨g,0,none⟩) c (ps.take (at'+1)) v X ((HX.out X hX).1.take _) (by omega) (by omega) (λp hp=>hm p (List.mem_cons_of_mem _ (List.mem_of_mem_take hp)));rw[Q7] at h;exact h
 have q13:Hid (∀(X:Wq) (v:Nat),Below (N+1) W0 X->v<=8->Calls Tryz.prog 246 #[.slice (some ⟨X.heap.size,0,none⟩) 1 1,.int .i64 v] (X.alloc (.cells #[.string q.1.head.rel,.slice a1 q.1.head.args.length a2] 145)) λe w'=>e=.returned (.bool (qz [q.1.head] v))/\w'=X.alloc (.cells #[.string q.1.head.rel,.slice a1 q.1.head.args.length a2] 145)):=by
  intro X v hX hv
  have h:=qip (some ⟨X.heap.size,0,none⟩) 1 [(q.1.head,.slice a1 q.1.head.args.length a2)] v _ (qam.single X q.1.head _ (HX.out X hX).2.1) (by simp) (by omega) (λp hp=>by
   simp at hp;subst hp
   exact hm (q.1.head,q.2.1) List.mem_cons_self)
  exact h
 have q14:Hid (∀(X:Wq) (v:Nat),Below (N+1) W0 X->v<=8->Calls Tryz.prog 246 #[.slice (if c=at'+1 then some ⟨g,0,none⟩ else some ⟨g,(at'+1)*2,none⟩) (ps.length - (at'+1)) (c - (at'+1)),.int .i64 v] X λe w'=>e=.returned (.bool (qz ((ps.drop (at'+1)).map (·.1)) v))/\w'=X):=by
  intro X v hX hv;have Q7:(ps.drop (at'+1)).length=ps.length - (at'+1):=List.length_drop
  have hA:qam X (if c=at'+1 then some ⟨g,0,none⟩ else some ⟨g,(at'+1)*2,none⟩) (ps.drop (at'+1)):=by
   split
   ·rw[List.drop_eq_nil_of_le (by omega)];exact qam.nil
   ·have:=(HX.out X hX).1.drop (at'+1);rw[Nat.zero_add] at this;exact this
  have h:=qip _ (c - (at'+1)) (ps.drop (at'+1)) v X hA (by omega) (by omega) (λp hp=>hm p (List.mem_cons_of_mem _ (List.mem_of_mem_drop hp)));rw[Q7] at h;exact h
 have hL:Hid (qdn q.1 at'=(List.range 8).any (λv=>qz ((ps.take (at'+1)).map (·.1)) v && !qz [q.1.head] v && !qz ((ps.drop (at'+1)).map (·.1)) v)):=by
  show _=_;unfold qdn;congr 1;funext v;exact q7z v
 generalize qdn q.1 at'=T at *;rw[<- hN];clear hR hR0 hb0 qae q7z heq hm hN hq1 qqy;generalize q.1.head.rel=hrl at *;generalize q.1.head.args.length=hal at *;have h8:qdb.length=8:=rfl;go_enter Tryz.func223,Tryz.ntmps223;go_wp2
 go_loopw [5] (λx wr=>∃k:Nat,x=.int .i64 k/\k<=8/\Below (N+1) W0 wr/\Hid (T=((List.range 8).drop k).any (λv=>qz ((ps.take (at'+1)).map (·.1)) v && !qz [q.1.head] v && !qz ((ps.drop (at'+1)).map (·.1)) v))) (λx _=>8 - (intOf x).toNat)
 case atStart=>exact⟨0,rfl,Nat.zero_le _,by rw[hW0];exact Below.refl _ _,hL⟩
 case round=>
  obtain⟨k,rfl,hle,hbe,hsp⟩:=hrel;have hpl:=qpv wr;have hNw:=(HX.out wr hbe).2.2.2.2.2.2;by_cases hlt:k < 8
  ·have hdr:(List.range 8).drop k=k::(List.range 8).drop (k+1):=by
    rw[List.drop_eq_getElem_cons (by simpa using hlt)];simp
   rw[hdr] at hsp;simp only[List.any_cons] at hsp;have HBE:Hid (Below (N+1) W0 wr):=hbe;clear hbe hdr;go_wp2_with fail;refine hpl.mono ?_;rintro e W2 ⟨v2,rfl,ho2,hb2⟩;obtain⟨p1,p2,rfl⟩:=qd ho2;have qw6:Below (N+1) W0 W2:=HBE.out.trans (hb2.mono hNw);obtain⟨_,_,k0,k1,k2,_,hN2⟩:=HX.out W2 qw6;have hh1:=Qaz.out W2 k qw6 (by omega);have hh2:=q13.out W2 k qw6 (by omega);have Qax:Hid (Below (N+1) W0 W2):=qw6;clear hpl ho2 hb2 qw6;have i1:at'+1<=c:=by omega
   have i2:(at':Int)+1<=(c:Int):=by omega
   generalize qz ((ps.take (at'+1)).map (·.1)) k=B1 at *;generalize qz [q.1.head] k=B2 at *;go_wp2_with fail;refine hh1.mono ?_;rintro e w' ⟨rfl,hw'⟩;obtain rfl:W2=w':=hw'.symm;go_wp2_with fail;refine hh2.mono ?_;rintro e w' ⟨rfl,hw'⟩;obtain⟨W3,hW3⟩:∃W3,W2.alloc (.cells #[.string hrl,.slice a1 hal a2] 145)=W3:=⟨_,rfl⟩;rw[hW3] at hw';obtain rfl:W3=w':=hw'.symm;have q6b:Below (N+1) W0 W3:=by rw[<- hW3];exact Qax.out.alloc hN2 _
   obtain⟨_,_,k0',k1',k2',_,hN3⟩:=HX.out W3 q6b;have hh3:=q14.out W3 k q6b (by omega);have qts:Hid (Below (N+1) W0 W3):=q6b;generalize qz ((ps.drop (at'+1)).map (·.1)) k=B3 at *;clear hh1 hh2 q6b hW3 Qax;have i3:at'+1<=ps.length:=by omega
   have i4:(at':Int)+1<=(ps.length:Int):=by omega
   have i5:(ps.length:Int)<=(c:Int):=by omega
   by_cases hce:c=at'+1
   ·rw[if_pos hce] at hh3;have q9f:c - (at'+1)=0:=by omega
    rw[q9f] at hh3;clear hce;go_wp2_with fail;refine hh3.mono ?_;rintro e w' ⟨rfl,hw'⟩;obtain rfl:W3=w':=hw'.symm;clear hh3
    cases B1 with
    | false=>
     simp only[Bool.false_and,Bool.false_or] at hsp;go_wp2
     go_roundw
     case rel=>exact⟨k+1,by go_num,by omega,qts.out,hsp⟩
     case measure=>simp[intOf];omega
    | true=>
     cases B2 with
     | true=>
      simp only[Bool.not_true,Bool.and_false,Bool.false_and,Bool.false_or] at hsp;go_wp2
      go_roundw
      case rel=>exact⟨k+1,by go_num,by omega,qts.out,hsp⟩
      case measure=>simp[intOf];omega
     | false=>
      cases B3 with
      | true=>
       simp only[Bool.not_true,Bool.and_false,Bool.false_or] at hsp;go_wp2
       go_roundw
       case rel=>exact⟨k+1,by go_num,by omega,qts.out,hsp⟩
       case measure=>simp[intOf];omega
      | false=>
       have hT:Hid (T=true):=by show _=_;rw[hsp.out];simp
       clear hsp;have HBF:=(HX.out W3 qts.out).2.2.2.2.2.1;go_wp2;go_ret;rw[hT.out];exact⟨rfl,HBF⟩
   ·rw[if_neg hce] at hh3;go_wp2_with fail;refine hh3.mono ?_;rintro e w' ⟨rfl,hw'⟩;obtain rfl:W3=w':=hw'.symm;clear hh3
    cases B1 with
    | false=>
     simp only[Bool.false_and,Bool.false_or] at hsp;go_wp2
     go_roundw
     case rel=>exact⟨k+1,by go_num,by omega,qts.out,hsp⟩
     case measure=>simp[intOf];omega
    | true=>
     cases B2 with
     | true=>
      simp only[Bool.not_true,Bool.and_false,Bool.false_and,Bool.false_or] at hsp;go_wp2
      go_roundw
      case rel=>exact⟨k+1,by go_num,by omega,qts.out,hsp⟩
      case measure=>simp[intOf];omega
     | false=>
      cases B3 with
      | true=>
       simp only[Bool.not_true,Bool.and_false,Bool.false_or] at hsp;go_wp2
       go_roundw
       case rel=>exact⟨k+1,by go_num,by omega,qts.out,hsp⟩
       case measure=>simp[intOf];omega
      | false=>
       have hT:Hid (T=true):=by show _=_;rw[hsp.out];simp
       clear hsp;have HBF:=(HX.out W3 qts.out).2.2.2.2.2.1;go_wp2;go_ret;rw[hT.out];exact⟨rfl,HBF⟩
  ·rw[List.drop_eq_nil_of_le (by simp;omega)] at hsp;simp only[List.any_nil] at hsp;have hNN:=(HX.out wr hbe).2.2.2.2.2.1;have hN1:N<=wr.heap.size:=by omega
   go_wp2_with fail;refine hpl.mono ?_;rintro e W2 ⟨v2,rfl,ho2,hb2⟩;obtain⟨p1,p2,rfl⟩:=qd ho2;have qw6:Below N w W2:=hNN.trans (hb2.mono hN1);clear hpl ho2 hb2;go_wp2;go_ret;rw[hsp.out];exact⟨rfl,qw6⟩
