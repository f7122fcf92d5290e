/- A part -/
import Derived.Test.YtjajnhemgphefaaGreatDoorQEgVa
import Derived.BigQuiet
import Derived.KernelRfl
import Derived.Test.YtjajnhemgphefaaGreatDoorQWyD
import Derived.Sort.Walk0
set_option linter.all false
set_option maxRecDepth 100000
set_option maxHeartbeats 4000000
open List renaming length->aD,mem_filter->bB,mem_cons->bC,mem_map->bD,not_mem_nil->bE,mem_filterMap->bI,take_succ_eq_append_getElem->bO,length_filter_le->bQ,mem_append->bT,pairwise_cons->bU,nodup_iff_pairwise_ne->bX,take_length->bZ,take_of_length_le->cA,map_congr_left->cD,filter_sublist->cE,length_append->cG,map_map->cI,pairwise_map->cJ,append_nil->cM,Pairwise->cQ,map_cons->cR,toArray->cS,Perm->cU
open Go.World renaming cell?->aE,frozen?->aF,ownsRow->aH
open Go.Value renaming ownBlock->aI,slice->aJ,string->aK,agg->aL,bool->aM,tuple->aN,int->aO
open Go.Obj renaming cells->aP,map->cP
open Go.Ending renaming returned->aQ
open Go.IntKind renaming i64->aR
open Or renaming inl->aS,inr->aU
open Option renaming some->aX,none->aY,isSome_iff_exists->bH
open Nat renaming le_trans->bF,lt_of_lt_of_le->bL,le_refl->cL
open Go.RowKit.Below renaming refl->bG,heap_setCell->cF
open Go.Calls renaming mono->bJ
open Int renaming emod_lt_of_pos->cH,emod_nonneg->cO,neg_neg->cT
open Go.RowKit renaming Below->cW
namespace Go.Proofs.YtjajnhemgphefaaGreatDoor
open Go renaming World->Wq,Value->Vq
open Go.RowKit Go.Shelf Go.Maps
variable {V W3:Wq} {S:Nat->Prop} {be N bm B rb ab ac k:Nat} {e:Eg} {l:List (Gd×Int)} {M':Gd->Option Int} {vr vn vk vf:Vq} {aa:List Nat} {m win lat que:Int} {Sf:Nat->Nat->Prop} {us:List ByteArray}
structure oW(w:Wq)(S:Nat->Prop)(be N bm B:Nat)(e:Eg)(l:List (Gd×Int))(M':Gd->Option Int)(vr vn vk vf:Vq)(rb ab ac:Nat)(aa:List Nat)(m:Int)(k:Nat)(V:Wq):Prop where
 c:∃(Sk:Nat->Prop) (Sfk:Nat->Nat->Prop) (L:List Fs),iQ V Sk be {e with h:=m,o:=l,M:=M',l:=L} vr vn vk vf B rb ab ac aa Sfk/\aD L=aD e.l/\(∀i (h:i<aD e.l) (h':i<aD L),i<k->BC e.M M' m e.w e.l[i] L[i])/\(∀i (h:i<aD e.l) (h':i<aD L),k<=i->L[i]=e.l[i])/\∀j,Sk j->S j\/w.heap.size<=j
 f:fC w V S
 C:gH V bm 5000 e.M
 A:V.heap[N]?=cC #[Pt be] 40
theorem oW.d{w:Wq}(h:oW w S be N bm B e l M' vr vn vk vf rb ab ac aa m k V):V.heap[be]?=cC #[vr,aO aR e.j,aO aR e.u,aO aR e.w,aO aR m,vn,vk,.map (aX B),vf] 101/\aH V 0 120 1 vf (aD aa) (aa.map rB):=by obtain⟨⟨C,A,L,z,_⟩,_⟩:=h;exact⟨z.d,z.n⟩
def oW.drew{w:Wq}(h:oW w S be N bm B e l M' vr vn vk vf rb ab ac aa m k V):oW w S be N bm B e l M' vr vn vk vf rb ab ac aa m k V.drew:=by have⟨⟨Sk,Sfk,L,hv,h1,h2,h3,h4⟩,h5,h6,h7⟩:=h;exact⟨⟨Sk,Sfk,L,hv.f (bG _ V).drew,h1,h2,h3,h4⟩,h5.drew,h6.f (bG _ V).drew,h7⟩
theorem NF{w:Wq}(h:oW w S be N bm B e l M' vr vn vk vf rb ab ac aa m k V)(hk:k<aD aa)(O:fP e)(hM:∀g,(M' g).isSome=true->gN (fG e.z) g/\g∈jG (jK e.z) e.c):Cs 88 #[Pt (aa[k]),.map (aX bm),.map (aX B),Ii m,Ii e.w] V λen w'=>en=aQ (aN #[])/\oW w S be N bm B e l M' vr vn vk vf rb ab ac aa m (k+1) w':=by
 have⟨⟨Sk,Sfk,L,hv,hL,hd,hr,hs⟩,hc,al,ao⟩:=h;have ch:aD aa=aD L:=hv.l;have df:k<aD L:=by lia
 have di:k<aD e.l:=by lia
 have⟨b,hf⟩:=hv.y k hk df;have dw:=hr k di df (cL k);have dl:gC V (Sfk k) aa[k] b L[k]:=hf;have gg:=O.l _ (zm di);cases hb:(e.l[k]).a with
 |true=>refine (Il (Sfk k) aa[k] b L[k] bm B m e.w V dl (by grind)).m ?_;rintro en w' ⟨rfl,rfl⟩;refine⟨rfl,⟨Sk,Sfk,L,hv,hL,λi z A hi=>?_,λi z A hi=>hr i z A (by lia),hs⟩,hc,al,ao⟩;by_cases c1:i=k;{subst c1;exact aS ⟨hb,dw⟩};{grind}
 |false=>have f6:∀(rel x y:ByteArray),(M' ⟨rel,x,y⟩).isSome=true->x.size<=2000/\y.size<=2000:=λrel x y hx=>by{have:=FR O.z O.n (hM _ hx).2;exact⟨bF this.2.1 (by lia),bF this.2.2 (by lia)⟩};have cv:∀(P Q:Gd->Option Int) gs,(∀g,(P g).isSome=true->g∈jG (jK e.z) e.c)->rO P Q (L[k]).c gs->aD gs<=100:=by{rintro P Q gs hP ⟨g0,ec,rfl⟩;have z:=CX ec hP O.A;have A:=bQ (λg=>(Q g).isNone) g0;lia};refine (L3 (Sfk k) aa[k] b L[k] bm B 5000 5000 e.M M' m e.w V dl (λj E=>(hv.m k j E).2.lt) (by grind) (by grind) (by grind) al hv.C (by lia) (by lia) (λx y hx=>xH O _ x y hx) (λx y hx=>f6 _ x y hx) (λgs G=>cv _ _ gs (λg G=>(O.C g G).2) G) (λgs G=>cv _ _ gs (λg G=>(hM g G).2) G)).m ?_;rintro en w' ⟨rfl,g1,g2,f',dh,dv,d3,C,dk⟩;have eb:=hv.A hk d3 C;refine⟨rfl,⟨_,_,L.set k f',eb,by simp[hL],λi z A hi=>?_,λi z A hi=>?_,λj E=>?_⟩,?_,?_,?_⟩;{by_cases c1:i=k;{subst c1;rw[List.getElem_set_self];rw[dw] at dh dv dk;exact aU ⟨hb,g1,g2,dh,dv,dk⟩};{grind}};{grind};{obtain z|z:=Ew (λj E=>(hv.m k j E).1) j E;{exact hs j z};exact aU (bF hc.size z)};{refine⟨C.os.t hc.os,C.tape.t hc.tape,C.output.t hc.output,bF hc.size C.size,λj E hn=>(C.h j (bL E hc.size) (λbn=>?_)).t (hc.h j E hn)⟩;rcases hs j (hv.m k j bn).1 with z|z;{exact hn z};lia};{exact al.o (λj es c hm=>(C.h j (zg hm).1 (λbn=>kX.d hm (hv.m k j bn).2.w)).t hm)};refine (C.h N (zg ao).1 (λbn=>?_)).t ao;have⟨c,t,z,A⟩:=(hv.m k N bn).2;rw[ao] at z;cases z;obtain A|A:=A<;>cases A
def Ms{w W4:Wq}{S S2:Nat->Prop}{N bm B:Nat}{l:List (Gd×Int)}{M':Gd->Option Int}{vr vn vk vf:Vq}{rb ab ac:Nat}{aa:List Nat}{Sf:Nat->Nat->Prop}{m:Int}(O:iQ W3 S2 be {e with h:=m,o:=l} vr vn vk vf bm rb ab ac aa Sf)(bf:∀k,S2 k->S k)(E:fC w W3 S)(ao:W3.heap[N]?=cC #[Pt be] 40)(C:cW W3.heap.size W3 W4)(hm:gH W4 B 5000 M'):aE W4 (Ad N 0)=aX (Pt be)/\aE W4 (Ad be 7)=aX (.map (aX bm))/\aF W4 (Ad be 7)=false/\oW w S be N bm B e l M' vr vn vk vf rb ab ac aa m 0 (W4.setCell (Ad be 7) (.map (aX B))):=by
 have z:=O.f C;have dc:=(C.b N (zg ao).1).t ao;have a8:=z.d;have ah:N≠be:=λe=>by grind
 have hc:fC W4 (W4.setCell (Ad be 7) (.map (aX B))) (λk=>k=be\/aI vk=aX k):=(fC.j W4 _).i (Ad be 7) _ (λ_=>aS rfl);have a9:∀(k:Nat) (o:Obj),W4.heap[k]?=aX o->k≠be->(W4.setCell (Ad be 7) (.map (aX B))).heap[k]?=aX o:=λk o hk ah=>(cF _ _ _ _ (by grind)).t hk;have dd:∀j es c,W4.heap[j]?=aX (cP es c)->(W4.setCell (Ad be 7) (.map (aX B))).heap[j]?=aX (cP es c):=λj es c A=>a9 j _ A (λe=>by rw[e,z.d] at A;cases A);have cl:=z.H (W':=W4.setCell (Ad be 7) (.map (aX B))) (e':={e with h:=m,o:=l,M:=M'}) (vn':=vn) (vk':=vk) (bm':=B) hc rfl rfl (qw z.d 7 (.map (aX B))) (Qj z.c ⟨be,7,aY⟩ _ (Qh z.c z.d (by lia))) (Qj z.o ⟨be,7,aY⟩ _ (Qh z.o z.d (by lia))) (hm.o dd);have Qn2:fC w W4 S:=⟨C.os.t E.os,C.tape.t E.tape,C.output.t E.output,bF E.size C.s,λj A hs=>(C.b j (bL A E.size)).t (E.h j A hs)⟩;refine⟨zc dc,zc a8,by simp[aF,a8],⟨_,Sf,e.l,cl,rfl,λi _ _ hi=>by lia,λi _ _ _=>rfl,λj A=>?_⟩,Qn2.i (Ad be 7) _ (λ_=>bf _ O.z.1),z.C.o dd,a9 N _ dc ah⟩;obtain⟨G,_⟩|G|G:=A
 .grind
 .exact aS (bf j (O.z.2.1 j G))
 exact aS (bf j (O.z.2.2.2 j G))
def oW.n{w:Wq}(h:oW w S be N bm B e l M' vr vn vk vf rb ab ac aa m (aD aa) V)(E:e.o.filter (λd=>!gS e.j m d.2)=l)(C:kD e.z (tj e m++Qx e.z) M'):∃e',xS e m e'/\Qn S be e' w V:=by have⟨⟨Sk,Sfk,L,hv,hL,hd,hr,hs⟩,hc,al,ao⟩:=h;have G:aD aa=aD L:=hv.l;refine⟨{e with h:=m,o:=l,M:=M',l:=L},⟨M',L,C,hL,λi z A=>hd i z A (by lia),by rw[E]⟩,Sk,⟨_,_,_,_,_,_,_,_,_,_,hv⟩,hs,hc⟩
def yI(e:Eg):Prop:=∀(w V:Wq) (S:Nat->Prop) (be N bm B:Nat) (l:List (Gd×Int)) (M':Gd->Option Int) (vr vn vk vf:Vq) (rb ab ac:Nat) (aa:List Nat) (m:Int) (k:Nat) (_:oW w S be N bm B e l M' vr vn vk vf rb ab ac aa m k V) (hk:k<aD aa) (_:∀g,(M' g).isSome=true->gN (fG e.z) g/\g∈jG (jK e.z) e.c),
  Calls Tryz.prog 88 #[.pointer (aX ⟨aa[k],0,aY⟩),.map (aX bm),.map (aX B),aO aR m,aO aR e.w] V λen w'=>en=aQ (aN #[])/\oW w S be N bm B e l M' vr vn vk vf rb ab ac aa m (k+1) w'
def He(z:fP e):yI e:=λ_ _ _ _ _ _ _ _ _ _ _ _ _ _ _ _ _ _ _ h C A=>NF h C z A
def lM(win m:Int)(l:List (Gd×Int)):List (Gd×Int):=(l.filter (λd=>decide (d.2<=m))).map (λd=>(d.1,d.2+win))
def IX(win m:Int){l:List (Gd×Int)}{k:Nat}(h:k<aD l):lM win m (l.take (k+1))=lM win m (l.take k)++(if (l[k]).2<=m then [((l[k]).1,(l[k]).2+win)] else []):=by grind [lM,bO]
def KU(win m:Int)(l:List (Gd×Int)):aD (lM win m l)<=aD l:=by unfold lM;rw[List.length_map];exact bQ _ _
def L7:(Tryz.prog.info? 172).map (λi=>(i.zero,i.size,i.bytes))=aX (aX (aL #[St ⟨#[]⟩,St ⟨#[]⟩,St ⟨#[]⟩,Ii 0]),4,56):=by kernel_rfl
def LQ(v:Vq)(l:List (Gd×Int))(z be:Nat)(win mark:Int)(w:Wq)(G:aH w 0 161 4 v (aD l) (l.flatMap qy))(hl:aD l<=1000)(ad:∀d∈l,0<=d.2/\d.2<=1000000)(hw:0<=win/\win<=1000)(hx:w.heap[z]?=cC #[Pt be] 40)(cs:Array Vq)(hb:w.heap[be]?=cC cs 101)(h1:cs[1]?=aX (Ii win))(h4:cs[4]?=aX (Ii mark)):Cs 85 #[v,.func (.func 86) #[] #[Pt z]] w λe w'=>∃(M:Option Addr) (O:Nat),e=aQ (aJ M (aD (l.filter (λd=>!gS win mark d.2))) O)/\aH w' 0 161 4 (aJ M (aD (l.filter (λd=>!gS win mark d.2))) O) (aD (l.filter (λd=>!gS win mark d.2))) ((l.filter (λd=>!gS win mark d.2)).flatMap qy)/\aI (aJ M (aD (l.filter (λd=>!gS win mark d.2))) O)=aI v/\fC w w' (λk=>aI v=aX k):=by
 obtain⟨h0,⟨C,hn⟩|⟨g,A,d7,C,d8,hh,k1,k2,k3,k4⟩⟩:=G
 .subst C;have hz:=List.eq_nil_of_length_eq_zero hn;subst hz;refine (Ju _ w).m ?_;rintro e w' ⟨rfl,E⟩;exact⟨aY,0,rfl,⟨rfl,aS ⟨rfl,rfl⟩⟩,rfl,fC.d _ E⟩
 have G:aH w 0 161 4 v (aD l) (l.flatMap qy):=⟨h0,aU ⟨g,A,d7,C,d8,hh,k1,k2,k3,k4⟩⟩;have ef:z≠g:=λe=>by{grind};have fz:be≠g:=λe=>by{grind};refine (Hs v l 0 g A z (λd=>gS win mark d.2) (λd=>0<=d.2/\d.2<=1000000) w C G hl ad (λW hW d hd=>?_)).m ?_
 .have eh:=(zg hx).1;have E:=(zg hb).1;have x1:=(hW.h z eh ef).t hx;have x2:=(hW.h be E fz).t hb;refine N7 be z d win mark W (by simp[aE,x1]) (by grind) (by grind) ?_ ?_ hd hw;{simp only[aE,x2];simpa using h1};{simp only[aE,x2];simpa using h4}
 rintro e w' ⟨rfl,ho,hc⟩;subst C;exact⟨_,_,rfl,ho,rfl,hc.mono (λk _ hk=>by rw[hk];rfl)⟩
def Nc{w W2:Wq}{z:Vq}(M:iQ w S be e vr vn vk vf bm rb ab ac aa Sf)(hN:w.heap.size=N){m:Int}{l:List (Gd×Int)}(hc:fC ((w.alloc (aP #[Pt be] 40)).setCell (Ad be 4) (Ii m)) W2 (λk=>aI vk=aX k))(ho:aH W2 0 161 4 z (aD l) (l.flatMap qy))(b0:aI z=aI vk):aE W2 (Ad N 0)=aX (Pt be)/\aE W2 (Ad be 6)=aX vk/\aF W2 (Ad be 6)=false/\∃S2:Nat->Prop,iQ (W2.setCell (Ad be 6) z) S2 be {e with h:=m,o:=l} vr vn z vf bm rb ab ac aa Sf/\(∀k,S2 k->S k)/\fC w (W2.setCell (Ad be 6) z) S/\(W2.setCell (Ad be 6) z).heap[N]?=cC #[Pt be] 40:=by
 have E:cW w.heap.size w (w.alloc (aP #[Pt be] 40)):=(bG _ w).l zl _;have h0:=M.f E;have dz:=(zg M.d).1;obtain⟨W0,av⟩:=aC (w.alloc (aP #[Pt be] 40));have eN:W0.heap[N]?=cC #[Pt be] 40:=by rw[<-av,<-hN];exact zn w _
 have ge:W0.heap.size=N+1:=by rw[<-av,<-hN];simp
 rw[av] at hc h0 E;have a8:aI vk≠aX be:=λhs=>by have⟨_,c,A⟩:=qe h0.o hs;rw[h0.d] at A;cases A
 have f0:aI vk≠aX N:=λhs=>by have⟨_,c,A⟩:=qe h0.o hs;rw[eN] at A;cases A
 have b1:W2.heap[be]?=cC #[vr,Ii e.j,Ii e.u,Ii e.w,Ii m,vn,vk,.map (aX bm),vf] 101:=
  (hc.h be (by simp;lia) a8).t (qw h0.d 4 (Ii m))
 have d0:fC W0 W2 (λk=>k=be\/aI vk=aX k):=by have C:fC W0 (W0.setCell (Ad be 4) (Ii m)) (λk=>k=be\/aI vk=aX k):=(fC.j W0 _).i (Ad be 4) _ (λ_=>aS rfl);exact C.trans (hc.mono (λk _ G=>aU G))
 have ay:=d0.i (Ad be 6) z (λ_=>aS rfl);have a9:∀(k:Nat)(o:Obj),W0.heap[k]?=aX o->(∀c,o≠aP c 101)->(∀c,o≠aP c 161)->(W2.setCell (Ad be 6) z).heap[k]?=aX o:=by intro j o O C h2;refine (ay.h j (zg O).1 ?_).t O;rintro (rfl|hs);{rw[h0.d] at O;cases O;exact C _ rfl};{have⟨_,c',A⟩:=qe h0.o hs;rw[O] at A;cases A;exact h2 _ rfl}
 have cl:=h0.H (W':=W2.setCell (Ad be 6) z) (e':={e with h:=m,o:=l}) (vn':=vn) (vk':=z) (bm':=bm) ay rfl rfl (qw b1 6 z) (Qe h0.c (λg c _ A=>a9 g _ A (by simp) (by simp))) (Qj ho ⟨be,6,aY⟩ z (Qh ho b1 (by lia))) (h0.C.o (λj es c hm=>a9 j _ hm (by simp) (by simp)));have bN:=(d0.h N (by lia) (λe=>e.elim (λe=>by rw[hN] at dz;lia) f0)).t eN;refine⟨zc bN,zc b1,by simp[aF,b1],_,cl,λk G=>?_,?_,a9 N _ eN (by simp) (by simp)⟩
 .obtain⟨C,_⟩|C|C:=G;{exact C};{exact M.z.2.1 k (b0.s.t C)};exact M.z.2.2.2 k C
 refine⟨ay.os.t E.os,ay.tape.t E.tape,ay.output.t E.output,bF E.s ay.size,λk G hs=>(ay.h k (bL G E.s) (λe=>hs ?_)).t (E.b k G)⟩;obtain rfl|e:=e
 .exact M.z.1
 exact M.z.2.1 k e
theorem Ln(S:Nat->Prop)(be:Nat)(e:Eg)(m:Int)(w:Wq)(h:jD w S be e)(ad:fP e)(hm:0<=m/\m<=1000000)(a7:yI e):Cs 46 #[.pointer (aX ⟨be,0,aY⟩),aO aR m] w λen w'=>en=aQ (aN #[])/\∃e',xS e m e'/\Qn S be e' w w':=by
 have fp:=aA a7;clear a7;obtain⟨vr,vn,vk,vf,bm,rb,ab,ac,aa,Sf,hv⟩:=h;obtain⟨N,hN⟩:=aC w.heap.size;have dz:=hv.lt;obtain⟨G,M,fl⟩:=qq hv.o;subst fl;obtain⟨fa,fc,ey⟩:=qq hv.n;subst ey;obtain⟨ra,rc,e8⟩:=hv.u.c;subst e8;have hV:=aA hv;have ae:=aA ad;obtain⟨W0,av⟩:=aC (w.alloc (aP #[.pointer (aX ⟨be,0,aY⟩)] 40));have ak:cW w.heap.size w W0:=av▸(bG _ w).alloc zl _
 have h0:=hv.f ak;have eN:W0.heap[N]?=cC #[.pointer (aX ⟨be,0,aY⟩)] 40:=by rw[<-av,<-hN];exact zn w _
 have ah:N≠be:=by omega
 have c4:aE W0 (Ad be 4)=aX (aO aR e.h):=by have:=h0.d;simp[aE,this]
 have y4:aF W0 (Ad be 4)=false:=by have:=h0.d;simp[aF,this]
 have a0:aE W0 (Ad N 0)=aX (.pointer (aX ⟨be,0,aY⟩)):=zc eN;obtain⟨W1,bq⟩:=aC (W0.setCell (Ad be 4) (aO aR m));have e1:W1.heap[be]?=cC #[aJ ra (aD e.z) rc,aO aR e.j,aO aR e.u,aO aR e.w,aO aR m,vn,aJ G (aD e.o) M,.map (aX bm),aJ fa (aD aa) fc] 101:=bq▸qw h0.d 4 (aO aR m)
 have cg:W1.heap[N]?=cC #[.pointer (aX ⟨be,0,aY⟩)] 40:=bq▸(cF _ _ _ _ (by show N≠be;exact ah)).trans eN
 have c6:aE W1 (Ad be 6)=aX (aJ G (aD e.o) M):=zc e1;have a1:aE W1 (Ad N 0)=aX (.pointer (aX ⟨be,0,aY⟩)):=zc cg;have dt:aH W1 0 161 4 (aJ G (aD e.o) M) (aD e.o) (e.o.flatMap qy):=bq▸Qj h0.o ⟨be,4,aY⟩ _ (Qh h0.o h0.d (by decide))
 have ci:Hid (Cs 85 #[aJ G (aD e.o) M,.func (.func 86) #[] #[.pointer (aX ⟨N,0,aY⟩)]] W1.drew λe' w'=>∃(z:Option Addr)(A:Nat),e'=aQ (aJ z (aD (e.o.filter (λd=>!gS e.j m d.2))) A)/\aH w' 0 161 4 (aJ z (aD (e.o.filter (λd=>!gS e.j m d.2))) A) (aD (e.o.filter (λd=>!gS e.j m d.2))) ((e.o.filter (λd=>!gS e.j m d.2)).flatMap qy)/\aI (aJ z (aD (e.o.filter (λd=>!gS e.j m d.2))) A)=aI (aJ G (aD e.o) M)/\fC W1.drew w' (λk=>aI (aJ G (aD e.o) M)=aX k)):=
  LQ (aJ G (aD e.o) M) e.o N be e.j m W1.drew dt (by have:=ad.m;omega) (λd hd=>(ad.o d hd).2.2) ⟨by have:=ad.j;omega,ad.j.2⟩ cg _ e1 rfl rfl
 have ct:Hid (∀W2(z:Option Addr)(A:Nat),fC W1.drew W2 (λk=>aI (aJ G (aD e.o) M)=aX k)->aH W2 0 161 4 (aJ z (aD (e.o.filter (λd=>!gS e.j m d.2))) A) (aD (e.o.filter (λd=>!gS e.j m d.2))) ((e.o.filter (λd=>!gS e.j m d.2)).flatMap qy)->aI (aJ z (aD (e.o.filter (λd=>!gS e.j m d.2))) A)=aI (aJ G (aD e.o) M)->aE W2 (Ad N 0)=aX (.pointer (aX ⟨be,0,aY⟩))/\aE W2 (Ad be 6)=aX (aJ G (aD e.o) M)/\aF W2 (Ad be 6)=false/\Hid (∃S2:Nat->Prop,iQ (W2.setCell (Ad be 6) (aJ z (aD (e.o.filter (λd=>!gS e.j m d.2))) A)) S2 be {e with h:=m,o:=e.o.filter (λd=>!gS e.j m d.2)} (aJ ra (aD e.z) rc) vn (aJ z (aD (e.o.filter (λd=>!gS e.j m d.2))) A) (aJ fa (aD aa) fc) bm rb ab ac aa Sf/\(∀k,S2 k->S k)/\fC w (W2.setCell (Ad be 6) (aJ z (aD (e.o.filter (λd=>!gS e.j m d.2))) A)) S/\(W2.setCell (Ad be 6) (aJ z (aD (e.o.filter (λd=>!gS e.j m d.2))) A)).heap[N]?=cC #[.pointer (aX ⟨be,0,aY⟩)] 40)):=λW2 z A hc ho b0=>by rw[<-bq,<-av] at hc;exact Nc hV.o hN (l:=e.o.filter (λd=>!gS e.j m d.2)) ⟨hc.os,hc.tape,hc.output,hc.size,hc.h⟩ ho b0
 obtain⟨l,hl⟩:=aC (e.o.filter (λd=>!gS e.j m d.2));have HL:=aA hl;rw[hl] at ci ct;clear hl hv h0 eN e1 cg dt ad ak;generalize hkl:aD l=kl at *;have bu:=aA hkl;clear hkl;go_enter Tryz.func46,Tryz.ntmps46;go_wp2_with fail;refine wp_mono (Q:=λen a' W3=>match en with|Exit.normal=>∃(z:Option Addr)(A:Nat),Hid (∃S2:Nat->Prop,iQ W3 S2 be {e with h:=m,o:=l} (aJ ra (aD e.z) rc) vn (aJ z kl A) (aJ fa (aD aa) fc) bm rb ab ac aa Sf/\(∀k,S2 k->S k)/\fC w W3 S/\W3.heap[N]?=cC #[.pointer (aX ⟨be,0,aY⟩)] 40)/\a'={tmps:=cS (.pointer (aX ⟨be,0,aY⟩)::aO aR m::.pointer (aX ⟨N,0,aY⟩)::undef::undef::undef::undef::undef::undef::undef::.pointer (aX ⟨be,0,aY⟩)::aO aR m::.pointer (aX ⟨be,0,aY⟩)::.pointer (aX ⟨be,4,aY⟩)::.pointer (aX ⟨be,0,aY⟩)::.pointer (aX ⟨be,0,aY⟩)::.pointer (aX ⟨be,0,aY⟩)::.pointer (aX ⟨be,6,aY⟩)::aJ G (aD e.o) M::.func (.func 86) #[] #[.pointer (aX ⟨N,0,aY⟩)]::aJ z kl A::.pointer (aX ⟨be,0,aY⟩)::.pointer (aX ⟨be,6,aY⟩)::undef::undef::undef::undef::undef::undef::undef::undef::undef::undef::undef::undef::undef::undef::undef::undef::undef::undef::undef::undef::undef::undef::undef::undef::undef::undef::undef::undef::undef::undef::undef::undef::undef::undef::undef::undef::undef::undef::undef::undef::undef::undef::undef::undef::undef::undef::undef::undef::undef::undef::undef::undef::undef::undef::undef::undef::undef::undef::undef::[]),defers:=[]}|_=>False) ?reg ?rest
 case reg=>
  first|(go_region_with (go_at_call 85;refine bJ ci.o ?_;rintro e' W2 ⟨z,A,rfl,ho,b0,hc⟩;obtain⟨dN,d6,z6,ff⟩:=ct.o W2 z A hc ho b0))|fail
  all_goals exact⟨z,A,ff,rfl⟩
 rintro (_|_|_|_|_|_) a' W3 hq;all_goals first|exact hq.elim|skip
 obtain⟨z,A,⟨S2,h3,bf,an,bv⟩,rfl⟩:=hq;clear c4 y4 a0 c6 a1 ci ct bq av;have a3:aE W3 (Ad N 0)=aX (.pointer (aX ⟨be,0,aY⟩)):=zc bv;have q3:=h3.d;have k6:aE W3 (Ad be 6)=aX (aJ z kl A):=zc q3;clear q3;have f8:kl<=24:=by have C:=HL.o;have h2:=bQ (λd:Gd×Int=>!gS e.j m d.2) e.o;have h3:=ae.o.m;rw[C,bu.o] at h2;omega
 have fi:Hid (aH W3 0 161 4 (aJ z (aD l) A) (aD l) (l.flatMap qy)):=by have C:=h3.o;show aH _ _ _ _ _ _ _;rw[bu.o];rwa[show aD ({e with h:=m,o:=l}:Eg).o=kl from bu.o] at C
 have b4:=aA h3;have bk:Hid (be<W3.heap.size/\N<W3.heap.size):=⟨h3.lt,(zg bv).1⟩;have b8:Hid (∀V,cW W3.heap.size W3 V->aE V (Ad N 0)=aX (.pointer (aX ⟨be,0,aY⟩))/\aE V (Ad be 1)=aX (aO aR e.j)/\aE V (Ad be 7)=aX (.map (aX bm))/\aE V (Ad be 0)=aX (aJ ra (aD e.z) rc)/\aF V (Ad be 7)=false):=λV E=>by have C:=(b4.o.f E).d;have h2:=(E.b N bk.o.2).t bv;exact⟨zc h2,zc C,zc C,zc C,by simp[aF,C]⟩
 have ea:Hid (∀V,cW W3.heap.size W3 V->∀t:Int,0<=t/\t<=1000000->Cs 87 #[.pointer (aX ⟨be,0,aY⟩),aO aR t] V λe' w'=>e'=aQ (aO aR (t+e.j))/\V=w'):=λV E t ht=>by refine (Ei be t e.j V (b8.o V E).2.1 ht ⟨by have:=ae.o.j;omega,ae.o.j.2⟩).m ?_;rintro e' w' ⟨C,h2⟩;exact⟨C,h2.s⟩
 have Qoo:Hid (∀d∈l,0<=d.2/\d.2<=1000000):=λd hd=>by rw[<-HL.o] at hd;exact (ae.o.o d (bB.1 hd).1).2.2
 obtain⟨i0,hi,ek,ft,fb⟩:=info_parts L7;have Qnc:Hid _:=bf;have ei:Hid _:=an;have eu:Hid _:=bv;clear h3 bf an bv;go_wp2_with fail;go_loopw [4,28] (λvq vi wr=>∃(k:Nat)(qa:Option Addr)(qc:Nat),vq=aJ qa (aD (lM e.j m (l.take k))) qc/\vi=aO aR k/\k<=kl/\aH wr W3.heap.size 172 4 (aJ qa (aD (lM e.j m (l.take k))) qc) (aD (lM e.j m (l.take k))) ((lM e.j m (l.take k)).flatMap qy)/\cW W3.heap.size W3 wr) (λ_ vi _=>kl-(intOf vi).toNat)
 case atStart=>exact⟨0,aY,0,rfl,rfl,zz,⟨rfl,aS ⟨rfl,rfl⟩⟩,zr⟩
 obtain⟨k,qa,qc,rfl,rfl,hk,qt,E⟩:=hrel;have Qar:=E.s;by_cases cf:k<kl
 .have i1:(k:Int)<(kl:Int):=by{omega};have b7:k<aD l:=bu.o▸cf;obtain⟨g,c,e0,x0,x1,x2,x3,hg⟩:=wW (qh fi.o E) b7;cases e0;have bb:Hid _:=IX e.j m b7;have cv:aD (lM e.j m (l.take k))<=24:=by{have:=KU e.j m (l.take k);rw[List.length_take] at this;omega};have hd:=Qoo.o _ (zm b7);have HD:Hid _:=hd;generalize hlkd:l[k]=d at *;have f4:=b8.o wr E;obtain⟨n0,n1,_,_,_⟩:=f4;have HB:Hid _:=E;have HO:Hid _:=qt;generalize hF:lM e.j m (l.take k)=F at *;clear hF hlkd hd b7 E qt;by_cases dn:d.2<=m
  .rw[if_pos dn] at bb;have d1:Hid (∀O,cW W3.heap.size W3 (wr.alloc O).drew/\cW W3.heap.size W3 (wr.alloc O)):=λO=>⟨(HB.o.l Qar O).drew,HB.o.l Qar O⟩;have Qqf:N≠wr.heap.size:=by{have:=bk.o.2;omega};obtain⟨V1,aw⟩:=aC ((wr.alloc (aP #[aK d.1.j,aK d.1.x,aK d.1.y,aO aR d.2] 161)).drew);have b5:cW W3.heap.size W3 V1:=aw▸(d1.o _).1;have eV:V1.heap[wr.heap.size]?=cC #[aK d.1.j,aK d.1.x,aK d.1.y,aO aR d.2] 161:=aw▸zn wr _;have p0:∀j,aE V1 (Ad wr.heap.size j)=([aK d.1.j,aK d.1.x,aK d.1.y,aO aR d.2]:List Vq)[j]?:=λj=>by{simp[aE,eV]};obtain⟨pn,_,_,_,_⟩:=b8.o V1 b5;have de:aH V1 W3.heap.size 172 4 (aJ qa (aD F) qc) (aD F) (F.flatMap qy):=by{rw[<-aw];have:=aH.l HO.o (aP #[aK d.1.j,aK d.1.x,aK d.1.y,aO aR d.2] 161);exact⟨this.1,this.2⟩};have Qpc:=b5.s;have ed:aD F+1<=maxLen:=by{unfold maxLen;omega};have ep:(aD F+1)*56<=140737488355328:=by{omega};have fv:Hid (∀O w1,(V1.alloc O).grownBy w1 (aI (aJ qa (aD F) qc))->cW W3.heap.size W3 w1):=λO w1 hg=>(b5.l Qpc O).grown hg (by simp;omega) (λj e=>(qe de e).1);clear eV;go_wp2_with fail;go_region_law (first|(refine ws rfl (.tmp 36) (.tmp 44) 169 rfl W3.heap.size 172 i0 (aL #[aK ⟨#[]⟩,aK ⟨#[]⟩,aK ⟨#[]⟩,aO aR 0]) 4 56 Tryz.underlying169 hi ek ft fb rfl (by decide) (aJ qa (aD F) qc) (aD F) (F.flatMap qy) (by simp[Act.eval,Act.put]) (aH.l de _) ⟨V1.heap.size,0,aY⟩ 1 1 [aK d.1.j,aK d.1.x,aK d.1.y,aO aR (d.2+e.j)] (by simp[Act.eval,Act.put]) rfl (sL _ _ _ _ _ _) (by simp[Value.oneCell']) ed ep (by simp;omega) ?_;intro v' w1 aq ax;obtain⟨g',cj,cx⟩:=ownsRow_succ aq;subst cx)|(go_simp;go_wp2_with (go_at_call 87;refine (ea.o V1 b5 d.2 HD.o).m ?_;rintro e' w' ⟨rfl,af⟩;subst af)));all_goals (
    go_wp2;refine⟨⟨k+1,aX ⟨g',0,aY⟩,cj,?_,by go_num,by omega,?_,fv.o _ w1 ax⟩,by simp[intOf];omega⟩
    .rw[bb.o,cG];rfl
    .rw[bb.o,cG,List.flatMap_append]
     exact aq)
  rw[if_neg dn,cM] at bb;go_wp2;go_roundw
  case rel=>refine⟨k+1,qa,qc,?_,by go_num,by omega,?_,HB.o.l Qar _⟩;{rw[bb.o]};rw[bb.o];exact aH.l HO.o _
  simp[intOf];omega
 have cd:k=kl:=by omega
 subst cd;have fo:Hid (lM e.j m (l.take k)=lM e.j m l):=by show _=_;rw[cA (bu.o▸cL _)]
 rw[fo.o] at qt ⊢;obtain⟨n0,n1,n7,ew,y7⟩:=b8.o wr E;have cr:=E.drew;have Qaa:Hid (Cs 75 #[aJ ra (aD e.z) rc,aJ qa (aD (lM e.j m l)) qc] wr.drew λe' w'=>∃B M',e'=aQ (.map (aX B))/\gH w' B 5000 M'/\kD e.z (lM e.j m l++Qx e.z) M'/\cW wr.drew.heap.size wr.drew w'):=by have hF:ym e.z e.c (lM e.j m l):=by{have:=Ac ae.o m;unfold tj at this;rwa[HL.o] at this};refine (CK (fG e.z) e.z (lM e.j m l) (jG (jK e.z) e.c) _ _ rb ab ac W3.heap.size wr.drew (GG ae.o.z ae.o.A ae.o.n ae.o.v hF) (b4.o.f cr).u ⟨qt.1,qt.2⟩).m ?_;rintro e' w' ⟨B,M',C,h2,h3,_,h4⟩;exact⟨B,M',C,kN.c h2,h3,h4⟩
 have dg:Hid (∀W4 B M',cW wr.drew.heap.size wr.drew W4->gH W4 B 5000 M'->aE W4 (Ad N 0)=aX (.pointer (aX ⟨be,0,aY⟩))/\aE W4 (Ad be 7)=aX (.map (aX bm))/\aF W4 (Ad be 7)=false/\oW w S be N bm B e l M' (aJ ra (aD e.z) rc) vn (aJ z k A) (aJ fa (aD aa) fc) rb ab ac aa m 0 (W4.setCell (Ad be 7) (.map (aX B)))):=λW4 B M' C h2=>Ms b4.o Qnc.o ei.o eu.o (cr.t (C.m cr.s)) h2;clear qt E;go_wp2_with fail;refine wp_mono (Q:=λen a' W5=>match en with|Exit.normal=>∃(B:Nat),Hid (∃M',kD e.z (lM e.j m l++Qx e.z) M'/\oW w S be N bm B e l M' (aJ ra (aD e.z) rc) vn (aJ z k A) (aJ fa (aD aa) fc) rb ab ac aa m 0 W5)/\a'={tmps:=cS (.pointer (aX ⟨be,0,aY⟩)::aO aR m::.pointer (aX ⟨N,0,aY⟩)::undef::aJ qa (aD (lM e.j m l)) qc::undef::u6::.map (aX bm)::undef::undef::.pointer (aX ⟨be,0,aY⟩)::aO aR m::.pointer (aX ⟨be,0,aY⟩)::.pointer (aX ⟨be,4,aY⟩)::.pointer (aX ⟨be,0,aY⟩)::.pointer (aX ⟨be,0,aY⟩)::.pointer (aX ⟨be,0,aY⟩)::.pointer (aX ⟨be,6,aY⟩)::aJ G (aD e.o) M::.func (.func 86) #[] #[.pointer (aX ⟨N,0,aY⟩)]::aJ z k A::.pointer (aX ⟨be,0,aY⟩)::.pointer (aX ⟨be,6,aY⟩)::.pointer (aX ⟨be,0,aY⟩)::.pointer (aX ⟨be,0,aY⟩)::.pointer (aX ⟨be,6,aY⟩)::aJ z k A::aO aR k::aO aR k::aM false::u30::u31::u32::u33::u34::u35::u36::u37::u38::u39::u40::u41::u42::u43::u44::u45::u46::.pointer (aX ⟨be,0,aY⟩)::.pointer (aX ⟨be,0,aY⟩)::.pointer (aX ⟨be,7,aY⟩)::.map (aX bm)::.pointer (aX ⟨be,0,aY⟩)::.pointer (aX ⟨be,0,aY⟩)::.pointer (aX ⟨be,0,aY⟩)::.pointer (aX ⟨be,0,aY⟩)::aJ ra (aD e.z) rc::aJ qa (aD (lM e.j m l)) qc::.map (aX B)::.pointer (aX ⟨be,0,aY⟩)::.pointer (aX ⟨be,7,aY⟩)::undef::undef::undef::undef::undef::undef::undef::undef::undef::undef::undef::undef::undef::undef::undef::undef::undef::undef::undef::undef::undef::undef::[]),defers:=[]}|_=>False) ?reg2 ?rest2
 case reg2=>
  first|(go_region_with (go_at_call 75;refine bJ Qaa.o ?_;rintro e' W4 ⟨B,M',rfl,al,az,f5⟩;obtain⟨m0,m7,gm,ag⟩:=dg.o W4 B M' f5 al))|fail
  all_goals exact⟨B,⟨M',az,ag⟩,rfl⟩
 rintro (_|_|_|_|_|_) a' W5 hq;all_goals first|exact hq.elim|skip
 obtain⟨B,⟨M',az,ag⟩,rfl⟩:=hq;have cc:Hid _:=az;have fe:=aA ag;have o1:=ag.d.1;have o2:=ag.A;have o0:aE W5 (Ad N 0)=aX (.pointer (aX ⟨be,0,aY⟩)):=zc o2;have o8:aE W5 (Ad be 8)=aX (aJ fa (aD aa) fc):=zc o1;have dx:Hid (tj e m=lM e.j m l):=by show _=_;unfold tj;rw[HL.o];rfl
 have Qni:Hid (∀g,(M' g).isSome=true->gN (fG e.z) g/\g∈jG (jK e.z) e.c):=by have C:=Ac ae.o m;rw[dx.o] at C;exact Cg ae.o.z ae.o.v C cc.o
 have f9:aD aa<=3:=by have C:=b4.o.l;have h2:=ae.o.c;rw[show aD ({e with h:=m,o:=l}:Eg).l=aD e.l from rfl] at C;omega
 clear o1 o2 ag az n0 n1 n7 ew y7 Qaa dg a3 k6;go_wp2_with fail;go_loopw [65] (λvi wr=>∃j:Nat,vi=aO aR j/\j<=aD aa/\Hid (oW w S be N bm B e l M' (aJ ra (aD e.z) rc) vn (aJ z k A) (aJ fa (aD aa) fc) rb ab ac aa m j wr)) (λvi _=>aD aa-(intOf vi).toNat)
 case atStart=>exact⟨0,rfl,zz,fe⟩
 obtain⟨j,rfl,hj,ag⟩:=hrel;by_cases c9:j<aD aa
 .have i1:(j:Int)<(aD aa:Int):=by{omega};have o1:=ag.o.d.1;have o2:=ag.o.A;obtain⟨g,c,e0,xj,hg⟩:=GN ag.o.d.2 c9;cases e0;have o0:aE wr (Ad N 0)=aX (.pointer (aX ⟨be,0,aY⟩)):=zc o2;have o3:=cZz o1;have eo:Hid _:=fp.o _ _ _ _ _ _ _ _ _ _ _ _ _ _ _ _ _ _ _ ag.o.drew c9 Qni.o;clear o1 o2;generalize aa[j]=bj at *;go_wp2_with fail;first|(go_region_with (go_at_call 88;refine bJ eo.o ?_;rintro e' W6 ⟨rfl,b3⟩;have e9:Hid _:=b3;clear b3))|fail
  all_goals (
   go_wp2
   refine⟨⟨j+1,by go_num,by omega,e9.o⟩,by simp[intOf];omega⟩)
 have ev:j=aD aa:=by omega
 subst ev;have HD:=ag.o.n HL.o (dx.o▸cc.o);have fr:Hid _:=HD;clear HD;go_wp2;go_end0;exact⟨rfl,fr.o⟩
def LP(S:Nat->Prop)(be:Nat)(e:Eg)(c:Int)(w:Wq)(en:Ending)(w':Wq):Prop:=
 ∃e' r,uL e c e' r/\en=aQ (aN #[aO aR r.1,aO aR r.2])/\Qn S be e' w w'
def KT(S:Nat->Prop)(be:Nat)(e:Eg)(c:Int)(w:Wq)(h:jD w S be e)(A:fP e)(M:yI e):Cs 22 #[Pt be,Ii c] w (LP S be e c w):=by
 have HE:=aA h;have E:Hid (∀W,Cs 43 #[Ii c,Ii 0,Ii 1000000] W λe' w'=>e'=aQ (aM (decide (0<=c) && decide (c<=1000000)))/\W=w'):=λW=>by grind [vM]
 by_cases z:0<=c/\c<=1000000
 .have C:(decide (0<=c) && decide (c<=1000000))=true:=by{simp[z.1,z.2]};rw[C] at E;have⟨vr,vn,vk,vf,bm,rb,ab,ac,aa,Sf,hv⟩:=h;have O:=hv.d;have c2:=cZz O;have hl:=A.u;have gi:aR.wrap (c-e.u)=c-e.u:=wG _ (by omega) (by omega);have dj:=A.h;have G:=aA z;by_cases fy:e.h<c-e.u
  .have ag:Hid (Cs 46 #[Pt be,Ii (c-e.u)] w λen w'=>en=aQ (aN #[])/\∃e',Hid (xS e (c-e.u) e')/\Hid (Qn S be e' w w')/\aE w' (Ad be 4)=aX (Ii (c-e.u))):=by
    refine (Ln S be e (c-e.u) w HE.o A ⟨by omega,by omega⟩ M).m ?_;rintro en w' ⟨h1,e',h2,h3⟩;have fg:=h3;have⟨S',⟨gh,vn',vk',vf',bm',gl,ee,et,e4,Sf',cx⟩,_⟩:=h3;have hm:e'.h=c-e.u:=by{obtain⟨M',ck,_,_,_,rfl⟩:=h2;rfl};have a6:=cx.d;exact⟨h1,e',h2,fg,by rw[<-hm];simp[aE,a6]⟩
   have HG:=aA fy;clear hv O z C A hl dj M;go_enter Tryz.func22,Tryz.ntmps22
   go_wp2_with (first|(go_at_call 43;refine (E.o _).m ?_;rintro e' w' ⟨rfl,af⟩;subst af)|(go_at_call 46;refine bJ ag.o ?_;rintro e' W1 ⟨rfl,e1,du,fm,d4⟩))
   go_ret2;have hm:e1.h=c-e.u:=by{obtain⟨M',ck,_,_,_,rfl⟩:=du.o;rfl};exact⟨e1,(c-e.u,0),aU ⟨G.o,by rw[hm],aU ⟨HG.o,du.o⟩⟩,rfl,fm.o⟩
  .have HG:Hid (c-e.u<=e.h):=by{show _<=_;omega};clear hv O z C A hl dj M;go_enter Tryz.func22,Tryz.ntmps22
   go_wp2_with (go_at_call 43;refine (E.o _).m ?_;rintro e' w' ⟨rfl,af⟩;subst af)
   go_ret2;exact⟨e,(e.h,0),aU ⟨G.o,rfl,aS ⟨HG.o,rfl⟩⟩,rfl,Qn.u HE.o zr⟩
 .have C:(decide (0<=c) && decide (c<=1000000))=false:=by{rw[Bool.and_eq_false_iff];simp only[decide_eq_false_iff_not];omega};rw[C] at E;have G:=aA z;clear z C h A M;go_enter Tryz.func22,Tryz.ntmps22
  go_wp2_with (go_at_call 43;refine (E.o _).m ?_;rintro e' w' ⟨rfl,af⟩;subst af)
  go_ret2;exact⟨e,(0,6),aS ⟨G.o,rfl,rfl⟩,rfl,Qn.u HE.o zr⟩
def jJ(ns:List ByteArray)(rs:List Rl):List ByteArray:=rs.foldl (λns r=>fF ns (Q8 r)) ns
def Lu{rs:List Rl}(h:k<aD rs):jJ [] (rs.take (k+1))=fF (jJ [] (rs.take k)) (Q8 rs[k]):=by grind [jJ,bO]
def uA(rs:List Rl)(win lat que:Int)(M:Gd->Option Int):Eg:=⟨rs,win,lat,que,0,jJ [] rs,[],M,[]⟩
structure yH(s:ByteArray)(rs:List Rl):Prop where
 a:nE s=.ok rs
 u:(iB s).2.1=0
 o:nN rs
 A:∀k,aD (jJ [] (rs.take k))<=8
 v:∀r∈rs,∀t∈r.d.d,t.c≠eB->t.c∈jJ [] rs
 n:∀x∈jJ [] rs,x.size<=1200
def xY(rs:List Rl)(win lat que:Int)(w:Wq)(en:Ending)(w':Wq):Prop:=
 ∃(be:Nat) (S:Nat->Prop) (M:Gd->Option Int),en=aQ (aN #[.pointer (aX ⟨be,0,aY⟩),aO aR 0])/\kD rs (Qx rs) M/\jD w' S be (uA rs win lat que M)/\(∀k,S k->w.heap.size<=k)/\cW w.heap.size w w'
def sV(W3:Wq)(N B:Nat)(vr:Vq)(win lat que:Int)(us:List ByteArray)(vn:Vq)(V:Wq):Prop:=
 V.heap[N]?=aX (aP #[vr,aO aR win,aO aR lat,aO aR que,aO aR 0,vn,aJ aY 0 0,.map (aX B),aJ aY 0 0] 101)/\aH V (N+1) 9 1 vn (aD us) (us.map aK)/\fC W3 V (λj=>j=N)
def sV.a(h:sV W3 N B vr win lat que us vn V){A:Array Vq}(C:W3.heap[N]?=cC A 101):qf W3 V:=by intro k c t E z;refine (h.2.2.h k (zg z).1 (λe=>?_)).t z;rw[e,C] at z;cases z;obtain h|h|h:=E<;>cases h
def sV.o{C W6:Wq}{bi:List ByteArray}{vn':Vq}(h:sV W3 N B vr win lat que us vn V)(c7:W3.heap.size=N+1)(E:cW V.heap.size V C)(O:Qb (N+1) C W6)(G:aH W6 (N+1) 9 1 vn' (aD bi) (bi.map aK)):aE W6 (Ad N 5)=aX vn/\aF W6 (Ad N 5)=false/\sV W3 N B vr win lat que bi vn' (W6.setCell (Ad N 5) vn'):=by
 have⟨h1,h2,h3⟩:=h;have M:N+1<=V.heap.size:=by grind
 have z:=(E.m M).t (yT O (by have:=E.s;lia));have A:=(z.b N (by lia)).t h1;refine⟨zc A,by simp[aF,A],qw A 5 vn',Qj G ⟨N,5,aY⟩ vn' (Qh G A (by lia)),?_⟩;have hc:fC W3 W6 (λj=>j=N):=⟨z.os.t h3.os,z.tape.t h3.tape,z.output.t h3.output,bF h3.size z.s,λj hj hn=>(z.b j (by lia)).t (h3.h j hj hn)⟩;exact hc.i (Ad N 5) vn' (λ_=>rfl)
def G9(s:ByteArray)(rs:List Rl)(win lat que:Int)(w:Wq)(ad:yH s rs)(hs:s.size<=4611686018427387904)(hT:Lib.Utf8Tabs 0 1 w)(G:1<=win/\win<=1000)(h2:0<=lat/\lat<=1000)(h3:1<=que/\que<=50):Cs 39 #[St s,Ii win,Ii lat,Ii que] w (xY rs win lat que w):=by
 have dr:Hid (Cs 30 #[St s] w λe w'=>∃(ra:Option Addr)(rc ab ac:Nat),e=aQ (aN #[aJ ra (aD rs) rc,Ii 0,Ii 0])/\Qq w' w.heap.size ab ac (aJ ra (aD rs) rc) rs/\cW w.heap.size w w'):=by refine (CB s w hs hT).m ?_;rintro e w' ⟨hb,⟨c,p,_,hc,hr⟩|⟨d9,v,ab,ac,he,hR,_,_,_,hp,_⟩⟩;{have:=ad.u;rw[hr] at this;exact absurd this hc};have fq:d9=rs:=by{have:=hp.s.t ad.a;injection this};subst fq;have⟨ra,rc,hf⟩:=hR.c;subst hf;exact⟨ra,rc,ab,ac,he,hR,hb⟩
 have am:Hid (∀(n l m:Int) W,l<=n->n<=m->Cs 43 #[Ii n,Ii l,Ii m] W λe' w'=>e'=aQ (aM true)/\W=w'):=λn l m W a b=>by grind [vM]
 have H1:=aA G;have H2:=aA h2;have H3:=aA h3;have ae:=aA ad;clear G h2 h3 ad hT;go_enter Tryz.func39,Tryz.ntmps39;go_wp2_with fail;refine bJ dr.o ?_;rintro e' W1 ⟨ra,rc,ab,ac,rfl,hR,dy⟩;go_wp2_with fail;refine (am.o win 1 1000 _ H1.o.1 H1.o.2).m ?_;rintro e' w' ⟨rfl,af⟩;subst af;go_wp2_with fail;refine (am.o lat 0 1000 _ H2.o.1 H2.o.2).m ?_;rintro e' w' ⟨rfl,af⟩;subst af;go_wp2_with fail;refine (am.o que 1 50 _ H3.o.1 H3.o.2).m ?_;rintro e' w' ⟨rfl,af⟩;subst af;go_wp2_with fail;have bd:aD (jJ [] rs)<=8:=by have:=ae.o.A (aD rs);rw[bZ] at this;exact this
 have Qaa:Hid (Cs 75 #[aJ ra (aD rs) rc,aJ aY 0 0] W1 λe' w'=>∃B M,e'=aQ (.map (aX B))/\gH w' B 5000 M/\kD rs (Qx rs) M/\cW W1.heap.size W1 w'):=by refine (CK (fG rs) rs [] (jG (jK rs) (jJ [] rs)) _ _ w.heap.size ab ac 0 W1 (GG ae.o.o bd ae.o.n ae.o.v ⟨by simp,by simp⟩) hR ⟨rfl,aS ⟨rfl,rfl⟩⟩).m ?_;rintro e' w' ⟨B,M,G,h2,h3,_,h4⟩;exact⟨B,M,G,kN.c h2,h3,h4⟩
 refine bJ Qaa.o ?_;rintro e' W2 ⟨B,M,rfl,al,az,co⟩;have ca:=dy.t (co.m dy.s);have dm:=hR.a (qf.d co);obtain⟨N,hN⟩:=aC W2.heap.size;obtain⟨W3,cw⟩:=aC (W2.alloc (aP #[aJ ra (aD rs) rc,Ii win,Ii lat,Ii que,Ii 0,aJ aY 0 0,aJ aY 0 0,.map (aX B),aJ aY 0 0] 101));have cc:=aA az;have e3:W3.heap[N]?=cC #[aJ ra (aD rs) rc,Ii win,Ii lat,Ii que,Ii 0,aJ aY 0 0,aJ aY 0 0,.map (aX B),aJ aY 0 0] 101:=by rw[<-cw,<-hN];exact zn W2 _
 have c7:W3.heap.size=N+1:=by rw[<-cw,<-hN];simp
 have b9:cW W2.heap.size W2 W3:=cw▸(bG _ W2).alloc zl _
 have c8:=aA (dm.a (qf.d b9));have el:=aA (al.f b9);have fw:=aA (ca.t (b9.m ca.s));have cz:Hid (w.heap.size<=N):=by show _<=_;rw[<-hN];exact ca.s
 have Qhl:Hid (sV W3 N B (aJ ra (aD rs) rc) win lat que [] (aJ aY 0 0) W3):=⟨e3,⟨rfl,aS ⟨rfl,rfl⟩⟩,fC.j _ _⟩;have cu:=aA e3;have cn:=aA c7;have ez:Hid (∀k(hk:k<aD rs)(wr:Wq)(us:List ByteArray)(vn:Vq),sV W3 N B (aJ ra (aD rs) rc) win lat que us vn wr->aD us<=8->∃g z fn A C gn E,ra=aX ⟨g,0,aY⟩/\aE wr (Ad g (k*3))=aX (St (rs[k]).d.j)/\aE wr (Ad g (k*3+1))=aX (aJ z fn A)/\aE wr (Ad g (k*3+2))=aX (aJ C gn E)/\
   Hid (Cs 76 #[vn,.func (.func 141) #[] #[Pt (wr.heap.size+1)]] ((wr.alloc (aP #[St (rs[k]).d.j,aJ z fn A,aJ C gn E] 136)).drew.alloc (aP #[St (rs[k]).d.j,aJ z fn A,aJ C gn E] 136)) λe w'=>∃(pa:Option Addr)(pc:Nat),e=aQ (aJ pa (aD (fF us (Q8 rs[k]))) pc)/\aE w' (Ad N 5)=aX vn/\aF w' (Ad N 5)=false/\Hid (sV W3 N B (aJ ra (aD rs) rc) win lat que (fF us (Q8 rs[k])) (aJ pa (aD (fF us (Q8 rs[k]))) pc) (w'.setCell (Ad N 5) (aJ pa (aD (fF us (Q8 rs[k]))) pc))))):=λk hk wr us vn ai gk=>by
  have ej:=c8.o.a (ai.a cu.o);have⟨g,c',v0,vb,q1,q2,q3,q4,q5⟩:=sY ej hk;have⟨z,A,fx⟩:=q5.1.c;have⟨C,E,d2⟩:=q5.2.c;subst fx d2;cases q1;refine⟨g,z,_,A,C,_,E,rfl,q2,q3,q4,?_⟩;have au:cW wr.heap.size wr ((wr.alloc (aP #[St (rs[k]).d.j,aJ z (aD (rs[k]).d.d) A,aJ C (aD (rs[k]).n) E] 136)).drew.alloc (aP #[St (rs[k]).d.j,aJ z (aD (rs[k]).d.d) A,aJ C (aD (rs[k]).n) E] 136)):=(((bG _ wr).l zl _).drew).l (by show _<=(wr.alloc _).heap.size;simp) _;have Qar:N+1<=wr.heap.size:=by{have:=ai.2.2.size;have:=cn.o;omega};refine (FZ rs[k] _ _ vn us (N+1) ab ac (wr.heap.size+1) _ (ae.o.o.d _ (zm hk)) (q5.a (qf.d au)) ?_ (qh ai.2.1 au) (by have:=au.s;omega) (by omega)).m ?_;{have:=zn (wr.alloc (aP #[St (rs[k]).d.j,aJ z (aD (rs[k]).d.d) A,aJ C (aD (rs[k]).n) E] 136)).drew (aP #[St (rs[k]).d.j,aJ z (aD (rs[k]).d.d) A,aJ C (aD (rs[k]).n) E] 136);rw[show (wr.alloc (aP #[St (rs[k]).d.j,aJ z (aD (rs[k]).d.d) A,aJ C (aD (rs[k]).n) E] 136)).drew.heap.size=wr.heap.size+1 by show (wr.alloc _).heap.size=_;simp] at this;exact this};{rintro e w' ⟨v',G,h2,h3⟩;have⟨pa,pc,fj⟩:=qq h2;subst fj;have⟨k1,k2,k3⟩:=ai.o cn.o au h3 h2;exact⟨pa,pc,G,k1,k2,k3⟩}
 clear Qaa dr az hR ca co dm al b9 e3;go_wp2_with fail;go_loopw [48] (λvi wr=>∃(k:Nat)(vn:Vq),vi=aO aR k/\k<=aD rs/\Hid (sV W3 N B (aJ ra (aD rs) rc) win lat que (jJ [] (rs.take k)) vn wr)) (λvi _=>aD rs-(intOf vi).toNat)
 case atStart=>exact⟨0,_,rfl,zz,Qhl⟩
 obtain⟨k,vn,rfl,hk,ai⟩:=hrel;by_cases bk:k<aD rs
 .have i1:(k:Int)<(aD rs:Int):=by{omega};have h8:=ae.o.o.o;have⟨g,z,fn,A,C,gn,E,e0,q0,q1,q2,cp⟩:=ez.o k bk wr _ vn ai.o (ae.o.A k);cases e0;have eg:Hid _:=Lu bk;have⟨na,nc,em⟩:=qq ai.o.2.1;subst em;have a8:=ai.o.1;have Qar:N+1<=wr.heap.size:=by{have:=ai.o.2.2.size;have:=cn.o;omega};have c5:∀O,aE (wr.alloc O) (Ad N 5)=aX (aJ na (aD (jJ [] (rs.take k))) nc):=λO=>cell_later ((bG wr.heap.size wr).l zl O) (by simp[aE,a8]);clear a8;generalize (rs[k]).d.j=rel at *;generalize fF (jJ [] (rs.take k)) (Q8 rs[k])=bi at *;obtain⟨V1,aw⟩:=aC ((wr.alloc (aP #[St rel,aJ z fn A,aJ C gn E] 136)).drew);have db:V1.heap.size=wr.heap.size+1:=by{rw[<-aw];show (wr.alloc _).heap.size=_;simp};have eV:V1.heap[wr.heap.size]?=cC #[St rel,aJ z fn A,aJ C gn E] 136:=aw▸zn wr _;have p0:∀j,aE V1 (Ad wr.heap.size j)=([St rel,aJ z fn A,aJ C gn E]:List Vq)[j]?:=λj=>by{simp[aE,eV]};have p5:aE V1 (Ad N 5)=aX (aJ na (aD (jJ [] (rs.take k))) nc):=aw▸c5 _;rw[aw] at cp;obtain⟨V2,cb⟩:=aC (V1.alloc (aP #[St rel,aJ z fn A,aJ C gn E] 136));have r5:aE V2 (Ad N 5)=aX (aJ na (aD (jJ [] (rs.take k))) nc):=cb▸cell_later ((bG V1.heap.size V1).alloc zl _) p5;rw[cb] at cp;have cq:Hid (Cs 77 #[aL #[St rel,aJ z fn A,aJ C gn E]] V1 λe w'=>e=aQ (.func (.func 141) #[] #[Pt (wr.heap.size+1)])/\V2=w'):=by{refine (AE _ _ _ _ rfl V1).m ?_;rintro e w' ⟨G,h2⟩;rw[db] at G;exact⟨G,by rw[h2,cb]⟩};clear eV cb db c5;go_wp2_with fail;first|(go_region_with (first|(go_at_call 77;refine bJ cq.o ?_;rintro e' w' ⟨rfl,af⟩;subst af)|(go_at_call 76;refine bJ cp.o ?_;rintro e' W6 ⟨pa,pc,rfl,t5,y5,e7⟩)))|fail
  all_goals (
   go_wp2;refine⟨⟨k+1,aJ pa (aD bi) pc,by go_num,by omega,?_⟩,by simp[intOf];omega⟩;rw[eg.o]
   exact e7)
 have cd:k=aD rs:=by{omega};subst cd;rw[bZ] at ai;have Qd:Hid (xY rs win lat que w (aQ (aN #[Pt N,Ii 0])) wr):=by have⟨k1,k2,k3⟩:=ai.o;have hm:∀j es c,W3.heap[j]?=aX (cP es c)->wr.heap[j]?=aX (cP es c):=λj es c hj=>(k3.h j (zg hj).1 (λe=>by rw[e,cu.o] at hj;cases hj)).t hj;refine⟨N,λj=>j=N\/aI vn=aX j,M,rfl,cc.o,⟨_,_,_,_,_,_,_,_,[],λ_ _=>False,⟨k1,c8.o.a (ai.o.a cu.o),rD k2 zz,⟨rfl,aS ⟨rfl,rfl⟩⟩,el.o.o hm,rfl,⟨rfl,aS ⟨rfl,rfl⟩⟩,λi hi _=>by simp at hi,λ_ _ _ _ h=>h.elim,λ_ _ h=>h.elim,⟨aS rfl,λg hg=>(by cases hg),λg hg=>(by cases hg),λg hg=>aU hg⟩,λj hj=>?_⟩⟩,λj hj=>?_,?_⟩;{obtain rfl|hj:=hj;{exact⟨_,_,k1,aS rfl⟩};have⟨_,c,aj⟩:=qe k2 hj;exact⟨_,_,aj,aU (aU (aU (aU (aU rfl))))⟩};{obtain rfl|hj:=hj;{exact cz.o};have:=(qe k2 hj).1;have:=cz.o;omega};have G:=fw.o;exact⟨k3.os.t G.os,k3.tape.t G.tape,k3.output.t G.output,bF G.s k3.size,λj hj=>(k3.h j (by have:=G.s;omega) (by have:=cz.o;omega)).t (G.b j hj)⟩
 go_wp2;go_ret2;exact Qd.o
end Go.Proofs.YtjajnhemgphefaaGreatDoor
namespace Go.Proofs.YtjajnhemgphefaaGreatDoor
open Go renaming World->Wq,Value->Vq
open Go.RowKit
def sH(c n:Int):Int:=if c<0 then (-(c+1)) % n else c % n
def O5(c n:Int)(z:0<n):0<=sH c n/\sH c n<n:=by
 unfold sH;split
 .exact⟨cO _ (by lia),cH _ z⟩
 exact⟨cO _ (by lia),cH _ z⟩
def Ol(c n:Int)(z:c<0) : -(c+1).tmod n=sH c n:=by
 unfold sH;rw[if_pos z];obtain⟨a,A⟩:=aB (-(c+1));have:c+1=-a:=by lia
 rw[this,Int.neg_tmod,cT,cT,Int.tmod_eq_emod_of_nonneg (by lia)]
end Go.Proofs.YtjajnhemgphefaaGreatDoor
namespace Go.Proofs.YtjajnhemgphefaaGreatDoor
open Go renaming World->Wq,Value->Vq
open Go.RowKit Go.Shelf Go.Maps
def Ho(x y:Gd×Int):xA x y=true↔x=y:=by
 unfold xA;simp only[Bool.and_eq_true,beq_iff_eq,oT];constructor
 .rintro⟨⟨z,A,C⟩,E⟩;have⟨⟨a,b,c⟩,d⟩:=x;have⟨⟨a',b',c'⟩,d'⟩:=y;simp only at z A C E;rw[ud z,ud A,ud C,E]
 rintro rfl;simp
def Ks{s:ByteArray}{rs:List Rl}(h:yH s rs){win lat que:Int}(A:1<=win/\win<=1000)(C:0<=lat/\lat<=1000)(E:1<=que/\que<=50){M:Gd->Option Int}(G:kD rs (Qx rs) M):fP (uA rs win lat que M):=by
 have z:aD (jJ [] rs)<=8:=by have:=h.A (aD rs);rw[bZ] at this;exact this
 refine⟨h.o,A,C,E,⟨by show (0:Int)<=0;decide,by show (0:Int)<=1000000;decide⟩,z,h.n,h.v,by show (0:Nat)<=24;decide,λd hd=>(by cases hd),?_,by show (0:Nat)<=3;decide,λf O=>(by cases O)⟩;exact Cg (F:=[]) h.o h.v ⟨by simp,by simp⟩ G
section
variable {w W:Wq} {be:Nat} {bs:List Nat} {e:Eg}
end
def wF:ByteArray:=⟨#[112,97,116,104]⟩
def xd:ByteArray:=⟨#[101,100,103,101]⟩
def ve:ByteArray:=⟨#[112,97,116,104,40,88,44,89,41,58,45,101,100,103,101,40,88,44,89,41,46,32,112,97,116,104,40,88,44,90,41,58,45,112,97,116,104,40,88,44,89,41,44,101,100,103,101,40,89,44,90,41,46]⟩
def pG:List Rl:=zN wF xd
theorem Jm:Lib.runeCount ve=53:=by kernel_rfl
theorem Fh:nE ve=.ok pG:=by kernel_rfl
theorem KF:nM pG=(0,0):=by kernel_rfl
def GL:pG.flatMap Qa=[⟨wF,[sN,su]⟩,⟨xd,[sN,su]⟩,⟨wF,[sN,su]⟩,⟨wF,[sN,wD]⟩,⟨xd,[wD,su]⟩]:=rfl
def As:fG pG wF=2:=by kernel_rfl
def FU:fG pG xd=2:=by kernel_rfl
def Lf:nN pG:=by
 have C:∀(x:ByteArray)(t u:Tm),x.size<=1200->tB t->tB u->lO ⟨x,[t,u]⟩:=λx t u hx A E=>⟨hx,cL 2,λv O=>by
  simp only[bC,bE,or_false] at O;obtain rfl|rfl:=O
  .exact A
  .exact E⟩
 have h0:tB sN:=⟨by decide,by decide⟩;have A:tB su:=⟨by decide,by decide⟩;have E:tB wD:=⟨by decide,by decide⟩;refine⟨by decide,λr G=>?_,λa z=>?_,λa z t M=>?_,λr G t M ah=>?_⟩
 .simp only[pG,zN,bC,bE,or_false] at G;obtain rfl|rfl:=G;{exact⟨C _ _ _ (by decide) h0 A,by decide,λa z=>by simp only[bC,bE,or_false] at z;subst z;exact C _ _ _ (by decide) h0 A⟩}
  .exact⟨C _ _ _ (by decide) h0 A,by decide,λa z=>by
    simp only[bC,bE,or_false] at z;obtain rfl|rfl:=z
    .exact C _ _ _ (by decide) h0 E
    .exact C _ _ _ (by decide) E A⟩
 .rw[GL] at z;simp only[bC,bE,or_false] at z;obtain rfl|rfl|rfl|rfl|rfl:=z;{exact⟨As.s,aU rfl⟩};{exact⟨FU.s,aU rfl⟩};{exact⟨As.s,aU rfl⟩};{exact⟨As.s,aU rfl⟩};exact⟨FU.s,aU rfl⟩
 .rw[GL] at z;simp only[bC,bE,or_false] at z;obtain rfl|rfl|rfl|rfl|rfl:=z<;>(simp only[bC,bE,or_false] at M;obtain rfl|rfl:=M<;>decide)
 grind [pG,zN,xd,sN,su,wF,wD,zs,List.mem_cons_of_mem]
def M0:jJ [] (pG.take 1)=[]:=by kernel_rfl
theorem FK:jJ [] pG=[]:=by kernel_rfl
def LV:yH ve pG:=by
 refine⟨Fh,?_,Lf,λk=>?_,λr z t A C=>?_,λx E=>?_⟩
 .grind [iB,Jm,Fh,KF]
 .match k with
  |0=>exact zz
  |1=>rw[M0];exact zz
  |k+2=>have h:pG.take (k+2)=pG:=cA (by show (2:Nat)<=k+2;lia);rw[h,FK];exact zz
 .simp only[pG,zN,bC,bE,or_false] at z;obtain rfl|rfl:=z<;>(simp only[bC,bE,or_false] at A;obtain rfl|rfl:=A<;>exact absurd rfl C)
 grind [FK]
end Go.Proofs.YtjajnhemgphefaaGreatDoor
namespace Go.Proofs.YtjajnhemgphefaaGreatDoor
open Go renaming World->Wq,Value->Vq
open Go.RowKit Go.Shelf
variable {win m:Int} {ar:ByteArray->Nat} {ds:List (Gd×Int×Bool)} {M:Gd->Option Int} {hs:List Gr}
abbrev Fk:=Gr×Int×Bool
def lG(win:Int)(fs:List Fk)(t:Int):List Gr:=(fs.filter (λf=>f.2.2 && decide (t<f.2.1+win))).map (·.1)
def rW(win:Int)(ds:List (Gd×Int×Bool)):List (Gd×Int):=(ds.filter (λd=>d.2.2)).map (λd=>(d.1,d.2.1+win))
def Do{z:List Fk}{t:Int}{g:Gr}:g∈lG win z t↔∃f∈z,f.2.2=true/\t<f.2.1+win/\f.1=g:=by
 unfold lG;rw[bD];constructor
 .grind
 rintro⟨f,E,A,C,rfl⟩;exact⟨f,bB.2 ⟨E,by simp[A,C]⟩,rfl⟩
def oK(ds:List (Gd×Int×Bool))(fs:List Fk):Prop:=fs=ds.map (λd=>(fM d.1,d.2.1,d.2.2))
def Ha{R:List Rl}{fs:List Fk}(hR:sK ar R)(hs:oK ds fs)(ha:∀d∈ds,rY ar d.1){t:Int}(M:t<2000000):yd ar R (rW win ds++Qx R) t (lG win fs t):=by
 have G:∀x∈Qx R,∃r∈R,r.n=[]/\x=(qb Ql r.d,2000000):=λx z=>by have⟨r,A,e⟩:=bI.1 z;split at e;{grind};{cases e}
 refine⟨λx z he=>?_,λg hg=>?_,λr A h0=>?_⟩
 .obtain z|z:=bT.1 z;{obtain⟨d,hd,rfl⟩:=bD.1 z;have⟨E,C⟩:=bB.1 hd;refine⟨ha d E,aS (Do.2 ⟨(fM d.1,d.2.1,d.2.2),?_,C,he,rfl⟩)⟩;rw[hs];exact bD.2 ⟨d,E,rfl⟩};obtain⟨r,A,h0,rfl⟩:=G x z;have hc:=Dq (hR.j r A) h0;have⟨C,h3⟩:=hR.f r A r.d zs;refine⟨(yZ C.1 h3).2 (λt M=>?_),aU ⟨r,A,h0,rfl⟩⟩;have O:=hc t M;unfold fH;rwa[if_neg (by show ¬qj t.c=true;rw[O];decide)]
 .obtain⟨f,hf,E,C,rfl⟩:=Do.1 hg;rw[hs] at hf;obtain⟨d,hd,rfl⟩:=bD.1 hf;exact⟨(d.1,d.2.1+win),List.mem_append_left _ (bD.2 ⟨d,bB.2 ⟨hd,E⟩,rfl⟩),C,rfl⟩
 exact⟨(qb Ql r.d,2000000),List.mem_append_right _ (bI.2 ⟨r,A,by rw[if_pos h0]⟩),M,rfl⟩
theorem FG{R:List Rl}{z:List Fk}(C:sK ar R)(hs:oK ds z)(O:∀d∈ds,rY ar d.1)(A:kD R (rW win ds++Qx R) M){t:Int}(ht:t<2000000)(g:Gd):(∃u,M g=aX u/\t<u)↔Dv R (lG win z t) (fM g):=by rw[<-KW C (Ha (win:=win) C hs O ht) g];exact⟨λ⟨u,E,G⟩=>A.c g u E t G,λh=>A.b t g h⟩
def Jr{R:List Rl}{z:List Fk}(E:sK ar R)(hs:oK ds z)(G:∀d∈ds,rY ar d.1)(A:kD R (rW win ds++Qx R) M)(hm:m<2000000)(O:∀d∈ds,d.2.2=true->m<d.2.1+win)(g:Gd):(M g).isSome=true↔Dv R (lG win z m) (fM g):=by
 rw[<-FG E hs G A hm g];constructor
 .intro h;have⟨u,hu⟩:=bH.1 h;refine⟨u,hu,?_⟩;obtain⟨d,hd,rfl⟩:=A.d hu;obtain hd|hd:=bT.1 hd;{obtain⟨x,C,rfl⟩:=bD.1 hd;exact O x (bB.1 C).1 (bB.1 C).2};have⟨r,hr,e⟩:=bI.1 hd;split at e;{grind};{cases e}
 grind
def pM(P:Int->Bool):Int->List Int->Int
 |b,[]=>b
 |b,e::l=>pM P (if b<=e then b else if P e=true then b else e) l
theorem zJ(P:Int->Bool)(t:Int):∀(l:List Int) (b:Int),(∀e∈l,P e=true↔e<t)->t<=b->(b=t\/t∈l)->pM P b l=t
 |[],b,_,_,h=>by
  obtain h|h:=h
  .exact h
  .cases h
 |e::l,b,hP,hb,h=>by
  have z:=λx M=>hP x (zt M);have G:=hP e zs;unfold pM;by_cases C:b<=e
  .rw[if_pos C];refine zJ P t l b z hb ?_;obtain h|h:=h
   .exact aS h
   .grind
  .rw[if_neg C];by_cases A:P e=true
   .rw[if_pos A];have:=G.1 A;refine zJ P t l b z hb ?_;obtain h|h:=h
    .exact aS h
    .grind
   .rw[if_neg A];have E:t<=e:=by grind
    refine zJ P t l e z E ?_;obtain h|h:=h
    .omega
    .grind
def Lc{R:List Rl}{m:Int}{z:List Fk}(hR:sK ar R)(hs:oK ds z)(ha:∀d∈ds,rY ar d.1)(G:kD R (rW win ds++Qx R) M)(C:∀d∈ds,d.2.2=true->d.2.1+win<2000000)(g:Gd){u:Int}(hu:M g=aX u)(P:Int->Bool)(hP:∀e,P e=true↔Dv R (lG win z e) (fM g)):pM P 2000000 ((z.filter (λf=>f.2.2)).map (λf=>f.2.1+win))=u:=by
 have gb:∀e∈(z.filter (λf=>f.2.2)).map (λf=>f.2.1+win),e<2000000:=λe E=>by obtain⟨f,O,rfl⟩:=bD.1 E;have⟨h1,h2⟩:=bB.1 O;rw[hs] at h1;obtain⟨d,hd,rfl⟩:=bD.1 h1;exact C d hd h2
 refine zJ P u _ _ (λe E=>?_) ?_ ?_
 .grind [FG]
 all_goals
  have⟨d,hd,dp⟩:=G.d hu
 .obtain hd|hd:=bT.1 hd;{obtain⟨x,A,rfl⟩:=bD.1 hd;have:=C x (bB.1 A).1 (bB.1 A).2;simp only at dp;lia};have⟨r,hr,e⟩:=bI.1 hd;split at e;{grind};{cases e}
 obtain hd|hd:=bT.1 hd
 .obtain⟨x,A,rfl⟩:=bD.1 hd;have⟨h1,h2⟩:=bB.1 A;right;refine bD.2 ⟨(fM x.1,x.2.1,x.2.2),bB.2 ⟨?_,h2⟩,dp⟩;rw[hs];exact bD.2 ⟨x,h1,rfl⟩
 have⟨r,hr,e⟩:=bI.1 hd;split at e;{grind};{cases e}
theorem Db(x y:ByteArray):wu x y=true↔x.data.toList<y.data.toList:=by unfold wu;rw[bytesLess_eq,decide_eq_true_eq,oT,oT]
theorem zU(x:ByteArray):∀l,(mR x l).Perm (x::l)
 |[]=>.refl _
 |y::l=>by
  unfold mR;split;{exact .refl _};{exact ((zU x l).cons y).trans (.swap x y l)}
theorem Dj(x:ByteArray):∀l:List ByteArray,l.Pairwise (λa b=>a.data.toList<=b.data.toList)->(mR x l).Pairwise (λa b=>a.data.toList<=b.data.toList)
 |[],_=>List.pairwise_singleton _ _
 |y::l,h=>by
  have C:=bU.1 h;unfold mR;split;{grind [Db,List.le_of_lt,bU.2,bC.1,List.le_trans]}
  .rename_i E;refine bU.2 ⟨λz A=>?_,Dj x l C.2⟩;obtain rfl|A:=bC.1 ((zU x l).mem_iff.1 A)
   .grind [Db]
   .grind
theorem xF:∀(l out:List ByteArray),out.Pairwise (λa b=>a.data.toList<=b.data.toList)->(lB out l).Pairwise (λa b=>a.data.toList<=b.data.toList)/\(lB out l).Perm (l++out)
 |[],out,h=>⟨h,.refl _⟩
 |x::l,out,h=>by have⟨h1,h2⟩:=xF l (mR x out) (Dj x out h);unfold lB at h1 h2 ⊢;rw[List.foldl_cons];refine⟨h1,h2.trans ?_⟩;exact ((zU x out).append_left l).trans List.perm_middle
def CO(l:List ByteArray):(lB [] l).map (λx=>x.data.toList)=iL (l.map (λx=>x.data.toList)):=by have⟨h1,h2⟩:=xF l [] cQ.nil;rw[cM] at h2;rw[<-Bc (h2.map _)];symm;unfold iL;refine List.mergeSort_of_pairwise ?_;rw[cJ];exact h1.imp (λh=>by simpa using h)
def zP{g:Gd}:gN ar g↔rY ar g:=by grind [eB,qj,sS,gN,rY]
theorem uE{x y:ByteArray}(h:x.data.toList=y.data.toList):x=y:=by have⟨x⟩:=x;have⟨y⟩:=y;simp only[ByteArray.mk.injEq];exact Array.toList_inj.1 h
def Ke(x y:ByteArray):(x++y).data.toList=x.data.toList++y.data.toList:=by simp
def Cz(g:Gd):lJ (fM g)=fU g:=by
 apply uE;unfold lJ fU sZ rz fM qj;split
 .simp[sE,Lib.join]
 simp[sE,Lib.join]
theorem DE{a:Am}(C:oF ar a){x y:ByteArray}(G:gN ar ⟨a.j,x,y⟩):(gK Ql a x y).isSome=true↔(gM a (fM ⟨a.j,x,y⟩) iF).isSome=true:=by
 have gj:qj (⟨#[97]⟩:ByteArray)=false:=by decide +kernel
 have M:aD a.d=1\/aD a.d=2:=by grind [xJ]
 have cq:∀z∈(fM (⟨a.j,x,y⟩:Gd)).d,qj z=false:=λz hz=>by have⟨h3,h4⟩:=zP.1 G;unfold fM at hz;simp only at hz h3 h4;split at hz;{grind};{grind}
 have bd:∀t∈a.d,t.d<aD iF:=λt A=>by have:=C.2 t A;show t.d<8;lia
 constructor
 .intro h;have⟨m,hm⟩:=bH.1 h;have⟨_,E⟩:=yu C G hm;have fh:=(yZ (p:=m) M C.1).1 (E▸zP.1 G);have hs:∀v,qj ((λv=>if qj (m.f v)=true then (⟨#[97]⟩:ByteArray) else m.f v) v)=false:=λv=>by{grind};have e2:fM (qb m a)=iX (λv=>if qj (m.f v)=true then (⟨#[97]⟩:ByteArray) else m.f v) a:=wl M (λt A e6=>by
   have O:=fh t A;unfold fH at O;rw[if_pos (by exact e6)] at O;show _=if _ then _ else _
   rw[if_neg (by rw[O];decide)]) (λt A=>vR hs t)
  rw[E] at e2;have⟨c,hc,_⟩:=wY (λv=>if qj (m.f v)=true then (⟨#[97]⟩:ByteArray) else m.f v) a.d iF bd (λv hv=>by rw[xP] at hv;cases hv) hs;rw[e2];unfold gM iX;rw[if_pos ⟨(uf _ _).2 rfl,by simp⟩,hc];rfl
 intro h;have⟨c,hc⟩:=bH.1 h;have⟨f1,f2,f3⟩:=wg hc;have⟨i1,i2,i3,i4,i5⟩:=vY _ _ _ _ f3 f2 cq bd;have hs:∀v,qj ((λv=>if qj (c.getD v fJ)=true then (⟨#[97]⟩:ByteArray) else c.getD v fJ) v)=false:=λv=>by{grind};have E:fM (⟨a.j,x,y⟩:Gd)=iX (λv=>if qj (c.getD v fJ)=true then (⟨#[97]⟩:ByteArray) else c.getD v fJ) a:=by grind [fM,Gd,iX,mZ,lX,qj,cD]
 have e3:qb (xD (λv=>if qj (c.getD v fJ)=true then (⟨#[97]⟩:ByteArray) else c.getD v fJ)) a=⟨a.j,x,y⟩:=xo (by
  rw[E]
  exact wl M (λt A _=>Da _ (C.2 t A)) (λt A=>vR hs t))
 have⟨m,hm,_⟩:=Ak (n:=Ql) (p:=xD (λv=>if qj (c.getD v fJ)=true then (⟨#[97]⟩:ByteArray) else c.getD v fJ)) C (e3▸G) (λk hk=>by
  exfalso;apply hk
  match k with
  |0=>rfl
  |1=>rfl
  |2=>rfl
  |3=>rfl
  |4=>rfl
  |5=>rfl
  |k+6=>rfl)
 rw[e3] at hm;rw[hm];rfl
def Gt(hM:∀g,(M g).isSome=true↔fM g∈hs)(c3:hs.Nodup)(ce:∀h∈hs,∃g,fM g=h)(ad:∀g,(M g).isSome=true->gN ar g/\g.x.size<=2000/\g.y.size<=2000){a:Am}(O:oF ar a){gs:List Gd}(hf:rj M a gs):(gs.map fM).Perm (hs.filter (λh=>(gM a h iF).isSome)):=by
 obtain⟨ks,k1,k2,rfl⟩:=hf;have z:∀k∈ks,gN ar ⟨a.j,k.1,k.2⟩/\(M ⟨a.j,k.1,k.2⟩).isSome=true:=λk z=>by grind
 have e5:∀l:List (ByteArray×ByteArray),(∀k∈l,gN ar ⟨a.j,k.1,k.2⟩/\(M ⟨a.j,k.1,k.2⟩).isSome=true)->(l.filterMap (λk=>gK Ql a k.1 k.2)).map (λp=>qb p a)=(l.filter (λk=>(gK Ql a k.1 k.2).isSome)).map (λk=>(⟨a.j,k.1,k.2⟩:Gd)):=by
  intro l;induction l with
  |nil=>intro _;rfl
  |cons k l ih=>
   intro hl;have A:=ih (λk z=>hl k (zt z));cases hm:gK Ql a k.1 k.2 with
   |none=>rw[List.filterMap_cons_none (by exact hm),List.filter_cons_of_neg (by rw[hm];decide),A]
   |some p=>rw[List.filterMap_cons_some (by exact hm),List.filter_cons_of_pos (by rw[hm];rfl),cR,cR,A,(yu O (hl k zs).1 hm).2]
 rw[e5 ks z];refine (List.perm_ext_iff_of_nodup ?_ (c3.sublist cE)).2 (λh=>?_)
 .rw[cI,bX,cJ];refine cQ.imp (λ{p q} ah e=>?_) (bX.1 (k1.sublist cE));have:=xo e;simp only[Gd.mk.injEq,true_and] at this;exact ah (Prod.ext this.1 this.2)
 rw[bD,bB];constructor;{grind [DE]};rintro⟨E,G⟩;obtain⟨g,rfl⟩:=ce h E;have C:=(hM g).2 E;have⟨o1,o2,o3⟩:=ad g C;have hrel:a.j=g.j:=by{have⟨c,hc⟩:=bH.1 G;exact (wg hc).1};have⟨gr,gx,gy⟩:=g;simp only at hrel o2 o3;subst hrel;refine⟨⟨a.j,gx,gy⟩,bD.2 ⟨(gx,gy),bB.2 ⟨(k2 gx gy).2 ⟨bF o2 (by unfold maxLen;decide),bF o3 (by unfold maxLen;decide),C⟩,(DE O o1).2 G⟩,rfl⟩,rfl⟩
def Eu(E:∀g,(M g).isSome=true↔fM g∈hs)(A:hs.Nodup)(C:∀h∈hs,∃g,fM g=h)(z:∀g,(M g).isSome=true->gN ar g/\g.x.size<=2000/\g.y.size<=2000){a:Am}(G:oF ar a){gs:List Gd}(O:rj M a gs):oO gs=(lB [] ((hs.filter (λh=>(gM a h iF).isSome)).map lJ)).map (λx=>x.data.toList):=by rw[CO];unfold oO;refine Bc ?_;rw[cI];have h:=(Gt E A C z G O).map (λh=>(lJ h).data.toList);rw[cI] at h;refine cU.trans (cU.of_eq ?_) h;refine cD (λg _=>?_);show _=(lJ (fM g)).data.toList;rw[Cz]
