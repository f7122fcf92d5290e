/- A part -/
import Derived.Test.YtjajnhemgphefaaGreatDoorJEgV
set_option linter.all false
set_option maxRecDepth 100000
set_option maxHeartbeats 4000000
open List renaming length->aB,length_filter_le->aY,length_append->bE,toArray->bF
open Go.World renaming cell?->aC,frozen?->aD,ownsRow->aE
open Go.Value renaming ownBlock->aF,slice->aH,agg->aJ,bool->aK,tuple->aL,int->aM
open Go.Obj renaming cells->aN,map->bH
open Go.Ending renaming returned->aO
open Go.IntKind renaming i64->aP
open Or renaming inl->aQ,inr->aR
open Option renaming some->aV,none->aW
open Nat renaming le_trans->aX,lt_of_lt_of_le->aZ,le_refl->bG
open Go.RowKit.Below renaming refl->bB,heap_setCell->bD
open Go.Calls renaming mono->bC
open Go.RowKit renaming Below->bI
open Go.Value renaming string->aI
namespace Go.Proofs.YtjajnhemgphefaaGreatDoor
open Go renaming World->Wq,Value->Vq
open Go.RowKit Go.Shelf Go.Maps
variable {V:Wq} {S:Nat->Prop} {be N bm B rb ab ac k:Nat} {e:Eg} {l:List (Gd×Int)} {M':Gd->Option Int} {vr vn vk vf:Vq} {aa:List Nat} {m:Int} {Sf:Nat->Nat->Prop}
structure jZ(w:Wq)(S:Nat->Prop)(be N bm B:Nat)(e:Eg)(l:List (Gd×Int))(M':Gd->Option Int)(vr vn vk vf:Vq)(rb ab ac:Nat)(aa:List Nat)(m:Int)(k:Nat)(V:Wq):Prop where
 ex:∃(Sk:Nat->Prop) (Sfk:Nat->Nat->Prop) (L:List Fs),fR V Sk be {e with mark:=m,kept:=l,M:=M',fds:=L} vr vn vk vf B rb ab ac aa Sfk/\aB L=aB e.fds/\(∀i (h:i<aB e.fds) (h':i<aB L),i<k->wg e.M M' m e.que e.fds[i] L[i])/\(∀i (h:i<aB e.fds) (h':i<aB L),k<=i->L[i]=e.fds[i])/\∀j,Sk j->S j\/w.heap.size<=j
 chg:dD w V S
 md:eT V bm 5000 e.M
 box:V.heap[N]?=cC #[Pt be] 40
theorem jZ.blk{w:Wq}(h:jZ w S be N bm B e l M' vr vn vk vf rb ab ac aa m k V):V.heap[be]?=cC #[vr,aM aP e.win,aM aP e.lat,aM aP e.que,aM aP m,vn,vk,.map (aV B),vf] 101/\aE V 0 120 1 vf (aB aa) (aa.map lD):=by obtain⟨⟨A,z,L,d,_⟩,_⟩:=h;exact⟨d.blk,d.frow⟩
theorem jZ.drew{w:Wq}(h:jZ w S be N bm B e l M' vr vn vk vf rb ab ac aa m k V):jZ w S be N bm B e l M' vr vn vk vf rb ab ac aa m k V.drew:=by have⟨⟨Sk,Sfk,L,hv,h1,h2,h3,h4⟩,h5,h6,h7⟩:=h;exact⟨⟨Sk,Sfk,L,hv.below (bB _ V).drew,h1,h2,h3,h4⟩,h5.drew,h6.below (bB _ V).drew,h7⟩
theorem DL{w:Wq}(h:jZ w S be N bm B e l M' vr vn vk vf rb ab ac aa m k V)(hk:k<aB aa)(ad:dV e)(hM:∀g,(M' g).isSome=true->eO (dH e.rs) g/\g∈gD (gF e.rs) e.names):Cs 88 #[Pt (aa[k]),.map (aV bm),.map (aV B),Ii m,Ii e.que] V λen w'=>en=aO (aL #[])/\jZ w S be N bm B e l M' vr vn vk vf rb ab ac aa m (k+1) w':=by
 have⟨⟨Sk,Sfk,L,hv,hL,hd,hr,hs⟩,hc,av,aj⟩:=h;have bv:aB aa=aB L:=hv.len;have ck:k<aB L:=by omega
 have co:k<aB e.fds:=by omega
 have⟨b,hf⟩:=hv.feed k hk ck;have cy:L[k]=e.fds[k]:=hr k co ck (bG k);have cr:dZ V (Sfk k) aa[k] b L[k]:=hf;have ej:=ad.fds _ (zm co)
 cases hb:(e.fds[k]).behind with
 |true=>
  refine (Hs (Sfk k) aa[k] b L[k] bm B m e.que V cr (by grind)).mono ?_;rintro en w' ⟨rfl,rfl⟩;refine⟨rfl,⟨Sk,Sfk,L,hv,hL,λi d z Z=>?_,λi d z Z=>hr i d z (by omega),hs⟩,hc,av,aj⟩;by_cases O:i=k;{subst O;exact aQ ⟨hb,cy⟩};{grind}
 |false=>
  have ef:∀(rel x y:ByteArray),(M' ⟨rel,x,y⟩).isSome=true->x.size<=2000/\y.size<=2000:=λrel x y G=>by{have:=xJ ad.rs ad.nsz (hM _ G).2;exact⟨aX this.2.1 (by decide),aX this.2.2 (by decide)⟩};have b3:∀(P Q:Gd->Option Int) gs,(∀g,(P g).isSome=true->g∈gD (gF e.rs) e.names)->lR P Q (L[k]).form gs->aB gs<=100:=by{rintro P Q gs hP ⟨g0,da,rfl⟩;have d:=xS da hP ad.n8;have z:=aY (λg=>(Q g).isNone) g0;omega};refine (FT (Sfk k) aa[k] b L[k] bm B 5000 5000 e.M M' m e.que V cr (λj A=>(hv.sub k j A).2.lt) (by grind) (by grind) (by grind) av hv.md (by decide) (by decide) (λx y G=>uj ad _ x y G) (λx y G=>ef _ x y G) (λgs C=>b3 _ _ gs (λg C=>(ad.md g C).2) C) (λgs C=>b3 _ _ gs (λg C=>(hM g C).2) C)).mono ?_;rintro en w' ⟨rfl,g1,g2,f',cn,cx,c7,ak,cq⟩;have di:=hv.feedSet hk c7 ak;refine⟨rfl,⟨_,_,L.set k f',di,by simp[hL],λi d z Z=>?_,λi d z Z=>?_,λj A=>?_⟩,?_,?_,?_⟩
  .by_cases O:i=k;{subst O;rw[List.getElem_set_self];rw[cy] at cn cx cq;exact aR ⟨hb,g1,g2,cn,cx,cq⟩};{grind}
  .grind
  .rcases BX (λj A=>(hv.sub k j A).1) j A with d|d
   .exact hs j d
   .exact aR (aX hc.size d)
  .refine⟨ak.os.trans hc.os,ak.tape.trans hc.tape,ak.output.trans hc.output,aX hc.size ak.size,λj A hn=>(ak.block j (aZ A hc.size) (λE=>?_)).trans (hc.block j A hn)⟩;rcases hs j (hv.sub k j E).1 with d|d
   .exact hn d
   .omega
  .exact av.kept (λj es c hm=>(ak.block j (zg hm).1 (λE=>ik.notMap hm (hv.sub k j E).2.w)).trans hm)
  .refine (ak.block N (zg aj).1 (λE=>?_)).trans aj;have⟨c,t,d,z⟩:=(hv.sub k N E).2;rw[aj] at d;cases d;rcases z with z|z<;>cases z
theorem EW{w W3 W4:Wq}{S S2:Nat->Prop}{N bm B:Nat}{l:List (Gd×Int)}{M':Gd->Option Int}{vr vn vk vf:Vq}{rb ab ac:Nat}{aa:List Nat}{Sf:Nat->Nat->Prop}{m:Int}(G:fR W3 S2 be {e with mark:=m,kept:=l} vr vn vk vf bm rb ab ac aa Sf)(Z:∀k,S2 k->S k)(C:dD w W3 S)(aj:W3.heap[N]?=cC #[Pt be] 40)(A:bI W3.heap.size W3 W4)(hm:eT W4 B 5000 M'):aC W4 (Ad N 0)=aV (Pt be)/\aC W4 (Ad be 7)=aV (.map (aV bm))/\aD W4 (Ad be 7)=false/\jZ w S be N bm B e l M' vr vn vk vf rb ab ac aa m 0 (W4.setCell (Ad be 7) (.map (aV B))):=by
 have d:=G.below A;have cf:=(A.block N (zg aj).1).trans aj;have bn:=d.blk;have bc:N≠be:=λe=>by grind
 have hc:dD W4 (W4.setCell (Ad be 7) (.map (aV B))) (λk=>k=be\/aF vk=aV k):=(dD.refl W4 _).setCell (Ad be 7) _ (λ_=>aQ rfl);have au:∀(k:Nat) (o:Obj),W4.heap[k]?=aV o->k≠be->(W4.setCell (Ad be 7) (.map (aV B))).heap[k]?=aV o:=λk o hk bc=>(bD _ _ _ _ (by grind)).trans hk;have cg:∀j es c,W4.heap[j]?=aV (bH es c)->(W4.setCell (Ad be 7) (.map (aV B))).heap[j]?=aV (bH es c):=λj es c z=>au j _ z (λe=>by rw[e,d.blk] at z;cases z)
 have b6:=d.put (W':=W4.setCell (Ad be 7) (.map (aV B))) (e':={e with mark:=m,kept:=l,M:=M'}) (vn':=vn) (vk':=vk) (bm':=B) hc rfl rfl (qw d.blk 7 (.map (aV B)))
  (Qk d.names ⟨be,7,aW⟩ _ (Qe d.names d.blk (by decide))) (Qk d.kept ⟨be,7,aW⟩ _ (Qe d.kept d.blk (by decide))) (hm.kept cg)
 have O:dD w W4 S:=⟨A.os.trans C.os,A.tape.trans C.tape,A.output.trans C.output,aX C.size A.size,λj z hs=>(A.block j (aZ z C.size)).trans (C.block j z hs)⟩;refine⟨zc cf,zc bn,by simp[aD,bn],⟨_,Sf,e.fds,b6,rfl,λi _ _ hi=>by omega,λi _ _ _=>rfl,λj z=>?_⟩,O.setCell (Ad be 7) _ (λ_=>Z _ G.own.1),d.md.kept cg,au N _ cf bc⟩;rcases z with⟨E,_⟩|E|E
 .grind
 .exact aQ (Z j (G.own.2.1 j E))
 .exact aQ (Z j (G.own.2.2.2 j E))
theorem jZ.done{w:Wq}(h:jZ w S be N bm B e l M' vr vn vk vf rb ab ac aa m (aB aa) V)(E:e.kept.filter (λd=>!eZ e.win m d.2)=l)(C:ia e.rs (mQ e m++Qx e.rs) M'):∃e',qX e m e'/\Qm S be e' w V:=by have⟨⟨Sk,Sfk,L,hv,hL,hd,hr,hs⟩,hc,av,aj⟩:=h;have G:aB aa=aB L:=hv.len;refine⟨{e with mark:=m,kept:=l,M:=M',fds:=L},⟨M',L,C,hL,λi z A=>hd i z A (by omega),by rw[E]⟩,Sk,⟨_,_,_,_,_,_,_,_,_,_,hv⟩,hs,hc⟩
def tM(e:Eg):Prop:=∀(w V:Wq) (S:Nat->Prop) (be N bm B:Nat) (l:List (Gd×Int)) (M':Gd->Option Int) (vr vn vk vf:Vq) (rb ab ac:Nat) (aa:List Nat) (m:Int) (k:Nat) (_:jZ w S be N bm B e l M' vr vn vk vf rb ab ac aa m k V) (hk:k<aB aa) (_:∀g,(M' g).isSome=true->eO (dH e.rs) g/\g∈gD (gF e.rs) e.names),
  Calls Tryz.prog 88 #[.pointer (aV ⟨aa[k],0,aW⟩),.map (aV bm),.map (aV B),aM aP m,aM aP e.que] V λen w'=>en=aO (aL #[])/\jZ w S be N bm B e l M' vr vn vk vf rb ab ac aa m (k+1) w'
theorem Ij(ad:dV e):tM e:=λ_ _ _ _ _ _ _ _ _ _ _ _ _ _ _ _ _ _ _ h z d=>DL h z ad d
def ir(win m:Int)(l:List (Gd×Int)):List (Gd×Int):=(l.filter (λd=>decide (d.2<=m))).map (λd=>(d.1,d.2+win))
theorem CZ(win m:Int){l:List (Gd×Int)}{k:Nat}(h:k<aB l):ir win m (l.take (k+1))=ir win m (l.take k)++(if (l[k]).2<=m then [((l[k]).1,(l[k]).2+win)] else []):=by grind [ir,List.take_succ_eq_append_getElem]
theorem F6(win m:Int)(l:List (Gd×Int)):aB (ir win m l)<=aB l:=by unfold ir;rw[List.length_map];exact aY _ _
theorem EL:(Tryz.prog.info? 172).map (λi=>(i.zero,i.size,i.bytes))=aV (aV (aJ #[St ⟨#[]⟩,St ⟨#[]⟩,St ⟨#[]⟩,Ii 0]),4,56):=by kernel_rfl
theorem D3(v:Vq)(l:List (Gd×Int))(z be:Nat)(win mark:Int)(w:Wq)(M:aE w 0 161 4 v (aB l) (l.flatMap qx))(hl:aB l<=1000)(ad:∀d∈l,0<=d.2/\d.2<=1000000)(hw:0<=win/\win<=1000)(hx:w.heap[z]?=cC #[Pt be] 40)(G:Array Vq)(hb:w.heap[be]?=cC G 101)(h1:G[1]?=aV (Ii win))(h4:G[4]?=aV (Ii mark)):Cs 85 #[v,.func (.func 86) #[] #[Pt z]] w λe w'=>∃(O:Option Addr) (Z:Nat),e=aO (aH O (aB (l.filter (λd=>!eZ win mark d.2))) Z)/\aE w' 0 161 4 (aH O (aB (l.filter (λd=>!eZ win mark d.2))) Z) (aB (l.filter (λd=>!eZ win mark d.2))) ((l.filter (λd=>!eZ win mark d.2)).flatMap qx)/\aF (aH O (aB (l.filter (λd=>!eZ win mark d.2))) Z)=aF v/\dD w w' (λk=>aF v=aV k):=by
 obtain⟨h0,⟨C,hn⟩|⟨g,A,c8,C,c9,hh,k1,k2,k3,k4⟩⟩:=M
 .subst C;have hz:l=[]:=List.eq_nil_of_length_eq_zero hn;subst hz;refine (FX _ w).mono ?_;rintro e w' ⟨rfl,E⟩;exact⟨aW,0,rfl,⟨rfl,aQ ⟨rfl,rfl⟩⟩,rfl,dD.ofBelow _ E⟩
 .have M:aE w 0 161 4 v (aB l) (l.flatMap qx):=⟨h0,aR ⟨g,A,c8,C,c9,hh,k1,k2,k3,k4⟩⟩;have dd:z≠g:=λe=>by{grind};have ea:be≠g:=λe=>by{grind};refine (Gm v l 0 g A z (λd=>eZ win mark d.2) (λd=>0<=d.2/\d.2<=1000000) w C M hl ad (λW hW d hd=>?_)).mono ?_
  .have de:=(zg hx).1;have E:=(zg hb).1;have x1:=(hW.block z de dd).trans hx;have x2:=(hW.block be E ea).trans hb;refine IQ be z d win mark W (by simp[aC,x1]) (by grind) (by grind) ?_ ?_ hd hw;{simp only[aC,x2];simpa using h1};{simp only[aC,x2];simpa using h4}
  .rintro e w' ⟨rfl,ho,hc⟩;subst C;exact⟨_,_,rfl,ho,rfl,hc.mono (λk _ hk=>by rw[hk];rfl)⟩
theorem Da{w W2:Wq}{d:Vq}(M:fR w S be e vr vn vk vf bm rb ab ac aa Sf)(hN:w.heap.size=N){m:Int}{l:List (Gd×Int)}(hc:dD ((w.alloc (aN #[Pt be] 40)).setCell (Ad be 4) (Ii m)) W2 (λk=>aF vk=aV k))(ho:aE W2 0 161 4 d (aB l) (l.flatMap qx))(a9:aF d=aF vk):aC W2 (Ad N 0)=aV (Pt be)/\aC W2 (Ad be 6)=aV vk/\aD W2 (Ad be 6)=false/\∃S2:Nat->Prop,fR (W2.setCell (Ad be 6) d) S2 be {e with mark:=m,kept:=l} vr vn d vf bm rb ab ac aa Sf/\(∀k,S2 k->S k)/\dD w (W2.setCell (Ad be 6) d) S/\(W2.setCell (Ad be 6) d).heap[N]?=cC #[Pt be] 40:=by
 have C:bI w.heap.size w (w.alloc (aN #[Pt be] 40)):=(bB _ w).alloc zl _;have h0:=M.below C;have c0:=(zg M.blk).1;obtain⟨W0,am⟩:∃W0,w.alloc (aN #[Pt be] 40)=W0:=⟨_,rfl⟩;have eN:W0.heap[N]?=cC #[Pt be] 40:=by rw[<-am,<-hN];exact zn w _
 have ei:W0.heap.size=N+1:=by rw[<-am,<-hN];simp
 rw[am] at hc h0 C;have bn:aF vk≠aV be:=λhs=>by have⟨_,c,z⟩:=qd h0.kept hs;rw[h0.blk] at z;cases z
 have eb:aF vk≠aV N:=λhs=>by have⟨_,c,z⟩:=qd h0.kept hs;rw[eN] at z;cases z
 have Z:W2.heap[be]?=cC #[vr,Ii e.win,Ii e.lat,Ii e.que,Ii m,vn,vk,.map (aV bm),vf] 101:=
  (hc.block be (by simp;omega) bn).trans (qw h0.blk 4 (Ii m))
 have c1:dD W0 W2 (λk=>k=be\/aF vk=aV k):=by have A:dD W0 (W0.setCell (Ad be 4) (Ii m)) (λk=>k=be\/aF vk=aV k):=(dD.refl W0 _).setCell (Ad be 4) _ (λ_=>aQ rfl);exact A.trans (hc.mono (λk _ G=>aR G))
 have E:dD W0 (W2.setCell (Ad be 6) d) (λk=>k=be\/aF vk=aV k):=c1.setCell (Ad be 6) d (λ_=>aQ rfl)
 have au:∀(k:Nat) (o:Obj),W0.heap[k]?=aV o->(∀c,o≠aN c 101)->(∀c,o≠aN c 161)->(W2.setCell (Ad be 6) d).heap[k]?=aV o:=by
  intro j o O A h2;refine (E.block j (zg O).1 ?_).trans O;rintro (rfl|hs);{rw[h0.blk] at O;cases O;exact A _ rfl};{have⟨_,c',z⟩:=qd h0.kept hs;rw[O] at z;cases z;exact h2 _ rfl}
 have b6:=h0.put (W':=W2.setCell (Ad be 6) d) (e':={e with mark:=m,kept:=l}) (vn':=vn) (vk':=d) (bm':=bm) E rfl rfl (qw Z 6 d)
  (Qc h0.names (λg c _ z=>au g _ z (by simp) (by simp)))
  (Qk ho ⟨be,6,aW⟩ d (Qe ho Z (by decide)))
  (h0.md.kept (λj es c hm=>au j _ hm (by simp) (by simp)))
 have bN:W2.heap[N]?=cC #[Pt be] 40:=(c1.block N (by omega) (λe=>e.elim (λe=>by rw[hN] at c0;omega) eb)).trans eN;refine⟨zc bN,zc Z,by simp[aD,Z],_,b6,λk G=>?_,?_,au N _ eN (by simp) (by simp)⟩
 .rcases G with⟨A,_⟩|A|A
  .exact A
  .exact M.own.2.1 k (a9.symm.trans A)
  .exact M.own.2.2.2 k A
 .refine⟨E.os.trans C.os,E.tape.trans C.tape,E.output.trans C.output,aX C.size E.size,λk G hs=>(E.block k (aZ G C.size) (λe=>hs ?_)).trans (C.block k G)⟩;rcases e with rfl|e
  .exact M.own.1
  .exact M.own.2.1 k e
theorem Ef(S:Nat->Prop)(be:Nat)(e:Eg)(m:Int)(w:Wq)(h:gN w S be e)(ad:dV e)(hm:0<=m/\m<=1000000)(aq:tM e):Cs 46 #[.pointer (aV ⟨be,0,aW⟩),aM aP m] w λen w'=>en=aO (aL #[])/\∃e',qX e m e'/\Qm S be e' w w':=by
 have d3:Hid (tM e):=aq;clear aq;obtain⟨vr,vn,vk,vf,bm,rb,ab,ac,aa,Sf,hv⟩:=h;obtain⟨N,hN⟩:∃N,w.heap.size=N:=⟨_,rfl⟩;have c0:=hv.lt;obtain⟨M,Z,d0⟩:=qq hv.kept;subst d0;obtain⟨fa,fc,dn⟩:=qq hv.frow;subst dn;obtain⟨ra,rc,dt⟩:=hv.rules.form;subst dt;have hV:Hid (fR w S be e (aH ra (aB e.rs) rc) vn (aH M (aB e.kept) Z) (aH fa (aB aa) fc) bm rb ab ac aa Sf):=hv;have E:Hid (dV e):=ad;have HN:Hid (w.heap.size=N):=hN;obtain⟨W0,am⟩:∃W0,w.alloc (aN #[.pointer (aV ⟨be,0,aW⟩)] 40)=W0:=⟨_,rfl⟩;have ag:bI w.heap.size w W0:=by rw[<-am];exact (bB _ w).alloc zl _
 have h0:=hv.below ag;have eN:W0.heap[N]?=cC #[.pointer (aV ⟨be,0,aW⟩)] 40:=by rw[<-am,<-hN];exact zn w _
 have bc:N≠be:=by omega
 have c4:aC W0 (Ad be 4)=aV (aM aP e.mark):=by have:=h0.blk;simp[aC,this]
 have y4:aD W0 (Ad be 4)=false:=by have:=h0.blk;simp[aD,this]
 have a0:aC W0 (Ad N 0)=aV (.pointer (aV ⟨be,0,aW⟩)):=zc eN;obtain⟨W1,a6⟩:∃W1,W0.setCell (Ad be 4) (aM aP m)=W1:=⟨_,rfl⟩;have e1:W1.heap[be]?=cC #[aH ra (aB e.rs) rc,aM aP e.win,aM aP e.lat,aM aP e.que,aM aP m,vn,aH M (aB e.kept) Z,.map (aV bm),aH fa (aB aa) fc] 101:=by rw[<-a6];exact qw h0.blk 4 (aM aP m)
 have bu:W1.heap[N]?=cC #[.pointer (aV ⟨be,0,aW⟩)] 40:=by rw[<-a6];exact (bD _ _ _ _ (by show N≠be;exact bc)).trans eN
 have c6:aC W1 (Ad be 6)=aV (aH M (aB e.kept) Z):=zc e1;have a1:aC W1 (Ad N 0)=aV (.pointer (aV ⟨be,0,aW⟩)):=zc bu;have cu:aE W1 0 161 4 (aH M (aB e.kept) Z) (aB e.kept) (e.kept.flatMap qx):=by rw[<-a6];exact Qk h0.kept ⟨be,4,aW⟩ _ (Qe h0.kept h0.blk (by decide))
 have b7:Hid (Cs 85 #[aH M (aB e.kept) Z,.func (.func 86) #[] #[.pointer (aV ⟨N,0,aW⟩)]] W1.drew λe' w'=>∃(z:Option Addr) (A:Nat),e'=aO (aH z (aB (e.kept.filter (λd=>!eZ e.win m d.2))) A)/\aE w' 0 161 4 (aH z (aB (e.kept.filter (λd=>!eZ e.win m d.2))) A) (aB (e.kept.filter (λd=>!eZ e.win m d.2))) ((e.kept.filter (λd=>!eZ e.win m d.2)).flatMap qx)/\aF (aH z (aB (e.kept.filter (λd=>!eZ e.win m d.2))) A)=aF (aH M (aB e.kept) Z)/\dD W1.drew w' (λk=>aF (aH M (aB e.kept) Z)=aV k)):=
  D3 (aH M (aB e.kept) Z) e.kept N be e.win m W1.drew cu (by have:=ad.k24;omega) (λd hd=>(ad.kept d hd).2.2) ⟨by have:=ad.win;omega,ad.win.2⟩ bu _ e1 rfl rfl
 have b0:Hid (∀W2 (z:Option Addr) (A:Nat),dD W1.drew W2 (λk=>aF (aH M (aB e.kept) Z)=aV k)->aE W2 0 161 4 (aH z (aB (e.kept.filter (λd=>!eZ e.win m d.2))) A) (aB (e.kept.filter (λd=>!eZ e.win m d.2))) ((e.kept.filter (λd=>!eZ e.win m d.2)).flatMap qx)->aF (aH z (aB (e.kept.filter (λd=>!eZ e.win m d.2))) A)=aF (aH M (aB e.kept) Z)->aC W2 (Ad N 0)=aV (.pointer (aV ⟨be,0,aW⟩))/\aC W2 (Ad be 6)=aV (aH M (aB e.kept) Z)/\aD W2 (Ad be 6)=false/\Hid (∃S2:Nat->Prop,fR (W2.setCell (Ad be 6) (aH z (aB (e.kept.filter (λd=>!eZ e.win m d.2))) A)) S2 be {e with mark:=m,kept:=e.kept.filter (λd=>!eZ e.win m d.2)} (aH ra (aB e.rs) rc) vn (aH z (aB (e.kept.filter (λd=>!eZ e.win m d.2))) A) (aH fa (aB aa) fc) bm rb ab ac aa Sf/\(∀k,S2 k->S k)/\dD w (W2.setCell (Ad be 6) (aH z (aB (e.kept.filter (λd=>!eZ e.win m d.2))) A)) S/\(W2.setCell (Ad be 6) (aH z (aB (e.kept.filter (λd=>!eZ e.win m d.2))) A)).heap[N]?=cC #[.pointer (aV ⟨be,0,aW⟩)] 40)):=λW2 z A hc ho a9=>by rw[<-a6,<-am] at hc;exact Da hV.o hN (l:=e.kept.filter (λd=>!eZ e.win m d.2)) ⟨hc.os,hc.tape,hc.output,hc.size,hc.block⟩ ho a9
 obtain⟨l,hl⟩:∃l,e.kept.filter (λd=>!eZ e.win m d.2)=l:=⟨_,rfl⟩;have HL:Hid (e.kept.filter (λd=>!eZ e.win m d.2)=l):=hl;rw[hl] at b7 b0;clear hl hv h0 eN e1 bu cu ad ag;generalize hkl:aB l=kl at *;have a7:Hid (aB l=kl):=hkl;clear hkl;go_enter Tryz.func46,Tryz.ntmps46;go_wp2_with fail;refine wp_mono (Q:=λen a' W3=>match en with|Exit.normal=>∃(z:Option Addr) (A:Nat),Hid (∃S2:Nat->Prop,fR W3 S2 be {e with mark:=m,kept:=l} (aH ra (aB e.rs) rc) vn (aH z kl A) (aH fa (aB aa) fc) bm rb ab ac aa Sf/\(∀k,S2 k->S k)/\dD w W3 S/\W3.heap[N]?=cC #[.pointer (aV ⟨be,0,aW⟩)] 40)/\a'={tmps:=bF (.pointer (aV ⟨be,0,aW⟩)::aM aP m::.pointer (aV ⟨N,0,aW⟩)::undef::undef::undef::undef::undef::undef::undef::.pointer (aV ⟨be,0,aW⟩)::aM aP m::.pointer (aV ⟨be,0,aW⟩)::.pointer (aV ⟨be,4,aW⟩)::.pointer (aV ⟨be,0,aW⟩)::.pointer (aV ⟨be,0,aW⟩)::.pointer (aV ⟨be,0,aW⟩)::.pointer (aV ⟨be,6,aW⟩)::aH M (aB e.kept) Z::.func (.func 86) #[] #[.pointer (aV ⟨N,0,aW⟩)]::aH z kl A::.pointer (aV ⟨be,0,aW⟩)::.pointer (aV ⟨be,6,aW⟩)::undef::undef::undef::undef::undef::undef::undef::undef::undef::undef::undef::undef::undef::undef::undef::undef::undef::undef::undef::undef::undef::undef::undef::undef::undef::undef::undef::undef::undef::undef::undef::undef::undef::undef::undef::undef::undef::undef::undef::undef::undef::undef::undef::undef::undef::undef::undef::undef::undef::undef::undef::undef::undef::undef::undef::undef::undef::undef::undef::[]),defers:=[]}|_=>False) ?reg ?rest
 case reg=>
  first|(go_region_with (go_at_call 85;refine bC b7.o ?_;rintro e' W2 ⟨z,A,rfl,ho,a9,hc⟩;obtain⟨dN,d6,z6,dx⟩:=b0.o W2 z A hc ho a9))|fail
  all_goals exact⟨z,A,dx,rfl⟩
 case rest=>
  rintro (_|_|_|_|_|_) a' W3 hq
  all_goals first|exact hq.elim|skip
  obtain⟨z,A,⟨S2,h3,aw,ai,a8⟩,rfl⟩:=hq;clear c4 y4 a0 c6 a1 b7 b0 a6 am;have a3:aC W3 (Ad N 0)=aV (.pointer (aV ⟨be,0,aW⟩)):=zc a8;have q3:=h3.blk;have k6:aC W3 (Ad be 6)=aV (aH z kl A):=zc q3;clear q3;have eh:kl<=24:=by have C:=HL.o;have h2:=aY (λd:Gd×Int=>!eZ e.win m d.2) e.kept;have h3:=E.o.k24;rw[C,a7.o] at h2;omega
  have dz:Hid (aE W3 0 161 4 (aH z (aB l) A) (aB l) (l.flatMap qx)):=by have C:=h3.kept;show aE _ _ _ _ _ _ _;rw[a7.o];rw[show aB ({e with mark:=m,kept:=l}:Eg).kept=kl from a7.o] at C;exact C
  have bd:Hid (fR W3 S2 be {e with mark:=m,kept:=l} (aH ra (aB e.rs) rc) vn (aH z kl A) (aH fa (aB aa) fc) bm rb ab ac aa Sf):=h3;have ch:Hid (be<W3.heap.size/\N<W3.heap.size):=⟨h3.lt,(zg a8).1⟩;have bi:Hid (∀V,bI W3.heap.size W3 V->aC V (Ad N 0)=aV (.pointer (aV ⟨be,0,aW⟩))/\aC V (Ad be 1)=aV (aM aP e.win)/\aC V (Ad be 7)=aV (.map (aV bm))/\aC V (Ad be 0)=aV (aH ra (aB e.rs) rc)/\aD V (Ad be 7)=false):=λV G=>by have C:=(bd.o.below G).blk;have h2:=(G.block N ch.o.2).trans a8;exact⟨zc h2,zc C,zc C,zc C,by simp[aD,C]⟩
  have dh:Hid (∀V,bI W3.heap.size W3 V->∀t:Int,0<=t/\t<=1000000->Cs 87 #[.pointer (aV ⟨be,0,aW⟩),aM aP t] V λe' w'=>e'=aO (aM aP (t+e.win))/\V=w'):=λV G t ht=>by refine (yH be t e.win V (bi.o V G).2.1 ht ⟨by have:=E.o.win;omega,E.o.win.2⟩).mono ?_;rintro e' w' ⟨C,h2⟩;exact⟨C,h2.symm⟩
  have Qkv:Hid (∀d∈l,0<=d.2/\d.2<=1000000):=λd hd=>by rw[<-HL.o] at hd;exact (E.o.kept d (List.mem_filter.1 hd).1).2.2
  obtain⟨i0,hi,dg,d7,dv⟩:=info_parts EL;have Qjm:Hid _:=aw;have df:Hid _:=ai;have dk:Hid _:=a8;clear h3 aw ai a8;go_wp2_with fail
  go_loopw [4,28] (λvq vi wr=>∃(k:Nat) (qa:Option Addr) (qc:Nat),vq=aH qa (aB (ir e.win m (l.take k))) qc/\vi=aM aP k/\k<=kl/\aE wr W3.heap.size 172 4 (aH qa (aB (ir e.win m (l.take k))) qc) (aB (ir e.win m (l.take k))) ((ir e.win m (l.take k)).flatMap qx)/\bI W3.heap.size W3 wr) (λ_ vi _=>kl-(intOf vi).toNat)
  case atStart=>exact⟨0,aW,0,rfl,rfl,zz,⟨rfl,aQ ⟨rfl,rfl⟩⟩,zr⟩
  case round=>
   obtain⟨k,qa,qc,rfl,rfl,hk,qt,G⟩:=hrel;have cd:W3.heap.size<=wr.heap.size:=G.size;by_cases bq:k<kl
   .have i1:(k:Int)<(kl:Int):=by omega
    have bf:k<aB l:=by rw[a7.o];exact bq
    obtain⟨g,c,e0,x0,x1,x2,x3,hg⟩:=rZ (qj dz.o G) bf;cases e0;have Q9:Hid _:=CZ e.win m bf;have b3:aB (ir e.win m (l.take k))<=24:=by have:=F6 e.win m (l.take k);rw[List.length_take] at this;omega
    have hd:=Qkv.o _ (zm bf);have HD:Hid _:=hd;generalize hlkd:l[k]=d at *;have ec:=bi.o wr G;obtain⟨n0,n1,_,_,_⟩:=ec;have HB:Hid _:=G;have HO:Hid _:=qt;generalize hF:ir e.win m (l.take k)=F at *;clear hF hlkd hd bf G qt;by_cases ct:d.2<=m
    .rw[if_pos ct] at Q9;have c3:Hid (∀O,bI W3.heap.size W3 (wr.alloc O).drew/\bI W3.heap.size W3 (wr.alloc O)):=λO=>⟨(HB.o.alloc cd O).drew,HB.o.alloc cd O⟩;have Qmn:N≠wr.heap.size:=by have:=ch.o.2;omega
     obtain⟨V1,ca⟩:∃V1,(wr.alloc (aN #[aI d.1.rel,aI d.1.x,aI d.1.y,aM aP d.2] 161)).drew=V1:=⟨_,rfl⟩;have bh:bI W3.heap.size W3 V1:=by rw[<-ca];exact (c3.o _).1
     have eV:V1.heap[wr.heap.size]?=cC #[aI d.1.rel,aI d.1.x,aI d.1.y,aM aP d.2] 161:=by rw[<-ca];exact zn wr _
     have p0:∀j,aC V1 (Ad wr.heap.size j)=([aI d.1.rel,aI d.1.x,aI d.1.y,aM aP d.2]:List Vq)[j]?:=λj=>by simp[aC,eV]
     obtain⟨pn,_,_,_,_⟩:=bi.o V1 bh;have cj:aE V1 W3.heap.size 172 4 (aH qa (aB F) qc) (aB F) (F.flatMap qx):=by rw[<-ca];have:=aE.alloc HO.o (aN #[aI d.1.rel,aI d.1.x,aI d.1.y,aM aP d.2] 161);exact⟨this.1,this.2⟩
     have Qlk:W3.heap.size<=V1.heap.size:=bh.size;have dr:aB F+1<=maxLen:=by unfold maxLen;omega
     have dc:(aB F+1)*56<=140737488355328:=by omega
     have d8:Hid (∀O w1,(V1.alloc O).grownBy w1 (aF (aH qa (aB F) qc))->bI W3.heap.size W3 w1):=λO w1 hg=>(bh.alloc Qlk O).grown hg (by simp;omega) (λj e=>(qd cj e).1);clear eV;go_wp2_with fail
     go_region_law (first|(refine pV rfl (.tmp 36) (.tmp 44) 169 rfl W3.heap.size 172 i0 (aJ #[aI ⟨#[]⟩,aI ⟨#[]⟩,aI ⟨#[]⟩,aM aP 0]) 4 56 Tryz.underlying169 hi dg d7 dv rfl (by decide) (aH qa (aB F) qc) (aB F) (F.flatMap qx) (by simp[Act.eval,Act.put]) (aE.alloc cj _) ⟨V1.heap.size,0,aW⟩ 1 1 [aI d.1.rel,aI d.1.x,aI d.1.y,aM aP (d.2+e.win)] (by simp[Act.eval,Act.put]) rfl (mF _ _ _ _ _ _) (by simp[Value.oneCell']) dr dc (by simp;omega) ?_;intro v' w1 al ao;obtain⟨g',b5,cb⟩:=ownsRow_succ al;subst cb)|(go_simp;go_wp2_with (go_at_call 87;refine (dh.o V1 bh d.2 HD.o).mono ?_;rintro e' w' ⟨rfl,an⟩;subst an)))
     all_goals (
      go_wp2;refine⟨⟨k+1,aV ⟨g',0,aW⟩,b5,?_,by go_num,by omega,?_,d8.o _ w1 ao⟩,by simp[intOf];omega⟩
      .rw[Q9.o,bE];rfl
      .rw[Q9.o,bE,List.flatMap_append]
       exact al)
    .rw[if_neg ct,List.append_nil] at Q9;go_wp2
     go_roundw
     case rel=>
      refine⟨k+1,qa,qc,?_,by go_num,by omega,?_,HB.o.alloc cd _⟩
      .rw[Q9.o]
      .rw[Q9.o];exact aE.alloc HO.o _
     case measure=>simp[intOf];omega
   .have c5:k=kl:=by omega
    subst c5;have d2:Hid (ir e.win m (l.take k)=ir e.win m l):=by show _=_;rw[List.take_of_length_le (by rw[a7.o];exact bG _)]
    rw[d2.o] at qt ⊢;obtain⟨n0,n1,n7,dm,y7⟩:=bi.o wr G;have b9:bI W3.heap.size W3 wr.drew:=G.drew
    have ci:Hid (Cs 75 #[aH ra (aB e.rs) rc,aH qa (aB (ir e.win m l)) qc] wr.drew λe' w'=>∃B M',e'=aO (.map (aV B))/\eT w' B 5000 M'/\ia e.rs (ir e.win m l++Qx e.rs) M'/\bI wr.drew.heap.size wr.drew w'):=by
     have hF:tq e.rs e.names (ir e.win m l):=by have:=wh E.o m;unfold mQ at this;rw[HL.o] at this;exact this
     refine (Cb (dH e.rs) e.rs (ir e.win m l) (gD (gF e.rs) e.names) _ _ rb ab ac W3.heap.size wr.drew (yo E.o.rs E.o.n8 E.o.nsz E.o.nrs hF) (bd.o.below b9).rules ⟨qt.1,qt.2⟩).mono ?_;rintro e' w' ⟨B,M',C,h2,h3,_,h4⟩;exact⟨B,M',C,g9.at' h2,h3,h4⟩
    have cl:Hid (∀W4 B M',bI wr.drew.heap.size wr.drew W4->eT W4 B 5000 M'->aC W4 (Ad N 0)=aV (.pointer (aV ⟨be,0,aW⟩))/\aC W4 (Ad be 7)=aV (.map (aV bm))/\aD W4 (Ad be 7)=false/\jZ w S be N bm B e l M' (aH ra (aB e.rs) rc) vn (aH z k A) (aH fa (aB aa) fc) rb ab ac aa m 0 (W4.setCell (Ad be 7) (.map (aV B)))):=λW4 B M' C h2=>EW bd.o Qjm.o df.o dk.o (b9.trans (C.mono b9.size)) h2;clear qt G;go_wp2_with fail;refine wp_mono (Q:=λen a' W5=>match en with|Exit.normal=>∃(B:Nat),Hid (∃M',ia e.rs (ir e.win m l++Qx e.rs) M'/\jZ w S be N bm B e l M' (aH ra (aB e.rs) rc) vn (aH z k A) (aH fa (aB aa) fc) rb ab ac aa m 0 W5)/\a'={tmps:=bF (.pointer (aV ⟨be,0,aW⟩)::aM aP m::.pointer (aV ⟨N,0,aW⟩)::undef::aH qa (aB (ir e.win m l)) qc::undef::u6::.map (aV bm)::undef::undef::.pointer (aV ⟨be,0,aW⟩)::aM aP m::.pointer (aV ⟨be,0,aW⟩)::.pointer (aV ⟨be,4,aW⟩)::.pointer (aV ⟨be,0,aW⟩)::.pointer (aV ⟨be,0,aW⟩)::.pointer (aV ⟨be,0,aW⟩)::.pointer (aV ⟨be,6,aW⟩)::aH M (aB e.kept) Z::.func (.func 86) #[] #[.pointer (aV ⟨N,0,aW⟩)]::aH z k A::.pointer (aV ⟨be,0,aW⟩)::.pointer (aV ⟨be,6,aW⟩)::.pointer (aV ⟨be,0,aW⟩)::.pointer (aV ⟨be,0,aW⟩)::.pointer (aV ⟨be,6,aW⟩)::aH z k A::aM aP k::aM aP k::aK false::u30::u31::u32::u33::u34::u35::u36::u37::u38::u39::u40::u41::u42::u43::u44::u45::u46::.pointer (aV ⟨be,0,aW⟩)::.pointer (aV ⟨be,0,aW⟩)::.pointer (aV ⟨be,7,aW⟩)::.map (aV bm)::.pointer (aV ⟨be,0,aW⟩)::.pointer (aV ⟨be,0,aW⟩)::.pointer (aV ⟨be,0,aW⟩)::.pointer (aV ⟨be,0,aW⟩)::aH ra (aB e.rs) rc::aH qa (aB (ir e.win m l)) qc::.map (aV B)::.pointer (aV ⟨be,0,aW⟩)::.pointer (aV ⟨be,7,aW⟩)::undef::undef::undef::undef::undef::undef::undef::undef::undef::undef::undef::undef::undef::undef::undef::undef::undef::undef::undef::undef::undef::undef::[]),defers:=[]}|_=>False) ?reg2 ?rest2
    case reg2=>
     first|(go_region_with (go_at_call 75;refine bC ci.o ?_;rintro e' W4 ⟨B,M',rfl,av,bk,ee⟩;obtain⟨m0,m7,eo,ae⟩:=cl.o W4 B M' ee av))|fail
     all_goals exact⟨B,⟨M',bk,ae⟩,rfl⟩
    case rest2=>
     rintro (_|_|_|_|_|_) a' W5 hq
     all_goals first|exact hq.elim|skip
     obtain⟨B,⟨M',bk,ae⟩,rfl⟩:=hq;have cw:Hid _:=bk;have dw:Hid (jZ w S be N bm B e l M' (aH ra (aB e.rs) rc) vn (aH z k A) (aH fa (aB aa) fc) rb ab ac aa m 0 W5):=ae;have o1:=ae.blk.1;have o2:=ae.box;have o0:aC W5 (Ad N 0)=aV (.pointer (aV ⟨be,0,aW⟩)):=zc o2;have o8:aC W5 (Ad be 8)=aV (aH fa (aB aa) fc):=zc o1;have cz:Hid (mQ e m=ir e.win m l):=by show _=_;unfold mQ;rw[HL.o];rfl
     have Qjt:Hid (∀g,(M' g).isSome=true->eO (dH e.rs) g/\g∈gD (gF e.rs) e.names):=by have C:=wh E.o m;rw[cz.o] at C;exact uC E.o.rs E.o.nrs C cw.o
     have eg:aB aa<=3:=by have C:=bd.o.len;have h2:=E.o.f3;rw[show aB ({e with mark:=m,kept:=l}:Eg).fds=aB e.fds from rfl] at C;omega
     clear o1 o2 ae bk n0 n1 n7 dm y7 ci cl a3 k6;go_wp2_with fail
     go_loopw [65] (λvi wr=>∃j:Nat,vi=aM aP j/\j<=aB aa/\Hid (jZ w S be N bm B e l M' (aH ra (aB e.rs) rc) vn (aH z k A) (aH fa (aB aa) fc) rb ab ac aa m j wr)) (λvi _=>aB aa-(intOf vi).toNat)
     case atStart=>exact⟨0,rfl,zz,dw⟩
     case round=>
      obtain⟨j,rfl,hj,ae⟩:=hrel;by_cases ce:j<aB aa
      .have i1:(j:Int)<(aB aa:Int):=by omega
       have o1:=ae.o.blk.1;have o2:=ae.o.box;obtain⟨g,c,e0,xj,hg⟩:=Ck ae.o.blk.2 ce;cases e0;have o0:aC wr (Ad N 0)=aV (.pointer (aV ⟨be,0,aW⟩)):=zc o2;have o3:aC wr (Ad be 3)=aV (aM aP e.que):=zc o1;have o7:aC wr (Ad be 7)=aV (.map (aV B)):=zc o1;have ed:Hid _:=d3.o _ _ _ _ _ _ _ _ _ _ _ _ _ _ _ _ _ _ _ ae.o.drew ce Qjt.o;clear o1 o2;generalize aa[j]=bj at *;go_wp2_with fail
       first|(go_region_with (go_at_call 88;refine bC ed.o ?_;rintro e' W6 ⟨rfl,bb⟩;have du:Hid _:=bb;clear bb))|fail
       all_goals (
        go_wp2
        refine⟨⟨j+1,by go_num,by omega,du.o⟩,by simp[intOf];omega⟩)
      .have dl:j=aB aa:=by omega
       subst dl;have HD:=ae.o.done HL.o (by rw[cz.o];exact cw.o);have d5:Hid _:=HD;clear HD;go_wp2
       go_end0
       exact⟨rfl,d5.o⟩
def DO(S:Nat->Prop)(be:Nat)(e:Eg)(c:Int)(w:Wq)(en:Ending)(w':Wq):Prop:=
 ∃e' r,oF e c e' r/\en=aO (aL #[aM aP r.1,aM aP r.2])/\Qm S be e' w w'
theorem DD(S:Nat->Prop)(be:Nat)(e:Eg)(c:Int)(w:Wq)(h:gN w S be e)(ad:dV e)(aq:tM e):Cs 22 #[Pt be,Ii c] w (DO S be e c w):=by
 have G:=aA h;have A:Hid (∀W,Cs 43 #[Ii c,Ii 0,Ii 1000000] W λe' w'=>e'=aO (aK (decide (0<=c) && decide (c<=1000000)))/\W=w'):=λW=>by grind [qI]
 by_cases d:0<=c/\c<=1000000
 .have ax:(decide (0<=c) && decide (c<=1000000))=true:=by{simp[d.1,d.2]};rw[ax] at A;have⟨vr,vn,vk,vf,bm,rb,ab,ac,aa,Sf,hv⟩:=h;have E:=hv.blk;have c2:aC w (Ad be 2)=aV (Ii e.lat):=zc E;have c4:aC w (Ad be 4)=aV (Ii e.mark):=zc E;have hl:=ad.lat;have el:aP.wrap (c-e.lat)=c-e.lat:=pE _ (by omega) (by omega);have Z:=ad.mark;have C:=aA d;by_cases d9:e.mark<c-e.lat
  .have ae:Hid (Cs 46 #[Pt be,Ii (c-e.lat)] w λen w'=>en=aO (aL #[])/\∃e',Hid (qX e (c-e.lat) e')/\Hid (Qm S be e' w w')/\aC w' (Ad be 4)=aV (Ii (c-e.lat))):=by
    refine (Ef S be e (c-e.lat) w G.o ad ⟨by omega,by omega⟩ aq).mono ?_;rintro en w' ⟨h1,e',h2,h3⟩;have dy:=h3;have⟨S',⟨ek,vn',vk',vf',bm',em,db,dj,dq,Sf',cb⟩,_⟩:=h3;have O:e'.mark=c-e.lat:=by{obtain⟨M',b4,_,_,_,rfl⟩:=h2;rfl};have dp:=cb.blk;exact⟨h1,e',h2,dy,by rw[<-O];simp[aC,dp]⟩
   have M:=aA d9;clear hv E d ax ad hl Z aq;go_enter Tryz.func22,Tryz.ntmps22
   go_wp2_with (first|(go_at_call 43;refine (A.o _).mono ?_;rintro e' w' ⟨rfl,z⟩;subst z)|(go_at_call 46;refine bC ae.o ?_;rintro e' W1 ⟨rfl,e1,cv,d1,d4⟩))
   go_ret2;have O:e1.mark=c-e.lat:=by{obtain⟨M',b4,_,_,_,rfl⟩:=cv.o;rfl};exact⟨e1,(c-e.lat,0),aR ⟨C.o,by rw[O],aR ⟨M.o,cv.o⟩⟩,rfl,d1.o⟩
  .have M:Hid (c-e.lat<=e.mark):=by{show _<=_;omega};clear hv E d ax ad hl Z aq;go_enter Tryz.func22,Tryz.ntmps22
   go_wp2_with (go_at_call 43;refine (A.o _).mono ?_;rintro e' w' ⟨rfl,z⟩;subst z)
   go_ret2;exact⟨e,(e.mark,0),aR ⟨C.o,rfl,aQ ⟨M.o,rfl⟩⟩,rfl,Qm.same G.o zr⟩
 .have ax:(decide (0<=c) && decide (c<=1000000))=false:=by{rw[Bool.and_eq_false_iff];simp only[decide_eq_false_iff_not];omega};rw[ax] at A;have C:=aA d;clear d ax h ad aq;go_enter Tryz.func22,Tryz.ntmps22
  go_wp2_with (go_at_call 43;refine (A.o _).mono ?_;rintro e' w' ⟨rfl,z⟩;subst z)
  go_ret2;exact⟨e,(0,6),aQ ⟨C.o,rfl,rfl⟩,rfl,Qm.same G.o zr⟩
