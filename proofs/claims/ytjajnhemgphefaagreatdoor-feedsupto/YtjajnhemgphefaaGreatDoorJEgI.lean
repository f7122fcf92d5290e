/- A part -/
import Derived.Test.YtjajnhemgphefaaGreatDoorJFd5
import Derived.Test.YtjajnhemgphefaaGreatDoorJEgG
import Derived.ChangeKeysEq
set_option linter.all false
set_option maxRecDepth 100000
set_option maxHeartbeats 4000000
open List renaming length->aB,flatMap_append->bC,length_append->bD,append_assoc->bE,not_mem_nil->bF,mem_cons->bG
open Go.World renaming cell?->aC,frozen?->aD,ownsRow->aE,size_alloc->aZ
open Go.Value renaming slice->aH,string->aI,agg->aJ,bool->aK,tuple->aL,int->aM
open Go.Obj renaming cells->aN
open Go.Ending renaming returned->aO
open Go.IntKind renaming i64->aP
open Or renaming inl->aQ,inr->aR
open Option renaming some->aV,none->aW
open Go.RowKit.Below renaming heap_alloc->aX,heap_setCell->aY,refl->bB,cell->bH
open Go.RowKit renaming Below->bI
namespace Go.Proofs.YtjajnhemgphefaaGreatDoor
open Go renaming World->Wq,Value->Vq
open Go.RowKit Go.Shelf Go.Maps
def lR(M M2:Gd->Option Int)(a:Am)(gs:List Gd):Prop:=∃g0,nB M a g0/\gs=g0.filter (λg=>(M2 g).isNone)
def Qr(kind:Int)(gs:List Gd):List Rc:=iO kind (fO (gs.map (λg=>(dY g).data.toList)))
theorem oR(d:Int)(gs:List Gd):aB (Qr d gs)=aB gs:=by unfold Qr iO;rw[List.length_map];exact ((List.mergeSort_perm _ _).length_eq).trans (by simp)
theorem BL(B B2 C n2 ac:Nat)(z M2:Gd->Option Int)(a:Am)(va:Vq)(d:Int)(O M Z:Nat)(W:Wq)(ao:nR O M Z B B2 C n2 ac z M2 a va W)(A:nT a)(du:C<=1000000)(dx:∀x y,(z ⟨a.rel,x,y⟩).isSome=true->x.size<=2000/\y.size<=2000):Cs 146 #[Ii d,.func (.func 193) #[] #[Pt O,Pt M,Pt Z]] W λe w'=>∃(E:Option Addr) (G:Nat) (gs:List Gd),e=aO (aH E (aB (Qr d gs)) G)/\lR z M2 a gs/\aE w' W.heap.size 71 4 (aH E (aB (Qr d gs)) G) (aB (Qr d gs)) ((Qr d gs).flatMap Rc.c)/\bI W.heap.size W w':=by
 refine (BR (N:=C) d W du (enters_of Tryz.func193 (by kernel_rfl) rfl) (λm n=>CA n O M Z B B2 C n2 ac z M2 a va W ao A.args A.nums A.rel A.names dx m)).mono ?_;rintro e w' ⟨v,gs,rfl,⟨ks,k1,k2,k3,k4⟩,ho,hb⟩;have b5:gs.map (λg=>(dY g.1).data.toList)=(gs.map (·.1)).map (λg=>(dY g).data.toList):=by rw[List.map_map];rfl
 rw[b5] at ho;have⟨E,G,bi⟩:=qq ho;subst bi;refine⟨E,G,gs.map (·.1),rfl,?_,?_,hb⟩
 .exact⟨_,⟨ks,k1,k2,rfl⟩,k4⟩
 .exact ho
theorem jn.ofOwn{W:Wq}{b T n:Nat}{v:Vq}{xs:List Vq}(h:aE W b T 4 v n xs)(Z:∀u∈xs,u.oneCell'=true):jn W 4 ⟨v,n,xs⟩:=by
 obtain⟨C,⟨d,E⟩|⟨g,G,M,d,hb,A,k1,k2,k3,k4⟩⟩:=h
 .exact aQ ⟨d,E,List.eq_nil_of_length_eq_zero (by rw[C,E])⟩
 .refine aR ⟨_,_,d,C,λj u hj=>?_,λ_=>(zg A).1,Z⟩;have O:j<n*4:=by{grind};rw[show (⟨g,0,aW⟩:Addr).add j=⟨g,0+j,aW⟩ by simp[Addr.add];intro h;omega];simp only[aC,A];have z:(M.toList.take (n*4))[j]?=aV u:=by{grind};rw[List.getElem?_take,if_pos O] at z;simpa using z
theorem tT(l:List Rc):∀u∈l.flatMap Rc.c,u.oneCell'=true:=by intro u d;have⟨x,_,hx⟩:=List.mem_flatMap.1 d;simp only[Rc.c,bG,bF,or_false] at hx;rcases hx with rfl|rfl|rfl|rfl<;>rfl
theorem Hs(S:Nat->Prop)(d A:Nat)(f:Fs)(B z:Nat)(mark aa:Int)(w:Wq)(h:dZ w S d A f)(C:f.behind=true):Cs 88 #[Pt d,.map (aV B),.map (aV z),Ii mark,Ii aa] w λe w'=>e=aO (aL #[])/\w'=w:=by
 have⟨va,vs,vq,h1,h2,h3,h4,h5,h6,h7⟩:=h;rw[C] at h1;have E:aC w (Ad d 2)=aV (aK true):=zc h1;clear h1 h2 h3 h4 h5 h6 h7;go_enter Tryz.func88,Tryz.ntmps88;go_wp2;refine bodyPost_ret (results_none rfl _ _ _) rfl ?_;exact⟨rfl,rfl⟩
theorem IG(d:Nat)(w:Wq)(A:Array Vq)(M O Z:Vq)(z:w.heap[d]?=cC A 198)(C:A[2]?=aV M)(E:A[3]?=aV O)(G:A[4]?=aV Z):Cs 150 #[Pt d] w λe w'=>e=aO (aL #[])/\w'=((w.setCell (Ad d 2) (aK true)).setCell (Ad d 3) (aH aW 0 0)).setCell (Ad d 4) (aH aW 0 0):=by
 have e2:aC w (Ad d 2)=aV M:=by simp only[aC,z];simpa using C
 have e3:aC w (Ad d 3)=aV O:=by simp only[aC,z];simpa using E
 have e4:aC w (Ad d 4)=aV Z:=by simp only[aC,z];simpa using G
 have y2:∀j,aD w (Ad d j)=false:=λj=>by simp[aD,z]
 clear z C E G;go_enter Tryz.func150,Tryz.ntmps150;go_wp2
 go_end0
 exact⟨rfl,rfl⟩
def vC(S:Nat->Prop)(bf ac:Nat)(f:Fs)(M1 M2:Gd->Option Int)(mark aa:Int)(w w':Wq):Prop:=
 ∃(g1 g2:List Gd) (f':Fs),lR M1 M2 f.form g1/\lR M2 M1 f.form g2/\dZ w' (λk=>S k\/w.heap.size<=k) bf ac f'/\dD w w' S/\((aa<(aB (f.que++Qr 3 g1++Qr 2 g2):Int)+1/\f'={f with behind:=true,snap:=[],que:=[]})\/((aB (f.que++Qr 3 g1++Qr 2 g2):Int)+1<=aa/\f'={f with que:=f.que++Qr 3 g1++Qr 2 g2++[⟨4,0,⟨#[]⟩,mark⟩]}))
theorem FT(S:Nat->Prop)(d ac:Nat)(f:Fs)(B B2 n1 n2:Nat)(M1 M2:Gd->Option Int)(mark aa:Int)(w:Wq)(h:dZ w S d ac f)(hS:∀k,S k->k<w.heap.size)(E:f.behind=false)(hq:aB f.que<=60)(ai:nT f.form)(b3:eT w B n1 M1)(ck:eT w B2 n2 M2)(cv:n1<=1000000)(dr:n2<=1000000)(a8:∀x y,(M1 ⟨f.form.rel,x,y⟩).isSome=true->x.size<=2000/\y.size<=2000)(a9:∀x y,(M2 ⟨f.form.rel,x,y⟩).isSome=true->x.size<=2000/\y.size<=2000)(c5:∀gs,lR M1 M2 f.form gs->aB gs<=100)(dm:∀gs,lR M2 M1 f.form gs->aB gs<=100):Cs 88 #[Pt d,.map (aV B),.map (aV B2),Ii mark,Ii aa] w λe w'=>e=aO (aL #[])/\vC S d ac f M1 M2 mark aa w w':=by
 have⟨va,vs,vq,h1,h2,h3,h4,h5,h6,h7⟩:=h;have⟨sa,sc,dq⟩:=qq h3;subst dq;have⟨qa,qc,dd⟩:=qq h4;subst dd;have⟨fa,fc,ct⟩:=h2.form;subst ct;rw[E] at h1;obtain⟨N,hN⟩:∃N,w.heap.size=N:=⟨_,rfl⟩;have bd:=(zg h1).1;have c2:aC w (Ad d 2)=aV (aK false):=zc h1;have bu:Hid (∀W,bI N w W->aC W (Ad d 0)=aV (St f.form.rel)/\aC W (Ad d 1)=aV (aH fa (aB f.form.args) fc)/\aC W (Ad d 4)=aV (aH qa (aB f.que) qc)):=λW E=>by have:=(E.block d (by omega)).trans h1;refine⟨?_,?_,?_⟩<;>simp[aC,this]
 have⟨c0,c1,c4⟩:=bu.o w zr
 have Qdx:Hid (∀(X Y nX nY:Nat) (MX MY:Gd->Option Int),eT w X nX MX->eT w Y nY MY->∀W,bI N w W->Cs 147 #[.map (aV X),.map (aV Y),aJ #[St f.form.rel,aH fa (aB f.form.args) fc]] W λe w'=>∃Bm Z Bo,e=aO (.func (.func 193) #[] #[Pt Bm,Pt Z,Pt Bo])/\nR Bm Z Bo X Y nX nY ac MX MY f.form (aH fa (aB f.form.args) fc) w'/\bI W.heap.size W w'/\bI N w w'):=by
  intro X Y nX nY MX MY hX hY W E;have dk:N<=W.heap.size:=by{have:=E.size;omega};refine (I0 X Y f.form _ W _ _ _ rfl).mono ?_;rintro e w' ⟨rfl,rfl⟩;have ap:bI W.heap.size W (((W.alloc (aN #[.map (aV X)] 98)).alloc (aN #[.map (aV Y)] 98)).alloc (aN #[St f.form.rel,aH fa (aB f.form.args) fc] 92)):=(((bB _ W).alloc zl _).alloc (by simp) _).alloc (by simp;omega) _;have ce:bI N w (((W.alloc (aN #[.map (aV X)] 98)).alloc (aN #[.map (aV Y)] 98)).alloc (aN #[St f.form.rel,aH fa (aB f.form.args) fc] 92)):=E.trans (ap.mono dk);have hk:=λm=>qr.ofBelow (m:=m) (W:=w) (by rw[hN];exact ce);refine⟨_,_,_,rfl,⟨?_,?_,?_,h2.mk (hk 0),hX.mk (hk 0),hY.mk (hk 0)⟩,ap,ce⟩;{exact (aX _ _ _ (by simp;omega)).trans ((aX _ _ _ (by simp)).trans (zn W _))};{have:=zn ((W.alloc (aN #[.map (aV X)] 98)).alloc (aN #[.map (aV Y)] 98)) (aN #[St f.form.rel,aH fa (aB f.form.args) fc] 92);rw[aZ,aZ] at this;exact this};{refine (aX _ _ _ (by simp)).trans ?_;have:=zn (W.alloc (aN #[.map (aV X)] 98)) (aN #[.map (aV Y)] 98);rw[aZ] at this;exact this}
 have Qco:Hid (∀Bm Z Bo W,nR Bm Z Bo B B2 n1 n2 ac M1 M2 f.form (aH fa (aB f.form.args) fc) W->bI N w W->Cs 146 #[Ii 3,.func (.func 193) #[] #[Pt Bm,Pt Z,Pt Bo]] W λe w'=>∃(z:Option Addr) (A ln:Nat) (gs:List Gd),e=aO (aH z ln A)/\ln<=100/\Hid (ln=aB gs/\lR M1 M2 f.form gs)/\aE w' N 71 4 (aH z ln A) ln ((Qr 3 gs).flatMap Rc.c)/\bI N w w'):=λBm Z Bo W ao E=>by
  refine (BL B B2 n1 n2 ac M1 M2 f.form _ 3 Bm Z Bo W ao ai cv a8).mono ?_;rintro e w' ⟨z,A,gs,rfl,M,ho,af⟩;have an:N<=W.heap.size:=by{have:=E.size;omega};exact⟨z,A,_,gs,rfl,by rw[oR];exact c5 gs M,⟨oR 3 gs,M⟩,l6 ho an,E.trans (af.mono an)⟩
 have Qcp:Hid (∀Bm Z Bo W,nR Bm Z Bo B2 B n2 n1 ac M2 M1 f.form (aH fa (aB f.form.args) fc) W->bI N w W->Cs 146 #[Ii 2,.func (.func 193) #[] #[Pt Bm,Pt Z,Pt Bo]] W λe w'=>∃(z:Option Addr) (A ln:Nat) (gs:List Gd),e=aO (aH z ln A)/\ln<=100/\Hid (ln=aB gs/\lR M2 M1 f.form gs)/\aE w' N 71 4 (aH z ln A) ln ((Qr 2 gs).flatMap Rc.c)/\bI W.heap.size W w'/\bI N w w'):=λBm Z Bo W ao E=>by
  refine (BL B2 B n2 n1 ac M2 M1 f.form _ 2 Bm Z Bo W ao ai dr a9).mono ?_;rintro e w' ⟨z,A,gs,rfl,M,ho,af⟩;have an:N<=W.heap.size:=by{have:=E.size;omega};exact⟨z,A,_,gs,rfl,by rw[oR];exact dm gs M,⟨oR 2 gs,M⟩,l6 ho an,af,E.trans (af.mono an)⟩
 have co:=aA b3;have ch:=aA ck;have H1:=aA h1;have H2:=aA h2;have H3:=aA h3;have H4:=aA h4;clear b3 ck h1 h2 h4 h3;go_enter Tryz.func88,Tryz.ntmps88;go_wp2_with fail;refine (Qdx.o B B2 n1 n2 M1 M2 co.o ch.o w zr).mono ?_;rintro e V1 ⟨Bm,Z,Bo,rfl,bv,_,a6⟩;go_wp2_with fail;refine (Qco.o Bm Z Bo V1 bv a6).mono ?_;rintro e V2 ⟨ga,gc,gl,gs,rfl,b5,ay,da,ap⟩;have⟨k0,k1,k4⟩:=bu.o V2 ap;go_wp2_with fail;refine (Qdx.o B2 B n2 n1 M2 M1 ch.o co.o V2 ap).mono ?_;rintro e V3 ⟨Cm,Ca,Co,rfl,cf,a7,db⟩;go_wp2_with fail;refine (Qcp.o Cm Ca Co V3 cf db).mono ?_;rintro e C ⟨ca,cc,cl,cs,rfl,c3,ax,dh,bk,az⟩;have Qk3:=qj (qj da a7) bk;have⟨d9,d7,cj⟩:=bu.o C az;clear bv cf Qdx Qco Qcp;have dg:N<=C.heap.size:=by have:=az.size;omega
 have cy:aE C 0 71 4 (aH qa (aB f.que) qc) (aB f.que) (f.que.flatMap Rc.c):=qn H4.o (λg M aj=>az.block g (by omega));obtain⟨ab,cu⟩:∃ab,aB f.que+gl+cl+1=ab:=⟨_,rfl⟩;have c7:Hid (∀W,bI C.heap.size C W->Cs 149 #[Ii mark] W λe w'=>e=aO (aJ #[Ii 4,Ii 0,St ⟨#[]⟩,Ii mark])/\bI C.heap.size C w'/\aC w' (Ad d 4)=aV (aH qa (aB f.que) qc)/\∀O,aC (w'.alloc O) (Ad d 4)=aV (aH qa (aB f.que) qc)):=λW E=>by refine (yZ mark W).mono ?_;rintro e w' ⟨rfl,af⟩;have aq:=E.trans (af.mono E.size);exact⟨rfl,aq,cell_later aq cj,λO=>cell_later (aq.alloc aq.size O) cj⟩
 have Qkg:Hid (∀W,bI C.heap.size C W->Cs 148 #[Sc (W.heap.size+1) 4 4] ((W.alloc (aN #[Ii 4,Ii 0,St ⟨#[]⟩,Ii mark] 71)).alloc (aN #[aH qa (aB f.que) qc,aH ga gl gc,aH ca cl cc,Sc W.heap.size 1 1] 196)) λe w'=>∃z A,e=aO (aH z ab A)/\aE w' C.heap.size 71 4 (aH z ab A) ab (f.que.flatMap Rc.c++((Qr 3 gs).flatMap Rc.c++((Qr 2 cs).flatMap Rc.c++[Ii 4,Ii 0,St ⟨#[]⟩,Ii mark])))/\bI C.heap.size C w'):=by
  intro W E;obtain⟨W7,aw⟩:∃W7,(W.alloc (aN #[Ii 4,Ii 0,St ⟨#[]⟩,Ii mark] 71)).alloc (aN #[aH qa (aB f.que) qc,aH ga gl gc,aH ca cl cc,Sc W.heap.size 1 1] 196)=W7:=⟨_,rfl⟩;have am:bI C.heap.size C W7:=by{rw[<-aw];exact (E.alloc E.size _).alloc (by have:=E.size;simp;omega) _};have c8:W7.heap[W.heap.size+1]?=cC #[aH qa (aB f.que) qc,aH ga gl gc,aH ca cl cc,Sc W.heap.size 1 1] 196:=by{rw[<-aw];have:=zn (W.alloc (aN #[Ii 4,Ii 0,St ⟨#[]⟩,Ii mark] 71)) (aN #[aH qa (aB f.que) qc,aH ga gl gc,aH ca cl cc,Sc W.heap.size 1 1] 196);rw[aZ] at this;exact this};have dt:W7.heap[W.heap.size]?=cC #[Ii 4,Ii 0,St ⟨#[]⟩,Ii mark] 71:=by{rw[<-aw];exact (aX _ _ _ (by simp)).trans (zn W _)};have c9:aE W7 0 71 4 (Sc W.heap.size 1 1) 1 [Ii 4,Ii 0,St ⟨#[]⟩,Ii mark]:=⟨rfl,aR ⟨_,1,_,rfl,zz,dt,Nat.le_refl _,by unfold maxLen;decide,rfl,rfl⟩⟩;have Qh0:=tT [⟨4,0,⟨#[]⟩,mark⟩];rw[aw]
  have hc:=Fn (W.heap.size+1) [⟨aH qa (aB f.que) qc,aB f.que,f.que.flatMap Rc.c⟩,⟨aH ga gl gc,gl,(Qr 3 gs).flatMap Rc.c⟩,⟨aH ca cl cc,cl,(Qr 2 cs).flatMap Rc.c⟩,⟨Sc W.heap.size 1 1,1,[Ii 4,Ii 0,St ⟨#[]⟩,Ii mark]⟩] W7 c8 (by
    intro x hx;simp only[bG,bF,or_false] at hx;rcases hx with rfl|rfl|rfl|rfl
    .exact jn.ofOwn (qj cy am) (tT _)
    .exact jn.ofOwn (qj Qk3 am) (tT _)
    .exact jn.ofOwn (qj dh am) (tT _)
    .exact jn.ofOwn c9 Qh0) (by unfold eK;simp;omega) (by simp)
  refine hc.mono ?_;rintro e w' ⟨v,rfl,ho,af⟩;have dc:eK [⟨aH qa (aB f.que) qc,aB f.que,f.que.flatMap Rc.c⟩,⟨aH ga gl gc,gl,(Qr 3 gs).flatMap Rc.c⟩,⟨aH ca cl cc,cl,(Qr 2 cs).flatMap Rc.c⟩,⟨Sc W.heap.size 1 1,1,[Ii 4,Ii 0,St ⟨#[]⟩,Ii mark]⟩]=ab:=by{unfold eK;simp;omega};rw[dc] at ho;have⟨z,A,bi⟩:=qq ho;subst bi;refine⟨z,A,rfl,?_,am.trans (af.mono am.size)⟩;have:=l6 ho am.size;simpa using this
 go_wp2;refine wp_mono (Q:=λe a' w'=>match e with|Exit.normal=>∃z A cn cb b4 cp v37 cg v39 b6 b8 ci cd,a'={tmps:=#[Pt d,.map (aV B),.map (aV B2),Ii mark,Ii aa,undef,undef,undef,undef,undef,aH ga gl gc,aH ca cl cc,aH z ab A,Pt d,Pt d,.pointer (aV ⟨d,2,aW⟩),aK false,.map (aV B),.map (aV B2),Pt d,Pt d,Pt d,aJ #[St f.form.rel,aH fa (aB f.form.args) fc],.func (.func 193) #[] #[Pt Bm,Pt Z,Pt Bo],aH ga gl gc,.map (aV B2),.map (aV B),Pt d,Pt d,Pt d,aJ #[St f.form.rel,aH fa (aB f.form.args) fc],.func (.func 193) #[] #[Pt Cm,Pt Ca,Pt Co],aH ca cl cc,cn,cb,b4,cp,v37,cg,v39,b6,b8,ci,cd,undef,undef,undef,undef,undef,undef,undef,undef,undef,undef],defers:=[]}/\aE w' C.heap.size 71 4 (aH z ab A) ab (f.que.flatMap Rc.c++((Qr 3 gs).flatMap Rc.c++((Qr 2 cs).flatMap Rc.c++[Ii 4,Ii 0,St ⟨#[]⟩,Ii mark])))/\bI C.heap.size C w'|_=>False) ?reg ?rest
 case reg=>
  have av:Hid (bI C.heap.size C C.drew):=(bB _ C).drew
  first|(go_region_with (first|(go_at_call 149;refine (c7.o _ av.o).mono ?_;rintro e V5 ⟨rfl,dl,d6,d1⟩)|(go_at_call 148;refine (Qkg.o V5 dl).mono ?_;rintro e G ⟨z,A,rfl,ak,bh⟩)))|fail
  all_goals exact⟨z,A,_,_,_,_,_,_,_,_,_,_,_,rfl,ak,bh⟩
 case rest=>
  rintro e a' G cr
  cases e with
  |normal=>
   obtain⟨z,A,cn,cb,b4,cp,v37,cg,v39,b6,b8,ci,cd,rfl,ak,bh⟩:=cr;have ad:bI N w G:=az.trans (bh.mono dg);have ah:=(ad.block d (by omega)).trans H1.o;have e2:aC G (Ad d 2)=aV (aK false):=zc ah;have e3:aC G (Ad d 3)=aV (aH sa (aB f.snap) sc):=zc ah;have e4:aC G (Ad d 4)=aV (aH qa (aB f.que) qc):=zc ah;have y2:∀j,aD G (Ad d j)=false:=λj=>by{simp[aD,ah]};have dj:Hid (Cs 150 #[Pt d] G λe w'=>e=aO (aL #[])/\w'=((G.setCell (Ad d 2) (aK true)).setCell (Ad d 3) (aH aW 0 0)).setCell (Ad d 4) (aH aW 0 0)):=IG d G _ _ _ _ ah rfl rfl rfl;have dp:gl=aB gs:=ay.o.1;have df:cl=aB cs:=ax.o.1;have au:(aB (f.que++Qr 3 gs++Qr 2 cs):Int)+1=(ab:Int):=by{rw[bD,bD,oR,oR];omega};have bc:dD w G S:=⟨ad.os,ad.tape,ad.output,by have:=ad.size;omega,λk hk _=>ad.block k (by omega)⟩
   have bq:∀W',(∀k,k<G.heap.size->k≠d->W'.heap[k]?=G.heap[k]?)->Qh W' ac (aH fa (aB f.form.args) fc) f.form.args:=λW' hk=>(H2.o).kept (λk c _ hc=>by
    have d4:=(zg hc).1;have ae:k≠d:=λe=>by{rw[e,H1.o] at hc;cases hc};have Qlv:=ad.size
    exact (hk k (by omega) ae).trans ((ad.block k (by omega)).trans hc))
   have al:S d:=h7;have Qg8:Hid (aa<(ab:Int)->vC S d ac f M1 M2 mark aa w (((G.setCell (Ad d 2) (aK true)).setCell (Ad d 3) (aH aW 0 0)).setCell (Ad d 4) (aH aW 0 0))):=by intro hm;have k1:=qw (qw (qw ah 2 (aK true)) 3 (aH aW 0 0)) 4 (aH aW 0 0);refine⟨gs,cs,{f with behind:=true,snap:=[],que:=[]},ay.o.2,ax.o.2,⟨aH fa (aB f.form.args) fc,aH aW 0 0,aH aW 0 0,k1,bq _ (λk hk ae=>?_),⟨rfl,aQ ⟨rfl,rfl⟩⟩,⟨rfl,aQ ⟨rfl,rfl⟩⟩,λg M=>(by cases M),λg M=>(by cases M),aQ al⟩,((bc.setCell (Ad d 2) _ (λ_=>al)).setCell (Ad d 3) _ (λ_=>al)).setCell (Ad d 4) _ (λ_=>al),aQ ⟨by rw[au];exact hm,rfl⟩⟩;exact (aY _ _ _ _ (by show k≠d;exact ae)).trans ((aY _ _ _ _ (by show k≠d;exact ae)).trans (aY _ _ _ _ (by show k≠d;exact ae)))
   have Qg9:Hid (¬aa<(ab:Int)->vC S d ac f M1 M2 mark aa w (G.setCell (Ad d 4) (aH z ab A))):=by
    intro hm;have k1:=qw ah 4 (aH z ab A);have bn:∀k,k<G.heap.size->k≠d->(G.setCell (Ad d 4) (aH z ab A)).heap[k]?=G.heap[k]?:=λk hk ae=>aY _ _ _ _ (by show k≠d;exact ae);have d2:N<=G.heap.size:=by{have:=ad.size;omega};have c6:(f.que++Qr 3 gs++Qr 2 cs++[(⟨4,0,⟨#[]⟩,mark⟩:Rc)]).flatMap Rc.c=f.que.flatMap Rc.c++((Qr 3 gs).flatMap Rc.c++((Qr 2 cs).flatMap Rc.c++[Ii 4,Ii 0,St ⟨#[]⟩,Ii mark])):=by{rw[bC,bC,bC,bE,bE];rfl};have cx:aB (f.que++Qr 3 gs++Qr 2 cs++[(⟨4,0,⟨#[]⟩,mark⟩:Rc)])=ab:=by{have:=au;simp only[bD,List.length_cons,List.length_nil] at this ⊢;omega};refine⟨gs,cs,{f with que:=f.que++Qr 3 gs++Qr 2 cs++[⟨4,0,⟨#[]⟩,mark⟩]},ay.o.2,ax.o.2,⟨aH fa (aB f.form.args) fc,aH sa (aB f.snap) sc,aH z ab A,?_,bq _ bn,?_,?_,λg M=>⟨aQ (h5 g M).1,λe=>?_⟩,λg M=>aR ?_,aQ al⟩,bc.setCell (Ad d 4) _ (λ_=>al),aR ⟨by rw[au];omega,rfl⟩⟩;{show (G.setCell (Ad d 4) (aH z ab A)).heap[d]?=cC #[St f.form.rel,aH fa (aB f.form.args) fc,aK f.behind,aH sa (aB f.snap) sc,aH z ab A,Ii f.told] 198;rw[E];exact k1};{refine qn H3.o (λg M aj=>?_);exact (bn g (by omega) (Qe H3.o H1.o (by decide) g M)).trans (ad.block g (by omega))};{show aE _ 0 _ 4 _ (aB (f.que++Qr 3 gs++Qr 2 cs++[(⟨4,0,⟨#[]⟩,mark⟩:Rc)])) ((f.que++Qr 3 gs++Qr 2 cs++[(⟨4,0,⟨#[]⟩,mark⟩:Rc)]).flatMap Rc.c);rw[cx,c6];refine qn (l6 ak zz) (λg M aj=>bn g aj (λe=>?_));have:=(qd ak M).1;omega};{have d8:=(qd ak e).1;have d3:=hS g (h5 g M).1;omega};{have:=(qd ak M).1;omega}
   clear au bc bq dp df ay ax h5 h6;by_cases ag:aa<(ab:Int);{have HP:=Qg8.o ag;have bj:=aA HP;clear HP;go_wp2_with fail;refine (dj.o).mono ?_;rintro e W9 ⟨rfl,rfl⟩;go_wp2;refine bodyPost_ret (results_none rfl _ _ _) rfl ?_;exact⟨rfl,bj.o⟩}
   .have HP:=Qg9.o ag;have bj:=aA HP;clear HP;go_wp2
    go_end0
    exact⟨rfl,bj.o⟩
  |_=>exact False.elim cr
end Go.Proofs.YtjajnhemgphefaaGreatDoor
namespace Go.Proofs.YtjajnhemgphefaaGreatDoor
open Go renaming World->Wq,Value->Vq
open Go.RowKit Go.Shelf
theorem DE(n:Nat)(b c e f:ByteArray)(w:Wq):(Op.equalIn (n+2) 109 (aJ #[St b,St c]) (aJ #[St e,St f])).run Tryz.prog w=.ok ((b.toList == e.toList) && (c.toList == f.toList)) w:=by
 have M:=Tryz.underlying9;have a3:=Tryz.isAgg9;have O:=Tryz.sizeOf9;have A:Tryz.prog.underlying 109=aV (.array 2 9):=by kernel_rfl
 obtain⟨d,z⟩:∃d,Tryz.prog.info? 9=aV d:=by have⟨d,z,_⟩:=info_parts Tryz.info9;exact⟨d,z⟩
 have G:Tryz.prog.cellsOf 9=1:=by kernel_rfl
 rw[run_equalIn_array w (n+1) _ _ A z,G,show List.range 2=[0,1] from rfl];simp only[Op.eqItems]
 go_simp
 by_cases C:b.toList=e.toList<;>by_cases E:c.toList=f.toList<;>simp[C,E]
theorem GX(n:Nat)(a b c d e f:ByteArray)(w:Wq):(Op.equalIn (n+3) 111 (aJ #[St a,St b,St c]) (aJ #[St d,St e,St f])).run Tryz.prog w=.ok ((a.toList == d.toList) && ((b.toList == e.toList) && (c.toList == f.toList))) w:=by
 have O:=Tryz.underlying9;have a3:=Tryz.isAgg9;have Z:=Tryz.sizeOf9;have G:=Tryz.isAgg109;have zT:=Tryz.sizeOf109;have z:Tryz.prog.underlying 111=aV (.struct (Tryz.prog.fieldsOf 111)):=by kernel_rfl
 have di:Tryz.prog.stoodInHeld 111=false:=by kernel_rfl
 have M:=DE n b c e f;rw[run_equalIn_agg w (n+2) 111 _ _ z di];simp only[Program.fieldsOf,Tryz.underlying111]
 go_simp
 by_cases A:a.toList=d.toList<;>by_cases C:b.toList=e.toList<;>by_cases E:c.toList=f.toList<;>simp[A,C,E]
theorem EC(a b c d e f:ByteArray)(s t:Int)(w:Wq):(binOp .eql 161 (aJ #[St a,St b,St c,Ii s]) (aJ #[St d,St e,St f,Ii t])).run Tryz.prog w=.ok (aK (((a.toList == d.toList) && ((b.toList == e.toList) && (c.toList == f.toList))) && (s == t))) w:=by
 have u4:=Tryz.underlying3;have a4:=Tryz.isAgg3;have z4:=Tryz.sizeOf3;have M:Tryz.prog.underlying 161=aV (.struct (Tryz.prog.fieldsOf 161)):=by kernel_rfl
 have O:Tryz.prog.stoodInHeld 161=false:=by kernel_rfl
 have Z:=Tryz.isAgg111;have zG:=Tryz.sizeOf111;obtain⟨n,z⟩:∃n,10000=n+4:=⟨9996,rfl⟩;have hg:=GX n a b c d e f;rw[run_eql_struct,z,run_equalIn_agg w (n+3) 161 _ _ M O];simp only[Program.fieldsOf,Tryz.underlying161];clear z
 go_simp
 by_cases A:a.toList=d.toList<;>by_cases C:b.toList=e.toList<;>by_cases E:c.toList=f.toList<;>by_cases G:s=t<;>simp[A,C,E,G]
def rd(x y:Gd×Int):Bool:=((x.1.rel.toList == y.1.rel.toList) && ((x.1.x.toList == y.1.x.toList) && (x.1.y.toList == y.1.y.toList))) && (x.2 == y.2)
def lg(l:List (Gd×Int))(x:Gd×Int):Bool:=l.any (rd x)
theorem rZ{W:Wq}{b:Nat}{v:Vq}{l:List (Gd×Int)}(h:aE W b 161 4 v (aB l) (l.flatMap qx)){k:Nat}(d:k<aB l):∃(g c:Nat),v=Sc g (aB l) c/\aC W (Ad g (k*4))=aV (St (l[k]).1.rel)/\aC W (Ad g (k*4+1))=aV (St (l[k]).1.x)/\aC W (Ad g (k*4+2))=aV (St (l[k]).1.y)/\aC W (Ad g (k*4+3))=aV (Ii (l[k]).2)/\g<W.heap.size:=by have⟨g,cap,hv,h1,h2,h3,hc⟩:=iI h (λ_=>rfl) (by omega);exact⟨g,cap,hv,hc k 0 d _ (by decide) rfl,hc k 1 d _ (by decide) rfl,hc k 2 d _ (by decide) rfl,hc k 3 d _ (by decide) rfl,h2⟩
theorem Cr(v:Vq)(l:List (Gd×Int))(b:Nat)(x:Gd×Int)(w:Wq)(M:aE w b 161 4 v (aB l) (l.flatMap qx))(hl:aB l<=1000):Cs 143 #[v,aJ #[St x.1.rel,St x.1.x,St x.1.y,Ii x.2]] w λe w'=>∃r:Int,e=aO (Ii r)/\decide (0<=r)=lg l x/\bI w.heap.size w w':=by
 have⟨a,c,dw⟩:=qq M;have z:∀k (hk:k<aB l),∃g,a=aV ⟨g,0,aW⟩/\aC w (Ad g (k*4))=aV (St (l[k]).1.rel)/\aC w (Ad g (k*4+1))=aV (St (l[k]).1.x)/\aC w (Ad g (k*4+2))=aV (St (l[k]).1.y)/\aC w (Ad g (k*4+3))=aV (Ii (l[k]).2)/\g<w.heap.size:=by grind [rZ]
 subst dw;have O:Hid _:=z;clear z M;go_enter Tryz.func143,Tryz.ntmps143;go_wp2
 go_loopw [8] (λi wr=>∃k q:Nat,k<=aB l/\i=aM aP k/\Hid (∀j,(d:j<aB l)->j<k->rd x l[j]=false)/\wr=(w.alloc (aN #[aI x.1.rel,aI x.1.x,aI x.1.y,aM aP x.2] 161)).drewN q) (λi _=>aB l-(intOf i).toNat)
 case atStart=>exact⟨0,0,zz,rfl,λj _ d=>by omega,rfl⟩
 case round=>
  obtain⟨k,q,hk,rfl,E,rfl⟩:=hrel;by_cases A:k<aB l
  .obtain⟨g,rfl,q0,q1,q2,q3,hg⟩:=O.o k A;have ae:g≠w.heap.size:=by omega
   have he:=λW=>EC x.1.rel x.1.x x.1.y (l[k]).1.rel (l[k]).1.x (l[k]).1.y x.2 (l[k]).2 W;have i1:(k:Int)<(aB l:Int):=by omega
   have i2:(0:Int)<=(k:Int):=by omega
   have G:Hid (rd x l[k]=(((x.1.rel.toList == (l[k]).1.rel.toList) && ((x.1.x.toList == (l[k]).1.x.toList) && (x.1.y.toList == (l[k]).1.y.toList))) && (x.2 == (l[k]).2))):=rfl;generalize htk:l[k]=tk at *;have C:Hid (l[k]=tk):=htk;clear htk;generalize hb:(((x.1.rel.toList == tk.1.rel.toList) && ((x.1.x.toList == tk.1.x.toList) && (x.1.y.toList == tk.1.y.toList))) && (x.2 == tk.2))=bb at *;have d5:Hid ((((x.1.rel.toList == tk.1.rel.toList) && ((x.1.x.toList == tk.1.x.toList) && (x.1.y.toList == tk.1.y.toList))) && (x.2 == tk.2))=bb):=hb;clear hb
   cases bb with
   |true=>
    go_wp2;go_quiet (fail);go_wp2;go_ret;refine⟨k,rfl,?_,?_⟩
    .have Z:lg l x=true:=by unfold lg;rw[List.any_eq_true];exact⟨l[k],List.getElem_mem A,by rw[C.o,G.o]⟩
     rw[Z];simp
    .exact⟨rfl,rfl,rfl,by show _<=(w.alloc _).heap.size;simp,λj d=>aX _ _ j d⟩
   |false=>
    go_wp2;go_quiet (fail);go_wp2
    go_roundw
    case rel=>
     refine⟨k+1,q+nq,by omega,by go_num,?_,rfl⟩;intro j d d0;by_cases e:j=k
     .subst e;rw[C.o];exact G.o
     .exact E.o j d (by omega)
    case measure=>simp[intOf];omega
  .go_wp2;go_ret;refine⟨-1,rfl,?_,?_⟩
   .unfold lg;rw[qF _ _ (λj d=>E.o j d (by omega))];rfl
   .exact⟨rfl,rfl,rfl,by show _<=(w.alloc _).heap.size;simp,λj d=>aX _ _ j d⟩
theorem EG(v:Vq)(l:List (Gd×Int))(b:Nat)(x:Gd×Int)(w:Wq)(d:aE w b 161 4 v (aB l) (l.flatMap qx))(M:aB l<=1000):Cs 82 #[v,aJ #[St x.1.rel,St x.1.x,St x.1.y,Ii x.2]] w λe w'=>e=aO (aK (lg l x))/\bI w.heap.size w w':=by have A:∀O,bI w.heap.size w (w.alloc O):=λO=>(bB _ w).alloc zl _;have hI:Hid (∀W,bI w.heap.size w W->Cs 143 #[v,aJ #[St x.1.rel,St x.1.x,St x.1.y,Ii x.2]] W λe w'=>∃i:Int,e=aO (Ii i)/\decide (0<=i)=lg l x/\bI W.heap.size W w'):=λW G=>Cr v l b x W (qj d G) M;obtain⟨Z,xc,rfl⟩:=qq d;clear d;go_enter Tryz.func82,Tryz.ntmps82;go_wp2_with fail;refine (hI.o _ (by first|exact A _|exact zr)).mono ?_;rintro e w1 ⟨i,rfl,C,z⟩;have E:=aA C;clear C;go_wp2;go_ret;exact⟨ie (by rw[<-E.o]),by first|exact z|exact (A _).trans (z.mono (by simp))⟩
end Go.Proofs.YtjajnhemgphefaaGreatDoor
namespace Go.Proofs.YtjajnhemgphefaaGreatDoor
open Go renaming World->Wq,Value->Vq
open Go.RowKit Go.Shelf Go.Maps
theorem qI(n l m:Int)(w:Wq):Cs 43 #[Ii n,Ii l,Ii m] w λe w'=>e=aO (aK (decide (l<=n) && decide (n<=m)))/\w'=w:=by
 by_cases d:l<=n
 .go_enter Tryz.func43,Tryz.ntmps43;go_wp2;go_ret;exact⟨ie (by simp[d]),rfl⟩
 .go_enter Tryz.func43,Tryz.ntmps43;go_wp2;go_ret;exact⟨ie (by simp;intro h;omega),rfl⟩
theorem pE(x:Int)(h0 : -4611686018427387904<=x)(d:x<=4611686018427387904):aP.wrap x=x:=by simp[IntKind.wrap,IntKind.bits,IntKind.signed];omega
theorem yH(d:Nat)(t win:Int)(w:Wq)(A:aC w (Ad d 1)=aV (Ii win))(h0:0<=t/\t<=1000000)(z:0<=win/\win<=1000):Cs 87 #[Pt d,Ii t] w λe w'=>e=aO (Ii (t+win))/\w'=w:=by have C:aP.wrap (t+win)=t+win:=pE _ (by omega) (by omega);go_enter Tryz.func87,Tryz.ntmps87;go_wp2;go_ret;exact⟨rfl,rfl⟩
def eZ(win mark:Int)(t:Int):Bool:=decide (t+win<=mark)
theorem xt(d:Nat)(t win mark:Int)(w:Wq)(M:aC w (Ad d 1)=aV (Ii win))(O:aC w (Ad d 4)=aV (Ii mark))(h0:0<=t/\t<=1000000)(G:0<=win/\win<=1000):Cs 81 #[Pt d,Ii t] w λe w'=>e=aO (aK (eZ win mark t))/\w'=w.drew:=by
 have C:Hid (Cs 87 #[Pt d,Ii t] w.drew λe w'=>e=aO (Ii (t+win))/\w'=w.drew):=yH d t win w.drew M h0 G;have Z:aC w.drew (Ad d 4)=aV (Ii mark):=O;go_enter Tryz.func81,Tryz.ntmps81;go_wp2_with fail;refine wp_mono (Q:=λe z w'=>match e with|Exit.normal=>z={tmps:=#[Pt d,Ii t,undef,undef,aK (decide (t+win<=mark)),Pt d,Ii t,Ii (t+win),Pt d,Pt d,.pointer (aV ⟨d,4,aW⟩),Ii mark,aK (decide (t+win<=mark))],defers:=[]}/\w'=w.drew|_=>False) ?reg ?rest
 case reg=>
  first|(go_region_with (go_at_call 87;refine Calls.mono C.o ?_;rintro e w' ⟨rfl,E⟩;obtain rfl:w.drew=w':=E.symm))|fail
  all_goals exact⟨rfl,rfl⟩
 case rest=>
  rintro (_|_|_|_|_|_) z w' A
  all_goals first|exact A.elim|skip
  obtain⟨rfl,rfl⟩:=A;go_wp2;go_ret;exact⟨rfl,rfl⟩
theorem IQ(z A:Nat)(d:Gd×Int)(win mark:Int)(w:Wq)(hx:aC w (Ad A 0)=aV (Pt z))(dz:A<w.heap.size)(C:z<w.heap.size)(Z:aC w (Ad z 1)=aV (Ii win))(hm:aC w (Ad z 4)=aV (Ii mark))(h0:0<=d.2/\d.2<=1000000)(M:0<=win/\win<=1000):Cs 86 #[aJ #[St d.1.rel,St d.1.x,St d.1.y,Ii d.2],Pt A] w λe w'=>e=aO (aK (eZ win mark d.2))/\bI w.heap.size w w':=by
 have E:∀O,Cs 81 #[Pt z,Ii d.2] (w.alloc O) λe w'=>e=aO (aK (eZ win mark d.2))/\w'=(w.alloc O).drew:=λO=>xt z d.2 win mark _ ((bH ((bB _ w).alloc zl O) (p:=⟨z,1,aW⟩) C).trans Z) ((bH ((bB _ w).alloc zl O) (p:=⟨z,4,aW⟩) C).trans hm) h0 M;have G:=aA E;have ae:A≠w.heap.size:=by omega
 clear E;go_enter Tryz.func86,Tryz.ntmps86
 go_wp2_with (go_at_call 81;refine (G.o _).mono ?_;rintro e w' ⟨rfl,rfl⟩)
 go_ret;exact⟨rfl,((bB _ w).alloc zl _).drew⟩
