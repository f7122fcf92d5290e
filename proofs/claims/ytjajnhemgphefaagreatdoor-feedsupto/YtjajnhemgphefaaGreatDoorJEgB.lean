/- A part -/
import Derived.Test.YtjajnhemgphefaaGreatDoorJAddN
import Derived.Laws.StructEq
set_option linter.all false
set_option maxRecDepth 100000
set_option maxHeartbeats 1000000
open List renaming length->aB,any_eq_true->aY,getElem_mem->aZ,getElem?_take->bD,nodup_cons->bE
open Go.World renaming cell?->aC,frozen?->aD
open Go.Value renaming ownBlock->aF,slice->aH,string->aI,agg->aJ,bool->aK,tuple->aL,int->aM
open Go.Obj renaming cells->aN
open Go.Ending renaming returned->aO
open Go.IntKind renaming i64->aP
open Or renaming inl->aQ
open Option renaming some->aV,none->aW
open Go.RowKit.Below renaming refl->aX,heap_alloc->bB,cell->bF
open Go.Calls renaming mono->bC
open Go.RowKit renaming Below->bG
namespace Go.Proofs.YtjajnhemgphefaaGreatDoor
open Go renaming World->Wq,Value->Vq
open Go.RowKit Go.Shelf
variable {W:Wq} {aj ad ac:Nat} {l:List Am}
def jr(ds:List Nat):List Deferred:=ds.map λD=>{target:=.collected D,args:=#[]}
theorem pw{n:Nat}{fn:Func}{tmps:Array Vq}{R:Ending->Wq->Prop}:∀(ds:List Nat) (W:Wq),ds.Nodup->(∀D∈ds,W.heap[D]?=aV (.deferred (aV [])))->
  (∀W',dD W W' (λj=>j∈ds)->W'.heap.size=W.heap.size->LeavesInM Fence.wide n Tryz.prog fn tmps R [] .returning W')->LeavesInM Fence.wide n Tryz.prog fn tmps R (jr ds) .returning W
 |[],W,_,_,h=>h W (dD.refl _ _) rfl
 |D::ds,W,hn,hd,h=>by
  have G:=hd D (by simp);refine⟨by simp,aQ ⟨_,_,rfl,run_takeDeferred G,?_⟩⟩;have C:=grownBy_putObj' W D (.deferred aW);have Z:(W.putObj D (.deferred aW)).heap.size=W.heap.size:=by{simp_all};have M:dD W (W.putObj D (.deferred aW)) (λj=>j∈D::ds):=(dD.refl W _).grown C (λk e _=>by cases e;simp);refine pw ds _ (bE.1 hn).2 (λd A=>?_) (λW' E O=>h W' (M.trans (E.mono (λ_ _ e=>by simp[e]))) (by omega));have ax:d≠D:=λe=>(bE.1 hn).1 (e ▸ A);have z:=hd d (by simp[A]);exact (C.block d (zg z).1 (by simpa using ax)).trans z
theorem n9{v:Vq}{rs:List Rl}(h:Qn W aj ad ac v rs){k:Nat}(Z:k<aB rs):∃(g c:Nat) (E vb:Vq),v=Sc g (aB rs) c/\aC W (Ad g (k*3))=aV (St (rs[k]).head.rel)/\aC W (Ad g (k*3+1))=aV E/\aC W (Ad g (k*3+2))=aV vb/\jx W ad ac rs[k] E vb:=by
 have⟨qs,r1,r2,r3⟩:=h;have cl:aB qs=aB rs:=by grind
 obtain⟨_,⟨_,hz⟩|⟨g,c,O,M,_,z,_,_,_,aq⟩⟩:=r2
 .omega
 have C:k<aB qs:=by omega
 have A:rs[k]=(qs[k]).1:=by simp[<-r1]
 have G:∀(l:List (Rl×Vq×Vq)) (i:Nat) (d:i<aB l),(l.flatMap nC)[i*3]?=aV (St (l[i]).1.head.rel)/\(l.flatMap nC)[i*3+1]?=aV (l[i]).2.1/\(l.flatMap nC)[i*3+2]?=aV (l[i]).2.2:=by
  intro l
  induction l with
  |nil=>intro i d;simp at d
  |cons x l ih=>
   intro i d
   cases i with
   |zero=>simp[nC]
   |succ i=>grind [nC]
 have⟨p0,p1,p2⟩:=G qs k C;rw[<-aq,bD,if_pos (by omega)] at p0 p1 p2;refine⟨g,c,(qs[k]).2.1,(qs[k]).2.2,by rw[M,cl],?_,?_,?_,?_⟩
 .simp only[aC,z];rw[A];simpa using p0
 .simp only[aC,z];simpa using p1
 .simp only[aC,z];simpa using p2
 .rw[A];exact r3 _ (zm C)
theorem Qn.rk{W':Wq}{v:Vq}{l:List Rl}(h:Qn W aj ad ac v l)(z:qf W W'):Qn W' aj ad ac v l:=h.keep (λk c t A d=>z k c t A d)
theorem Qn.form{v:Vq}{l:List Rl}(h:Qn W aj ad ac v l):∃a c,v=aH a (aB l) c:=by have⟨qs,r1,r2,r3⟩:=h;have⟨a,c,e⟩:=qq r2;exact⟨a,c,by rw[e,<-r1];simp⟩
theorem Hc(a c:ByteArray)(b d:Nat)(w:Wq):(binOp .eql 166 (aJ #[St a,Ii b]) (aJ #[St c,Ii d])).run Tryz.prog w=.ok (aK (a.toList == c.toList && b == d)) w:=by
 have M:=Tryz.underlying9;have a3:=Tryz.isAgg9;have Z:=Tryz.sizeOf9;have O:=Tryz.underlying3;have a4:=Tryz.isAgg3;have z4:=Tryz.sizeOf3;have E:Tryz.prog.underlying 166=aV (.struct (Tryz.prog.fieldsOf 166)):=by kernel_rfl
 have G:Tryz.prog.stoodInHeld 166=false:=by kernel_rfl
 rw[run_eql_struct,show (10000:Nat)=9999+1 from rfl,run_equalIn_agg w 9999 166 _ _ E G];simp only[Program.fieldsOf,Tryz.underlying166]
 go_simp
 by_cases A:b=d
 .subst A;by_cases z:a.toList=c.toList<;>simp[z]
 .have C:¬((b:Int)=(d:Int)):=by{omega};by_cases z:a.toList=c.toList<;>simp[z,A,C]
theorem pF{b:Nat}{v:Vq}{l:List Tm}(h:Qh W b v l){k:Nat}(E:k<aB l):∃g c,v=Sc g (aB l) c/\aC W (Ad g (k*2))=aV (St (l[k]).name)/\aC W (Ad g (k*2+1))=aV (Ii (l[k]).num)/\g<W.heap.size:=by
 obtain⟨O,_⟩|⟨g,C,z,G,M,d,aq⟩:=h
 .grind
 have⟨p0,p1⟩:=sP (λt:Tm=>aI t.name) (λt=>aM aP t.num) l k E;have A:z.toList.take (aB l*2)=l.flatMap λt=>[aI t.name,aM aP t.num]:=aq;rw[<-A,bD,if_pos (by omega)] at p0 p1;exact⟨g,C,G,by simp only[aC,d];simpa using p0,by simp only[aC,d];simpa using p1,(zg d).1⟩
theorem qF{α:Type}(p:α->Bool)(l:List α)(h:∀j,(d:j<aB l)->p l[j]=false):l.any p=false:=by grind [List.any_eq_false,List.getElem_of_mem]
theorem Gf(v:Vq)(l:List Tm)(b:Nat)(x:ByteArray)(d:Nat)(w:Wq)(M:Qh w b v l)(hl:aB l<=1000):Cs 218 #[v,aJ #[St x,Ii d]] w λe w'=>∃r:Int,e=aO (Ii r)/\decide (0<=r)=ki l x d/\bG w.heap.size w w':=by
 have⟨a,c,ai⟩:=M.form;have A:∀k (hk:k<aB l),∃g,a=aV ⟨g,0,aW⟩/\aC w (Ad g (k*2))=aV (St (l[k]).name)/\aC w (Ad g (k*2+1))=aV (Ii (l[k]).num)/\g<w.heap.size:=by grind [pF]
 subst ai;have O:=aA A;clear A M;go_enter Tryz.func218,Tryz.ntmps218;go_wp2
 go_loopw [8] (λi wr=>∃k q:Nat,k<=aB l/\i=aM aP k/\Hid (∀j,(z:j<aB l)->j<k->s9 x d l[j]=false)/\wr=(w.alloc (aN #[aI x,aM aP d] 166)).drewN q) (λi _=>aB l-(intOf i).toNat)
 case atStart=>exact⟨0,0,zz,rfl,λj _ z=>by omega,rfl⟩
 case round=>
  obtain⟨k,q,hk,rfl,C,rfl⟩:=hrel;by_cases ae:k<aB l
  .obtain⟨g,rfl,q0,q1,hg⟩:=O.o k ae;have ax:g≠w.heap.size:=by{omega};have he:=λW=>Hc x (l[k]).name d (l[k]).num W;have i1:(k:Int)<(aB l:Int):=by{omega};have i2:(0:Int)<=(k:Int):=by{omega};have E:Hid (s9 x d l[k]=((x.toList == (l[k]).name.toList) && (d == (l[k]).num))):=rfl;generalize aq:l[k]=tk at *;have G:=aA aq;clear aq;generalize hb:((x.toList == tk.name.toList) && (d == tk.num))=bb at *;have al:=aA hb;clear hb
   cases bb with
   |true=>
    go_wp2;go_quiet (fail);go_wp2;go_ret;refine⟨k,rfl,?_,?_⟩
    .have Z:ki l x d=true:=by{unfold ki;rw[aY];exact⟨l[k],aZ ae,by rw[G.o,E.o]⟩};rw[Z];simp
    .exact⟨rfl,rfl,rfl,by show _<=(w.alloc _).heap.size;simp,λj z=>bB _ _ j z⟩
   |false=>
    go_wp2;go_quiet (fail);go_wp2
    go_roundw
    case rel=>
     refine⟨k+1,q+nq,by omega,by go_num,?_,rfl⟩;intro j z ay;by_cases e:j=k;{subst e;rw[G.o];exact E.o};{exact C.o j z (by omega)}
    case measure=>simp[intOf];omega
  .go_wp2;go_ret;refine⟨-1,rfl,?_,?_⟩;{unfold ki;rw[qF _ _ (λj z=>C.o j z (by omega))];rfl};{exact⟨rfl,rfl,rfl,by show _<=(w.alloc _).heap.size;simp,λj z=>bB _ _ j z⟩}
theorem Hy(v:Vq)(l:List Tm)(b:Nat)(x:ByteArray)(d:Nat)(w:Wq)(A:Qh w b v l)(hl:aB l<=1000):Cs 168 #[v,aJ #[St x,Ii d]] w λe w'=>e=aO (aK (ki l x d))/\bG w.heap.size w w':=by
 have hI:∀O,Cs 218 #[v,aJ #[St x,Ii d]] (w.alloc O) λe w'=>∃r:Int,e=aO (Ii r)/\decide (0<=r)=ki l x d/\bG w.heap.size w w':=λO=>by have z:bG w.heap.size w (w.alloc O):=(aX _ w).alloc zl O;refine (Gf v l b x d (w.alloc O) (A.rk (qf.ofBelow z)) hl).mono ?_;rintro e w' ⟨r,M,Z,h3⟩;exact⟨r,M,Z,z.trans (h3.mono (by simp))⟩
 have E:=aA hI;clear hI;obtain⟨a,c,rfl⟩:=A.form;clear A;go_enter Tryz.func168,Tryz.ntmps168;go_wp2_with fail;refine (E.o _).mono ?_;rintro e w1 ⟨r,rfl,C,z⟩;have G:=aA C;clear C;go_wp2;go_ret;exact⟨ie (by rw[<-G.o]),z⟩
theorem GC(rel:ByteArray)(v:Vq)(l:List Tm)(b z:Nat)(x:ByteArray)(d:Nat)(w:Wq)(E:Qh w b v l)(hl:aB l<=1000)(A:w.heap[z]?=cC #[St x,Ii d] 166):Cs 167 #[aJ #[St rel,v],Pt z] w λe w'=>e=aO (aK (ki l x d))/\bG w.heap.size w w':=by
 have ae:=(zg A).1;have c0:aC w (Ad z 0)=aV (St x):=zc A;have c1:aC w (Ad z 1)=aV (Ii d):=zc A;have ax:z≠w.heap.size:=by omega
 have hI:∀O,Cs 168 #[v,aJ #[St x,Ii d]] (w.alloc O) λe w'=>e=aO (aK (ki l x d))/\bG w.heap.size w w':=λO=>by have C:bG w.heap.size w (w.alloc O):=(aX _ w).alloc zl O;refine (Hy v l b x d (w.alloc O) (E.rk (qf.ofBelow C)) hl).mono ?_;rintro e w' ⟨M,Z⟩;exact⟨M,C.trans (Z.mono (by simp))⟩
 have G:=aA hI;clear hI A;obtain⟨a,c,rfl⟩:=E.form;clear E;go_enter Tryz.func167,Tryz.ntmps167;go_wp2_with fail;refine (G.o _).mono ?_;rintro e w1 ⟨rfl,C⟩;go_wp2;go_ret;exact⟨rfl,C⟩
theorem wJ{v:Vq}(h:eW W ad ac v l){k:Nat}(d:k<aB l):∃g ak c z,v=aH (aV ⟨g,ak,aW⟩) (aB l) c/\aC W (Ad g (ak+k*2))=aV (St (l[k]).rel)/\aC W (Ad g (ak+k*2+1))=aV z/\Qh W ac z (l[k]).args/\g<W.heap.size:=by
 have⟨ps,a,cap,e1,e2,e3,e4⟩:=h;have G:aB ps=aB l:=by grind
 have⟨g,ak,a7,k1,k2,k3,k4⟩:=e4 (by intro e;rw[e] at d;simp at d);have E:k<aB ps:=by omega
 have⟨p0,p1⟩:=sP (λp:Am×Vq=>aI p.1.rel) (λp=>p.2) ps k E;have A:(a7.toList.drop ak).take (aB l*2)=ps.flatMap λp=>[aI p.1.rel,p.2]:=k4;rw[<-A,bD,if_pos (by omega),List.getElem?_drop] at p0 p1;have C:l[k]=(ps[k]).1:=by simp[<-e1]
 refine⟨g,ak,cap,(ps[k]).2,by rw[e2,k1],?_,?_,?_,(zg k3).1⟩
 .simp only[aC,k3];rw[C];simpa using p0
 .simp only[aC,k3];simpa [Nat.add_assoc] using p1
 .grind
theorem eW.form{v:Vq}(h:eW W ad ac v l):∃a c,v=aH a (aB l) c:=by have⟨ps,a,cap,e1,e2,_⟩:=h;exact⟨a,cap,e2⟩
theorem eW.form2{v:Vq}(h:eW W ad ac v l):∃a c,v=aH a (aB l) c/\aB l<=c:=by have⟨ps,a,cap,e1,e2,e3,_⟩:=h;exact⟨a,cap,e2,e3.2⟩
theorem Iq(v:Vq)(l:List Am)(ad ac C:Nat)(x:ByteArray)(z:Nat)(w:Wq)(hS:eW w ad ac v l)(hl:aB l<=1000)(ha:∀a∈l,aB a.args<=1000)(Z:w.heap[C]?=cC #[aI x,aM aP z] 166):Cs 217 #[v,.func (.func 167) #[] #[.pointer (aV ⟨C,0,aW⟩)]] w λe w'=>∃r:Int,e=aO (aM aP r)/\decide (0<=r)=l.any (λa=>ki a.args x z)/\bG w.heap.size w w':=by
 obtain⟨a,c,ai⟩:=hS.form;have M:∀k (hk:k<aB l),∃g ak E,a=aV ⟨g,ak,aW⟩/\aC w (Ad g (ak+k*2))=aV (aI (l[k]).rel)/\aC w (Ad g (ak+k*2+1))=aV E/\Qh w ac E (l[k]).args/\g<w.heap.size:=by grind [wJ]
 subst ai;have HC:Hid _:=M;have bn:Hid _:=Z;have HA:Hid _:=ha;clear M hS Z ha;go_enter Tryz.func217,Tryz.ntmps217;go_wp2
 go_loopw [8] (λi wr=>∃k:Nat,k<=aB l/\i=aM aP k/\Hid (∀j,(A:j<aB l)->j<k->ki (l[j]).args x z=false)/\bG w.heap.size w wr) (λi _=>aB l-(intOf i).toNat)
 case atStart=>exact⟨0,zz,rfl,λj _ A=>by omega,zr⟩
 case round=>
  obtain⟨k,hk,rfl,O,d⟩:=hrel;by_cases ae:k<aB l
  .obtain⟨g,ak,E,rfl,q0,q1,hs,hg⟩:=HC.o k ae;have au:=(d.cell (p:=⟨g,ak+k*2,aW⟩) hg).trans q0;have ap:=(d.cell (p:=⟨g,ak+k*2+1,aW⟩) hg).trans q1;have G:=GC (l[k]).rel E (l[k]).args ac C x z wr (hs.rk (qf.ofBelow d)) (HA.o _ (zm ae)) ((d.block C (zg bn.o).1).trans bn.o);obtain⟨sa,sc,av⟩:=hs.form;rw[av] at G ap;have i1:(k:Int)<(aB l:Int):=by omega
   generalize hbb:ki (l[k]).args x z=bb at *;have al:Hid (ki (l[k]).args x z=bb):=hbb;clear hbb q0 q1 hs av;generalize (l[k]).rel=rel at *;generalize (aB (l[k]).args)=m at *
   cases bb with
   |true=>
    go_wp2_with fail;refine G.mono ?_;rintro e w1 ⟨rfl,aa⟩;go_wp2;go_ret;refine⟨k,rfl,?_,d.trans (aa.mono d.size)⟩;have h1:l.any (λa=>ki a.args x z)=true:=by rw[aY];exact⟨l[k],aZ ae,al.o⟩
    rw[h1];simp
   |false=>
    go_wp2_with fail;refine G.mono ?_;rintro e w1 ⟨rfl,aa⟩;go_wp2
    go_roundw
    case rel=>
     refine⟨k+1,by omega,by go_num,?_,d.trans (aa.mono d.size)⟩;intro j A ay;by_cases e:j=k
     .subst e;exact al.o
     .exact O.o j A (by omega)
    case measure=>simp[intOf];omega
  .go_wp2;go_ret;refine⟨-1,rfl,?_,d⟩;rw[qF _ _ (λj A=>O.o j A (by omega))];rfl
theorem DT(r:Rl)(vb:Vq)(ad ac z:Nat)(x:ByteArray)(d:Nat)(w:Wq)(C:iS r)(A:eW w ad ac vb r.body)(E:w.heap[z]?=cC #[St x,Ii d] 166):Cs 166 #[vb,.func (.func 167) #[] #[Pt z]] w λe w'=>e=aO (aK (qC r x d))/\bG w.heap.size w w':=by have hI:=Iq vb r.body ad ac z x d w A (by have:=C.body;omega) (λa Z=>by have:=(C.ams a Z).args;omega) E;obtain⟨a,c,rfl⟩:=A.form;have M:Hid _:=hI;clear hI A E;go_enter Tryz.func166,Tryz.ntmps166;go_wp2_with fail;refine bC M.o ?_;rintro e w1 ⟨i,rfl,G,hb⟩;have O:Hid (decide (0<=i)=qC r x d):=G;clear G;go_wp2;go_ret;exact⟨ie (by rw[<-O.o]),hb⟩
theorem JO(r:Rl)(v0 vb:Vq)(ad ac z:Nat)(t:Tm)(w:Wq)(af:iS r)(G:jx w ad ac r v0 vb)(A:w.heap[z]?=cC #[St r.head.rel,v0,vb] 136):Cs 165 #[aJ #[St t.name,Ii t.num],Pt z] w λe w'=>e=aO (aK (mu r t))/\bG w.heap.size w w':=by
 have ae:=(zg A).1;have Z:aC w (Ad z 2)=aV vb:=zc A;have ax:z≠w.heap.size:=by omega
 have⟨a,c,ai⟩:=G.2.form;have hI:∀W1,bG (w.alloc (aN #[St t.name,Ii t.num] 166)).heap.size (w.alloc (aN #[St t.name,Ii t.num] 166)) W1->Cs 166 #[vb,.func (.func 167) #[] #[Pt w.heap.size]] W1 λe w'=>e=aO (aK (qC r t.name t.num))/\bG w.heap.size w w':=by intro W1 aa;have C:bG w.heap.size w (w.alloc (aN #[St t.name,Ii t.num] 166)):=(aX _ w).alloc zl _;have d:bG w.heap.size w W1:=C.trans (aa.mono (by simp));refine (DT r vb ad ac w.heap.size t.name t.num _ af (G.2.rk (qf.ofBelow d)) ((aa.block w.heap.size (by simp)).trans (zn w _))).mono ?_;rintro e w' ⟨h1,h3⟩;exact⟨h1,d.trans (h3.mono d.size)⟩
 have E:Hid (∀O W1,bG (w.alloc O).heap.size (w.alloc O) W1->aC W1 (Ad z 2)=aV vb/\bG w.heap.size w W1):=λO W1 aa=>by have C:bG w.heap.size w (w.alloc O):=(aX _ w).alloc zl _;have d:bG w.heap.size w W1:=C.trans (aa.mono (by simp));exact⟨(d.cell (p:=⟨z,2,aW⟩) ae).trans Z,d⟩
 rw[ai] at Z hI E;have HI:=aA hI;have M:Hid (∀W,Cs 139 #[aJ #[St t.name,Ii t.num]] W λe w'=>e=aO (aK t.name.toList.isEmpty)/\bG W.heap.size W w'):=λW=>pu t W;have hu:Hid (mu r t=(t.name.toList.isEmpty && !qC r t.name t.num)):=rfl;clear hI A G ai;generalize mu r t=ub at *;generalize qC r t.name t.num=bh at *;generalize t.num=tn at *;generalize htv:t.name.toList.isEmpty=tv at *;clear htv;generalize t.name=tx at *
 cases tv with
 |false=>
  go_enter Tryz.func165,Tryz.ntmps165
  go_wp2_with (go_at_call 139;refine (M.o _).mono ?_;rintro e W1 ⟨rfl,aa⟩)
  go_ret;exact⟨ie (by rw[hu.o];rfl),(E.o _ _ aa).2⟩
 |true=>
  go_enter Tryz.func165,Tryz.ntmps165
  go_wp2_with (first|(go_at_call 139;refine (M.o _).mono ?_;rintro e W1 ⟨rfl,aa⟩;have kc:=(E.o _ _ aa).1)|(go_at_call 166;refine (HI.o W1 aa).mono ?_;rintro e w2 ⟨rfl,d⟩))
  go_ret;exact⟨ie (by rw[hu.o];rfl),d⟩
theorem JJ(r:Rl)(G vb:Vq)(ad ac z:Nat)(w:Wq)(M:iS r)(E:jx w ad ac r G vb)(O:w.heap[z]?=cC #[aI r.head.rel,G,vb] 136):Cs 192 #[G,.func (.func 165) #[] #[.pointer (aV ⟨z,0,aW⟩)]] w λe w'=>∃i:Int,e=aO (aM aP i)/\decide (0<=i)=kF r/\bG w.heap.size w w':=by
 obtain⟨a,c,ai⟩:=E.1.form;have hl:aB r.head.args<=1000:=by have:=M.head.args;omega
 have Ql:∀k (Z:k<aB r.head.args),∃g,a=aV ⟨g,0,aW⟩/\aC w (Ad g (k*2))=aV (aI (r.head.args[k]).name)/\aC w (Ad g (k*2+1))=aV (aM aP (r.head.args[k]).num)/\g<w.heap.size:=by intro k Z;obtain⟨g,c',C,h2,h3,h4⟩:=pF E.1 Z;rw[ai] at C;cases C;exact⟨g,rfl,h2,h3,h4⟩
 have b4:∀wr,bG w.heap.size w wr->∀t,Cs 165 #[aJ #[aI t.name,aM aP t.num],.pointer (aV ⟨z,0,aW⟩)] wr λe w'=>e=aO (aK (mu r t))/\bG wr.heap.size wr w':=λwr d t=>JO r G vb ad ac z t wr M (E.rk (qf.ofBelow d)) ((d.block z (zg O).1).trans O);subst ai;have HC:Hid _:=Ql;have HF:Hid _:=b4;have HU:Hid (kF r=r.head.args.any (mu r)):=rfl;clear Ql b4 E O M;generalize r.head.args=l at *;generalize kF r=us at *;go_enter Tryz.func192,Tryz.ntmps192;go_wp2
 go_loopw [8] (λi wr=>∃k:Nat,k<=aB l/\i=aM aP k/\Hid (∀j,(A:j<aB l)->j<k->mu r l[j]=false)/\bG w.heap.size w wr) (λi _=>aB l-(intOf i).toNat)
 case atStart=>exact⟨0,zz,rfl,λj _ A=>by omega,zr⟩
 case round=>
  obtain⟨k,Z,rfl,ag,d⟩:=hrel;by_cases ae:k<aB l
  .obtain⟨g,rfl,q0,q1,hg⟩:=HC.o k ae;have au:=(d.cell (p:=⟨g,k*2,aW⟩) hg).trans q0;have ap:=(d.cell (p:=⟨g,k*2+1,aW⟩) hg).trans q1;have ah:=HF.o wr d l[k];have i1:(k:Int)<(aB l:Int):=by omega
   generalize hbb:mu r l[k]=bb at *;have al:Hid (mu r l[k]=bb):=hbb;clear hbb q0 q1;generalize (l[k]).name=tx at *;generalize (l[k]).num=tv at *
   cases bb with
   |true=>
    go_wp2_with fail;refine ah.mono ?_;rintro e w1 ⟨rfl,aa⟩;go_wp2;go_ret;refine⟨k,rfl,?_,d.trans (aa.mono d.size)⟩;have C:l.any (mu r)=true:=by rw[aY];exact⟨l[k],aZ ae,al.o⟩
    rw[HU.o,C];simp
   |false=>
    go_wp2_with fail;refine ah.mono ?_;rintro e w1 ⟨rfl,aa⟩;go_wp2
    go_roundw
    case rel=>
     refine⟨k+1,by omega,by go_num,?_,d.trans (aa.mono d.size)⟩;intro j A ay;by_cases e:j=k
     .subst e;exact al.o
     .exact ag.o j A (by omega)
    case measure=>simp[intOf];omega
  .go_wp2;go_ret;refine⟨-1,rfl,?_,d⟩;rw[HU.o,qF _ _ (λj A=>ag.o j A (by omega))];rfl
theorem Im(r:Rl)(d vb:Vq)(ad ac z:Nat)(w:Wq)(O:iS r)(A:jx w ad ac r d vb)(C:w.heap[z]?=cC #[St r.head.rel,d,vb] 136):Cs 142 #[d,.func (.func 165) #[] #[Pt z]] w λe w'=>e=aO (aK (kF r))/\bG w.heap.size w w':=by have hI:=JJ r d vb ad ac z w O A C;obtain⟨a,c,rfl⟩:=A.1.form;have G:=aA hI;clear hI A C;go_enter Tryz.func142,Tryz.ntmps142;go_wp2_with fail;refine bC G.o ?_;rintro e w1 ⟨i,rfl,E,Z⟩;have M:=aA E;clear E;go_wp2;go_ret;exact⟨ie (by rw[<-M.o]),Z⟩
theorem Gw(r:Rl)(d vb:Vq)(ad ac:Nat)(w:Wq)(E:iS r)(A:jx w ad ac r d vb):Cs 102 #[aJ #[St r.head.rel,d,vb]] w λe w'=>e=aO (aK (kF r))/\bG w.heap.size w w':=by
 have hI:Cs 142 #[d,.func (.func 165) #[] #[Pt w.heap.size]] (w.alloc (aN #[St r.head.rel,d,vb] 136)) λe w'=>e=aO (aK (kF r))/\bG w.heap.size w w':=by have z:bG w.heap.size w (w.alloc (aN #[St r.head.rel,d,vb] 136)):=(aX _ w).alloc zl _;refine (Im r d vb ad ac w.heap.size _ E (A.rk (qf.ofBelow z)) (zn w _)).mono ?_;rintro e w' ⟨G,M⟩;exact⟨G,z.trans (M.mono (by simp))⟩
 have⟨a,c,hf⟩:=A.1.form;have⟨a',c',b0⟩:=A.2.form;rw[hf,b0] at hI ⊢;have C:=aA hI;clear hI A hf b0;go_enter Tryz.func102,Tryz.ntmps102;go_wp2_with fail;refine bC C.o ?_;rintro e w1 ⟨rfl,z⟩;go_wp2;go_ret;exact⟨rfl,z⟩
theorem uB(p:Rl->Bool):∀(rs:List Rl) (i k:Nat),k<=aB rs->(∀j,(d:j<aB rs)->j<k->p rs[j]=false)->mp p i rs=mp p (i+k) (rs.drop k)
 |rs,i,0,_,_=>by simp
 |[],i,k+1,h,_=>by simp at h
 |r::rs,i,k+1,h,hn=>by
  have h0:=hn 0 (by simp) (by omega);simp only[List.getElem_cons_zero] at h0
  rw[mp,if_neg (by simp[h0]),List.drop_succ_cons,uB p rs (i+1) k (by simpa using h) (λj d z=>by
   have:=hn (j+1) (by simp;omega) (by omega)
   simpa using this)]
  congr 1;omega
theorem I8(p:Rl->Bool)(rs:List Rl)(k:Nat)(d:k<aB rs)(z:∀j,(A:j<aB rs)->j<k->p rs[j]=false)(h:p rs[k]=true):mp p 0 rs=k:=by rw[uB p rs 0 k (by omega) z,List.drop_eq_getElem_cons d,mp,if_pos h];simp
theorem Jd(p:Rl->Bool)(rs:List Rl)(z:∀j,(d:j<aB rs)->p rs[j]=false):mp p 0 rs=-1:=by rw[uB p rs 0 (aB rs) (by omega) (λj d _=>z j d),List.drop_length];rfl
theorem Iw(v:Vq)(rs:List Rl)(aj ad ac:Nat)(w:Wq)(O:Qn w aj ad ac v rs)(Q2:∀g,aF v=aV g->g<w.heap.size)(h8:aB rs<=8)(af:∀r∈rs,iS r):Cs 101 #[v,.func (.func 102) #[] #[]] w λe w'=>e=aO (Ii (mP rs))/\bG w.heap.size w w':=by
 have⟨a,c,ai⟩:=O.form;have Ql:∀k (Z:k<aB rs),∃g z vb,a=aV ⟨g,0,aW⟩/\aC w (Ad g (k*3))=aV (St (rs[k]).head.rel)/\aC w (Ad g (k*3+1))=aV z/\aC w (Ad g (k*3+2))=aV vb/\jx w ad ac rs[k] z vb/\g<w.heap.size:=by intro k Z;have⟨g,c',z,vb,h1,h2,h3,h4,h5⟩:=n9 O Z;have A:=Q2 g (by rw[h1];rfl);rw[ai] at h1;cases h1;exact⟨g,z,vb,rfl,h2,h3,h4,h5,A⟩
 subst ai;have HC:=aA Ql;have a8:=aA af;clear Ql O af Q2;go_enter Tryz.func101,Tryz.ntmps101;go_wp2
 go_loopw [8] (λi wr=>∃k:Nat,k<=aB rs/\i=aM aP k/\Hid (∀j,(C:j<aB rs)->j<k->kF rs[j]=false)/\bG w.heap.size w wr) (λi _=>aB rs-(intOf i).toNat)
 case atStart=>exact⟨0,zz,rfl,λj _ C=>by omega,zr⟩
 case round=>
  obtain⟨k,Z,rfl,M,d⟩:=hrel;by_cases ae:k<aB rs
  .obtain⟨g,z,vb,rfl,q0,q1,q2,G,A⟩:=HC.o k ae;have au:=(d.cell (p:=⟨g,k*3,aW⟩) A).trans q0;have ap:=(d.cell (p:=⟨g,k*3+1,aW⟩) A).trans q1;have ck:=(d.cell (p:=⟨g,k*3+2,aW⟩) A).trans q2;have E:=Gw rs[k] z vb ad ac wr (a8.o _ (zm ae)) (G.rk (qf.ofBelow d));have⟨sa,sc,av⟩:=G.1.form;have⟨ta,tc,bq⟩:=G.2.form;rw[av] at E ap;rw[bq] at E ck;have i1:(k:Int)<(aB rs:Int):=by{omega};generalize hbb:kF rs[k]=bb at *;have al:=aA hbb;clear hbb q0 q1 q2 G av bq;generalize (rs[k]).head.rel=rel at *;generalize (aB (rs[k]).head.args)=m1 at *;generalize (aB (rs[k]).body)=m2 at *
   cases bb with
   |true=>go_wp2_with fail;refine E.mono ?_;rintro e w1 ⟨rfl,aa⟩;go_wp2;go_ret;exact⟨m9 (I8 kF rs k ae M.o al.o).symm,d.trans (aa.mono d.size)⟩
   |false=>
    go_wp2_with fail;refine E.mono ?_;rintro e w1 ⟨rfl,aa⟩;go_wp2
    go_roundw
    case rel=>
     refine⟨k+1,by omega,by go_num,?_,d.trans (aa.mono d.size)⟩;intro j C ay;by_cases e:j=k;{subst e;exact al.o};{exact M.o j C (by omega)}
    case measure=>simp[intOf];omega
  .go_wp2;go_ret;exact⟨m9 (Jd kF rs (λj C=>M.o j C (by omega))).symm,d⟩
def lN(t:Tm):Bool:=t.name.toList.isEmpty
theorem Ds(l:List Tm)(v0:Vq)(b:Nat)(w:Wq)(M:Qh w b v0 l)(hl:aB l<=1000):Cs 192 #[v0,.func (.func 139) #[] #[]] w λe w'=>∃i:Int,e=aO (Ii i)/\decide (0<=i)=l.any lN/\bG w.heap.size w w':=by
 have⟨a,c,ai⟩:=M.form;have A:∀k (hk:k<aB l),∃g,a=aV ⟨g,0,aW⟩/\aC w (Ad g (k*2))=aV (St (l[k]).name)/\aC w (Ad g (k*2+1))=aV (Ii (l[k]).num)/\g<w.heap.size:=by grind [pF]
 subst ai;have HC:=aA A;have HF:Hid (∀wr,∀t:Tm,Cs 139 #[aJ #[St t.name,Ii t.num]] wr λe w'=>e=aO (aK (lN t))/\bG wr.heap.size wr w'):=λwr t=>pu t wr;clear A M;go_enter Tryz.func192,Tryz.ntmps192;go_wp2
 go_loopw [8] (λi wr=>∃k:Nat,k<=aB l/\i=aM aP k/\Hid (∀j,(z:j<aB l)->j<k->lN l[j]=false)/\bG w.heap.size w wr) (λi _=>aB l-(intOf i).toNat)
 case atStart=>exact⟨0,zz,rfl,λj _ z=>by omega,zr⟩
 case round=>
  obtain⟨k,hk,rfl,C,d⟩:=hrel;by_cases ae:k<aB l
  .obtain⟨g,rfl,O,Z,G⟩:=HC.o k ae;have au:=(d.cell (p:=⟨g,k*2,aW⟩) G).trans O;have ap:=(d.cell (p:=⟨g,k*2+1,aW⟩) G).trans Z;have E:=HF.o wr l[k];have i1:(k:Int)<(aB l:Int):=by{omega};generalize hbb:lN l[k]=bb at *;have al:=aA hbb;clear hbb O Z;generalize (l[k]).name=tx at *;generalize (l[k]).num=tv at *
   cases bb with
   |true=>
    go_wp2_with fail;refine E.mono ?_;rintro e w1 ⟨rfl,aa⟩;go_wp2;go_ret;refine⟨k,rfl,?_,d.trans (aa.mono d.size)⟩;have h1:l.any lN=true:=by{rw[aY];exact⟨l[k],aZ ae,al.o⟩};rw[h1];simp
   |false=>
    go_wp2_with fail;refine E.mono ?_;rintro e w1 ⟨rfl,aa⟩;go_wp2
    go_roundw
    case rel=>
     refine⟨k+1,by omega,by go_num,?_,d.trans (aa.mono d.size)⟩;intro j z ay;by_cases e:j=k;{subst e;exact al.o};{exact C.o j z (by omega)}
    case measure=>simp[intOf];omega
  .go_wp2;go_ret;refine⟨-1,rfl,?_,d⟩;rw[qF _ _ (λj z=>C.o j z (by omega))];rfl
def iG(a:Am):Bool:=!a.args.any lN
theorem Jg(a:Am)(z:Vq)(b:Nat)(w:Wq)(d:Qh w b z a.args)(hl:aB a.args<=1000):Cs 78 #[aJ #[St a.rel,z]] w λe w'=>e=aO (aK (iG a))/\bG w.heap.size w w':=by
 have hI:Hid (∀W,bG w.heap.size w W->Cs 192 #[z,.func (.func 139) #[] #[]] W λe w'=>∃i:Int,e=aO (Ii i)/\decide (0<=i)=a.args.any lN/\bG W.heap.size W w'):=λW A=>Ds a.args z b W (d.rk (qf.ofBelow A)) hl;obtain⟨xa,xc,rfl⟩:=d.form;have M:Hid (∀W,bG w.heap.size w W->Cs 142 #[aH xa (aB a.args) xc,.func (.func 139) #[] #[]] W λe w'=>e=aO (aK (a.args.any lN))/\bG W.heap.size W w'):=by intro W A;have C:=hI.o W A;have G:=aA C;clear C hI d;go_enter Tryz.func142,Tryz.ntmps142;go_wp2_with fail;refine bC G.o ?_;rintro e w1 ⟨i,rfl,E,aa⟩;have O:=aA E;clear E;go_wp2;go_ret;exact⟨ie (by rw[<-O.o]),aa⟩
 have Z:Hid (iG a=!a.args.any lN):=rfl;clear hI d;generalize iG a=gb at *;generalize a.args.any lN=ab at *;go_enter Tryz.func78,Tryz.ntmps78
 go_wp2_with (go_at_call 142;refine (M.o _ ((aX _ w).alloc zl _)).mono ?_;rintro e w1 ⟨rfl,aa⟩)
 go_ret;exact⟨ie (by rw[Z.o]),((aX _ w).alloc zl _).trans (aa.mono (by simp))⟩
def tG(s:ByteArray)(w:Wq)(e:Ending)(w':Wq):Prop:=
 bG w.heap.size w w'/\match iX s with
  |none=>e=aO (aL #[aJ #[aI ⟨#[]⟩,aH aW 0 0],aK false])
  |some a=>∃va,e=aO (aL #[aJ #[aI a.rel,va],aK (iG a)])/\kC a/\Qh w' w'.heap.size va a.args
theorem CN(s:ByteArray)(w:Wq)(hs:s.size<=4611686018427387904)(hT:Lib.Utf8Tabs 0 1 w):Cs 40 #[St s] w (tG s w):=by
 obtain⟨N,hN⟩:∃N,w.heap.size=N:=⟨_,rfl⟩;have hr:Hid (∀W,bG w.heap.size w W->Cs 49 #[St s] W (pH s W)):=λW z=>EN s W hs (Utf8Tabs_below hT z);obtain⟨E,a9⟩:∃E,w.alloc (aN #[St ⟨#[]⟩,aH aW 0 0] 92)=E:=⟨_,rfl⟩;have bj:E.heap.size=N+1:=by rw[<-a9,<-hN];simp
 have bc:bG N w E:=by rw[<-a9];exact (aX _ w).alloc (by omega) _
 have G:=hr.o E (by rw[hN];exact bc);have be:Hid (∀W1,bG (N+1) E W1->W1.heap[N]?=cC #[St ⟨#[]⟩,aH aW 0 0] 92):=λW1 z=>uL hN (by rw[a9];exact z);have Qf:Hid (∀W1 x v,bG (N+1) E W1->bG w.heap.size w (ky W1 N x v)):=λW1 x v z=>by rw[hN];exact rv (bc.trans (z.mono (by omega))) _ _
 unfold pH at G;rw[bj] at G;have HG:Hid (∀P,tG s w P=tG s w P):=λ_=>rfl;clear hr hT bc HG;have HS:=aA bj;clear bj
 cases ha:iX s with
 |none=>
  rw[ha] at G;have HA:=aA ha;have HR:=aA G;clear ha G;go_enter Tryz.func40,Tryz.ntmps40;go_wp2_with fail;refine bC HR.o ?_;rintro e W1 ⟨aa,rfl⟩;have d:=be.o W1 aa;have q0:aC W1 (Ad N 0)=aV (St ⟨#[]⟩):=(by simp[aC,d]);have y0:aD W1 (Ad N 0)=false:=(by simp[aD,d]);have q1:aC W1 (Ad N 1)=aV (aH aW 0 0):=(by simp[aC,d]);have y1:aD W1 (Ad N 1)=false:=(by simp[aD,d]);have au:∀O,aC (W1.alloc O) (Ad N 0)=aV (St ⟨#[]⟩):=λO=>(bF ((aX _ W1).alloc zl O) (p:=⟨N,0,aW⟩) (zg d).1).trans q0;have ap:∀O,aC (W1.alloc O) (Ad N 1)=aV (aH aW 0 0):=λO=>(bF ((aX _ W1).alloc zl O) (p:=⟨N,1,aW⟩) (zg d).1).trans q1;have bf:∀O,(W1.alloc O).heap[N]?=_:=λO=>(bB W1 O N (zg d).1).trans d;have cr:∀O,aD (W1.alloc O) (Ad N 0)=false:=λO=>by{simp[aD,bf O]};have cu:∀O,aD (W1.alloc O) (Ad N 1)=false:=λO=>by{simp[aD,bf O]};have ce:Hid (∀O,bG (N+1) E (W1.alloc O).drew):=λO=>aa.trans ((((aX _ W1).alloc zl O).drew).mono (by have:=aa.size;rw[HS.o] at this;exact this));clear d bf;go_wp2
  go_region
  all_goals go_wp2
  all_goals refine bodyPost_ret (v:=aL #[aJ #[St ⟨#[]⟩,aH aW 0 0],aK false]) (by simp[results,Tryz.results40,go_sem,au,ap]) rfl ?_
  all_goals exact⟨Qf.o _ _ _ (ce.o _),by rw[HA.o]⟩
 |some a=>
  rw[ha] at G;have HA:=aA ha;have HR:=aA G;clear ha G;go_enter Tryz.func40,Tryz.ntmps40;go_wp2_with fail;refine bC HR.o ?_;rintro e W1 ⟨aa,va,rfl,af,a6⟩;obtain⟨A,C,rfl⟩:=a6.form;have d:=be.o W1 aa;have q0:aC W1 (Ad N 0)=aV (St ⟨#[]⟩):=(by simp[aC,d]);have y0:aD W1 (Ad N 0)=false:=(by simp[aD,d]);have q1:aC W1 (Ad N 1)=aV (aH aW 0 0):=(by simp[aC,d]);have y1:aD W1 (Ad N 1)=false:=(by simp[aD,d]);have ci:Hid (∀W,qf W1 W->Cs 78 #[aJ #[St a.rel,aH A (aB a.args) C]] W λe w'=>e=aO (aK (iG a))/\bG W.heap.size W w'):=λW z=>Jg a _ W1.heap.size W (a6.rk z) (by have:=af.args;omega);have az:Hid (∀O,qf W1 (W1.alloc O).drew):=λO k c t _ M=>(bB W1 O k (zg M).1).trans M;have ca:Hid (∀O W2,bG (W1.alloc O).drew.heap.size (W1.alloc O).drew W2->bG W1.heap.size W1 W2):=λO W2 z=>(((aX _ W1).alloc zl O).drew).trans (z.mono (by show _<=(W1.alloc O).heap.size;simp));have bk:Hid (∀W,bG W1.heap.size W1 W->W.heap[N]?=cC #[St ⟨#[]⟩,aH aW 0 0] 92/\bG (N+1) E W):=λW z=>by{have hx:=aa.trans (z.mono (by have:=aa.size;rw[HS.o] at this;exact this));exact⟨be.o W hx,hx⟩};have cc:Hid (∀W,bG W1.heap.size W1 W->Qh (ky W N a.rel (aH A (aB a.args) C)) (ky W N a.rel (aH A (aB a.args) C)).heap.size (aH A (aB a.args) C) a.args):=λW z=>by{show Qh _ _ _ _;rw[uK];refine (a6.mono z.size).kept (λk c _ M=>(wK _ _ _ _ (λe=>?_)).trans ((z.block k (zg M).1).trans M));have:=(bk.o W z).1;rw[e] at M;rw[z.block N (zg M).1,M] at this;cases this};have cb:Hid (∀W2,bG (W1.alloc (aN #[St a.rel,aH A (aB a.args) C] 92)).drew.heap.size (W1.alloc (aN #[St a.rel,aH A (aB a.args) C] 92)).drew W2->W2.heap[W1.heap.size]?=cC #[St a.rel,aH A (aB a.args) C] 92):=λW2 z=>(z.block _ (by show _<(W1.alloc _).heap.size;simp)).trans (zn W1 _);have a8:=aA af;clear a6 af d;go_wp2;refine wp_mono (Q:=λe a' w'=>match e with|Exit.normal=>∃W2,bG W1.heap.size W1 W2/\w'=ky W2 N a.rel (aH A (aB a.args) C)/\a'={tmps:=#[St s,undef,Pt N,aK (iG a),Pt W1.heap.size,aK true,aL #[aJ #[St a.rel,aH A (aB a.args) C],aK true],St s,aL #[aJ #[St a.rel,aH A (aB a.args) C],aK true],aJ #[St a.rel,aH A (aB a.args) C],aK true,aJ #[St a.rel,aH A (aB a.args) C],aK true,aK true,aJ #[St a.rel,aH A (aB a.args) C],aK (iG a),aK (iG a)],defers:=[]}|_=>False) ?reg ?rest
  case reg=>
   first|(go_region_with (go_at_call 78;refine (ci.o _ (az.o _)).mono ?_;rintro e W2 ⟨rfl,b7⟩;have Z:=ca.o _ _ b7;have p2:=cb.o W2 b7;have u0:aC W2 (Ad W1.heap.size 0)=aV (St a.rel):=(by simp[aC,p2]);have u1:aC W2 (Ad W1.heap.size 1)=aV (aH A (aB a.args) C):=(by simp[aC,p2]);clear p2;have⟨d,b8⟩:=bk.o W2 Z;have r0:aC W2 (Ad N 0)=aV (St ⟨#[]⟩):=(by simp[aC,d]);have z0:aD W2 (Ad N 0)=false:=(by simp[aD,d]);have r1:aC W2 (Ad N 1)=aV (aH aW 0 0):=(by simp[aC,d]);have z1:aD W2 (Ad N 1)=false:=(by simp[aD,d]);clear d))|fail
   all_goals exact⟨W2,Z,rfl,rfl⟩
  case rest=>
   rintro (_|_|_|_|_|_) a' w' hq
   all_goals first|exact hq.elim|skip
   obtain⟨W2,Z,rfl,rfl⟩:=hq;have⟨d,b8⟩:=bk.o W2 Z;have r0:aC W2 (Ad N 0)=aV (St ⟨#[]⟩):=(by simp[aC,d]);have z0:aD W2 (Ad N 0)=false:=(by simp[aD,d]);have r1:aC W2 (Ad N 1)=aV (aH aW 0 0):=(by simp[aC,d]);unfold ky;go_wp2;refine bodyPost_ret (v:=aL #[aJ #[St a.rel,aH A (aB a.args) C],aK (iG a)]) (by simp[results,Tryz.results40,go_sem,r0,r1]) rfl ?_;exact⟨Qf.o _ _ _ b8,by rw[HA.o];exact⟨_,rfl,a8.o,cc.o W2 Z⟩⟩
