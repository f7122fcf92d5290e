/- A part -/
import Derived.Test.YtjajnhemgphefaaGreatDoorKAddN
import Derived.Laws.StructEq
set_option linter.all false
set_option maxRecDepth 100000
set_option maxHeartbeats 1000000
namespace Go.Proofs.YtjajnhemgphefaaGreatDoor
open Go renaming World->Wq,Value->Vq
open Go.RowKit Go.Shelf
variable {W:Wq} {ak ad ac:Nat} {l:List Am}
def qe1(ds:List Nat):List Deferred:=ds.map λD=>{target:=.collected D,args:=#[]}
theorem qep{n:Nat}{fn:Func}{tmps:Array Vq}{R:Ending->Wq->Prop}:∀(ds:List Nat) (W:Wq),ds.Nodup->(∀D∈ds,W.heap[D]?=some (.deferred (some [])))->
  (∀W',Chg W W' (λj=>j∈ds)->W'.heap.size=W.heap.size->LeavesInM Fence.wide n Tryz.prog fn tmps R [] .returning W')->LeavesInM Fence.wide n Tryz.prog fn tmps R (qe1 ds) .returning W
 | [],W,_,_,h=>h W (Chg.refl _ _) rfl
 | D::ds,W,hn,hd,h=>by
  have hD:=hd D (by simp);refine⟨by simp,.inl ⟨_,_,rfl,run_takeDeferred hD,?_⟩⟩;have hg:=grownBy_putObj' W D (.deferred none);have co:(W.putObj D (.deferred none)).heap.size=W.heap.size:=by simp[World.putObj]
  have hc:Chg W (W.putObj D (.deferred none)) (λj=>j∈D::ds):=(Chg.refl W _).grown hg (λk e _=>by cases e;simp);refine qep ds _ (List.nodup_cons.1 hn).2 (λD' h'=>?_) (λW' cd cn=>h W' (hc.trans (cd.mono (λ_ _ e=>by simp[e]))) (by omega));have ax:D'≠D:=λe=>(List.nodup_cons.1 hn).1 (e ▸ h');have b6:=hd D' (by simp[h']);exact (hg.block D' (zg b6).1 (by simpa using ax)).trans b6
theorem qdb{v:Vq}{rs:List Rl}(h:Qb W ak ad ac v rs){k:Nat}(hk:k < rs.length) :
  ∃(g c:Nat) (v0 vb:Vq),v=.slice (some ⟨g,0,none⟩) rs.length c/\W.cell? (Ad g (k*3))=some (St (rs[k]).head.rel)/\W.cell? (Ad g (k*3+1))=some v0/\W.cell? (Ad g (k*3+2))=some vb/\qfb W ad ac rs[k] v0 vb:=by
 obtain⟨qs,r1,r2,r3⟩:=h;have ce:qs.length=rs.length:=by rw[<- r1];simp
 obtain⟨_,⟨_,hz⟩ | ⟨g,c,az,hv,_,hw,_,_,_,aq⟩⟩:=r2
 .omega
 have bq:k < qs.length:=by omega
 have a7:rs[k]=(qs[k]).1:=by simp[<- r1]
 have ca:∀(l:List (Rl×Vq×Vq)) (i:Nat) (hi:i < l.length),(l.flatMap qoe)[i*3]?=some (St (l[i]).1.head.rel)/\(l.flatMap qoe)[i*3+1]?=some (l[i]).2.1/\(l.flatMap qoe)[i*3+2]?=some (l[i]).2.2:=by
  intro l
  induction l with
  | nil=>intro i hi;simp at hi
  | cons x l ih=>
   intro i hi
   cases i with
   | zero=>simp[qoe]
   | succ i=>
    simp only[List.length_cons] at hi;have:=ih i (by omega);simp only[List.flatMap_cons,qoe,List.cons_append,List.nil_append];rw[show (i+1)*3=i*3+3 by omega];exact this
 obtain⟨p0,p1,p2⟩:=ca qs k bq;rw[<- aq,List.getElem?_take,if_pos (by omega)] at p0 p1 p2;refine⟨g,c,(qs[k]).2.1,(qs[k]).2.2,by rw[hv,ce],?_,?_,?_,?_⟩
 .simp only[World.cell?,hw];rw[a7];simpa using p0
 .simp only[World.cell?,hw];simpa using p1
 .simp only[World.cell?,hw];simpa using p2
 .rw[a7];exact r3 _ (zm bq)
theorem Qb.rk{W':Wq}{v:Vq}{l:List Rl}(h:Qb W ak ad ac v l)(hk:qf W W'):Qb W' ak ad ac v l:=h.keep (λk c t ht hc=>hk k c t ht hc)
theorem Qb.form{v:Vq}{l:List Rl}(h:Qb W ak ad ac v l):∃a c,v=.slice a l.length c:=by
 obtain⟨qs,r1,r2,r3⟩:=h;obtain⟨a,c,e⟩:=qo r2;exact⟨a,c,by rw[e,<- r1];simp⟩
theorem Qal(a c:By)(b d:Nat)(w:Wq):(binOp .eql 166 (.agg #[St a,Ii b]) (.agg #[St c,Ii d])).run Tryz.prog w=.ok (.bool (a.toList == c.toList && b == d)) w:=by
 have u3:=Tryz.underlying9;have a3:=Tryz.isAgg9;have z3:=Tryz.sizeOf9;have u4:=Tryz.underlying3;have a4:=Tryz.isAgg3;have z4:=Tryz.sizeOf3;have hS:Tryz.prog.underlying 166=some (.struct (Tryz.prog.fieldsOf 166)):=by kernel_rfl
 have hp:Tryz.prog.stoodInHeld 166=false:=by kernel_rfl
 rw[run_eql_struct,show (10000:Nat)=9999+1 from rfl,run_equalIn_agg w 9999 166 _ _ hS hp];simp only[Program.fieldsOf,Tryz.underlying166]
 go_simp
 by_cases h2:b=d
 .subst h2;by_cases h1:a.toList=c.toList <;> simp[h1]
 .have h3:¬((b:Int)=(d:Int)):=by omega
  by_cases h1:a.toList=c.toList <;> simp[h1,h2,h3]
theorem qfn{b:Nat}{v:Vq}{l:List Tm}(h:Qi W b v l){k:Nat}(hk:k < l.length) :
  ∃g c,v=.slice (some ⟨g,0,none⟩) l.length c/\W.cell? (Ad g (k*2))=some (St (l[k]).name)/\W.cell? (Ad g (k*2+1))=some (Ii (l[k]).num)/\g < W.heap.size:=by
 obtain⟨e0,_⟩ | ⟨g,cp,az,hv,b0,bd,aq⟩:=h
 .rw[e0] at hk;simp at hk
 obtain⟨p0,p1⟩:=qlu (λt:Tm=>Value.string t.name) (λt=>Value.int .i64 t.num) l k hk;have cc:az.toList.take (l.length*2)=l.flatMap λt=>[Value.string t.name,Value.int .i64 t.num]:=aq;rw[<- cc,List.getElem?_take,if_pos (by omega)] at p0 p1;exact⟨g,cp,hv,by simp only[World.cell?,bd];simpa using p0,by simp only[World.cell?,bd];simpa using p1,(zg bd).1⟩
theorem qg5{α:Type}(p:α->Bool)(l:List α)(h:∀j,(hj:j < l.length)->p l[j]=false):l.any p=false:=by
 rw[List.any_eq_false];intro x hx;obtain⟨j,hj,rfl⟩:=List.getElem_of_mem hx;simp[h j hj]
theorem qyb(v:Vq)(l:List Tm)(b:Nat)(x:By)(xb:Nat)(w:Wq)(hS:Qi w b v l)(hl:l.length<=1000) :
  Cs 218 #[v,.agg #[St x,Ii xb]] w λe w'=>∃r:Int,e=.returned (Ii r)/\decide (0<=r)=qka l x xb/\Below w.heap.size w w':=by
 obtain⟨a,c,ag⟩:=hS.form
 have Qj:∀k (hk:k < l.length),∃g,a=some ⟨g,0,none⟩/\w.cell? (Ad g (k*2))=some (St (l[k]).name)/\w.cell? (Ad g (k*2+1))=some (Ii (l[k]).num)/\g < w.heap.size:=by
  intro k hk;obtain⟨g,c',h1,h2,h3,h4⟩:=qfn hS hk;rw[ag] at h1;cases h1;exact⟨g,rfl,h2,h3,h4⟩
 subst ag;have HC:Hid _:=Qj;clear Qj hS;go_enter Tryz.func218,Tryz.ntmps218;go_wp2
 go_loopw [8] (λi wr=>∃k q:Nat,k<=l.length/\i=.int .i64 k/\Hid (∀j,(hj:j < l.length)->j < k->qzy x xb l[j]=false)/\wr=(w.alloc (.cells #[.string x,.int .i64 xb] 166)).drewN q) (λi _=>l.length - (intOf i).toNat)
 case atStart=>exact⟨0,0,zz,rfl,λj _ hj=>by omega,rfl⟩
 case round=>
  obtain⟨k,q,hk,rfl,ai,rfl⟩:=hrel;by_cases ae:k < l.length
  .obtain⟨g,rfl,q0,q1,hg⟩:=HC.out k ae;have ax:g≠w.heap.size:=by omega
   have he:=λW=>Qal x (l[k]).name xb (l[k]).num W;have i1:(k:Int) < (l.length:Int):=by omega
   have i2:(0:Int)<=(k:Int):=by omega
   have bn:Hid (qzy x xb l[k]=((x.toList == (l[k]).name.toList) && (xb == (l[k]).num))):=rfl;generalize aq:l[k]=tk at *;have b4:Hid (l[k]=tk):=aq;clear aq;generalize hb:((x.toList == tk.name.toList) && (xb == tk.num))=bb at *;have al:Hid (((x.toList == tk.name.toList) && (xb == tk.num))=bb):=hb;clear hb
   cases bb with
   | true=>
    go_wp2;go_quiet (fail);go_wp2;go_ret;refine⟨k,rfl,?_,?_⟩
    .have h1:qka l x xb=true:=by
      unfold qka;rw[List.any_eq_true];exact⟨l[k],List.getElem_mem ae,by rw[b4.out,bn.out]⟩
     rw[h1];simp
    .exact⟨rfl,rfl,rfl,by show _<=(w.alloc _).heap.size;simp,λj hj=>Below.heap_alloc _ _ j hj⟩
   | false=>
    go_wp2;go_quiet (fail);go_wp2
    go_roundw
    case rel=>
     refine⟨k+1,q+nq,by omega,by go_num,?_,rfl⟩;intro j hj ay;by_cases e:j=k
     .subst e;rw[b4.out];exact bn.out
     .exact ai.out j hj (by omega)
    case measure=>simp[intOf];omega
  .go_wp2;go_ret;refine⟨-1,rfl,?_,?_⟩
   .unfold qka;rw[qg5 _ _ (λj hj=>ai.out j hj (by omega))];rfl
   .exact⟨rfl,rfl,rfl,by show _<=(w.alloc _).heap.size;simp,λj hj=>Below.heap_alloc _ _ j hj⟩
theorem qrd(v:Vq)(l:List Tm)(b:Nat)(x:By)(xb:Nat)(w:Wq)(hS:Qi w b v l)(hl:l.length<=1000) :
  Cs 168 #[v,.agg #[St x,Ii xb]] w λe w'=>e=.returned (.bool (qka l x xb))/\Below w.heap.size w w':=by
 have hI:∀O,Cs 218 #[v,.agg #[St x,Ii xb]] (w.alloc O) λe w'=>∃r:Int,e=.returned (Ii r)/\decide (0<=r)=qka l x xb/\Below w.heap.size w w':=λO=>by
  have hb:Below w.heap.size w (w.alloc O):=(Below.refl _ w).alloc zl O;refine (qyb v l b x xb (w.alloc O) (hS.rk (qf.ofBelow hb)) hl).mono ?_;rintro e w' ⟨r,h1,h2,h3⟩;exact⟨r,h1,h2,hb.trans (h3.mono (by simp))⟩
 have HI:Hid _:=hI;clear hI;obtain⟨a,c,rfl⟩:=hS.form;clear hS;go_enter Tryz.func168,Tryz.ntmps168;go_wp2_with fail;refine (HI.out _).mono ?_;rintro e w1 ⟨r,rfl,hr,hb⟩;have HR:Hid (decide (0<=r)=qka l x xb):=hr;clear hr;go_wp2;go_ret;exact⟨qaj (by rw[<- HR.out]),hb⟩
theorem qvx(rel:By)(v:Vq)(l:List Tm)(b Bt:Nat)(x:By)(xb:Nat)(w:Wq)(hS:Qi w b v l)(hl:l.length<=1000)(an:w.heap[Bt]?=cC #[St x,Ii xb] 166) :
  Cs 167 #[.agg #[St rel,v],.pointer (some ⟨Bt,0,none⟩)] w λe w'=>e=.returned (.bool (qka l x xb))/\Below w.heap.size w w':=by
 have ae:=(zg an).1;have c0:w.cell? (Ad Bt 0)=some (St x):=zc an
 have c1:w.cell? (Ad Bt 1)=some (Ii xb):=zc an
 have ax:Bt≠w.heap.size:=by omega
 have hI:∀O,Cs 168 #[v,.agg #[St x,Ii xb]] (w.alloc O) λe w'=>e=.returned (.bool (qka l x xb))/\Below w.heap.size w w':=λO=>by
  have hb:Below w.heap.size w (w.alloc O):=(Below.refl _ w).alloc zl O;refine (qrd v l b x xb (w.alloc O) (hS.rk (qf.ofBelow hb)) hl).mono ?_;rintro e w' ⟨h1,h3⟩;exact⟨h1,hb.trans (h3.mono (by simp))⟩
 have HI:Hid _:=hI;clear hI an;obtain⟨a,c,rfl⟩:=hS.form;clear hS;go_enter Tryz.func167,Tryz.ntmps167;go_wp2_with fail;refine (HI.out _).mono ?_;rintro e w1 ⟨rfl,hb⟩;go_wp2;go_ret;exact⟨rfl,hb⟩
theorem qld{v:Vq}(h:qar W ad ac v l){k:Nat}(hk:k < l.length) :
  ∃g ah c va,v=.slice (some ⟨g,ah,none⟩) l.length c/\W.cell? (Ad g (ah+k*2))=some (St (l[k]).rel)/\W.cell? (Ad g (ah+k*2+1))=some va/\Qi W ac va (l[k]).args/\g < W.heap.size:=by
 obtain⟨ps,a,cap,e1,e2,e3,e4⟩:=h;have cl:ps.length=l.length:=by rw[<- e1];simp
 obtain⟨g,ah,az,k1,k2,k3,k4⟩:=e4 (by intro e;rw[e] at hk;simp at hk);have b7:k < ps.length:=by omega
 obtain⟨p0,p1⟩:=qlu (λp:Am×Vq=>Value.string p.1.rel) (λp=>p.2) ps k b7;have cj:(az.toList.drop ah).take (l.length*2)=ps.flatMap λp=>[Value.string p.1.rel,p.2]:=k4;rw[<- cj,List.getElem?_take,if_pos (by omega),List.getElem?_drop] at p0 p1;have b3:l[k]=(ps[k]).1:=by simp[<- e1]
 refine⟨g,ah,cap,(ps[k]).2,by rw[e2,k1],?_,?_,?_,(zg k3).1⟩
 .simp only[World.cell?,k3];rw[b3];simpa using p0
 .simp only[World.cell?,k3];simpa [Nat.add_assoc] using p1
 .rw[b3];exact e3.1 _ (zm b7)
theorem qar.form{v:Vq}(h:qar W ad ac v l):∃a c,v=.slice a l.length c:=by
 obtain⟨ps,a,cap,e1,e2,_⟩:=h;exact⟨a,cap,e2⟩
theorem qar.form2{v:Vq}(h:qar W ad ac v l):∃a c,v=.slice a l.length c/\l.length<=c:=by
 obtain⟨ps,a,cap,e1,e2,e3,_⟩:=h;exact⟨a,cap,e2,e3.2⟩
theorem qtt(v:Vq)(l:List Am)(ad ac Bt:Nat)(x:By)(xb:Nat)(w:Wq)(hS:qar w ad ac v l)(hl:l.length<=1000)(ha:∀a∈l,a.args.length<=1000)(an:w.heap[Bt]?=cC #[St x,Ii xb] 166) :
  Cs 217 #[v,.func (.func 167) #[] #[.pointer (some ⟨Bt,0,none⟩)]] w λe w'=>∃r:Int,e=.returned (Ii r)/\decide (0<=r)=l.any (λa=>qka a.args x xb)/\Below w.heap.size w w':=by
 obtain⟨a,c,ag⟩:=hS.form
 have Qj:∀k (hk:k < l.length),∃g ah va,a=some ⟨g,ah,none⟩/\w.cell? (Ad g (ah+k*2))=some (St (l[k]).rel)/\w.cell? (Ad g (ah+k*2+1))=some va/\Qi w ac va (l[k]).args/\g < w.heap.size:=by
  intro k hk;obtain⟨g,ah,c',va,h1,h2,h3,h4,h5⟩:=qld hS hk;rw[ag] at h1;cases h1;exact⟨g,ah,va,rfl,h2,h3,h4,h5⟩
 subst ag;have HC:Hid _:=Qj;have bu:Hid _:=an;have HA:Hid _:=ha;clear Qj hS an ha;go_enter Tryz.func217,Tryz.ntmps217;go_wp2
 go_loopw [8] (λi wr=>∃k:Nat,k<=l.length/\i=.int .i64 k/\Hid (∀j,(hj:j < l.length)->j < k->qka (l[j]).args x xb=false)/\Below w.heap.size w wr) (λi _=>l.length - (intOf i).toNat)
 case atStart=>exact⟨0,zz,rfl,λj _ hj=>by omega,zr⟩
 case round=>
  obtain⟨k,hk,rfl,ai,hb⟩:=hrel;by_cases ae:k < l.length
  .obtain⟨g,ah,va,rfl,q0,q1,hs,hg⟩:=HC.out k ae;have aw:=(hb.cell (p:=⟨g,ah+k*2,none⟩) hg).trans q0;have ap:=(hb.cell (p:=⟨g,ah+k*2+1,none⟩) hg).trans q1;have aj:=qvx (l[k]).rel va (l[k]).args ac Bt x xb wr (hs.rk (qf.ofBelow hb)) (HA.out _ (zm ae)) ((hb.block Bt (zg bu.out).1).trans bu.out);obtain⟨sa,sc,au⟩:=hs.form;rw[au] at aj ap;have i1:(k:Int) < (l.length:Int):=by omega
   generalize hbb:qka (l[k]).args x xb=bb at *;have al:Hid (qka (l[k]).args x xb=bb):=hbb;clear hbb q0 q1 hs au;generalize (l[k]).rel=rel at *;generalize (l[k]).args.length=m at *
   cases bb with
   | true=>
    go_wp2_with fail;refine aj.mono ?_;rintro e w1 ⟨rfl,aa⟩;go_wp2;go_ret;refine⟨k,rfl,?_,hb.trans (aa.mono hb.size)⟩
    have h1:l.any (λa=>qka a.args x xb)=true:=by
     rw[List.any_eq_true];exact⟨l[k],List.getElem_mem ae,al.out⟩
    rw[h1];simp
   | false=>
    go_wp2_with fail;refine aj.mono ?_;rintro e w1 ⟨rfl,aa⟩;go_wp2
    go_roundw
    case rel=>
     refine⟨k+1,by omega,by go_num,?_,hb.trans (aa.mono hb.size)⟩;intro j hj ay;by_cases e:j=k
     .subst e;exact al.out
     .exact ai.out j hj (by omega)
    case measure=>simp[intOf];omega
  .go_wp2;go_ret;refine⟨-1,rfl,?_,hb⟩;rw[qg5 _ _ (λj hj=>ai.out j hj (by omega))];rfl
theorem qtf(r:Rl)(vb:Vq)(ad ac Bt:Nat)(x:By)(xb:Nat)(w:Wq)(af:qch r)(hS:qar w ad ac vb r.body)(an:w.heap[Bt]?=cC #[St x,Ii xb] 166) :
  Cs 166 #[vb,.func (.func 167) #[] #[.pointer (some ⟨Bt,0,none⟩)]] w λe w'=>e=.returned (.bool (qgk r x xb))/\Below w.heap.size w w':=by
 have hI:=qtt vb r.body ad ac Bt x xb w hS (by have:=af.body;omega) (λa ha=>by have:=(af.ams a ha).args;omega) an;obtain⟨a,c,rfl⟩:=hS.form;have HI:Hid _:=hI;clear hI hS an;go_enter Tryz.func166,Tryz.ntmps166;go_wp2_with fail;refine Calls.mono HI.out ?_;rintro e w1 ⟨i,rfl,hr,hb⟩;have HR:Hid (decide (0<=i)=qgk r x xb):=hr;clear hr;go_wp2;go_ret;exact⟨qaj (by rw[<- HR.out]),hb⟩
theorem qyi(r:Rl)(v0 vb:Vq)(ad ac Br:Nat)(t:Tm)(w:Wq)(af:qch r)(hv:qfb w ad ac r v0 vb)(am:w.heap[Br]?=cC #[St r.head.rel,v0,vb] 136) :
  Cs 165 #[.agg #[St t.name,Ii t.num],.pointer (some ⟨Br,0,none⟩)] w λe w'=>e=.returned (.bool (qdd r t))/\Below w.heap.size w w':=by
 have ae:=(zg am).1;have c2:w.cell? (Ad Br 2)=some vb:=zc am
 have ax:Br≠w.heap.size:=by omega
 obtain⟨a,c,ag⟩:=hv.2.form
 have hI:∀W1,Below (w.alloc (.cells #[St t.name,Ii t.num] 166)).heap.size (w.alloc (.cells #[St t.name,Ii t.num] 166)) W1->Cs 166 #[vb,.func (.func 167) #[] #[.pointer (some ⟨w.heap.size,0,none⟩)]] W1 λe w'=>e=.returned (.bool (qgk r t.name t.num))/\Below w.heap.size w w':=by
  intro W1 aa;have be:Below w.heap.size w (w.alloc (.cells #[St t.name,Ii t.num] 166)):=(Below.refl _ w).alloc zl _;have hb:Below w.heap.size w W1:=be.trans (aa.mono (by simp));refine (qtf r vb ad ac w.heap.size t.name t.num _ af (hv.2.rk (qf.ofBelow hb)) ((aa.block w.heap.size (by simp)).trans (zn w _))).mono ?_;rintro e w' ⟨h1,h3⟩;exact⟨h1,hb.trans (h3.mono hb.size)⟩
 have hC:Hid (∀O W1,Below (w.alloc O).heap.size (w.alloc O) W1->W1.cell? (Ad Br 2)=some vb/\Below w.heap.size w W1):=λO W1 aa=>by
  have be:Below w.heap.size w (w.alloc O):=(Below.refl _ w).alloc zl _;have hb:Below w.heap.size w W1:=be.trans (aa.mono (by simp));exact⟨(hb.cell (p:=⟨Br,2,none⟩) ae).trans c2,hb⟩
 rw[ag] at c2 hI hC;have HI:Hid _:=hI;have b5:Hid (∀W,Cs 139 #[.agg #[St t.name,Ii t.num]] W λe w'=>e=.returned (.bool t.name.toList.isEmpty)/\Below W.heap.size W w'):=λW=>qb6 t W;have hu:Hid (qdd r t=(t.name.toList.isEmpty && !qgk r t.name t.num)):=rfl;clear hI am hv ag;generalize qdd r t=ub at *;generalize qgk r t.name t.num=bh at *;generalize t.num=tn at *;generalize htv:t.name.toList.isEmpty=tv at *;clear htv;generalize t.name=tx at *
 cases tv with
 | false=>
  go_enter Tryz.func165,Tryz.ntmps165
  go_wp2_with (go_at_call 139;refine (b5.out _).mono ?_;rintro e W1 ⟨rfl,aa⟩)
  go_ret;exact⟨qaj (by rw[hu.out];rfl),(hC.out _ _ aa).2⟩
 | true=>
  go_enter Tryz.func165,Tryz.ntmps165
  go_wp2_with (first | (go_at_call 139;refine (b5.out _).mono ?_;rintro e W1 ⟨rfl,aa⟩;have kc:=(hC.out _ _ aa).1) | (go_at_call 166;refine (HI.out W1 aa).mono ?_;rintro e w2 ⟨rfl,hb⟩))
  go_ret;exact⟨qaj (by rw[hu.out];rfl),hb⟩
theorem qtv(r:Rl)(v0 vb:Vq)(ad ac Br:Nat)(w:Wq)(af:qch r)(hv:qfb w ad ac r v0 vb)(am:w.heap[Br]?=cC #[St r.head.rel,v0,vb] 136) :
  Cs 192 #[v0,.func (.func 165) #[] #[.pointer (some ⟨Br,0,none⟩)]] w λe w'=>∃i:Int,e=.returned (Ii i)/\decide (0<=i)=qdm r/\Below w.heap.size w w':=by
 obtain⟨a,c,ag⟩:=hv.1.form;have hl:r.head.args.length<=1000:=by have:=af.head.args;omega
 have Qj:∀k (hk:k < r.head.args.length),∃g,a=some ⟨g,0,none⟩/\w.cell? (Ad g (k*2))=some (St (r.head.args[k]).name)/\w.cell? (Ad g (k*2+1))=some (Ii (r.head.args[k]).num)/\g < w.heap.size:=by
  intro k hk;obtain⟨g,c',h1,h2,h3,h4⟩:=qfn hv.1 hk;rw[ag] at h1;cases h1;exact⟨g,rfl,h2,h3,h4⟩
 have bt:∀wr,Below w.heap.size w wr->∀t,Cs 165 #[.agg #[St t.name,Ii t.num],.pointer (some ⟨Br,0,none⟩)] wr λe w'=>e=.returned (.bool (qdd r t))/\Below wr.heap.size wr w':=λwr hb t=>
  qyi r v0 vb ad ac Br t wr af (hv.rk (qf.ofBelow hb)) ((hb.block Br (zg am).1).trans am)
 subst ag;have HC:Hid _:=Qj;have HF:Hid _:=bt;have HU:Hid (qdm r=r.head.args.any (qdd r)):=rfl;clear Qj bt hv am af;generalize r.head.args=l at *;generalize qdm r=us at *;go_enter Tryz.func192,Tryz.ntmps192;go_wp2
 go_loopw [8] (λi wr=>∃k:Nat,k<=l.length/\i=.int .i64 k/\Hid (∀j,(hj:j < l.length)->j < k->qdd r l[j]=false)/\Below w.heap.size w wr) (λi _=>l.length - (intOf i).toNat)
 case atStart=>exact⟨0,zz,rfl,λj _ hj=>by omega,zr⟩
 case round=>
  obtain⟨k,hk,rfl,ai,hb⟩:=hrel;by_cases ae:k < l.length
  .obtain⟨g,rfl,q0,q1,hg⟩:=HC.out k ae;have aw:=(hb.cell (p:=⟨g,k*2,none⟩) hg).trans q0;have ap:=(hb.cell (p:=⟨g,k*2+1,none⟩) hg).trans q1;have aj:=HF.out wr hb l[k];have i1:(k:Int) < (l.length:Int):=by omega
   generalize hbb:qdd r l[k]=bb at *;have al:Hid (qdd r l[k]=bb):=hbb;clear hbb q0 q1;generalize (l[k]).name=tx at *;generalize (l[k]).num=tv at *
   cases bb with
   | true=>
    go_wp2_with fail;refine aj.mono ?_;rintro e w1 ⟨rfl,aa⟩;go_wp2;go_ret;refine⟨k,rfl,?_,hb.trans (aa.mono hb.size)⟩
    have h1:l.any (qdd r)=true:=by
     rw[List.any_eq_true];exact⟨l[k],List.getElem_mem ae,al.out⟩
    rw[HU.out,h1];simp
   | false=>
    go_wp2_with fail;refine aj.mono ?_;rintro e w1 ⟨rfl,aa⟩;go_wp2
    go_roundw
    case rel=>
     refine⟨k+1,by omega,by go_num,?_,hb.trans (aa.mono hb.size)⟩;intro j hj ay;by_cases e:j=k
     .subst e;exact al.out
     .exact ai.out j hj (by omega)
    case measure=>simp[intOf];omega
  .go_wp2;go_ret;refine⟨-1,rfl,?_,hb⟩;rw[HU.out,qg5 _ _ (λj hj=>ai.out j hj (by omega))];rfl
theorem qtg(r:Rl)(v0 vb:Vq)(ad ac Br:Nat)(w:Wq)(af:qch r)(hv:qfb w ad ac r v0 vb)(am:w.heap[Br]?=cC #[St r.head.rel,v0,vb] 136) :
  Cs 142 #[v0,.func (.func 165) #[] #[.pointer (some ⟨Br,0,none⟩)]] w λe w'=>e=.returned (.bool (qdm r))/\Below w.heap.size w w':=by
 have hI:=qtv r v0 vb ad ac Br w af hv am;obtain⟨a,c,rfl⟩:=hv.1.form;have HI:Hid _:=hI;clear hI hv am;go_enter Tryz.func142,Tryz.ntmps142;go_wp2_with fail;refine Calls.mono HI.out ?_;rintro e w1 ⟨i,rfl,hr,hb⟩;have HR:Hid (decide (0<=i)=qdm r):=hr;clear hr;go_wp2;go_ret;exact⟨qaj (by rw[<- HR.out]),hb⟩
theorem qvr(r:Rl)(v0 vb:Vq)(ad ac:Nat)(w:Wq)(af:qch r)(hv:qfb w ad ac r v0 vb) :
  Cs 102 #[.agg #[St r.head.rel,v0,vb]] w λe w'=>e=.returned (.bool (qdm r))/\Below w.heap.size w w':=by
 have hI:Cs 142 #[v0,.func (.func 165) #[] #[.pointer (some ⟨w.heap.size,0,none⟩)]] (w.alloc (.cells #[St r.head.rel,v0,vb] 136)) λe w'=>e=.returned (.bool (qdm r))/\Below w.heap.size w w':=by
  have hb:Below w.heap.size w (w.alloc (.cells #[St r.head.rel,v0,vb] 136)):=(Below.refl _ w).alloc zl _;refine (qtg r v0 vb ad ac w.heap.size _ af (hv.rk (qf.ofBelow hb)) (zn w _)).mono ?_;rintro e w' ⟨h1,h3⟩;exact⟨h1,hb.trans (h3.mono (by simp))⟩
 obtain⟨a,c,hf⟩:=hv.1.form;obtain⟨a',c',bv⟩:=hv.2.form;rw[hf,bv] at hI ⊢;have HI:Hid _:=hI;clear hI hv hf bv;go_enter Tryz.func102,Tryz.ntmps102;go_wp2_with fail;refine Calls.mono HI.out ?_;rintro e w1 ⟨rfl,hb⟩;go_wp2;go_ret;exact⟨rfl,hb⟩
theorem qfv(p:Rl->Bool):∀(rs:List Rl) (i k:Nat),k<=rs.length->(∀j,(hj:j < rs.length)->j < k->p rs[j]=false)->qcu p i rs=qcu p (i+k) (rs.drop k)
 | rs,i,0,_,_=>by simp
 | [],i,k+1,h,_=>by simp at h
 | r::rs,i,k+1,h,hn=>by
  have h0:=hn 0 (by simp) (by omega);simp only[List.getElem_cons_zero] at h0
  rw[qcu,if_neg (by simp[h0]),List.drop_succ_cons,qfv p rs (i+1) k (by simpa using h) (λj hj hk=>by
   have:=hn (j+1) (by simp;omega) (by omega)
   simpa using this)]
  congr 1;omega
theorem qpf(p:Rl->Bool)(rs:List Rl)(k:Nat)(hk:k < rs.length)(hn:∀j,(hj:j < rs.length)->j < k->p rs[j]=false)(h:p rs[k]=true):qcu p 0 rs=k:=by
 rw[qfv p rs 0 k (by omega) hn,List.drop_eq_getElem_cons hk,qcu,if_pos h];simp
theorem qpg(p:Rl->Bool)(rs:List Rl)(hn:∀j,(hj:j < rs.length)->p rs[j]=false):qcu p 0 rs=-1:=by
 rw[qfv p rs 0 rs.length (by omega) (λj hj _=>hn j hj),List.drop_length];rfl
theorem qtu(v:Vq)(rs:List Rl)(ak ad ac:Nat)(w:Wq)(hR:Qb w ak ad ac v rs)(Qv:∀g,v.ownBlock=some g->g < w.heap.size)(h8:rs.length<=8)(af:∀r∈rs,qch r) :
  Cs 101 #[v,.func (.func 102) #[] #[]] w λe w'=>e=.returned (Ii (qci rs))/\Below w.heap.size w w':=by
 obtain⟨a,c,ag⟩:=hR.form
 have Qj:∀k (hk:k < rs.length),∃g v0 vb,a=some ⟨g,0,none⟩/\w.cell? (Ad g (k*3))=some (St (rs[k]).head.rel)/\w.cell? (Ad g (k*3+1))=some v0/\w.cell? (Ad g (k*3+2))=some vb/\qfb w ad ac rs[k] v0 vb/\g < w.heap.size:=by
  intro k hk;obtain⟨g,c',v0,vb,h1,h2,h3,h4,h5⟩:=qdb hR hk;have hg:=Qv g (by rw[h1];rfl);rw[ag] at h1;cases h1;exact⟨g,v0,vb,rfl,h2,h3,h4,h5,hg⟩
 subst ag;have HC:Hid _:=Qj;have bj:Hid _:=af;clear Qj hR af Qv;go_enter Tryz.func101,Tryz.ntmps101;go_wp2
 go_loopw [8] (λi wr=>∃k:Nat,k<=rs.length/\i=.int .i64 k/\Hid (∀j,(hj:j < rs.length)->j < k->qdm rs[j]=false)/\Below w.heap.size w wr) (λi _=>rs.length - (intOf i).toNat)
 case atStart=>exact⟨0,zz,rfl,λj _ hj=>by omega,zr⟩
 case round=>
  obtain⟨k,hk,rfl,ai,hb⟩:=hrel;by_cases ae:k < rs.length
  .obtain⟨g,v0,vb,rfl,q0,q1,q2,hv,hg⟩:=HC.out k ae;have aw:=(hb.cell (p:=⟨g,k*3,none⟩) hg).trans q0;have ap:=(hb.cell (p:=⟨g,k*3+1,none⟩) hg).trans q1;have cg:=(hb.cell (p:=⟨g,k*3+2,none⟩) hg).trans q2;have aj:=qvr rs[k] v0 vb ad ac wr (bj.out _ (zm ae)) (hv.rk (qf.ofBelow hb));obtain⟨sa,sc,au⟩:=hv.1.form;obtain⟨ta,tc,bo⟩:=hv.2.form;rw[au] at aj ap;rw[bo] at aj cg;have i1:(k:Int) < (rs.length:Int):=by omega
   generalize hbb:qdm rs[k]=bb at *;have al:Hid (qdm rs[k]=bb):=hbb;clear hbb q0 q1 q2 hv au bo;generalize (rs[k]).head.rel=rel at *;generalize (rs[k]).head.args.length=m1 at *;generalize (rs[k]).body.length=m2 at *
   cases bb with
   | true=>
    go_wp2_with fail;refine aj.mono ?_;rintro e w1 ⟨rfl,aa⟩;go_wp2;go_ret;exact⟨qfl (qpf qdm rs k ae ai.out al.out).symm,hb.trans (aa.mono hb.size)⟩
   | false=>
    go_wp2_with fail;refine aj.mono ?_;rintro e w1 ⟨rfl,aa⟩;go_wp2
    go_roundw
    case rel=>
     refine⟨k+1,by omega,by go_num,?_,hb.trans (aa.mono hb.size)⟩;intro j hj ay;by_cases e:j=k
     .subst e;exact al.out
     .exact ai.out j hj (by omega)
    case measure=>simp[intOf];omega
  .go_wp2;go_ret;exact⟨qfl (qpg qdm rs (λj hj=>ai.out j hj (by omega))).symm,hb⟩
def qnq(t:Tm):Bool:=t.name.toList.isEmpty
theorem qx9(l:List Tm)(v0:Vq)(b:Nat)(w:Wq)(hv:Qi w b v0 l)(hl:l.length<=1000) :
  Cs 192 #[v0,.func (.func 139) #[] #[]] w λe w'=>∃i:Int,e=.returned (Ii i)/\decide (0<=i)=l.any qnq/\Below w.heap.size w w':=by
 obtain⟨a,c,ag⟩:=hv.form
 have Qj:∀k (hk:k < l.length),∃g,a=some ⟨g,0,none⟩/\w.cell? (Ad g (k*2))=some (St (l[k]).name)/\w.cell? (Ad g (k*2+1))=some (Ii (l[k]).num)/\g < w.heap.size:=by
  intro k hk;obtain⟨g,c',h1,h2,h3,h4⟩:=qfn hv hk;rw[ag] at h1;cases h1;exact⟨g,rfl,h2,h3,h4⟩
 subst ag;have HC:Hid _:=Qj;have HF:Hid (∀wr,∀t:Tm,Cs 139 #[.agg #[St t.name,Ii t.num]] wr λe w'=>e=.returned (.bool (qnq t))/\Below wr.heap.size wr w'):=λwr t=>qb6 t wr;clear Qj hv;go_enter Tryz.func192,Tryz.ntmps192;go_wp2
 go_loopw [8] (λi wr=>∃k:Nat,k<=l.length/\i=.int .i64 k/\Hid (∀j,(hj:j < l.length)->j < k->qnq l[j]=false)/\Below w.heap.size w wr) (λi _=>l.length - (intOf i).toNat)
 case atStart=>exact⟨0,zz,rfl,λj _ hj=>by omega,zr⟩
 case round=>
  obtain⟨k,hk,rfl,ai,hb⟩:=hrel;by_cases ae:k < l.length
  .obtain⟨g,rfl,q0,q1,hg⟩:=HC.out k ae;have aw:=(hb.cell (p:=⟨g,k*2,none⟩) hg).trans q0;have ap:=(hb.cell (p:=⟨g,k*2+1,none⟩) hg).trans q1;have aj:=HF.out wr l[k];have i1:(k:Int) < (l.length:Int):=by omega
   generalize hbb:qnq l[k]=bb at *;have al:Hid (qnq l[k]=bb):=hbb;clear hbb q0 q1;generalize (l[k]).name=tx at *;generalize (l[k]).num=tv at *
   cases bb with
   | true=>
    go_wp2_with fail;refine aj.mono ?_;rintro e w1 ⟨rfl,aa⟩;go_wp2;go_ret;refine⟨k,rfl,?_,hb.trans (aa.mono hb.size)⟩
    have h1:l.any qnq=true:=by
     rw[List.any_eq_true];exact⟨l[k],List.getElem_mem ae,al.out⟩
    rw[h1];simp
   | false=>
    go_wp2_with fail;refine aj.mono ?_;rintro e w1 ⟨rfl,aa⟩;go_wp2
    go_roundw
    case rel=>
     refine⟨k+1,by omega,by go_num,?_,hb.trans (aa.mono hb.size)⟩;intro j hj ay;by_cases e:j=k
     .subst e;exact al.out
     .exact ai.out j hj (by omega)
    case measure=>simp[intOf];omega
  .go_wp2;go_ret;refine⟨-1,rfl,?_,hb⟩;rw[qg5 _ _ (λj hj=>ai.out j hj (by omega))];rfl
def qbc(a:Am):Bool:=!a.args.any qnq
theorem qtw(a:Am)(v0:Vq)(b:Nat)(w:Wq)(hv:Qi w b v0 a.args)(hl:a.args.length<=1000) :
  Cs 78 #[.agg #[St a.rel,v0]] w λe w'=>e=.returned (.bool (qbc a))/\Below w.heap.size w w':=by
 have hI:Hid (∀W,Below w.heap.size w W->Cs 192 #[v0,.func (.func 139) #[] #[]] W λe w'=>∃i:Int,e=.returned (Ii i)/\decide (0<=i)=a.args.any qnq/\Below W.heap.size W w'):=λW hb=>qx9 a.args v0 b W (hv.rk (qf.ofBelow hb)) hl;obtain⟨xa,xc,rfl⟩:=hv.form
 have HC:Hid (∀W,Below w.heap.size w W->Cs 142 #[.slice xa a.args.length xc,.func (.func 139) #[] #[]] W λe w'=>e=.returned (.bool (a.args.any qnq))/\Below W.heap.size W w'):=by
  intro W hb;have h1:=hI.out W hb;have H1:Hid _:=h1;clear h1 hI hv;go_enter Tryz.func142,Tryz.ntmps142;go_wp2_with fail;refine Calls.mono H1.out ?_;rintro e w1 ⟨i,rfl,hr,aa⟩;have HR:Hid _:=hr;clear hr;go_wp2;go_ret;exact⟨qaj (by rw[<- HR.out]),aa⟩
 have b0:Hid (qbc a=!a.args.any qnq):=rfl;clear hI hv;generalize qbc a=gb at *;generalize a.args.any qnq=ab at *;go_enter Tryz.func78,Tryz.ntmps78
 go_wp2_with (go_at_call 142;refine (HC.out _ ((Below.refl _ w).alloc zl _)).mono ?_;rintro e w1 ⟨rfl,aa⟩)
 go_ret;exact⟨qaj (by rw[b0.out]),((Below.refl _ w).alloc zl _).trans (aa.mono (by simp))⟩
def qhp(s:By)(w:Wq)(e:Ending)(w':Wq):Prop:=
 Below w.heap.size w w'/\match qcx s with
  | none=>e=.returned (.tuple #[.agg #[St ⟨#[]⟩,.slice none 0 0],.bool false])
  | some a=>∃va,e=.returned (.tuple #[.agg #[St a.rel,va],.bool (qbc a)])/\qkr a/\Qi w' w'.heap.size va a.args
theorem qqi(s:By)(w:Wq)(hs:s.size<=4611686018427387904)(hT:Lib.Utf8Tabs 0 1 w) :
  Cs 40 #[St s] w (qhp s w):=by
 obtain⟨N,hN⟩:∃N,w.heap.size=N:=⟨_,rfl⟩;have hr:Hid (∀W,Below w.heap.size w W->Cs 49 #[St s] W (qfp s W)):=λW hb=>qmc s W hs (Utf8Tabs_below hT hb);obtain⟨WA,bi⟩:∃WA,w.alloc (.cells #[St ⟨#[]⟩,.slice none 0 0] 92)=WA:=⟨_,rfl⟩;have bf:WA.heap.size=N+1:=by rw[<- bi,<- hN];simp
 have bc:Below N w WA:=by rw[<- bi];exact (Below.refl _ w).alloc (by omega) _
 have ao:=hr.out WA (by rw[hN];exact bc);have Qs:Hid (∀W1,Below (N+1) WA W1->W1.heap[N]?=cC #[St ⟨#[]⟩,.slice none 0 0] 92):=λW1 hb=>q27 hN (by rw[bi];exact hb);have q7:Hid (∀W1 x v,Below (N+1) WA W1->Below w.heap.size w (qif W1 N x v)):=λW1 x v hb=>by rw[hN];exact qjf (bc.trans (hb.mono (by omega))) _ _
 unfold qfp at ao;rw[bf] at ao;have HG:Hid (∀P,qhp s w P=qhp s w P):=λ_=>rfl;clear hr hT bc HG;have HS:Hid (WA.heap.size=N+1):=bf;clear bf
 cases ha:qcx s with
 | none=>
  rw[ha] at ao;have HA:Hid (qcx s=none):=ha;have HR:Hid _:=ao;clear ha ao;go_enter Tryz.func40,Tryz.ntmps40;go_wp2_with fail;refine Calls.mono HR.out ?_;rintro e W1 ⟨aa,rfl⟩;have p1:=Qs.out W1 aa;have q0:W1.cell? (Ad N 0)=some (St ⟨#[]⟩):=(by simp[World.cell?,p1]);have y0:W1.frozen? (Ad N 0)=false:=(by simp[World.frozen?,p1]);have q1:W1.cell? (Ad N 1)=some (.slice none 0 0):=(by simp[World.cell?,p1]);have y1:W1.frozen? (Ad N 1)=false:=(by simp[World.frozen?,p1]);have aw:∀O,(W1.alloc O).cell? (Ad N 0)=some (St ⟨#[]⟩):=λO=>(Below.cell ((Below.refl _ W1).alloc zl O) (p:=⟨N,0,none⟩) (zg p1).1).trans q0;have ap:∀O,(W1.alloc O).cell? (Ad N 1)=some (.slice none 0 0):=λO=>(Below.cell ((Below.refl _ W1).alloc zl O) (p:=⟨N,1,none⟩) (zg p1).1).trans q1;have a8:∀O,(W1.alloc O).heap[N]?=_:=λO=>(Below.heap_alloc W1 O N (zg p1).1).trans p1;have cm:∀O,(W1.alloc O).frozen? (Ad N 0)=false:=λO=>by simp[World.frozen?,a8 O]
  have ck:∀O,(W1.alloc O).frozen? (Ad N 1)=false:=λO=>by simp[World.frozen?,a8 O]
  have cf:Hid (∀O,Below (N+1) WA (W1.alloc O).drew):=λO=>aa.trans ((((Below.refl _ W1).alloc zl O).drew).mono (by have:=aa.size;rw[HS.out] at this;exact this));clear p1 a8;go_wp2
  go_region
  all_goals go_wp2
  all_goals refine bodyPost_ret (v:=.tuple #[.agg #[St ⟨#[]⟩,.slice none 0 0],.bool false]) (by simp[results,Tryz.results40,go_sem,aw,ap]) rfl ?_
  all_goals exact⟨q7.out _ _ _ (cf.out _),by rw[HA.out]⟩
 | some a=>
  rw[ha] at ao;have HA:Hid (qcx s=some a):=ha;have HR:Hid _:=ao;clear ha ao;go_enter Tryz.func40,Tryz.ntmps40;go_wp2_with fail;refine Calls.mono HR.out ?_;rintro e W1 ⟨aa,va,rfl,af,a6⟩;obtain⟨xa,xc,rfl⟩:=a6.form;have p1:=Qs.out W1 aa;have q0:W1.cell? (Ad N 0)=some (St ⟨#[]⟩):=(by simp[World.cell?,p1]);have y0:W1.frozen? (Ad N 0)=false:=(by simp[World.frozen?,p1]);have q1:W1.cell? (Ad N 1)=some (.slice none 0 0):=(by simp[World.cell?,p1]);have y1:W1.frozen? (Ad N 1)=false:=(by simp[World.frozen?,p1]);have cb:Hid (∀W,qf W1 W->Cs 78 #[.agg #[St a.rel,.slice xa a.args.length xc]] W λe w'=>e=.returned (.bool (qbc a))/\Below W.heap.size W w'):=λW hb=>qtw a _ W1.heap.size W (a6.rk hb) (by have:=af.args;omega);have a7:Hid (∀O,qf W1 (W1.alloc O).drew):=λO k c t _ hc=>(Below.heap_alloc W1 O k (zg hc).1).trans hc;have ch:Hid (∀O W2,Below (W1.alloc O).drew.heap.size (W1.alloc O).drew W2->Below W1.heap.size W1 W2):=λO W2 hb=>(((Below.refl _ W1).alloc zl O).drew).trans (hb.mono (by show _<=(W1.alloc O).heap.size;simp))
  have a9:Hid (∀W,Below W1.heap.size W1 W->W.heap[N]?=cC #[St ⟨#[]⟩,.slice none 0 0] 92/\Below (N+1) WA W):=λW hb=>by
   have hx:=aa.trans (hb.mono (by have:=aa.size;rw[HS.out] at this;exact this));exact⟨Qs.out W hx,hx⟩
  have b9:Hid (∀W,Below W1.heap.size W1 W->Qi (qif W N a.rel (.slice xa a.args.length xc)) (qif W N a.rel (.slice xa a.args.length xc)).heap.size (.slice xa a.args.length xc) a.args):=λW hb=>by
   show Qi _ _ _ _;rw[qqg];refine (a6.mono hb.size).kept (λk c _ hc=>(qoa _ _ _ _ (λe=>?_)).trans ((hb.block k (zg hc).1).trans hc));have:=(a9.out W hb).1;rw[e] at hc;rw[hb.block N (zg hc).1,hc] at this;cases this
  have ci:Hid (∀W2,Below (W1.alloc (.cells #[St a.rel,.slice xa a.args.length xc] 92)).drew.heap.size (W1.alloc (.cells #[St a.rel,.slice xa a.args.length xc] 92)).drew W2->W2.heap[W1.heap.size]?=cC #[St a.rel,.slice xa a.args.length xc] 92):=λW2 hb=>(hb.block _ (by show _ < (W1.alloc _).heap.size;simp)).trans (zn W1 _);have bj:Hid _:=af;clear a6 af p1;go_wp2;refine wp_mono (Q:=λe a' w'=>match e with | Exit.normal=>∃W2,Below W1.heap.size W1 W2/\w'=qif W2 N a.rel (.slice xa a.args.length xc)/\a'={tmps:=#[St s,undef,.pointer (some ⟨N,0,none⟩),.bool (qbc a),.pointer (some ⟨W1.heap.size,0,none⟩),.bool true,.tuple #[.agg #[St a.rel,.slice xa a.args.length xc],.bool true],St s,.tuple #[.agg #[St a.rel,.slice xa a.args.length xc],.bool true],.agg #[St a.rel,.slice xa a.args.length xc],.bool true,.agg #[St a.rel,.slice xa a.args.length xc],.bool true,.bool true,.agg #[St a.rel,.slice xa a.args.length xc],.bool (qbc a),.bool (qbc a)],defers:=[]} | _=>False) ?reg ?rest
  case reg=>
   first | (go_region_with (go_at_call 78;refine (cb.out _ (a7.out _)).mono ?_;rintro e W2 ⟨rfl,b8⟩;have av:=ch.out _ _ b8;have p2:=ci.out W2 b8;have u0:W2.cell? (Ad W1.heap.size 0)=some (St a.rel):=(by simp[World.cell?,p2]);have u1:W2.cell? (Ad W1.heap.size 1)=some (.slice xa a.args.length xc):=(by simp[World.cell?,p2]);clear p2;obtain⟨p1,bk⟩:=a9.out W2 av;have r0:W2.cell? (Ad N 0)=some (St ⟨#[]⟩):=(by simp[World.cell?,p1]);have z0:W2.frozen? (Ad N 0)=false:=(by simp[World.frozen?,p1]);have r1:W2.cell? (Ad N 1)=some (.slice none 0 0):=(by simp[World.cell?,p1]);have z1:W2.frozen? (Ad N 1)=false:=(by simp[World.frozen?,p1]);clear p1)) | fail
   all_goals exact⟨W2,av,rfl,rfl⟩
  case rest=>
   rintro (_ | _ | _ | _ | _ | _) a' w' hq
   all_goals first | exact hq.elim | skip
   obtain⟨W2,av,rfl,rfl⟩:=hq;obtain⟨p1,bk⟩:=a9.out W2 av;have r0:W2.cell? (Ad N 0)=some (St ⟨#[]⟩):=(by simp[World.cell?,p1]);have z0:W2.frozen? (Ad N 0)=false:=(by simp[World.frozen?,p1]);have r1:W2.cell? (Ad N 1)=some (.slice none 0 0):=(by simp[World.cell?,p1]);unfold qif;go_wp2;refine bodyPost_ret (v:=.tuple #[.agg #[St a.rel,.slice xa a.args.length xc],.bool (qbc a)]) (by simp[results,Tryz.results40,go_sem,r0,r1]) rfl ?_;exact⟨q7.out _ _ _ bk,by rw[HA.out];exact⟨_,rfl,bj.out,b9.out W2 av⟩⟩
