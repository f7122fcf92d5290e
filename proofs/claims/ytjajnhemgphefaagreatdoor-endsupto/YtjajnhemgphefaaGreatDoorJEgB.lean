/- rules: IsGround, IsDerived; ebb.readGround. -/
import Derived.Test.YtjajnhemgphefaaGreatDoorJAddN
import Derived.Laws.StructEq
set_option linter.unusedVariables false
set_option linter.unusedSimpArgs false
set_option maxRecDepth 100000
set_option maxHeartbeats 1000000
namespace Go.Proofs.YtjajnhemgphefaaGreatDoor
open Go renaming World->Wq,Value->Vq
open Go.RowKit Go.Shelf
variable {W:Wq} {base b45 b87:Nat} {l:List Am}
def qes(ds:List Nat):List Deferred:=ds.map λD=>{target:=.collected D,args:=#[]}
theorem qek{n:Nat}{fn:Func}{tmps:Array Vq}{R:Ending->Wq->Prop}:∀(ds:List Nat) (W:Wq),ds.Nodup->(∀D∈ds,W.heap[D]?=some (.deferred (some [])))->
  (∀W',Chg W W' (λj=>j∈ds)->W'.heap.size=W.heap.size->LeavesInM Fence.wide n Tryz.prog fn tmps R [] .returning W')->LeavesInM Fence.wide n Tryz.prog fn tmps R (qes ds) .returning W
 | [],W,_,_,h=>h W (Chg.refl _ _) rfl
 | D::ds,W,hn,hd,h=>by
  have hD:=hd D (by simp);refine⟨by simp,.inl ⟨_,_,rfl,run_takeDeferred hD,?_⟩⟩;have hg:=grownBy_putObj' W D (.deferred none);have hsz:(W.putObj D (.deferred none)).heap.size=W.heap.size:=by simp[World.putObj]
  have hc:Chg W (W.putObj D (.deferred none)) (λj=>j∈D::ds):=(Chg.refl W _).grown hg (λk e _=>by cases e;simp);refine qek ds _ (List.nodup_cons.1 hn).2 (λD' h'=>?_) (λW' hc' hs'=>h W' (hc.trans (hc'.mono (λ_ _ e=>by simp[e]))) (by omega));have hne:D'≠D:=λe=>(List.nodup_cons.1 hn).1 (e ▸ h');have hD':=hd D' (by simp[h']);exact (hg.block D' (zg hD').1 (by simpa using hne)).trans hD'
theorem qc1{v:Vq}{rs:List Rl}(h:Qa W base b45 b87 v rs){k:Nat}(hk:k < rs.length) :
  ∃(g c:Nat) (v0 vb:Vq),v=.slice (some ⟨g,0,none⟩) rs.length c/\W.cell? ⟨g,k*3,none⟩=some (.string (rs[k]).head.rel)/\W.cell? ⟨g,k*3+1,none⟩=some v0/\W.cell? ⟨g,k*3+2,none⟩=some vb/\qez W b45 b87 rs[k] v0 vb:=by
 obtain⟨qs,r1,r2,r3⟩:=h;have hql:qs.length=rs.length:=by rw[<- r1];simp
 obtain⟨_,⟨_,hz⟩ | ⟨g,c,cur,hv,_,hw,_,_,_,htk⟩⟩:=r2
 ·omega
 have hkq:k < qs.length:=by omega
 have hrk:rs[k]=(qs[k]).1:=by simp[<- r1]
 have q3d:∀(l:List (Rl×Vq×Vq)) (i:Nat) (hi:i < l.length),(l.flatMap qnq)[i*3]?=some (.string (l[i]).1.head.rel)/\(l.flatMap qnq)[i*3+1]?=some (l[i]).2.1/\(l.flatMap qnq)[i*3+2]?=some (l[i]).2.2:=by
  intro l
  induction l with
  | nil=>intro i hi;simp at hi
  | cons x l ih=>
   intro i hi
   cases i with
   | zero=>simp[qnq]
   | succ i=>
    simp only[List.length_cons] at hi;have:=ih i (by omega);simp only[List.flatMap_cons,qnq,List.cons_append,List.nil_append];rw[show (i+1)*3=i*3+3 by omega];exact this
 obtain⟨p0,p1,p2⟩:=q3d qs k hkq;rw[<- htk,List.getElem?_take,if_pos (by omega)] at p0 p1 p2;refine⟨g,c,(qs[k]).2.1,(qs[k]).2.2,by rw[hv,hql],?_,?_,?_,?_⟩
 ·simp only[World.cell?,hw];rw[hrk];simpa using p0
 ·simp only[World.cell?,hw];simpa using p1
 ·simp only[World.cell?,hw];simpa using p2
 ·rw[hrk];exact r3 _ (List.getElem_mem hkq)
theorem Qa.rk{W':Wq}{v:Vq}{l:List Rl}(h:Qa W base b45 b87 v l)(hk:qf W W'):Qa W' base b45 b87 v l:=h.keep (λk c t ht hc=>hk k c t ht hc)
theorem Qa.form{v:Vq}{l:List Rl}(h:Qa W base b45 b87 v l):∃a c,v=.slice a l.length c:=by
 obtain⟨qs,r1,r2,r3⟩:=h;obtain⟨a,c,e⟩:=qn r2;exact⟨a,c,by rw[e,<- r1];simp⟩
theorem q85(a c:ByteArray)(b d:Nat)(w:Wq):(binOp .eql 166 (.agg #[.string a,.int .i64 b]) (.agg #[.string c,.int .i64 d])).run Tryz.prog w=.ok (.bool (a.toList == c.toList && b == d)) w:=by
 have u3:=Tryz.underlying9;have a3:=Tryz.isAgg9;have z3:=Tryz.sizeOf9;have u4:=Tryz.underlying3;have a4:=Tryz.isAgg3;have z4:=Tryz.sizeOf3;have hS:Tryz.prog.underlying 166=some (.struct (Tryz.prog.fieldsOf 166)):=by kernel_rfl
 have hp:Tryz.prog.stoodInHeld 166=false:=by kernel_rfl
 rw[run_eql_struct,show (10000:Nat)=9999+1 from rfl,run_equalIn_agg w 9999 166 _ _ hS hp];simp only[Program.fieldsOf,Tryz.underlying166]
 go_simp
 by_cases h2:b=d
 ·subst h2;by_cases h1:a.toList=c.toList <;> simp[h1]
 ·have h3:¬((b:Int)=(d:Int)):=by omega
  by_cases h1:a.toList=c.toList <;> simp[h1,h2,h3]
theorem qfc{b:Nat}{v:Vq}{l:List Tm}(h:Qd W b v l){k:Nat}(hk:k < l.length) :
  ∃g c,v=.slice (some ⟨g,0,none⟩) l.length c/\W.cell? ⟨g,k*2,none⟩=some (.string (l[k]).name)/\W.cell? ⟨g,k*2+1,none⟩=some (.int .i64 (l[k]).num)/\g < W.heap.size:=by
 obtain⟨e0,_⟩ | ⟨g,cp,cur,hv,hgb,qxd,htk⟩:=h
 ·rw[e0] at hk;simp at hk
 obtain⟨p0,p1⟩:=qlf (λt:Tm=>Value.string t.name) (λt=>Value.int .i64 t.num) l k hk;have qs4:cur.toList.take (l.length*2)=l.flatMap λt=>[Value.string t.name,Value.int .i64 t.num]:=htk;rw[<- qs4,List.getElem?_take,if_pos (by omega)] at p0 p1;exact⟨g,cp,hv,by simp only[World.cell?,qxd];simpa using p0,by simp only[World.cell?,qxd];simpa using p1,(zg qxd).1⟩
theorem qg0{α:Type}(p:α->Bool)(l:List α)(h:∀j,(hj:j < l.length)->p l[j]=false):l.any p=false:=by
 rw[List.any_eq_false];intro x hx;obtain⟨j,hj,rfl⟩:=List.getElem_of_mem hx;simp[h j hj]
theorem qxo(v:Vq)(l:List Tm)(b:Nat)(x:ByteArray)(xb:Nat)(w:Wq)(hS:Qd w b v l)(hl:l.length<=1000) :
  Calls Tryz.prog 218 #[v,.agg #[.string x,.int .i64 xb]] w λe w'=>∃r:Int,e=.returned (.int .i64 r)/\decide (0<=r)=qju l x xb/\Below w.heap.size w w':=by
 obtain⟨a,c,qbd⟩:=hS.form
 have Ql:∀k (hk:k < l.length),∃g,a=some ⟨g,0,none⟩/\w.cell? ⟨g,k*2,none⟩=some (.string (l[k]).name)/\w.cell? ⟨g,k*2+1,none⟩=some (.int .i64 (l[k]).num)/\g < w.heap.size:=by
  intro k hk;obtain⟨g,c',h1,h2,h3,h4⟩:=qfc hS hk;rw[qbd] at h1;cases h1;exact⟨g,rfl,h2,h3,h4⟩
 subst qbd;have HC:Hid _:=Ql;clear Ql hS;go_enter Tryz.func218,Tryz.ntmps218;go_wp2
 go_loopw [8] (λi wr=>∃k q:Nat,k<=l.length/\i=.int .i64 k/\Hid (∀j,(hj:j < l.length)->j < k->qzb x xb l[j]=false)/\wr=(w.alloc (.cells #[.string x,.int .i64 xb] 166)).drewN q) (λi _=>l.length - (intOf i).toNat)
 case atStart=>exact⟨0,0,Nat.zero_le _,rfl,λj _ hj=>by omega,rfl⟩
 case round=>
  obtain⟨k,q,hk,rfl,hno,rfl⟩:=hrel;by_cases hlt:k < l.length
  ·obtain⟨g,rfl,q0,q1,hg⟩:=HC.out k hlt;have hne:g≠w.heap.size:=by omega
   have he:=λW=>q85 x (l[k]).name xb (l[k]).num W;have i1:(k:Int) < (l.length:Int):=by omega
   have i2:(0:Int)<=(k:Int):=by omega
   have qj7:Hid (qzb x xb l[k]=((x.toList == (l[k]).name.toList) && (xb == (l[k]).num))):=rfl;generalize htk:l[k]=tk at *;have HTK:Hid (l[k]=tk):=htk;clear htk;generalize hb:((x.toList == tk.name.toList) && (xb == tk.num))=bb at *;have HBB:Hid (((x.toList == tk.name.toList) && (xb == tk.num))=bb):=hb;clear hb
   cases bb with
   | true=>
    go_wp2;go_quiet (fail);go_wp2;go_ret;refine⟨k,rfl,?_,?_⟩
    ·have h1:qju l x xb=true:=by
      unfold qju;rw[List.any_eq_true];exact⟨l[k],List.getElem_mem hlt,by rw[HTK.out,qj7.out]⟩
     rw[h1];simp
    ·exact⟨rfl,rfl,rfl,by show _<=(w.alloc _).heap.size;simp,λj hj=>Below.heap_alloc _ _ j hj⟩
   | false=>
    go_wp2;go_quiet (fail);go_wp2
    go_roundw
    case rel=>
     refine⟨k+1,q+nq,by omega,by go_num,?_,rfl⟩;intro j hj hjk;by_cases e:j=k
     ·subst e;rw[HTK.out];exact qj7.out
     ·exact hno.out j hj (by omega)
    case measure=>simp[intOf];omega
  ·go_wp2;go_ret;refine⟨-1,rfl,?_,?_⟩
   ·unfold qju;rw[qg0 _ _ (λj hj=>hno.out j hj (by omega))];rfl
   ·exact⟨rfl,rfl,rfl,by show _<=(w.alloc _).heap.size;simp,λj hj=>Below.heap_alloc _ _ j hj⟩
theorem qqp(v:Vq)(l:List Tm)(b:Nat)(x:ByteArray)(xb:Nat)(w:Wq)(hS:Qd w b v l)(hl:l.length<=1000) :
  Calls Tryz.prog 168 #[v,.agg #[.string x,.int .i64 xb]] w λe w'=>e=.returned (.bool (qju l x xb))/\Below w.heap.size w w':=by
 have hI:∀O,Calls Tryz.prog 218 #[v,.agg #[.string x,.int .i64 xb]] (w.alloc O) λe w'=>∃r:Int,e=.returned (.int .i64 r)/\decide (0<=r)=qju l x xb/\Below w.heap.size w w':=λO=>by
  have hb:Below w.heap.size w (w.alloc O):=(Below.refl _ w).alloc zl O;refine (qxo v l b x xb (w.alloc O) (hS.rk (qf.ofBelow hb)) hl).mono ?_;rintro e w' ⟨r,h1,h2,h3⟩;exact⟨r,h1,h2,hb.trans (h3.mono (by simp))⟩
 have HI:Hid _:=hI;clear hI;obtain⟨a,c,rfl⟩:=hS.form;clear hS;go_enter Tryz.func168,Tryz.ntmps168;go_wp2_with fail;refine (HI.out _).mono ?_;rintro e w1 ⟨r,rfl,hr,hb⟩;have HR:Hid (decide (0<=r)=qju l x xb):=hr;clear hr;go_wp2;go_ret;exact⟨qak (by rw[<- HR.out]),hb⟩
theorem qvc(rel:ByteArray)(v:Vq)(l:List Tm)(b Bt:Nat)(x:ByteArray)(xb:Nat)(w:Wq)(hS:Qd w b v l)(hl:l.length<=1000)(hbt:w.heap[Bt]?=some (Obj.cells #[.string x,.int .i64 xb] 166)) :
  Calls Tryz.prog 167 #[.agg #[.string rel,v],.pointer (some ⟨Bt,0,none⟩)] w λe w'=>e=.returned (.bool (qju l x xb))/\Below w.heap.size w w':=by
 have hlt:=(zg hbt).1;have c0:w.cell? ⟨Bt,0,none⟩=some (.string x):=by simp[World.cell?,hbt]
 have c1:w.cell? ⟨Bt,1,none⟩=some (.int .i64 xb):=by simp[World.cell?,hbt]
 have hne:Bt≠w.heap.size:=by omega
 have hI:∀O,Calls Tryz.prog 168 #[v,.agg #[.string x,.int .i64 xb]] (w.alloc O) λe w'=>e=.returned (.bool (qju l x xb))/\Below w.heap.size w w':=λO=>by
  have hb:Below w.heap.size w (w.alloc O):=(Below.refl _ w).alloc zl O;refine (qqp v l b x xb (w.alloc O) (hS.rk (qf.ofBelow hb)) hl).mono ?_;rintro e w' ⟨h1,h3⟩;exact⟨h1,hb.trans (h3.mono (by simp))⟩
 have HI:Hid _:=hI;clear hI hbt;obtain⟨a,c,rfl⟩:=hS.form;clear hS;go_enter Tryz.func167,Tryz.ntmps167;go_wp2_with fail;refine (HI.out _).mono ?_;rintro e w1 ⟨rfl,hb⟩;go_wp2;go_ret;exact⟨rfl,hb⟩
theorem qky{v:Vq}(h:qas W b45 b87 v l){k:Nat}(hk:k < l.length) :
  ∃g off c va,v=.slice (some ⟨g,off,none⟩) l.length c/\W.cell? ⟨g,off+k*2,none⟩=some (.string (l[k]).rel)/\W.cell? ⟨g,off+k*2+1,none⟩=some va/\Qd W b87 va (l[k]).args/\g < W.heap.size:=by
 obtain⟨ps,a,cap,e1,e2,e3,e4⟩:=h;have hpl:ps.length=l.length:=by rw[<- e1];simp
 obtain⟨g,off,cur,k1,k2,k3,k4⟩:=e4 (by intro e;rw[e] at hk;simp at hk);have hkp:k < ps.length:=by omega
 obtain⟨p0,p1⟩:=qlf (λp:Am×Vq=>Value.string p.1.rel) (λp=>p.2) ps k hkp;have k4':(cur.toList.drop off).take (l.length*2)=ps.flatMap λp=>[Value.string p.1.rel,p.2]:=k4;rw[<- k4',List.getElem?_take,if_pos (by omega),List.getElem?_drop] at p0 p1;have hlk:l[k]=(ps[k]).1:=by simp[<- e1]
 refine⟨g,off,cap,(ps[k]).2,by rw[e2,k1],?_,?_,?_,(zg k3).1⟩
 ·simp only[World.cell?,k3];rw[hlk];simpa using p0
 ·simp only[World.cell?,k3];simpa [Nat.add_assoc] using p1
 ·rw[hlk];exact e3.1 _ (List.getElem_mem hkp)
theorem qas.form{v:Vq}(h:qas W b45 b87 v l):∃a c,v=.slice a l.length c:=by
 obtain⟨ps,a,cap,e1,e2,_⟩:=h;exact⟨a,cap,e2⟩
theorem qas.form2{v:Vq}(h:qas W b45 b87 v l):∃a c,v=.slice a l.length c/\l.length<=c:=by
 obtain⟨ps,a,cap,e1,e2,e3,_⟩:=h;exact⟨a,cap,e2,e3.2⟩
theorem qs5(v:Vq)(l:List Am)(b45 b87 Bt:Nat)(x:ByteArray)(xb:Nat)(w:Wq)(hS:qas w b45 b87 v l)(hl:l.length<=1000)(ha:∀a∈l,a.args.length<=1000)(hbt:w.heap[Bt]?=some (Obj.cells #[.string x,.int .i64 xb] 166)) :
  Calls Tryz.prog 217 #[v,.func (.func 167) #[] #[.pointer (some ⟨Bt,0,none⟩)]] w λe w'=>∃r:Int,e=.returned (.int .i64 r)/\decide (0<=r)=l.any (λa=>qju a.args x xb)/\Below w.heap.size w w':=by
 obtain⟨a,c,qbd⟩:=hS.form
 have Ql:∀k (hk:k < l.length),∃g off va,a=some ⟨g,off,none⟩/\w.cell? ⟨g,off+k*2,none⟩=some (.string (l[k]).rel)/\w.cell? ⟨g,off+k*2+1,none⟩=some va/\Qd w b87 va (l[k]).args/\g < w.heap.size:=by
  intro k hk;obtain⟨g,off,c',va,h1,h2,h3,h4,h5⟩:=qky hS hk;rw[qbd] at h1;cases h1;exact⟨g,off,va,rfl,h2,h3,h4,h5⟩
 subst qbd;have HC:Hid _:=Ql;have HBT:Hid _:=hbt;have HA:Hid _:=ha;clear Ql hS hbt ha;go_enter Tryz.func217,Tryz.ntmps217;go_wp2
 go_loopw [8] (λi wr=>∃k:Nat,k<=l.length/\i=.int .i64 k/\Hid (∀j,(hj:j < l.length)->j < k->qju (l[j]).args x xb=false)/\Below w.heap.size w wr) (λi _=>l.length - (intOf i).toNat)
 case atStart=>exact⟨0,Nat.zero_le _,rfl,λj _ hj=>by omega,Below.refl _ _⟩
 case round=>
  obtain⟨k,hk,rfl,hno,hb⟩:=hrel;by_cases hlt:k < l.length
  ·obtain⟨g,off,va,rfl,q0,q1,hs,hg⟩:=HC.out k hlt;have q0':=(hb.cell (p:=⟨g,off+k*2,none⟩) hg).trans q0;have q1':=(hb.cell (p:=⟨g,off+k*2+1,none⟩) hg).trans q1;have qbb:=qvc (l[k]).rel va (l[k]).args b87 Bt x xb wr (hs.rk (qf.ofBelow hb)) (HA.out _ (List.getElem_mem hlt)) ((hb.block Bt (zg HBT.out).1).trans HBT.out);obtain⟨sa,sc,hsf⟩:=hs.form;rw[hsf] at qbb q1';have i1:(k:Int) < (l.length:Int):=by omega
   generalize hbb:qju (l[k]).args x xb=bb at *;have HBB:Hid (qju (l[k]).args x xb=bb):=hbb;clear hbb q0 q1 hs hsf;generalize (l[k]).rel=rel at *;generalize (l[k]).args.length=m at *
   cases bb with
   | true=>
    go_wp2_with fail;refine qbb.mono ?_;rintro e w1 ⟨rfl,hb1⟩;go_wp2;go_ret;refine⟨k,rfl,?_,hb.trans (hb1.mono hb.size)⟩
    have h1:l.any (λa=>qju a.args x xb)=true:=by
     rw[List.any_eq_true];exact⟨l[k],List.getElem_mem hlt,HBB.out⟩
    rw[h1];simp
   | false=>
    go_wp2_with fail;refine qbb.mono ?_;rintro e w1 ⟨rfl,hb1⟩;go_wp2
    go_roundw
    case rel=>
     refine⟨k+1,by omega,by go_num,?_,hb.trans (hb1.mono hb.size)⟩;intro j hj hjk;by_cases e:j=k
     ·subst e;exact HBB.out
     ·exact hno.out j hj (by omega)
    case measure=>simp[intOf];omega
  ·go_wp2;go_ret;refine⟨-1,rfl,?_,hb⟩;rw[qg0 _ _ (λj hj=>hno.out j hj (by omega))];rfl
theorem qsn(r:Rl)(vb:Vq)(b45 b87 Bt:Nat)(x:ByteArray)(xb:Nat)(w:Wq)(hok:qcd r)(hS:qas w b45 b87 vb r.body)(hbt:w.heap[Bt]?=some (Obj.cells #[.string x,.int .i64 xb] 166)) :
  Calls Tryz.prog 166 #[vb,.func (.func 167) #[] #[.pointer (some ⟨Bt,0,none⟩)]] w λe w'=>e=.returned (.bool (qf8 r x xb))/\Below w.heap.size w w':=by
 have hI:=qs5 vb r.body b45 b87 Bt x xb w hS (by have:=hok.body;omega) (λa ha=>by have:=(hok.ams a ha).args;omega) hbt;obtain⟨a,c,rfl⟩:=hS.form;have HI:Hid _:=hI;clear hI hS hbt;go_enter Tryz.func166,Tryz.ntmps166;go_wp2_with fail;refine Calls.mono HI.out ?_;rintro e w1 ⟨i,rfl,hr,hb⟩;have HR:Hid (decide (0<=i)=qf8 r x xb):=hr;clear hr;go_wp2;go_ret;exact⟨qak (by rw[<- HR.out]),hb⟩
theorem qxw(r:Rl)(v0 vb:Vq)(b45 b87 Br:Nat)(t:Tm)(w:Wq)(hok:qcd r)(hv:qez w b45 b87 r v0 vb)(hbr:w.heap[Br]?=some (Obj.cells #[.string r.head.rel,v0,vb] 136)) :
  Calls Tryz.prog 165 #[.agg #[.string t.name,.int .i64 t.num],.pointer (some ⟨Br,0,none⟩)] w λe w'=>e=.returned (.bool (qc3 r t))/\Below w.heap.size w w':=by
 have hlt:=(zg hbr).1;have c2:w.cell? ⟨Br,2,none⟩=some vb:=by simp[World.cell?,hbr]
 have hne:Br≠w.heap.size:=by omega
 obtain⟨a,c,qbd⟩:=hv.2.form
 have hI:∀W1,Below (w.alloc (.cells #[.string t.name,.int .i64 t.num] 166)).heap.size (w.alloc (.cells #[.string t.name,.int .i64 t.num] 166)) W1->Calls Tryz.prog 166 #[vb,.func (.func 167) #[] #[.pointer (some ⟨w.heap.size,0,none⟩)]] W1 λe w'=>e=.returned (.bool (qf8 r t.name t.num))/\Below w.heap.size w w':=by
  intro W1 hb1;have hb0:Below w.heap.size w (w.alloc (.cells #[.string t.name,.int .i64 t.num] 166)):=(Below.refl _ w).alloc zl _;have hb:Below w.heap.size w W1:=hb0.trans (hb1.mono (by simp));refine (qsn r vb b45 b87 w.heap.size t.name t.num _ hok (hv.2.rk (qf.ofBelow hb)) ((hb1.block w.heap.size (by simp)).trans (World.alloc_heap_new w _))).mono ?_;rintro e w' ⟨h1,h3⟩;exact⟨h1,hb.trans (h3.mono hb.size)⟩
 have hC:Hid (∀O W1,Below (w.alloc O).heap.size (w.alloc O) W1->W1.cell? ⟨Br,2,none⟩=some vb/\Below w.heap.size w W1):=λO W1 hb1=>by
  have hb0:Below w.heap.size w (w.alloc O):=(Below.refl _ w).alloc zl _;have hb:Below w.heap.size w W1:=hb0.trans (hb1.mono (by simp));exact⟨(hb.cell (p:=⟨Br,2,none⟩) hlt).trans c2,hb⟩
 rw[qbd] at c2 hI hC;have HI:Hid _:=hI;have hiv:Hid (∀W,Calls Tryz.prog 139 #[.agg #[.string t.name,.int .i64 t.num]] W λe w'=>e=.returned (.bool t.name.toList.isEmpty)/\Below W.heap.size W w'):=λW=>qb6 t W;have hu:Hid (qc3 r t=(t.name.toList.isEmpty && !qf8 r t.name t.num)):=rfl;clear hI hbr hv qbd;generalize qc3 r t=ub at *;generalize qf8 r t.name t.num=bh at *;generalize t.num=tn at *;generalize htv:t.name.toList.isEmpty=tv at *;clear htv;generalize t.name=tx at *
 cases tv with
 | false=>
  go_enter Tryz.func165,Tryz.ntmps165
  go_wp2_with (go_at_call 139;refine (hiv.out _).mono ?_;rintro e W1 ⟨rfl,hb1⟩)
  go_ret;exact⟨qak (by rw[hu.out];rfl),(hC.out _ _ hb1).2⟩
 | true=>
  go_enter Tryz.func165,Tryz.ntmps165
  go_wp2_with (first | (go_at_call 139;refine (hiv.out _).mono ?_;rintro e W1 ⟨rfl,hb1⟩;have kc:=(hC.out _ _ hb1).1) | (go_at_call 166;refine (HI.out W1 hb1).mono ?_;rintro e w2 ⟨rfl,hb⟩))
  go_ret;exact⟨qak (by rw[hu.out];rfl),hb⟩
theorem qs7(r:Rl)(v0 vb:Vq)(b45 b87 Br:Nat)(w:Wq)(hok:qcd r)(hv:qez w b45 b87 r v0 vb)(hbr:w.heap[Br]?=some (Obj.cells #[.string r.head.rel,v0,vb] 136)) :
  Calls Tryz.prog 192 #[v0,.func (.func 165) #[] #[.pointer (some ⟨Br,0,none⟩)]] w λe w'=>∃i:Int,e=.returned (.int .i64 i)/\decide (0<=i)=qdg r/\Below w.heap.size w w':=by
 obtain⟨a,c,qbd⟩:=hv.1.form;have hl:r.head.args.length<=1000:=by have:=hok.head.args;omega
 have Ql:∀k (hk:k < r.head.args.length),∃g,a=some ⟨g,0,none⟩/\w.cell? ⟨g,k*2,none⟩=some (.string (r.head.args[k]).name)/\w.cell? ⟨g,k*2+1,none⟩=some (.int .i64 (r.head.args[k]).num)/\g < w.heap.size:=by
  intro k hk;obtain⟨g,c',h1,h2,h3,h4⟩:=qfc hv.1 hk;rw[qbd] at h1;cases h1;exact⟨g,rfl,h2,h3,h4⟩
 have q3b:∀wr,Below w.heap.size w wr->∀t,Calls Tryz.prog 165 #[.agg #[.string t.name,.int .i64 t.num],.pointer (some ⟨Br,0,none⟩)] wr λe w'=>e=.returned (.bool (qc3 r t))/\Below wr.heap.size wr w':=λwr hb t=>
  qxw r v0 vb b45 b87 Br t wr hok (hv.rk (qf.ofBelow hb)) ((hb.block Br (zg hbr).1).trans hbr)
 subst qbd;have HC:Hid _:=Ql;have HF:Hid _:=q3b;have HU:Hid (qdg r=r.head.args.any (qc3 r)):=rfl;clear Ql q3b hv hbr hok;generalize r.head.args=l at *;generalize qdg r=us at *;go_enter Tryz.func192,Tryz.ntmps192;go_wp2
 go_loopw [8] (λi wr=>∃k:Nat,k<=l.length/\i=.int .i64 k/\Hid (∀j,(hj:j < l.length)->j < k->qc3 r l[j]=false)/\Below w.heap.size w wr) (λi _=>l.length - (intOf i).toNat)
 case atStart=>exact⟨0,Nat.zero_le _,rfl,λj _ hj=>by omega,Below.refl _ _⟩
 case round=>
  obtain⟨k,hk,rfl,hno,hb⟩:=hrel;by_cases hlt:k < l.length
  ·obtain⟨g,rfl,q0,q1,hg⟩:=HC.out k hlt;have q0':=(hb.cell (p:=⟨g,k*2,none⟩) hg).trans q0;have q1':=(hb.cell (p:=⟨g,k*2+1,none⟩) hg).trans q1;have qbb:=HF.out wr hb l[k];have i1:(k:Int) < (l.length:Int):=by omega
   generalize hbb:qc3 r l[k]=bb at *;have HBB:Hid (qc3 r l[k]=bb):=hbb;clear hbb q0 q1;generalize (l[k]).name=tx at *;generalize (l[k]).num=tv at *
   cases bb with
   | true=>
    go_wp2_with fail;refine qbb.mono ?_;rintro e w1 ⟨rfl,hb1⟩;go_wp2;go_ret;refine⟨k,rfl,?_,hb.trans (hb1.mono hb.size)⟩
    have h1:l.any (qc3 r)=true:=by
     rw[List.any_eq_true];exact⟨l[k],List.getElem_mem hlt,HBB.out⟩
    rw[HU.out,h1];simp
   | false=>
    go_wp2_with fail;refine qbb.mono ?_;rintro e w1 ⟨rfl,hb1⟩;go_wp2
    go_roundw
    case rel=>
     refine⟨k+1,by omega,by go_num,?_,hb.trans (hb1.mono hb.size)⟩;intro j hj hjk;by_cases e:j=k
     ·subst e;exact HBB.out
     ·exact hno.out j hj (by omega)
    case measure=>simp[intOf];omega
  ·go_wp2;go_ret;refine⟨-1,rfl,?_,hb⟩;rw[HU.out,qg0 _ _ (λj hj=>hno.out j hj (by omega))];rfl
theorem qso(r:Rl)(v0 vb:Vq)(b45 b87 Br:Nat)(w:Wq)(hok:qcd r)(hv:qez w b45 b87 r v0 vb)(hbr:w.heap[Br]?=some (Obj.cells #[.string r.head.rel,v0,vb] 136)) :
  Calls Tryz.prog 142 #[v0,.func (.func 165) #[] #[.pointer (some ⟨Br,0,none⟩)]] w λe w'=>e=.returned (.bool (qdg r))/\Below w.heap.size w w':=by
 have hI:=qs7 r v0 vb b45 b87 Br w hok hv hbr;obtain⟨a,c,rfl⟩:=hv.1.form;have HI:Hid _:=hI;clear hI hv hbr;go_enter Tryz.func142,Tryz.ntmps142;go_wp2_with fail;refine Calls.mono HI.out ?_;rintro e w1 ⟨i,rfl,hr,hb⟩;have HR:Hid (decide (0<=i)=qdg r):=hr;clear hr;go_wp2;go_ret;exact⟨qak (by rw[<- HR.out]),hb⟩
theorem qu5(r:Rl)(v0 vb:Vq)(b45 b87:Nat)(w:Wq)(hok:qcd r)(hv:qez w b45 b87 r v0 vb) :
  Calls Tryz.prog 102 #[.agg #[.string r.head.rel,v0,vb]] w λe w'=>e=.returned (.bool (qdg r))/\Below w.heap.size w w':=by
 have hI:Calls Tryz.prog 142 #[v0,.func (.func 165) #[] #[.pointer (some ⟨w.heap.size,0,none⟩)]] (w.alloc (.cells #[.string r.head.rel,v0,vb] 136)) λe w'=>e=.returned (.bool (qdg r))/\Below w.heap.size w w':=by
  have hb:Below w.heap.size w (w.alloc (.cells #[.string r.head.rel,v0,vb] 136)):=(Below.refl _ w).alloc zl _;refine (qso r v0 vb b45 b87 w.heap.size _ hok (hv.rk (qf.ofBelow hb)) (World.alloc_heap_new w _)).mono ?_;rintro e w' ⟨h1,h3⟩;exact⟨h1,hb.trans (h3.mono (by simp))⟩
 obtain⟨a,c,hf⟩:=hv.1.form;obtain⟨a',c',hf'⟩:=hv.2.form;rw[hf,hf'] at hI ⊢;have HI:Hid _:=hI;clear hI hv hf hf';go_enter Tryz.func102,Tryz.ntmps102;go_wp2_with fail;refine Calls.mono HI.out ?_;rintro e w1 ⟨rfl,hb⟩;go_wp2;go_ret;exact⟨rfl,hb⟩
theorem qfl(p:Rl->Bool):∀(rs:List Rl) (i k:Nat),k<=rs.length->(∀j,(hj:j < rs.length)->j < k->p rs[j]=false)->qcr p i rs=qcr p (i+k) (rs.drop k)
 | rs,i,0,_,_=>by simp
 | [],i,k+1,h,_=>by simp at h
 | r::rs,i,k+1,h,hn=>by
  have h0:=hn 0 (by simp) (by omega);simp only[List.getElem_cons_zero] at h0
  rw[qcr,if_neg (by simp[h0]),List.drop_succ_cons,qfl p rs (i+1) k (by simpa using h) (λj hj hk=>by
   have:=hn (j+1) (by simp;omega) (by omega)
   simpa using this)]
  congr 1;omega
theorem qot(p:Rl->Bool)(rs:List Rl)(k:Nat)(hk:k < rs.length)(hn:∀j,(hj:j < rs.length)->j < k->p rs[j]=false)(h:p rs[k]=true):qcr p 0 rs=k:=by
 rw[qfl p rs 0 k (by omega) hn,List.drop_eq_getElem_cons hk,qcr,if_pos h];simp
theorem qou(p:Rl->Bool)(rs:List Rl)(hn:∀j,(hj:j < rs.length)->p rs[j]=false):qcr p 0 rs=-1:=by
 rw[qfl p rs 0 rs.length (by omega) (λj hj _=>hn j hj),List.drop_length];rfl
theorem qs6(v:Vq)(rs:List Rl)(base b45 b87:Nat)(w:Wq)(hR:Qa w base b45 b87 v rs)(Q4:∀g,v.ownBlock=some g->g < w.heap.size)(h8:rs.length<=8)(hok:∀r∈rs,qcd r) :
  Calls Tryz.prog 101 #[v,.func (.func 102) #[] #[]] w λe w'=>e=.returned (.int .i64 (qcf rs))/\Below w.heap.size w w':=by
 obtain⟨a,c,qbd⟩:=hR.form
 have Ql:∀k (hk:k < rs.length),∃g v0 vb,a=some ⟨g,0,none⟩/\w.cell? ⟨g,k*3,none⟩=some (.string (rs[k]).head.rel)/\w.cell? ⟨g,k*3+1,none⟩=some v0/\w.cell? ⟨g,k*3+2,none⟩=some vb/\qez w b45 b87 rs[k] v0 vb/\g < w.heap.size:=by
  intro k hk;obtain⟨g,c',v0,vb,h1,h2,h3,h4,h5⟩:=qc1 hR hk;have hg:=Q4 g (by rw[h1];rfl);rw[qbd] at h1;cases h1;exact⟨g,v0,vb,rfl,h2,h3,h4,h5,hg⟩
 subst qbd;have HC:Hid _:=Ql;have HOK:Hid _:=hok;clear Ql hR hok Q4;go_enter Tryz.func101,Tryz.ntmps101;go_wp2
 go_loopw [8] (λi wr=>∃k:Nat,k<=rs.length/\i=.int .i64 k/\Hid (∀j,(hj:j < rs.length)->j < k->qdg rs[j]=false)/\Below w.heap.size w wr) (λi _=>rs.length - (intOf i).toNat)
 case atStart=>exact⟨0,Nat.zero_le _,rfl,λj _ hj=>by omega,Below.refl _ _⟩
 case round=>
  obtain⟨k,hk,rfl,hno,hb⟩:=hrel;by_cases hlt:k < rs.length
  ·obtain⟨g,v0,vb,rfl,q0,q1,q2,hv,hg⟩:=HC.out k hlt;have q0':=(hb.cell (p:=⟨g,k*3,none⟩) hg).trans q0;have q1':=(hb.cell (p:=⟨g,k*3+1,none⟩) hg).trans q1;have q2':=(hb.cell (p:=⟨g,k*3+2,none⟩) hg).trans q2;have qbb:=qu5 rs[k] v0 vb b45 b87 wr (HOK.out _ (List.getElem_mem hlt)) (hv.rk (qf.ofBelow hb));obtain⟨sa,sc,hsf⟩:=hv.1.form;obtain⟨ta,tc,htf⟩:=hv.2.form;rw[hsf] at qbb q1';rw[htf] at qbb q2';have i1:(k:Int) < (rs.length:Int):=by omega
   generalize hbb:qdg rs[k]=bb at *;have HBB:Hid (qdg rs[k]=bb):=hbb;clear hbb q0 q1 q2 hv hsf htf;generalize (rs[k]).head.rel=rel at *;generalize (rs[k]).head.args.length=m1 at *;generalize (rs[k]).body.length=m2 at *
   cases bb with
   | true=>
    go_wp2_with fail;refine qbb.mono ?_;rintro e w1 ⟨rfl,hb1⟩;go_wp2;go_ret;exact⟨qe9 (qot qdg rs k hlt hno.out HBB.out).symm,hb.trans (hb1.mono hb.size)⟩
   | false=>
    go_wp2_with fail;refine qbb.mono ?_;rintro e w1 ⟨rfl,hb1⟩;go_wp2
    go_roundw
    case rel=>
     refine⟨k+1,by omega,by go_num,?_,hb.trans (hb1.mono hb.size)⟩;intro j hj hjk;by_cases e:j=k
     ·subst e;exact HBB.out
     ·exact hno.out j hj (by omega)
    case measure=>simp[intOf];omega
  ·go_wp2;go_ret;exact⟨qe9 (qou qdg rs (λj hj=>hno.out j hj (by omega))).symm,hb⟩
def qm5(t:Tm):Bool:=t.name.toList.isEmpty
theorem qxm(l:List Tm)(v0:Vq)(b:Nat)(w:Wq)(hv:Qd w b v0 l)(hl:l.length<=1000) :
  Calls Tryz.prog 192 #[v0,.func (.func 139) #[] #[]] w λe w'=>∃i:Int,e=.returned (.int .i64 i)/\decide (0<=i)=l.any qm5/\Below w.heap.size w w':=by
 obtain⟨a,c,qbd⟩:=hv.form
 have Ql:∀k (hk:k < l.length),∃g,a=some ⟨g,0,none⟩/\w.cell? ⟨g,k*2,none⟩=some (.string (l[k]).name)/\w.cell? ⟨g,k*2+1,none⟩=some (.int .i64 (l[k]).num)/\g < w.heap.size:=by
  intro k hk;obtain⟨g,c',h1,h2,h3,h4⟩:=qfc hv hk;rw[qbd] at h1;cases h1;exact⟨g,rfl,h2,h3,h4⟩
 subst qbd;have HC:Hid _:=Ql;have HF:Hid (∀wr,∀t:Tm,Calls Tryz.prog 139 #[.agg #[.string t.name,.int .i64 t.num]] wr λe w'=>e=.returned (.bool (qm5 t))/\Below wr.heap.size wr w'):=λwr t=>qb6 t wr;clear Ql hv;go_enter Tryz.func192,Tryz.ntmps192;go_wp2
 go_loopw [8] (λi wr=>∃k:Nat,k<=l.length/\i=.int .i64 k/\Hid (∀j,(hj:j < l.length)->j < k->qm5 l[j]=false)/\Below w.heap.size w wr) (λi _=>l.length - (intOf i).toNat)
 case atStart=>exact⟨0,Nat.zero_le _,rfl,λj _ hj=>by omega,Below.refl _ _⟩
 case round=>
  obtain⟨k,hk,rfl,hno,hb⟩:=hrel;by_cases hlt:k < l.length
  ·obtain⟨g,rfl,q0,q1,hg⟩:=HC.out k hlt;have q0':=(hb.cell (p:=⟨g,k*2,none⟩) hg).trans q0;have q1':=(hb.cell (p:=⟨g,k*2+1,none⟩) hg).trans q1;have qbb:=HF.out wr l[k];have i1:(k:Int) < (l.length:Int):=by omega
   generalize hbb:qm5 l[k]=bb at *;have HBB:Hid (qm5 l[k]=bb):=hbb;clear hbb q0 q1;generalize (l[k]).name=tx at *;generalize (l[k]).num=tv at *
   cases bb with
   | true=>
    go_wp2_with fail;refine qbb.mono ?_;rintro e w1 ⟨rfl,hb1⟩;go_wp2;go_ret;refine⟨k,rfl,?_,hb.trans (hb1.mono hb.size)⟩
    have h1:l.any qm5=true:=by
     rw[List.any_eq_true];exact⟨l[k],List.getElem_mem hlt,HBB.out⟩
    rw[h1];simp
   | false=>
    go_wp2_with fail;refine qbb.mono ?_;rintro e w1 ⟨rfl,hb1⟩;go_wp2
    go_roundw
    case rel=>
     refine⟨k+1,by omega,by go_num,?_,hb.trans (hb1.mono hb.size)⟩;intro j hj hjk;by_cases e:j=k
     ·subst e;exact HBB.out
     ·exact hno.out j hj (by omega)
    case measure=>simp[intOf];omega
  ·go_wp2;go_ret;refine⟨-1,rfl,?_,hb⟩;rw[qg0 _ _ (λj hj=>hno.out j hj (by omega))];rfl
def qaq(a:Am):Bool:=!a.args.any qm5
theorem qta(a:Am)(v0:Vq)(b:Nat)(w:Wq)(hv:Qd w b v0 a.args)(hl:a.args.length<=1000) :
  Calls Tryz.prog 78 #[.agg #[.string a.rel,v0]] w λe w'=>e=.returned (.bool (qaq a))/\Below w.heap.size w w':=by
 have hI:Hid (∀W,Below w.heap.size w W->Calls Tryz.prog 192 #[v0,.func (.func 139) #[] #[]] W λe w'=>∃i:Int,e=.returned (.int .i64 i)/\decide (0<=i)=a.args.any qm5/\Below W.heap.size W w'):=λW hb=>qxm a.args v0 b W (hv.rk (qf.ofBelow hb)) hl;obtain⟨xa,xc,rfl⟩:=hv.form
 have HC:Hid (∀W,Below w.heap.size w W->Calls Tryz.prog 142 #[.slice xa a.args.length xc,.func (.func 139) #[] #[]] W λe w'=>e=.returned (.bool (a.args.any qm5))/\Below W.heap.size W w'):=by
  intro W hb;have h1:=hI.out W hb;have H1:Hid _:=h1;clear h1 hI hv;go_enter Tryz.func142,Tryz.ntmps142;go_wp2_with fail;refine Calls.mono H1.out ?_;rintro e w1 ⟨i,rfl,hr,hb1⟩;have HR:Hid _:=hr;clear hr;go_wp2;go_ret;exact⟨qak (by rw[<- HR.out]),hb1⟩
 have hgb:Hid (qaq a=!a.args.any qm5):=rfl;clear hI hv;generalize qaq a=gb at *;generalize a.args.any qm5=ab at *;go_enter Tryz.func78,Tryz.ntmps78
 go_wp2_with (go_at_call 142;refine (HC.out _ ((Below.refl _ w).alloc zl _)).mono ?_;rintro e w1 ⟨rfl,hb1⟩)
 go_ret;exact⟨qak (by rw[hgb.out]),((Below.refl _ w).alloc zl _).trans (hb1.mono (by simp))⟩
def qfe(s:ByteArray)(w:Wq)(e:Ending)(w':Wq):Prop:=
 Below w.heap.size w w'/\match qc7 s with
  | none=>e=.returned (.tuple #[.agg #[.string ⟨#[]⟩,.slice none 0 0],.bool false])
  | some a=>∃va,e=.returned (.tuple #[.agg #[.string a.rel,va],.bool (qaq a)])/\qjs a/\Qd w' w'.heap.size va a.args
theorem qi5(s:ByteArray)(w:Wq)(hs:s.size<=4611686018427387904)(hT:Lib.Utf8Tabs 0 1 w) :
  Calls Tryz.prog 40 #[.string s] w (qfe s w):=by
 obtain⟨N,hN⟩:∃N,w.heap.size=N:=⟨_,rfl⟩;have hr:Hid (∀W,Below w.heap.size w W->Calls Tryz.prog 49 #[.string s] W (qgv s W)):=λW hb=>qtg s W hs (Utf8Tabs_below hT hb);obtain⟨WA,hWA⟩:∃WA,w.alloc (.cells #[.string ⟨#[]⟩,.slice none 0 0] 92)=WA:=⟨_,rfl⟩;have hsA:WA.heap.size=N+1:=by rw[<- hWA,<- hN];simp
 have hbw:Below N w WA:=by rw[<- hWA];exact (Below.refl _ w).alloc (by omega) _
 have hrA:=hr.out WA (by rw[hN];exact hbw);have qae:Hid (∀W1,Below (N+1) WA W1->W1.heap[N]?=some (Obj.cells #[.string ⟨#[]⟩,.slice none 0 0] 92)):=λW1 hb=>q2c hN (by rw[hWA];exact hb);have q9:Hid (∀W1 x v,Below (N+1) WA W1->Below w.heap.size w (qh6 W1 N x v)):=λW1 x v hb=>by rw[hN];exact qi4 (hbw.trans (hb.mono (by omega))) _ _
 unfold qgv at hrA;rw[hsA] at hrA;have HG:Hid (∀P,qfe s w P=qfe s w P):=λ_=>rfl;clear hr hT hbw HG;have HS:Hid (WA.heap.size=N+1):=hsA;clear hsA
 cases ha:qc7 s with
 | none=>
  rw[ha] at hrA;have HA:Hid (qc7 s=none):=ha;have HR:Hid _:=hrA;clear ha hrA;go_enter Tryz.func40,Tryz.ntmps40;go_wp2_with fail;refine Calls.mono HR.out ?_;rintro e W1 ⟨hb1,rfl⟩;have p1:=qae.out W1 hb1;have q0:W1.cell? ⟨N,0,none⟩=some (.string ⟨#[]⟩):=(by simp[World.cell?,p1]);have y0:W1.frozen? ⟨N,0,none⟩=false:=(by simp[World.frozen?,p1]);have q1:W1.cell? ⟨N,1,none⟩=some (.slice none 0 0):=(by simp[World.cell?,p1]);have y1:W1.frozen? ⟨N,1,none⟩=false:=(by simp[World.frozen?,p1]);have q0':∀O,(W1.alloc O).cell? ⟨N,0,none⟩=some (.string ⟨#[]⟩):=λO=>(Below.cell ((Below.refl _ W1).alloc zl O) (p:=⟨N,0,none⟩) (zg p1).1).trans q0;have q1':∀O,(W1.alloc O).cell? ⟨N,1,none⟩=some (.slice none 0 0):=λO=>(Below.cell ((Below.refl _ W1).alloc zl O) (p:=⟨N,1,none⟩) (zg p1).1).trans q1;have p1':∀O,(W1.alloc O).heap[N]?=_:=λO=>(Below.heap_alloc W1 O N (zg p1).1).trans p1;have y0':∀O,(W1.alloc O).frozen? ⟨N,0,none⟩=false:=λO=>by simp[World.frozen?,p1' O]
  have y1':∀O,(W1.alloc O).frozen? ⟨N,1,none⟩=false:=λO=>by simp[World.frozen?,p1' O]
  have hfw:Hid (∀O,Below (N+1) WA (W1.alloc O).drew):=λO=>hb1.trans ((((Below.refl _ W1).alloc zl O).drew).mono (by have:=hb1.size;rw[HS.out] at this;exact this));clear p1 p1';go_wp2
  go_region
  all_goals go_wp2
  all_goals refine bodyPost_ret (v:=.tuple #[.agg #[.string ⟨#[]⟩,.slice none 0 0],.bool false]) (by simp[results,Tryz.results40,go_sem,q0',q1']) rfl ?_
  all_goals exact⟨q9.out _ _ _ (hfw.out _),by rw[HA.out]⟩
 | some a=>
  rw[ha] at hrA;have HA:Hid (qc7 s=some a):=ha;have HR:Hid _:=hrA;clear ha hrA;go_enter Tryz.func40,Tryz.ntmps40;go_wp2_with fail;refine Calls.mono HR.out ?_;rintro e W1 ⟨hb1,va,rfl,hok,hsl⟩;obtain⟨xa,xc,rfl⟩:=hsl.form;have p1:=qae.out W1 hb1;have q0:W1.cell? ⟨N,0,none⟩=some (.string ⟨#[]⟩):=(by simp[World.cell?,p1]);have y0:W1.frozen? ⟨N,0,none⟩=false:=(by simp[World.frozen?,p1]);have q1:W1.cell? ⟨N,1,none⟩=some (.slice none 0 0):=(by simp[World.cell?,p1]);have y1:W1.frozen? ⟨N,1,none⟩=false:=(by simp[World.frozen?,p1]);have hgr:Hid (∀W,qf W1 W->Calls Tryz.prog 78 #[.agg #[.string a.rel,.slice xa a.args.length xc]] W λe w'=>e=.returned (.bool (qaq a))/\Below W.heap.size W w'):=λW hb=>qta a _ W1.heap.size W (hsl.rk hb) (by have:=hok.args;omega);have hrk:Hid (∀O,qf W1 (W1.alloc O).drew):=λO k c t _ hc=>(Below.heap_alloc W1 O k (zg hc).1).trans hc;have hW2:Hid (∀O W2,Below (W1.alloc O).drew.heap.size (W1.alloc O).drew W2->Below W1.heap.size W1 W2):=λO W2 hb=>(((Below.refl _ W1).alloc zl O).drew).trans (hb.mono (by show _<=(W1.alloc O).heap.size;simp))
  have qkl:Hid (∀W,Below W1.heap.size W1 W->W.heap[N]?=some (Obj.cells #[.string ⟨#[]⟩,.slice none 0 0] 92)/\Below (N+1) WA W):=λW hb=>by
   have hx:=hb1.trans (hb.mono (by have:=hb1.size;rw[HS.out] at this;exact this));exact⟨qae.out W hx,hx⟩
  have qln:Hid (∀W,Below W1.heap.size W1 W->Qd (qh6 W N a.rel (.slice xa a.args.length xc)) (qh6 W N a.rel (.slice xa a.args.length xc)).heap.size (.slice xa a.args.length xc) a.args):=λW hb=>by
   show Qd _ _ _ _;rw[qpw];refine (hsl.mono hb.size).kept (λk c _ hc=>(qnm _ _ _ _ (λe=>?_)).trans ((hb.block k (zg hc).1).trans hc));have:=(qkl.out W hb).1;rw[e] at hc;rw[hb.block N (zg hc).1,hc] at this;cases this
  have hat:Hid (∀W2,Below (W1.alloc (.cells #[.string a.rel,.slice xa a.args.length xc] 92)).drew.heap.size (W1.alloc (.cells #[.string a.rel,.slice xa a.args.length xc] 92)).drew W2->W2.heap[W1.heap.size]?=some (Obj.cells #[.string a.rel,.slice xa a.args.length xc] 92)):=λW2 hb=>(hb.block _ (by show _ < (W1.alloc _).heap.size;simp)).trans (World.alloc_heap_new W1 _);have HOK:Hid _:=hok;clear hsl hok p1;go_wp2;refine wp_mono (Q:=λe a' w'=>match e with | Exit.normal=>∃W2,Below W1.heap.size W1 W2/\w'=qh6 W2 N a.rel (.slice xa a.args.length xc)/\a'={tmps:=#[.string s,undef,.pointer (some ⟨N,0,none⟩),.bool (qaq a),.pointer (some ⟨W1.heap.size,0,none⟩),.bool true,.tuple #[.agg #[.string a.rel,.slice xa a.args.length xc],.bool true],.string s,.tuple #[.agg #[.string a.rel,.slice xa a.args.length xc],.bool true],.agg #[.string a.rel,.slice xa a.args.length xc],.bool true,.agg #[.string a.rel,.slice xa a.args.length xc],.bool true,.bool true,.agg #[.string a.rel,.slice xa a.args.length xc],.bool (qaq a),.bool (qaq a)],defers:=[]} | _=>False) ?reg ?rest
  case reg=>
   first | (go_region_with (go_at_call 78;refine (hgr.out _ (hrk.out _)).mono ?_;rintro e W2 ⟨rfl,qdz⟩;have hb2:=hW2.out _ _ qdz;have p2:=hat.out W2 qdz;have u0:W2.cell? ⟨W1.heap.size,0,none⟩=some (.string a.rel):=(by simp[World.cell?,p2]);have u1:W2.cell? ⟨W1.heap.size,1,none⟩=some (.slice xa a.args.length xc):=(by simp[World.cell?,p2]);clear p2;obtain⟨p1,hb3⟩:=qkl.out W2 hb2;have r0:W2.cell? ⟨N,0,none⟩=some (.string ⟨#[]⟩):=(by simp[World.cell?,p1]);have z0:W2.frozen? ⟨N,0,none⟩=false:=(by simp[World.frozen?,p1]);have r1:W2.cell? ⟨N,1,none⟩=some (.slice none 0 0):=(by simp[World.cell?,p1]);have z1:W2.frozen? ⟨N,1,none⟩=false:=(by simp[World.frozen?,p1]);clear p1)) | fail
   all_goals exact⟨W2,hb2,rfl,rfl⟩
  case rest=>
   rintro (_ | _ | _ | _ | _ | _) a' w' hq
   all_goals first | exact hq.elim | skip
   obtain⟨W2,hb2,rfl,rfl⟩:=hq;obtain⟨p1,hb3⟩:=qkl.out W2 hb2;have r0:W2.cell? ⟨N,0,none⟩=some (.string ⟨#[]⟩):=(by simp[World.cell?,p1]);have z0:W2.frozen? ⟨N,0,none⟩=false:=(by simp[World.frozen?,p1]);have r1:W2.cell? ⟨N,1,none⟩=some (.slice none 0 0):=(by simp[World.cell?,p1]);unfold qh6;go_wp2;refine bodyPost_ret (v:=.tuple #[.agg #[.string a.rel,.slice xa a.args.length xc],.bool (qaq a)]) (by simp[results,Tryz.results40,go_sem,r0,r1]) rfl ?_;exact⟨q9.out _ _ _ hb3,by rw[HA.out];exact⟨_,rfl,HOK.out,qln.out W2 hb2⟩⟩
