/- A part -/
import Derived.Test.YtjajnhemgphefaaGreatDoorRows
import Derived.WalkKit
import Derived.WalkSpells
import Derived.WalkLawsBesides
import Derived.Lib.RuneCount
import Derived.Lib.RuneCountTail
import Derived.Lib.QuoteLoop
import Derived.Test.YtjajnhemgphefaaGreatDoorShelf
import Derived.Deep.RegionWith
import Derived.Lib.Bytes2
import Derived.RangeFuncNested
import Derived.RangeFuncBound
import Derived.RangeFuncCalls
import Derived.RangeFuncLeaves
import Derived.Shelf.Abstract
import Derived.Shelf.RegionOpen
import Derived.OwnWalkIn
import Derived.TacticsInMore
import Derived.LoopNIn
import Derived.LoopIn
set_option linter.all false
set_option maxHeartbeats 1000000
namespace Go.Proofs.YtjajnhemgphefaaGreatDoor
open Go renaming World->Wq,Value->Vq
open Go.RowKit
def qd9(r:Int):Bool:=decide (r=32\/r=9\/r=10)
def qbu(r:Int):Bool:=decide ((97<=r/\r<=122)\/(945<=r/\r<=969))
def qgf(r:Int):Bool:=decide ((65<=r/\r<=90)\/(913<=r/\r<=937/\r≠930))
def qku(r:Int):Bool:=decide (48<=r/\r<=57)
def qmg(r:Int):Int:=if r=40 then 3 else if r=41 then 4 else if r=44 then 5 else if r=46 then 6 else 0
theorem qaj{a b:Bool}(h:a=b):Ending.returned (.bool a)=.returned (.bool b):=by rw[h]
theorem qfl{k:IntKind}{a b:Int}(h:a=b):Ending.returned (.int k a)=.returned (.int k b):=by rw[h]
theorem qn3(r:Int)(w:Wq) :
  Cs 160 #[.int .i32 r] w λe w'=>e=.returned (.bool (qd9 r))/\w'=w:=by
 go_enter Tryz.func160,Tryz.ntmps160;go_wp2
 all_goals
  go_ret;exact⟨qaj (by rw[Bool.eq_iff_iff];simp[qd9] <;> omega),rfl⟩
theorem qc8(r:Int)(w:Wq) :
  Cs 213 #[.int .i32 r] w λe w'=>e=.returned (.bool (qbu r))/\w'=w:=by
 go_enter Tryz.func213,Tryz.ntmps213;go_wp2
 all_goals
  go_ret;exact⟨qaj (by rw[Bool.eq_iff_iff];simp[qbu] <;> omega),rfl⟩
theorem qbi(r:Int)(w:Wq) :
  Cs 211 #[.int .i32 r] w λe w'=>e=.returned (.bool (qgf r))/\w'=w:=by
 go_enter Tryz.func211,Tryz.ntmps211;go_wp2
 all_goals
  go_ret;exact⟨qaj (by rw[Bool.eq_iff_iff];simp[qgf] <;> omega),rfl⟩
theorem qgn(r:Int)(w:Wq) :
  Cs 244 #[.int .i32 r] w λe w'=>e=.returned (.bool (qku r))/\w'=w:=by
 go_enter Tryz.func244,Tryz.ntmps244;go_wp2
 all_goals
  go_ret;exact⟨qaj (by rw[Bool.eq_iff_iff];simp[qku] <;> omega),rfl⟩
theorem qt7(r:Int)(w:Wq) :
  Cs 215 #[.int .i32 r] w λe w'=>e=.returned (.int .i64 (qmg r))/\w'=w:=by
 go_enter Tryz.func215,Tryz.ntmps215;go_wp2
 all_goals
  go_ret;exact⟨qfl (by simp_all [qmg]),rfl⟩
def qgb(r:Nat):Bool:=qgf r || qbu r || qku r
def qbp(s:By):Nat->Nat->Nat->Nat×Nat
 | 0,aa,m=>(aa,m)
 | f+1,aa,m=>if aa < s.size then (if qgb (Utf8.decode s aa).1 then qbp s f (aa+(Utf8.decode s aa).2) (m+1) else (aa,m)) else (aa,m)
theorem qqr(s:By)(f aa m:Nat)(h:¬aa < s.size):qbp s f aa m=(aa,m):=by
 cases f <;> simp[qbp,h]
theorem qsv(s:By)(f aa m:Nat)(h:qgb (Utf8.decode s aa).1=false):qbp s f aa m=(aa,m):=by
 cases f <;> simp[qbp,h]
theorem qai(s:By)(aa:Nat)(h:aa < s.size):aa+(Utf8.decode s aa).2<=s.size:=by
 have h1:=Lib.tail_decode s aa 0;rw[Nat.add_zero] at h1;have h2:=Lib.width_le (s.extract aa s.size) (by simp;omega);rw[h1] at h2;simp at h2;omega
theorem qhf(w:Wq)(O:Obj)(s:By)(p:Nat):((w.alloc O).alloc (.stringIter s p)).iterPos (w.heap.size+1)=p:=by
 have:=World.iterPos_iter (w.alloc O) s p;rw[World.size_alloc] at this;exact this
def qeh(k:Int)(t:By)(p m:Int):Array Vq:=#[.int .i64 k,.string t,.int .i64 p,.int .i64 m]
def qbk(k:Int)(t:By)(p m:Int):Vq:=.agg (qeh k t p m)
theorem qu5(s:By):s.extract 0 s.size=s:=by
 simp
theorem qwu(k:Int)(s:By)(w:Wq)(hs:s.size<=maxLen) :
  Cs 212 #[.int .i64 k,.string s] w λe w'=>
   e=.returned (qbk k (s.extract 0 (qbp s s.size 0 0).1) 0 (qbp s s.size 0 0).2)/\Below w.heap.size w w':=by
 unfold maxLen at hs;go_enter Tryz.func212,Tryz.ntmps212;go_wp2
 go_loopw [5] (λn w'=>∃(aa b m:Nat),w'=(w.alloc (.cells #[.int .i64 0,.string ⟨#[]⟩,.int .i64 0,.int .i64 0] 191)).alloc (.stringIter s aa)/\n=.int .i64 m/\qbp s b aa m=qbp s s.size 0 0/\s.size<=aa+b/\m<=aa/\aa<=s.size) (λ_ w'=>s.size - w'.iterPos (w.heap.size+1))
 case atStart=>exact⟨0,s.size,0,rfl,rfl,rfl,by omega,by omega,by omega⟩
 case round=>
  obtain⟨aa,b,m,rfl,rfl,hc,hb,hm,b9⟩:=hrel;have HC:Hid (qbp s b aa m=qbp s s.size 0 0):=hc;clear hc;have am:(w.alloc (.cells #[.int .i64 0,.string ⟨#[]⟩,.int .i64 0,.int .i64 0] 191)).heap.size=w.heap.size+1:=by simp
  by_cases hp:aa < s.size
  .have bf:∀ty,(Instr.next (.pointer (some ⟨w.heap.size+1,0,none⟩)) true ty).run Tryz.prog ((w.alloc (.cells #[.int .i64 0,.string ⟨#[]⟩,.int .i64 0,.int .i64 0] 191)).alloc (.stringIter s aa))=.ok (.tuple #[.bool true,.int .i64 aa,.int .i32 (Utf8.decode s aa).1]) ((w.alloc (.cells #[.int .i64 0,.string ⟨#[]⟩,.int .i64 0,.int .i64 0] 191)).alloc (.stringIter s (aa+(Utf8.decode s aa).2))):=λty=>am ▸ run_next_any (w.alloc (.cells #[.int .i64 0,.string ⟨#[]⟩,.int .i64 0,.int .i64 0] 191)) s aa ty hp;have bq:=Lib.decode_width_pos s aa hp;have al:=qai s aa hp;generalize hd:Utf8.decode s aa=d at *;have HD:Hid (Utf8.decode s aa=d):=hd;clear hd;obtain⟨r,wd⟩:=d;simp only at bq al bf
   have ap:Hid (qgb r=true->∃b',b=b'+1/\qbp s b' (aa+wd) (m+1)=qbp s s.size 0 0):=by
    intro hw
    cases b with
    | zero=>omega
    | succ b'=>exact⟨b',rfl,by rw[<- HC.out];simp[qbp,hp,HD.out,hw]⟩
   have bk:Hid (qgb r=false->qbp s s.size 0 0=(aa,m)):=by
    intro hw;rw[<- HC.out];exact qsv s b aa m (by rw[HD.out];exact hw)
   clear HC HD;by_cases ab:qgf (r:Int)=true
   .go_wp2_with (first | (go_at_call 211;refine (qbi _ _).mono ?_;rintro e w' ⟨rfl,rfl⟩) | (go_at_call 213;refine (qc8 _ _).mono ?_;rintro e w' ⟨rfl,rfl⟩) | (go_at_call 244;refine (qgn _ _).mono ?_;rintro e w' ⟨rfl,rfl⟩))
    obtain⟨b',rfl,an⟩:=ap.out (by simp[qgb,ab])
    go_roundw
    case rel=>exact⟨aa+wd,b',m+1,rfl,by go_num,an,by omega,by omega,by omega⟩
    case measure=>rw[qhf,qhf];omega
   by_cases af:qbu (r:Int)=true
   .have ah:qgf (r:Int)=false:=by simpa using ab
    clear ab
    go_wp2_with (first | (go_at_call 211;refine (qbi _ _).mono ?_;rintro e w' ⟨rfl,rfl⟩) | (go_at_call 213;refine (qc8 _ _).mono ?_;rintro e w' ⟨rfl,rfl⟩) | (go_at_call 244;refine (qgn _ _).mono ?_;rintro e w' ⟨rfl,rfl⟩))
    obtain⟨b',rfl,an⟩:=ap.out (by simp[qgb,af])
    go_roundw
    case rel=>exact⟨aa+wd,b',m+1,rfl,by go_num,an,by omega,by omega,by omega⟩
    case measure=>rw[qhf,qhf];omega
   by_cases ae:qku (r:Int)=true
   .have ah:qgf (r:Int)=false:=by simpa using ab
    have ak:qbu (r:Int)=false:=by simpa using af
    clear ab af
    go_wp2_with (first | (go_at_call 211;refine (qbi _ _).mono ?_;rintro e w' ⟨rfl,rfl⟩) | (go_at_call 213;refine (qc8 _ _).mono ?_;rintro e w' ⟨rfl,rfl⟩) | (go_at_call 244;refine (qgn _ _).mono ?_;rintro e w' ⟨rfl,rfl⟩))
    obtain⟨b',rfl,an⟩:=ap.out (by simp[qgb,ae])
    go_roundw
    case rel=>exact⟨aa+wd,b',m+1,rfl,by go_num,an,by omega,by omega,by omega⟩
    case measure=>rw[qhf,qhf];omega
   have ah:qgf (r:Int)=false:=by simpa using ab
   have ak:qbu (r:Int)=false:=by simpa using af
   have Qge:qku (r:Int)=false:=by simpa using ae
   clear ab af ae;have q7:Hid (qbp s s.size 0 0=(aa,m)):=bk.out (by simp[qgb,ah,ak,Qge]);clear bk ap
   go_wp2_with (first | (go_at_call 211;refine (qbi _ _).mono ?_;rintro e w' ⟨rfl,rfl⟩) | (go_at_call 213;refine (qc8 _ _).mono ?_;rintro e w' ⟨rfl,rfl⟩) | (go_at_call 244;refine (qgn _ _).mono ?_;rintro e w' ⟨rfl,rfl⟩))
   refine bodyPost_ret (v:=qbk k (s.extract 0 aa) 0 m) (by simp[results,Tryz.results212,go_sem,qbk,qeh]) rfl ?_;rw[q7.out];exact⟨rfl,(zr.alloc zl _).alloc (by simp) _⟩
  .have bf:∀ty,(Instr.next (.pointer (some ⟨w.heap.size+1,0,none⟩)) true ty).run Tryz.prog ((w.alloc (.cells #[.int .i64 0,.string ⟨#[]⟩,.int .i64 0,.int .i64 0] 191)).alloc (.stringIter s aa))=.ok (.tuple #[.bool false]) ((w.alloc (.cells #[.int .i64 0,.string ⟨#[]⟩,.int .i64 0,.int .i64 0] 191)).alloc (.stringIter s aa)):=λty=>am ▸ run_next_end (w.alloc (.cells #[.int .i64 0,.string ⟨#[]⟩,.int .i64 0,.int .i64 0] 191)) s aa ty hp;have q7:Hid (qbp s s.size 0 0=(aa,m)):=by rw[<- HC.out];exact qqr s b aa m hp
   clear HC;have b7:Hid (s.extract 0 aa=s):=by rw[show aa=s.size by omega];exact qu5 s
   go_wp2;refine bodyPost_ret (v:=qbk k s 0 m) (by simp[results,Tryz.results212,go_sem,qbk,qeh]) rfl ?_;rw[q7.out];exact⟨by rw[b7.out],(zr.alloc zl _).alloc (by simp) _⟩
def byN(s:By)(i:Nat):Nat:=(s.get! i).toNat
theorem qgu(s:By)(i:Nat):byN s i < 256:=UInt8.toNat_lt _
def qfx(s:By)(i lo hi:Nat):Bool:=decide (i < s.size/\lo<=byN s i/\byN s i<=hi)
def loB(c:Nat):Nat:=if c=224 then 160 else if c=240 then 144 else 128
def hiB(c:Nat):Nat:=if c=237 then 159 else if c=244 then 143 else 191
def qak(s:By)(i:Nat):Nat:=
 if 194<=byN s i/\byN s i<=223/\qfx s (i+1) (loB (byN s i)) (hiB (byN s i))=true then 2
 else if 224<=byN s i/\byN s i<=239/\qfx s (i+1) (loB (byN s i)) (hiB (byN s i))=true/\qfx s (i+2) 128 191=true then 3
 else if 240<=byN s i/\byN s i<=244/\qfx s (i+1) (loB (byN s i)) (hiB (byN s i))=true/\qfx s (i+2) 128 191=true/\qfx s (i+3) 128 191=true then 4
 else 1
theorem qfu(s:By)(i:Nat) :
  Utf8.decode s i=if byN s i < 128 then (byN s i,1)
   else if qak s i=2 then ((byN s i % 32)*64+byN s (i+1) % 64,2)
   else if qak s i=3 then ((byN s i % 16)*4096+(byN s (i+1) % 64)*64+byN s (i+2) % 64,3)
   else if qak s i=4 then ((byN s i % 8)*262144+(byN s (i+1) % 64)*4096+(byN s (i+2) % 64)*64+byN s (i+3) % 64,4)
   else (65533,1):=by
 have h0:=qgu s i;have h1:=qgu s (i+1);have h2:=qgu s (i+2);have h3:=qgu s (i+3)
 have e:Utf8.decode s i=(if byN s i < 128 then (byN s i,1)
   else if (byN s i / 32 == 6 && (decide (i+1 < s.size) && byN s (i+1) / 64 == 2))=true then
    (if (byN s i % 32)*64+byN s (i+1) % 64≥128 then ((byN s i % 32)*64+byN s (i+1) % 64,2) else (65533,1))
   else if (byN s i / 16 == 14 && (decide (i+1 < s.size) && byN s (i+1) / 64 == 2) && (decide (i+2 < s.size) && byN s (i+2) / 64 == 2))=true then
    (if (decide ((byN s i % 16)*4096+(byN s (i+1) % 64)*64+byN s (i+2) % 64≥2048) && Utf8.valid (((byN s i % 16)*4096+(byN s (i+1) % 64)*64+byN s (i+2) % 64:Nat):Int))=true then ((byN s i % 16)*4096+(byN s (i+1) % 64)*64+byN s (i+2) % 64,3) else (65533,1))
   else if (byN s i / 8 == 30 && (decide (i+1 < s.size) && byN s (i+1) / 64 == 2) && (decide (i+2 < s.size) && byN s (i+2) / 64 == 2) && (decide (i+3 < s.size) && byN s (i+3) / 64 == 2))=true then
    (if (decide ((byN s i % 8)*262144+(byN s (i+1) % 64)*4096+(byN s (i+2) % 64)*64+byN s (i+3) % 64≥65536) && Utf8.valid (((byN s i % 8)*262144+(byN s (i+1) % 64)*4096+(byN s (i+2) % 64)*64+byN s (i+3) % 64:Nat):Int))=true then ((byN s i % 8)*262144+(byN s (i+1) % 64)*4096+(byN s (i+2) % 64)*64+byN s (i+3) % 64,4) else (65533,1))
   else (65533,1)):=rfl
 rw[e]
 have bb:(byN s i=224->loB (byN s i)=160)/\(byN s i=240->loB (byN s i)=144)/\(byN s i≠224->byN s i≠240->loB (byN s i)=128):=by
  unfold loB;refine⟨λh=>by simp[h],λh=>by simp[h],λh h'=>by simp[h,h']⟩
 have bn:(byN s i=237->hiB (byN s i)=159)/\(byN s i=244->hiB (byN s i)=143)/\(byN s i≠237->byN s i≠244->hiB (byN s i)=191):=by
  unfold hiB;refine⟨λh=>by simp[h],λh=>by simp[h],λh h'=>by simp[h,h']⟩
 unfold qak qfx Utf8.valid;generalize loB (byN s i)=lo at *;generalize hiB (byN s i)=hi at *;generalize byN s i=b0 at *;generalize byN s (i+1)=b1 at *;generalize byN s (i+2)=b2 at *;generalize byN s (i+3)=b3 at *;generalize s.size=n at *;clear e;simp only[Bool.and_eq_true,Bool.or_eq_true,decide_eq_true_eq,beq_iff_eq,ge_iff_le];by_cases k0:b0 < 128
 .rw[if_pos k0,if_pos k0]
 rw[if_neg k0,if_neg k0];by_cases a2:194<=b0/\b0<=223/\i+1 < n/\lo<=b1/\b1<=hi
 .rw[if_pos (by omega),if_pos (by omega)];simp[a2]
 by_cases a3:224<=b0/\b0<=239/\(i+1 < n/\lo<=b1/\b1<=hi)/\i+2 < n/\128<=b2/\b2<=191
 .rw[if_neg (by omega),if_pos (by omega),if_pos (by omega)];rw[if_neg a2,if_pos a3];rfl
 by_cases a4:240<=b0/\b0<=244/\(i+1 < n/\lo<=b1/\b1<=hi)/\(i+2 < n/\128<=b2/\b2<=191)/\i+3 < n/\128<=b3/\b3<=191
 .rw[if_neg (by omega),if_neg (by omega),if_pos (by omega),if_pos (by omega)];rw[if_neg a2,if_neg a3,if_pos a4];rfl
 rw[if_neg a2,if_neg a3,if_neg a4];show _=(65533,1);split
 .rw[if_neg (by omega)]
 .split
  .rw[if_neg (by omega)]
  .split
   .rw[if_neg (by omega)]
   .rfl
theorem qmi(s:By)(i:Nat):(Utf8.decode s i).2=qak s i:=by
 have h0:=qgu s i;rw[qfu];by_cases k0:byN s i < 128
 .rw[if_pos k0];unfold qak;rw[if_neg (by omega),if_neg (by omega),if_neg (by omega)]
 rw[if_neg k0]
 have h4:qak s i=1\/qak s i=2\/qak s i=3\/qak s i=4:=by
  unfold qak;split
  .simp
  .split
   .simp
   .split <;> simp
 rcases h4 with h | h | h | h <;> simp[h]
def qym(c:Nat):Nat:=
 if 97<=c/\c<=122 then 1 else if 65<=c/\c<=90 then 2 else if 48<=c/\c<=57 then 3 else if c=32\/c=9\/c=10 then 4
 else if c=40\/c=41\/c=44\/c=46 then 5 else if c=58 then 6 else if c=45 then 7 else 8
def qm3(a b:Nat):Nat:=
 if 945<=64*((a:Int) - 192)+b - 128/\64*((a:Int) - 192)+b - 128<=969 then 1
 else if 913<=64*((a:Int) - 192)+b - 128/\64*((a:Int) - 192)+b - 128<=937/\64*((a:Int) - 192)+b - 128≠930 then 2 else 8
def qdl(s:By)(i:Nat):Nat:=
 if qak s i=1 then qym (byN s i) else if qak s i=2 then qm3 (byN s i) (byN s (i+1)) else 8
def q9(r:Nat):Nat:=
 if qbu r=true then 1 else if qgf r=true then 2 else if qku r=true then 3 else if qd9 r=true then 4
 else if r=40\/r=41\/r=44\/r=46 then 5 else if r=58 then 6 else if r=45 then 7 else 8
theorem qhz(r:Nat)(h:970<=r):q9 r=8:=by
 unfold q9 qbu qgf qku qd9;simp only[decide_eq_true_eq];rw[if_neg (by omega),if_neg (by omega),if_neg (by omega),if_neg (by omega),if_neg (by omega),if_neg (by omega),if_neg (by omega)]
theorem q9z(s:By)(i:Nat)(h:qak s i=3):224<=byN s i/\byN s i<=239/\(byN s i=224->160<=byN s (i+1))/\byN s (i+1)<=191/\128<=byN s (i+1):=by
 have bb:(byN s i=224->loB (byN s i)=160)/\128<=loB (byN s i):=by
  unfold loB;refine⟨λh=>by simp[h],?_⟩;split;decide;split <;> decide
 have bn:hiB (byN s i)<=191:=by unfold hiB;split;decide;split <;> decide
 unfold qak at h;split at h
 .cases h
 .split at h
  .rename_i _ hb;obtain⟨b1,b2,b3,b4⟩:=hb;unfold qfx at b3;simp only[decide_eq_true_eq] at b3;omega
  .split at h <;> cases h
theorem q90(s:By)(i:Nat)(h:qak s i=4):240<=byN s i/\byN s i<=244/\(byN s i=240->144<=byN s (i+1))/\byN s (i+1)<=191/\128<=byN s (i+1):=by
 have bb:(byN s i=240->loB (byN s i)=144)/\128<=loB (byN s i):=by
  unfold loB;refine⟨λh=>by simp[h],?_⟩;split;decide;split <;> decide
 have bn:hiB (byN s i)<=191:=by unfold hiB;split;decide;split <;> decide
 unfold qak at h;split at h
 .cases h
 .split at h
  .cases h
  .split at h
   .rename_i _ _ hb;obtain⟨b1,b2,b3,b4⟩:=hb;unfold qfx at b3;simp only[decide_eq_true_eq] at b3;omega
   .cases h
theorem q5a(s:By)(i:Nat):qdl s i=q9 (Utf8.decode s i).1:=by
 have h0:=qgu s i;have h1:=qgu s (i+1);have hd:=qfu s i;have hs:=qmi s i;by_cases k0:byN s i < 128
 .rw[if_pos k0] at hd;rw[hd] at hs ⊢;unfold qdl;rw[if_pos hs.symm];unfold qym q9 qbu qgf qku qd9;simp only[decide_eq_true_eq];generalize byN s i=c at *
  repeat' split
  all_goals first | rfl | (exfalso;omega)
 rw[if_neg k0] at hd
 have h4:qak s i=1\/qak s i=2\/qak s i=3\/qak s i=4:=by
  unfold qak;split
  .simp
  .split
   .simp
   .split <;> simp
 rcases h4 with h | h | h | h
 .rw[if_neg (by omega),if_neg (by omega),if_neg (by omega)] at hd;rw[hd];unfold qdl;rw[if_pos h,qhz _ (by decide)];unfold qym;rw[if_neg (by omega),if_neg (by omega),if_neg (by omega),if_neg (by omega),if_neg (by omega),if_neg (by omega),if_neg (by omega)]
 .have hb:194<=byN s i/\byN s i<=223/\qfx s (i+1) (loB (byN s i)) (hiB (byN s i))=true:=by
   apply Classical.byContradiction;intro hn;unfold qak at h;rw[if_neg hn] at h;split at h
   .cases h
   .split at h <;> cases h
  have hf:=hb.2.2;unfold qfx at hf;simp only[decide_eq_true_eq] at hf;have e1:loB (byN s i)=128:=by unfold loB;rw[if_neg (by omega),if_neg (by omega)]
  have e2:hiB (byN s i)=191:=by unfold hiB;rw[if_neg (by omega),if_neg (by omega)]
  rw[e1,e2] at hf;rw[if_pos h] at hd;rw[hd];unfold qdl;rw[if_neg (by omega),if_pos h];unfold qm3;have hr:64*((byN s i:Int) - 192)+(byN s (i+1):Int) - 128=((byN s i % 32*64+byN s (i+1) % 64:Nat):Int):=by omega
  have bb:128<=byN s i % 32*64+byN s (i+1) % 64:=by omega
  rw[hr];simp only;generalize byN s i % 32*64+byN s (i+1) % 64=r at *;clear hr hd hs hf hb h h0 h1 k0 e1 e2;unfold q9 qbu qgf qku qd9;simp only[decide_eq_true_eq];by_cases c1:945<=r/\r<=969
  .rw[if_pos (by omega),if_pos (by omega)]
  .rw[if_neg (by omega)];by_cases c2:913<=r/\r<=937/\r≠930
   .rw[if_pos (by omega),if_neg (by omega),if_pos (by omega)]
   .rw[if_neg (by omega),if_neg (by omega),if_neg (by omega),if_neg (by omega),if_neg (by omega),if_neg (by omega),if_neg (by omega),if_neg (by omega)]
 .have hb:=q9z s i h;rw[if_neg (by omega),if_pos h] at hd;rw[hd];unfold qdl;rw[if_neg (by omega),if_neg (by omega),qhz _ (by show 970<=byN s i % 16*4096+byN s (i+1) % 64*64+byN s (i+2) % 64;omega)]
 .have hb:=q90 s i h;rw[if_neg (by omega),if_neg (by omega),if_pos h] at hd;rw[hd];unfold qdl;rw[if_neg (by omega),if_neg (by omega),qhz _ (by show 970<=byN s i % 8*262144+byN s (i+1) % 64*4096+byN s (i+2) % 64*64+byN s (i+3) % 64;omega)]
structure Rn where
 kind:Nat
 text:By
def qjg:Nat->By->List Rn
 | 0,_=>[]
 | f+1,s=>if s.size=0 then [] else ⟨q9 (Utf8.decode s 0).1,s.extract 0 (Utf8.decode s 0).2⟩::qjg f (s.extract (Utf8.decode s 0).2 s.size)
theorem qs0(r:Nat):qgb r=decide (q9 r<=3):=by
 unfold qgb q9;by_cases h1:qbu r=true
 .simp[h1]
 .by_cases h2:qgf r=true
  .simp[h1,h2]
  .by_cases h3:qku r=true
   .simp[h1,h2,h3]
   .have e1:qbu r=false:=by simpa using h1
    have e2:qgf r=false:=by simpa using h2
    have e3:qku r=false:=by simpa using h3
    simp only[e1,e2,e3,Bool.false_eq_true,if_false,Bool.or_self];symm;simp only[decide_eq_false_iff_not]
    repeat' split
    all_goals omega
theorem qdc(f:Nat)(s:By)(h:s.size=0):qjg f s=[]:=by
 cases f <;> simp[qjg,h]
theorem qer(s:By)(i:Nat):0 < (Utf8.decode s i).2:=by
 rw[qmi];unfold qak;split
 .decide
 .split
  .decide
  .split <;> decide
theorem qla:∀(f g:Nat) (s:By),s.size<=f->s.size<=g->qjg f s=qjg g s
 | 0,g,s,h,_=>by rw[qdc _ _ (by omega),qdc _ _ (by omega)]
 | f+1,0,s,_,h=>by rw[qdc _ _ (by omega),qdc _ _ (by omega)]
 | f+1,g+1,s,h,h'=>by
  unfold qjg;split
  .rfl
  .rename_i hn;have hp:=qer s 0;have hz:(s.extract (Utf8.decode s 0).2 s.size).size<=s.size - 1:=by simp;omega
   rw[qla f g _ (by omega) (by omega)]
def R(s:By)(i:Nat):List Rn:=qjg s.size (s.extract i s.size)
theorem qtk(s:By)(i a b:Nat):(s.extract i s.size).extract a b=s.extract (i+a) (min (i+b) s.size):=by
 apply ByteArray.ext;simp only[ByteArray.data_extract,Array.extract_extract]
theorem qil(s:By)(i:Nat)(h:¬i < s.size):R s i=[]:=qdc _ _ (by simp;omega)
theorem qe6(s:By)(i:Nat)(h:i < s.size):R s i=⟨q9 (Utf8.decode s i).1,s.extract i (i+(Utf8.decode s i).2)⟩::R s (i+(Utf8.decode s i).2):=by
 have hd:=Lib.tail_decode s i 0;rw[Nat.add_zero] at hd;have hw:=qai s i h;have hp:=qer s i;obtain⟨k,hk⟩:∃k,s.size=k+1:=⟨s.size - 1,by omega⟩;have am:(s.extract i s.size).size=s.size - i:=by simp
 unfold R;rw[hk]
 conv=>lhs;unfold qjg
 rw[<- hk,if_neg (by rw[am];omega),hd,qtk,qtk,Nat.add_zero,am,Nat.min_eq_left hw];have e:min (i+(s.size - i)) s.size=s.size:=by omega
 rw[e];congr 1;exact qla _ _ _ (by simp <;> omega) (by simp <;> omega)
def tw(l:List Rn):List Rn:=l.takeWhile (λx=>decide (x.kind<=3))
def qke:List Rn->Nat
 | []=>0
 | x::l=>x.text.size+qke l
theorem qlc(s:By):∀(f i m:Nat),s.size<=i+f->qbp s f i m=(i+qke (tw (R s i)),m+(tw (R s i)).length)
 | 0,i,m,h=>by
  rw[qqr _ _ _ _ (by omega),qil s i (by omega)];simp[tw,qke]
 | f+1,i,m,h=>by
  by_cases hi:i < s.size
  .have hp:=qer s i;have hw:=qai s i hi;by_cases hr:qgb (Utf8.decode s i).1=true
   .have ih:=qlc s f (i+(Utf8.decode s i).2) (m+1) (by omega);have hk:q9 (Utf8.decode s i).1<=3:=by rw[qs0] at hr;simpa using hr
    conv=>lhs;unfold qbp
    rw[if_pos hi,if_pos hr,ih,qe6 s i hi]
    have e:tw (⟨q9 (Utf8.decode s i).1,s.extract i (i+(Utf8.decode s i).2)⟩::R s (i+(Utf8.decode s i).2))=⟨q9 (Utf8.decode s i).1,s.extract i (i+(Utf8.decode s i).2)⟩::tw (R s (i+(Utf8.decode s i).2)):=by
     unfold tw;rw[List.takeWhile_cons,if_pos (by simpa using hk)]
    rw[e];have hz:(s.extract i (i+(Utf8.decode s i).2)).size=(Utf8.decode s i).2:=by simp;omega
    simp only[qke,List.length_cons,hz,Prod.mk.injEq];omega
   .have a9:qgb (Utf8.decode s i).1=false:=by simpa using hr
    have hk:¬q9 (Utf8.decode s i).1<=3:=by rw[qs0] at a9;simpa using a9
    rw[qsv _ _ _ _ a9,qe6 s i hi]
    have e:tw (⟨q9 (Utf8.decode s i).1,s.extract i (i+(Utf8.decode s i).2)⟩::R s (i+(Utf8.decode s i).2))=[]:=by
     unfold tw;rw[List.takeWhile_cons,if_neg (by simpa using hk)]
    rw[e];simp[qke]
  .rw[qqr _ _ _ _ hi,qil s i hi];simp[tw,qke]
theorem qs3(s:By)(n:Nat):R (s.extract n s.size) 0=R s n:=by
 have hz:(s.extract n s.size).size=s.size - n:=by simp
 unfold R;rw[qtk,hz,Nat.add_zero];have e:min (n+(s.size - n)) s.size=s.size\/¬n < s.size:=by omega
 rcases e with e | e
 .rw[e];exact qla _ _ _ (by simp) (by simp)
 .rw[qdc _ _ (by simp;omega),qdc _ _ (by simp;omega)]
theorem q22(s:By):∀(k i:Nat),k<=(R s i).length->R s (i+qke ((R s i).take k))=(R s i).drop k
 | 0,i,_=>by simp[qke]
 | k+1,i,h=>by
  by_cases hi:i < s.size
  .have hw:=qai s i hi;have hc:=qe6 s i hi;rw[hc] at h ⊢;rw[List.take_succ_cons,List.drop_succ_cons];have hz:(s.extract i (i+(Utf8.decode s i).2)).size=(Utf8.decode s i).2:=by simp;omega
   have ih:=q22 s k (i+(Utf8.decode s i).2) (by simpa using h);simp only[qke,hz];rw[<- Nat.add_assoc];exact ih
  .rw[qil s i hi] at h;simp at h
theorem q3e{W w1:Wq}(hb:Below W.heap.size W w1):(∀b o,b < W.heap.size->w1.cell? (Ad b o)=W.cell? (Ad b o))/\(∀b o,b < W.heap.size->w1.frozen? (Ad b o)=W.frozen? (Ad b o)):=
 ⟨λb o h=>hb.cell (p:=⟨b,o,none⟩) h,λb o h=>hb.frozen (p:=⟨b,o,none⟩) h⟩
def Q8(s:By):Int×Nat×Nat:=
 if qgf (Utf8.decode s 0).1 then (2,(qbp s s.size 0 0).1,(qbp s s.size 0 0).2)
 else if qbu (Utf8.decode s 0).1 then (1,(qbp s s.size 0 0).1,(qbp s s.size 0 0).2)
 else if Lib.hasPrefix s.data.toList [58,45] then (7,2,2)
 else (qmg (Utf8.decode s 0).1,(Utf8.decode s 0).2,1)
def qhn(s:By)(p:Int):Vq:=qbk (Q8 s).1 (s.extract 0 (Q8 s).2.1) p (Q8 s).2.2
theorem qwc(s:By)(h:Lib.hasPrefix s.data.toList [58,45]=true):s.extract 0 2=⟨#[58,45]⟩:=by
 have h1:[58,45] <+: s.data.toList:=by simpa [Lib.hasPrefix] using h
 obtain⟨t,ht⟩:=h1
 have hs:s=⟨([58,45]++t).toArray⟩:=by
  cases s;simp at ht;simp[ht]
 rw[hs];apply ByteArray.ext;simp
theorem q0x(s:By)(w:Wq)(hs:s.size<=maxLen)(h0:0 < s.size)(hT:Lib.Utf8Tabs 0 1 w) :
  Cs 161 #[.string s] w λe w'=>e=.returned (qhn s 0)/\Below w.heap.size w w':=by
 have ae:Lib.decodeGo s=Utf8.decode s 0:=by
  unfold Lib.decodeGo;rw[if_neg (by omega)]
 have aq:=Utf8Tabs_below hT ((Below.refl w.heap.size w).alloc zl (.cells #[.int .i64 0,.string ⟨#[]⟩,.int .i64 0,.int .i64 0] 191));go_enter Tryz.func161,Tryz.ntmps161;go_wp2_with fail;refine (Tryz.utf8_DecodeRuneInString _ _ aq).mono ?_;rintro e w1 ⟨rfl,ac⟩;rw[ae];generalize hd:Utf8.decode s 0=d;obtain⟨r,wd⟩:=d;have HD:Hid (Utf8.decode s 0=(r,wd)):=hd;clear hd ae;obtain⟨aw,au⟩:=q3e ac;have ao:w.heap.size < w1.heap.size:=by have:=ac.size;simp at this;omega
 by_cases ab:qgf (r:Int)=true
 .go_wp2_with (go_at_call 211;refine (qbi _ _).mono ?_;rintro e w' ⟨rfl,rfl⟩)
  refine (qwu _ _ _ hs).mono ?_;rintro e w2 ⟨rfl,ad⟩;obtain⟨ax,ay⟩:=q3e ad;have be:w.heap.size < w2.heap.size:=by have:=ad.size;omega
  have hB:Below w.heap.size w w2:=(((Below.refl w.heap.size w).alloc zl _).trans (ac.mono (by simp))).trans (ad.mono (by omega));clear ac ad hT aq
  have q7:Hid (qhn s 0=qbk 2 (s.extract 0 (qbp s s.size 0 0).1) 0 (qbp s s.size 0 0).2):=by
   show qhn s 0=_;unfold qhn Q8;rw[HD.out];simp[ab]
  generalize (qbp s s.size 0 0).1=sb at *;generalize (qbp s s.size 0 0).2=sm at *;unfold qbk qeh;go_wp2;refine bodyPost_ret (v:=qbk 2 (s.extract 0 sb) 0 sm) (by simp[results,Tryz.results161,go_sem,qbk,qeh,ax,ay,aw,au,ao,be]) rfl ?_;rw[q7.out];exact⟨rfl,(((hB.setCell (by simp) _).setCell (by simp) _).setCell (by simp) _).setCell (by simp) _⟩
 have ah:qgf (r:Int)=false:=by simpa using ab
 clear ab;by_cases af:qbu (r:Int)=true
 .go_wp2_with (first | (go_at_call 211;refine (qbi _ _).mono ?_;rintro e w' ⟨rfl,rfl⟩) | (go_at_call 213;refine (qc8 _ _).mono ?_;rintro e w' ⟨rfl,rfl⟩))
  refine (qwu _ _ _ hs).mono ?_;rintro e w2 ⟨rfl,ad⟩;obtain⟨ax,ay⟩:=q3e ad;have be:w.heap.size < w2.heap.size:=by have:=ad.size;omega
  have hB:Below w.heap.size w w2:=(((Below.refl w.heap.size w).alloc zl _).trans (ac.mono (by simp))).trans (ad.mono (by omega));clear ac ad hT aq
  have q7:Hid (qhn s 0=qbk 1 (s.extract 0 (qbp s s.size 0 0).1) 0 (qbp s s.size 0 0).2):=by
   show qhn s 0=_;unfold qhn Q8;rw[HD.out];simp[ah,af]
  generalize (qbp s s.size 0 0).1=sb at *;generalize (qbp s s.size 0 0).2=sm at *;unfold qbk qeh;go_wp2;refine bodyPost_ret (v:=qbk 1 (s.extract 0 sb) 0 sm) (by simp[results,Tryz.results161,go_sem,qbk,qeh,ax,ay,aw,au,ao,be]) rfl ?_;rw[q7.out];exact⟨rfl,(((hB.setCell (by simp) _).setCell (by simp) _).setCell (by simp) _).setCell (by simp) _⟩
 have ak:qbu (r:Int)=false:=by simpa using af
 clear af;have al:wd<=s.size:=by have:=Lib.width_le s h0;rw[HD.out] at this;exact this
 have hB:Below w.heap.size w w1:=((Below.refl w.heap.size w).alloc zl _).trans (ac.mono (by simp));clear ac hT aq;unfold maxLen at hs;by_cases av:Lib.hasPrefix s.data.toList [58,45]=true
 .have q7:Hid (qhn s 0=qbk 7 ⟨#[58,45]⟩ 0 2):=by
   show qhn s 0=_;unfold qhn Q8;rw[HD.out];simp only[ah,ak,av,Bool.false_eq_true,if_false,if_true];rw[qwc s av];rfl
  clear HD
  go_wp2_with (first | (go_at_call 211;refine (qbi _ _).mono ?_;rintro e w' ⟨rfl,rfl⟩) | (go_at_call 213;refine (qc8 _ _).mono ?_;rintro e w' ⟨rfl,rfl⟩) | (go_at_call 214;refine (Tryz.strings_HasPrefix _ _ _).mono ?_;rintro e w' ⟨rfl,rfl⟩))
  refine bodyPost_ret (v:=qbk 7 ⟨#[58,45]⟩ 0 2) (by simp[results,Tryz.results161,go_sem,qbk,qeh,aw,au,ao]) rfl ?_;rw[q7.out];exact⟨rfl,(((hB.setCell (by simp) _).setCell (by simp) _).setCell (by simp) _).setCell (by simp) _⟩
 .have Qeh:Lib.hasPrefix s.data.toList [58,45]=false:=by simpa using av
  clear av
  have q7:Hid (qhn s 0=qbk (qmg r) (s.extract 0 wd) 0 1):=by
   show qhn s 0=_;unfold qhn Q8;rw[HD.out];simp[ah,ak,Qeh]
  clear HD
  go_wp2_with (first | (go_at_call 211;refine (qbi _ _).mono ?_;rintro e w' ⟨rfl,rfl⟩) | (go_at_call 213;refine (qc8 _ _).mono ?_;rintro e w' ⟨rfl,rfl⟩) | (go_at_call 214;refine (Tryz.strings_HasPrefix _ _ _).mono ?_;rintro e w' ⟨rfl,rfl⟩))
  go_region_with (go_at_call 215;refine (qt7 _ _).mono ?_;rintro e w' ⟨rfl,rfl⟩)
  all_goals
   go_wp2;refine bodyPost_ret (v:=qbk (qmg r) (s.extract 0 wd) 0 1) (by simp[results,Tryz.results161,go_sem,qbk,qeh,aw,au,ao]) rfl ?_;rw[q7.out];exact⟨rfl,((((hB.setCell (by simp) _).setCell (by simp) _).setCell (by simp) _).setCell (by simp) _).drew⟩
end Go.Proofs.YtjajnhemgphefaaGreatDoor
namespace Go.Proofs.YtjajnhemgphefaaGreatDoor
open Go renaming World->Wq,Value->Vq
open Go.RowKit Go.Shelf
attribute [local go_sem] Oper.semAt_some
variable {A B C:Wq}
structure Tok where
 kind:Int
 text:By
 place:Nat
 runes:Nat
 ok:text.size<=1200
def Tok.v(t:Tok):Vq:=qbk t.kind t.text t.place t.runes
def qcr:Nat->By->Nat->List Tok
 | 0,_,_=>[]
 | f+1,s,p=>
  if s.size=0 then []
  else if qd9 (Utf8.decode s 0).1 then qcr f (s.extract (Utf8.decode s 0).2 s.size) (p+1)
  else if h:(s.extract 0 (Q8 s).2.1).size<=1200 then ⟨(Q8 s).1,s.extract 0 (Q8 s).2.1,p,(Q8 s).2.2,h⟩::qcr f (s.extract (Q8 s).2.1 s.size) (p+(Q8 s).2.2)
  else []
def qfe(W W':Wq):Prop:=∀(k:Nat) (c:Array Vq) (fz:Nat×Nat),W.heap[k]?=some (Obj.cells c 191 fz)->W'.heap[k]?=some (Obj.cells c 191 fz)
theorem qfe.trans(h:qfe A B)(k:qfe B C):qfe A C:=λi c fz hi=>k i c fz (h i c fz hi)
theorem qfe.put(W:Wq)(l:Nat)(o o':Obj)(h:W.heap[l]?=some o)(ho:o.isCells=false):qfe W (W.putObj l o'):=by
 intro k c fz hk;by_cases e:k=l
 .subst e;rw[h] at hk;cases hk;simp[Obj.isCells] at ho
 .rw[(grownBy_putObj' W l o').block k (zg hk).1 (by simpa using e)];exact hk
theorem qi{W W':Wq}(h:Below W.heap.size W W'):W.grownBy W' none:=⟨h.os,h.tape,h.output,h.size,λk hk _=>h.block k hk⟩
theorem qjh(s:By):∀f aa m,aa<=s.size->m<=aa->aa<=(qbp s f aa m).1/\(qbp s f aa m).1<=s.size/\(qbp s f aa m).2<=(qbp s f aa m).1
 | 0,aa,m,h,hm=>by simp[qbp];omega
 | f+1,aa,m,h,hm=>by
  unfold qbp;split
  .rename_i hp;have h1:=Lib.decode_width_pos s aa hp;have h2:=qai s aa hp;split
   .have:=qjh s f (aa+(Utf8.decode s aa).2) (m+1) h2 (by omega);omega
   .simp;omega
  .simp;omega
theorem qqs(s:By)(h0:0 < s.size)(hw:qgb (Utf8.decode s 0).1=true):1<=(qbp s s.size 0 0).1:=by
 obtain⟨n,hn⟩:∃n,s.size=n+1:=⟨s.size - 1,by omega⟩;rw[hn];unfold qbp;rw[if_pos h0,if_pos hw];have h1:=Lib.decode_width_pos s 0 h0;have h2:=qai s 0 h0;have:=qjh s n (0+(Utf8.decode s 0).2) (0+1) h2 (by omega);omega
theorem qrg(s:By)(h0:0 < s.size):1<=(Q8 s).2.1/\(Q8 s).2.1<=s.size/\(Q8 s).2.2<=(Q8 s).2.1:=by
 have hb:=qjh s s.size 0 0 (by omega) (by omega);have h1:=Lib.decode_width_pos s 0 h0;have h2:=qai s 0 h0;unfold Q8;split
 .rename_i hc;have:=qqs s h0 (by simp[qgb,hc]);simp;omega
 .split
  .rename_i hc;have:=qqs s h0 (by simp[qgb,hc]);simp;omega
  .split
   .rename_i hp;have:=Lib.hasPrefix_le hp;simp at this;simp;exact this
   .simp;omega
theorem qq0(f:Nat)(s:By)(p:Nat)(h:s.size=0):qcr f s p=[]:=by
 cases f <;> simp[qcr,h]
theorem q67(s:By)(w:Wq) :
  Cs 96 #[.string s] w λe w'=>e=.returned (.func (.func 158) #[] #[.pointer (some ⟨w.heap.size,0,none⟩)])/\w'=w.alloc (.cells #[.string s] 9):=by
 go_enter Tryz.func96,Tryz.ntmps96;go_wp2;go_ret;exact⟨rfl,rfl⟩
theorem ql5(t:By):t.toList.isEmpty=decide (t.size=0):=by
 rw[<- decide_eq_emptyBytes];apply decide_eq_decide.2;constructor
 .intro h;rw[h];rfl
 .intro h;exact ByteArray.size_eq_zero_iff.1 h
def qyz:Vq->Nat | .string t=>t.size | _=>0
theorem q66(n:Nat)(hn:1<=n)(l B:Nat)(s:By)(hs:s.size<=1200)(w0:Wq)(hT:Lib.Utf8Tabs 0 1 w0)(J Jx:List Tok->Wq->Prop)(W:Wq)(hJ:AbidesFrom W.heap.size J)(hY:∀pre x W1,J pre W1->pre.length < (qcr s.size s 0).length->YieldAt Fence.wide (n - 1) Tryz.prog l #[x.v] W1 λe W'=>
   (e=.returned (.bool true)/\J (pre++[x]) W'/\Below w0.heap.size W1 W'/\qfe W1 W')\/(e=.returned (.bool false)/\Jx (pre++[x]) W'))(hW:Below w0.heap.size w0 W)(hB:W.cell? (Ad B 0)=some (.string s))(h0:J [] W) :
  CallsIn Fence.wide n Tryz.prog 158 #[.func (.yield l) #[] #[],.pointer (some ⟨B,0,none⟩)] W λe W'=>(∃v,e=.returned v)/\
   ((∃ys,ys=qcr s.size s 0/\J ys W')\/(∃pre,pre <+: qcr s.size s 0/\Jx pre W')):=by
 refine callsIn_of_wp Tryz.func158 rfl trivial ?_ rfl;simp only[Tryz.ntmps158,List.size_toArray,List.length_cons,List.length_nil,Nat.reduceAdd,Nat.reduceSub,Array.replicate_succ,Array.replicate_zero,List.push_toArray,List.append_toArray,List.nil_append,List.cons_append]
 gi_wp2
 generalize hxs:qcr s.size s 0=xs at *;have HX:Hid (qcr s.size s 0=xs):=hxs;clear hxs
 gi_loopw [3,4] (λrest place wr=>∃(pre:List Tok) (t:ByteArray) (p f:Nat),rest=.string t/\place=.int .i64 p/\Hid (pre++qcr f t p=xs)/\t.size<=f/\p+t.size<=s.size/\J pre wr/\Below w0.heap.size w0 wr)
  (λrest _ _=>qyz rest)
 case atStart=>exact⟨[],s,0,s.size,rfl,rfl,HX,by omega,by omega,h0,hW⟩
 case round=>
  obtain⟨pre,t,p,f,rfl,rfl,hx,hf,hp,bc,ai⟩:=hrel;by_cases ht:t.size=0
  .have he:t.toList.isEmpty=true:=by rw[ql5];simp[ht]
   gi_wp2
   go_end0
   exact⟨⟨_,rfl⟩,.inl ⟨pre,by rw[<- HX.out] at hx;rw[<- hx.out,qq0 f t p ht];simp,bc⟩⟩
  .have he:t.toList.isEmpty=false:=by rw[ql5];simp[ht]
   have h1:0 < t.size:=by omega
   obtain⟨g,rfl⟩:∃g,f=g+1:=⟨f - 1,by omega⟩;have ae:Lib.decodeGo t=Utf8.decode t 0:=by unfold Lib.decodeGo;rw[if_neg ht]
   have bt:=Lib.decode_width_pos t 0 h1;have al:=qai t 0 h1;rw[Nat.zero_add] at al;have b8:=Utf8Tabs_below hT ai
   have bd:Cs 159 #[.string t] wr λe w'=>e=.returned (.tuple #[.int .i32 (Utf8.decode t 0).1,.int .i64 (Utf8.decode t 0).2])/\Below wr.heap.size wr w':=by
    rw[<- ae];exact Tryz.utf8_DecodeRuneInString t wr b8
   generalize hd:Utf8.decode t 0=d at *;obtain⟨r,wd⟩:=d;have HD:Hid (Utf8.decode t 0=(r,wd)):=hd;clear hd ae;simp only at bt al bd;by_cases a7:qd9 (r:Int)=true
   .gi_wp2_with (first | (refine⟨trivial,?_⟩;gi_at_call 159;refine (callsIn_wide.2 bd).mono ?_;rintro e w1 ⟨rfl,ac⟩) | (refine⟨trivial,?_⟩;gi_at_call 160;refine (callsIn_wide.2 (qn3 _ _)).mono ?_;rintro e w' ⟨rfl,rfl⟩))
    go_roundw
    case rel=>
     refine⟨pre,t.extract wd t.size,p+1,g,rfl,by go_num,?_,by simp;omega,by simp;omega,hJ pre wr _ none bc (qi ac) (λr e=>by cases e),ai.trans (ac.mono ai.size)⟩;have:=hx.out;unfold qcr at this;rw[if_neg ht,HD.out,if_pos a7] at this;exact this
    case measure=>simp[qyz];omega
   .have Qat:qd9 (r:Int)=false:=by simpa using a7
    clear a7;have ag:(t.extract 0 (Q8 t).2.1).size<=1200:=by simp;omega
    have a8:pre ++ ⟨(Q8 t).1,t.extract 0 (Q8 t).2.1,p,(Q8 t).2.2,ag⟩::qcr g (t.extract (Q8 t).2.1 t.size) (p+(Q8 t).2.2)=xs:=by
     have:=hx.out;unfold qcr at this;rw[if_neg ht,HD.out,if_neg (by simp[Qat]),dif_pos ag] at this;exact this
    have bu:=qrg t h1
    have Qa0:∀w1,Below wr.heap.size wr w1->Cs 161 #[.string t] w1 λe w'=>e=.returned (qbk (Q8 t).1 (t.extract 0 (Q8 t).2.1) 0 (Q8 t).2.2)/\Below w1.heap.size w1 w':=by
     intro w1 hb;exact q0x t w1 (by unfold maxLen;omega) h1 (Utf8Tabs_below hT (ai.trans (hb.mono ai.size)))
    generalize hF:Q8 t=ft at *;obtain⟨fk,fb,fr⟩:=ft;simp only at a8 bu Qa0 ag;have a6:Hid (pre ++ ⟨fk,t.extract 0 fb,p,fr,ag⟩::qcr g (t.extract fb t.size) (p+fr)=xs):=a8;clear a8 hx HD hF;have HF:Hid (∀w1,Below wr.heap.size wr w1->Cs 161 #[.string t] w1 λe w'=>e=.returned (qbk fk (t.extract 0 fb) 0 fr)/\Below w1.heap.size w1 w'):=Qa0;clear Qa0;have HJ:Hid (AbidesFrom W.heap.size J):=hJ;have HY:=hY;clear hY hJ
    gi_wp2_with (first | (refine⟨trivial,?_⟩;gi_at_call 159;refine (callsIn_wide.2 bd).mono ?_;rintro e w1 ⟨rfl,ac⟩) | (refine⟨trivial,?_⟩;gi_at_call 160;refine (callsIn_wide.2 (qn3 _ _)).mono ?_;rintro e w' ⟨rfl,rfl⟩))
    refine⟨trivial,?_⟩;refine (callsIn_wide.2 (HF.out _ ac)).mono ?_;rintro e w2 ⟨rfl,ad⟩;have bi:Below wr.heap.size wr w2:=ac.trans (ad.mono ac.size);have bh:=bi.alloc bi.size (.cells #[.int .i64 fk,.string (t.extract 0 fb),.int .i64 p,.int .i64 fr] 191);obtain⟨fn,tmps,assign,body,hy,hR⟩:=HY pre ⟨fk,t.extract 0 fb,p,fr,ag⟩ (w2.alloc (.cells #[.int .i64 fk,.string (t.extract 0 fb),.int .i64 p,.int .i64 fr] 191)) (HJ.out pre wr _ none bc (qi bh) (λr e=>by cases e)) (by rw[<- a6.out];simp);dsimp only[Tok.v] at hy;have bj:(t.extract 0 fb).size=fb:=by simp;omega
    unfold qbk qeh at hy ⊢;generalize hte:t.extract 0 fb=te at *
    gi_wp2
    refine hR.mono ?_;rintro e W3 (⟨rfl,b6,bv,bo⟩ | ⟨rfl,az⟩)
    .have aj:W3.heap[w2.heap.size]?=some (.cells #[.int .i64 fk,.string te,.int .i64 p,.int .i64 fr] 191):=bo _ _ _ (zn w2 _);have ca:W3.cell? (Ad w2.heap.size 1)=some (.string te):=zc aj
     have cb:W3.cell? (Ad w2.heap.size 3)=some (.int .i64 fr):=zc aj
     have cc:(fb:Int)<=(t.size:Int):=by omega
     clear aj bo hy hR
     gi_wp2
     gi_region
     all_goals
      gi_wp2
      go_roundw
      case rel=>
       refine⟨pre++[⟨fk,te,p,fr,ag⟩],t.extract fb t.size,p+fr,g,by simp[bj],by go_num,?_,by simp;omega,by simp;omega,HJ.out _ _ _ none b6 (qi ((Below.refl _ W3).drew)) (λr e=>by cases e),((ai.trans (bh.mono ai.size)).trans bv).drew⟩;have:=a6.out;show _=_;rw[<- this];simp
      case measure=>simp[qyz,bj];omega
    .gi_wp2
     refine bodyPost_ret (results_none rfl _ _ _) rfl ?_;exact⟨⟨_,rfl⟩,.inr ⟨pre++[⟨fk,te,p,fr,ag⟩],⟨qcr g (t.extract fb t.size) (p+fr),by rw[HX.out,<- a6.out];simp⟩,az⟩⟩
def qct(n₀:Nat)(A B:Wq):Prop:=Below n₀ A B/\qfe A B
theorem qct.tr{n₀:Nat}(h:qct n₀ A B)(k:qct n₀ B C):qct n₀ A C:=⟨h.1.trans k.1,h.2.trans k.2⟩
theorem qct.put{n₀:Nat}{w:Wq}(hn:n₀<=w.heap.size)(W:Wq)(l:Nat)(o o':Obj)(hl:w.heap.size<=l)(h:W.heap[l]?=some o)(ho:o.isCells=false)(hk:o.isWalk=false):qct n₀ W (W.putObj l o'):=
 ⟨belowK_b hn W l o o' hl h ho hk,qfe.put W l o o' h ho⟩
theorem q0b(n:Nat)(hn:1<=n)(B:Nat)(s:By)(hs:s.size<=1200)(w0:Wq)(hT:Lib.Utf8Tabs 0 1 w0)(w:Wq)(hw:Below w0.heap.size w0 w)(b5:B < w.heap.size)(hc:w.cell? (Ad B 0)=some (.string s)) :
  SeqStopsK Fence.wide n Tryz.prog 158 #[.pointer (some ⟨B,0,none⟩)] (λx:Tok=>#[x.v]) (qct w0.heap.size) (λys=>ys=qcr s.size s 0) (λpre=>pre <+: qcr s.size s 0) (qcr s.size s 0).length w:=
 λl J Jx W hW hJ _ hY h0=>q66 n hn l B s hs w0 hT J Jx W hJ hY (hw.trans (hW.mono hw.size)) ((hW.cell (p:=⟨B,0,none⟩) b5).trans hc) h0
