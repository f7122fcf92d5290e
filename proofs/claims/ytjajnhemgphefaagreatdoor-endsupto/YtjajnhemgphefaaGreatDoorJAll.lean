/- tokens.All: the iterator over a text hands out the text's -/
import Derived.Test.YtjajnhemgphefaaGreatDoorRows
import Derived.WalkKit
import Derived.WalkSpells
import Derived.WalkLawsBesides
import Derived.Lib.RuneCount
import Derived.Lib.RuneCountTail
import Derived.Lib.QuoteLoop
import Derived.Test.YtjajnhemgphefaaGreatDoorShelf
import Derived.Deep.RegionWith
import Derived.Lib.Bytes2
import Derived.RangeFuncNested
import Derived.RangeFuncBound
import Derived.RangeFuncCalls
import Derived.RangeFuncLeaves
import Derived.Shelf.Abstract
import Derived.Shelf.RegionOpen
import Derived.OwnWalkIn
import Derived.TacticsInMore
import Derived.LoopNIn
import Derived.LoopIn
set_option linter.unusedVariables false
set_option linter.unusedSimpArgs false
set_option maxHeartbeats 1000000
namespace Go.Proofs.YtjajnhemgphefaaGreatDoor
open Go renaming World->Wq,Value->Vq
open Go.RowKit
def qd4(r:Int):Bool:=decide (r=32\/r=9\/r=10)
def qbu(r:Int):Bool:=decide ((97<=r/\r<=122)\/(945<=r/\r<=969))
def qf4(r:Int):Bool:=decide ((65<=r/\r<=90)\/(913<=r/\r<=937/\r≠930))
def qki(r:Int):Bool:=decide (48<=r/\r<=57)
def ql0(r:Int):Int:=if r=40 then 3 else if r=41 then 4 else if r=44 then 5 else if r=46 then 6 else 0
theorem qak{a b:Bool}(h:a=b):Ending.returned (.bool a)=.returned (.bool b):=by rw[h]
theorem qe9{k:IntKind}{a b:Int}(h:a=b):Ending.returned (.int k a)=.returned (.int k b):=by rw[h]
theorem qng(r:Int)(w:Wq) :
  Calls Tryz.prog 160 #[.int .i32 r] w λe w'=>e=.returned (.bool (qd4 r))/\w'=w:=by
 go_enter Tryz.func160,Tryz.ntmps160;go_wp2
 all_goals
  go_ret;exact⟨qak (by rw[Bool.eq_iff_iff];simp[qd4] <;> omega),rfl⟩
theorem qcy(r:Int)(w:Wq) :
  Calls Tryz.prog 213 #[.int .i32 r] w λe w'=>e=.returned (.bool (qbu r))/\w'=w:=by
 go_enter Tryz.func213,Tryz.ntmps213;go_wp2
 all_goals
  go_ret;exact⟨qak (by rw[Bool.eq_iff_iff];simp[qbu] <;> omega),rfl⟩
theorem qbj(r:Int)(w:Wq) :
  Calls Tryz.prog 211 #[.int .i32 r] w λe w'=>e=.returned (.bool (qf4 r))/\w'=w:=by
 go_enter Tryz.func211,Tryz.ntmps211;go_wp2
 all_goals
  go_ret;exact⟨qak (by rw[Bool.eq_iff_iff];simp[qf4] <;> omega),rfl⟩
theorem qgb(r:Int)(w:Wq) :
  Calls Tryz.prog 244 #[.int .i32 r] w λe w'=>e=.returned (.bool (qki r))/\w'=w:=by
 go_enter Tryz.func244,Tryz.ntmps244;go_wp2
 all_goals
  go_ret;exact⟨qak (by rw[Bool.eq_iff_iff];simp[qki] <;> omega),rfl⟩
theorem qtm(r:Int)(w:Wq) :
  Calls Tryz.prog 215 #[.int .i32 r] w λe w'=>e=.returned (.int .i64 (ql0 r))/\w'=w:=by
 go_enter Tryz.func215,Tryz.ntmps215;go_wp2
 all_goals
  go_ret;exact⟨qe9 (by simp_all [ql0]),rfl⟩
def qfz(r:Nat):Bool:=qf4 r || qbu r || qki r
def qbo(s:ByteArray):Nat->Nat->Nat->Nat×Nat
 | 0,pos,m=>(pos,m)
 | f+1,pos,m=>if pos < s.size then (if qfz (Utf8.decode s pos).1 then qbo s f (pos+(Utf8.decode s pos).2) (m+1) else (pos,m)) else (pos,m)
theorem qp6(s:ByteArray)(f pos m:Nat)(h:¬pos < s.size):qbo s f pos m=(pos,m):=by
 cases f <;> simp[qbo,h]
theorem qr5(s:ByteArray)(f pos m:Nat)(h:qfz (Utf8.decode s pos).1=false):qbo s f pos m=(pos,m):=by
 cases f <;> simp[qbo,h]
theorem qai(s:ByteArray)(pos:Nat)(h:pos < s.size):pos+(Utf8.decode s pos).2<=s.size:=by
 have h1:=Lib.tail_decode s pos 0;rw[Nat.add_zero] at h1;have h2:=Lib.width_le (s.extract pos s.size) (by simp;omega);rw[h1] at h2;simp at h2;omega
theorem qg9(w:Wq)(O:Obj)(s:ByteArray)(p:Nat):((w.alloc O).alloc (.stringIter s p)).iterPos (w.heap.size+1)=p:=by
 have:=World.iterPos_iter (w.alloc O) s p;rw[World.size_alloc] at this;exact this
def qec(k:Int)(t:ByteArray)(p m:Int):Array Vq:=#[.int .i64 k,.string t,.int .i64 p,.int .i64 m]
def qbk(k:Int)(t:ByteArray)(p m:Int):Vq:=.agg (qec k t p m)
theorem quk(s:ByteArray):s.extract 0 s.size=s:=by
 simp
theorem qv7(k:Int)(s:ByteArray)(w:Wq)(hs:s.size<=maxLen) :
  Calls Tryz.prog 212 #[.int .i64 k,.string s] w λe w'=>
   e=.returned (qbk k (s.extract 0 (qbo s s.size 0 0).1) 0 (qbo s s.size 0 0).2)/\Below w.heap.size w w':=by
 unfold maxLen at hs;go_enter Tryz.func212,Tryz.ntmps212;go_wp2
 go_loopw [5] (λn w'=>∃(pos b m:Nat),w'=(w.alloc (.cells #[.int .i64 0,.string ⟨#[]⟩,.int .i64 0,.int .i64 0] 191)).alloc (.stringIter s pos)/\n=.int .i64 m/\qbo s b pos m=qbo s s.size 0 0/\s.size<=pos+b/\m<=pos/\pos<=s.size) (λ_ w'=>s.size - w'.iterPos (w.heap.size+1))
 case atStart=>exact⟨0,s.size,0,rfl,rfl,rfl,by omega,by omega,by omega⟩
 case round=>
  obtain⟨pos,b,m,rfl,rfl,hc,hb,hm,hle⟩:=hrel;have HC:Hid (qbo s b pos m=qbo s s.size 0 0):=hc;clear hc;have hsz:(w.alloc (.cells #[.int .i64 0,.string ⟨#[]⟩,.int .i64 0,.int .i64 0] 191)).heap.size=w.heap.size+1:=by simp
  by_cases hp:pos < s.size
  ·have hnx:∀ty,(Instr.next (.pointer (some ⟨w.heap.size+1,0,none⟩)) true ty).run Tryz.prog ((w.alloc (.cells #[.int .i64 0,.string ⟨#[]⟩,.int .i64 0,.int .i64 0] 191)).alloc (.stringIter s pos))=.ok (.tuple #[.bool true,.int .i64 pos,.int .i32 (Utf8.decode s pos).1]) ((w.alloc (.cells #[.int .i64 0,.string ⟨#[]⟩,.int .i64 0,.int .i64 0] 191)).alloc (.stringIter s (pos+(Utf8.decode s pos).2))):=λty=>hsz ▸ run_next_any (w.alloc (.cells #[.int .i64 0,.string ⟨#[]⟩,.int .i64 0,.int .i64 0] 191)) s pos ty hp;have hwd:=Lib.decode_width_pos s pos hp;have hwl:=qai s pos hp;generalize hd:Utf8.decode s pos=d at *;have HD:Hid (Utf8.decode s pos=d):=hd;clear hd;obtain⟨r,wd⟩:=d;simp only at hwd hwl hnx
   have qa1:Hid (qfz r=true->∃b',b=b'+1/\qbo s b' (pos+wd) (m+1)=qbo s s.size 0 0):=by
    intro hw
    cases b with
    | zero=>omega
    | succ b'=>exact⟨b',rfl,by rw[<- HC.out];simp[qbo,hp,HD.out,hw]⟩
   have qiw:Hid (qfz r=false->qbo s s.size 0 0=(pos,m)):=by
    intro hw;rw[<- HC.out];exact qr5 s b pos m (by rw[HD.out];exact hw)
   clear HC HD;by_cases qer:qf4 (r:Int)=true
   ·go_wp2_with (first | (go_at_call 211;refine (qbj _ _).mono ?_;rintro e w' ⟨rfl,rfl⟩) | (go_at_call 213;refine (qcy _ _).mono ?_;rintro e w' ⟨rfl,rfl⟩) | (go_at_call 244;refine (qgb _ _).mono ?_;rintro e w' ⟨rfl,rfl⟩))
    obtain⟨b',rfl,hs'⟩:=qa1.out (by simp[qfz,qer])
    go_roundw
    case rel=>exact⟨pos+wd,b',m+1,rfl,by go_num,hs',by omega,by omega,by omega⟩
    case measure=>rw[qg9,qg9];omega
   by_cases hsm:qbu (r:Int)=true
   ·have qli:qf4 (r:Int)=false:=by simpa using qer
    clear qer
    go_wp2_with (first | (go_at_call 211;refine (qbj _ _).mono ?_;rintro e w' ⟨rfl,rfl⟩) | (go_at_call 213;refine (qcy _ _).mono ?_;rintro e w' ⟨rfl,rfl⟩) | (go_at_call 244;refine (qgb _ _).mono ?_;rintro e w' ⟨rfl,rfl⟩))
    obtain⟨b',rfl,hs'⟩:=qa1.out (by simp[qfz,hsm])
    go_roundw
    case rel=>exact⟨pos+wd,b',m+1,rfl,by go_num,hs',by omega,by omega,by omega⟩
    case measure=>rw[qg9,qg9];omega
   by_cases hdg:qki (r:Int)=true
   ·have qli:qf4 (r:Int)=false:=by simpa using qer
    have qxi:qbu (r:Int)=false:=by simpa using hsm
    clear qer hsm
    go_wp2_with (first | (go_at_call 211;refine (qbj _ _).mono ?_;rintro e w' ⟨rfl,rfl⟩) | (go_at_call 213;refine (qcy _ _).mono ?_;rintro e w' ⟨rfl,rfl⟩) | (go_at_call 244;refine (qgb _ _).mono ?_;rintro e w' ⟨rfl,rfl⟩))
    obtain⟨b',rfl,hs'⟩:=qa1.out (by simp[qfz,hdg])
    go_roundw
    case rel=>exact⟨pos+wd,b',m+1,rfl,by go_num,hs',by omega,by omega,by omega⟩
    case measure=>rw[qg9,qg9];omega
   have qli:qf4 (r:Int)=false:=by simpa using qer
   have qxi:qbu (r:Int)=false:=by simpa using hsm
   have Qe6:qki (r:Int)=false:=by simpa using hdg
   clear qer hsm hdg;have q9:Hid (qbo s s.size 0 0=(pos,m)):=qiw.out (by simp[qfz,qli,qxi,Qe6]);clear qiw qa1
   go_wp2_with (first | (go_at_call 211;refine (qbj _ _).mono ?_;rintro e w' ⟨rfl,rfl⟩) | (go_at_call 213;refine (qcy _ _).mono ?_;rintro e w' ⟨rfl,rfl⟩) | (go_at_call 244;refine (qgb _ _).mono ?_;rintro e w' ⟨rfl,rfl⟩))
   refine bodyPost_ret (v:=qbk k (s.extract 0 pos) 0 m) (by simp[results,Tryz.results212,go_sem,qbk,qec]) rfl ?_;rw[q9.out];exact⟨rfl,((Below.refl _ _).alloc zl _).alloc (by simp) _⟩
  ·have hnx:∀ty,(Instr.next (.pointer (some ⟨w.heap.size+1,0,none⟩)) true ty).run Tryz.prog ((w.alloc (.cells #[.int .i64 0,.string ⟨#[]⟩,.int .i64 0,.int .i64 0] 191)).alloc (.stringIter s pos))=.ok (.tuple #[.bool false]) ((w.alloc (.cells #[.int .i64 0,.string ⟨#[]⟩,.int .i64 0,.int .i64 0] 191)).alloc (.stringIter s pos)):=λty=>hsz ▸ run_next_end (w.alloc (.cells #[.int .i64 0,.string ⟨#[]⟩,.int .i64 0,.int .i64 0] 191)) s pos ty hp;have q9:Hid (qbo s s.size 0 0=(pos,m)):=by rw[<- HC.out];exact qp6 s b pos m hp
   clear HC;have hpe:Hid (s.extract 0 pos=s):=by rw[show pos=s.size by omega];exact quk s
   go_wp2;refine bodyPost_ret (v:=qbk k s 0 m) (by simp[results,Tryz.results212,go_sem,qbk,qec]) rfl ?_;rw[q9.out];exact⟨by rw[hpe.out],((Below.refl _ _).alloc zl _).alloc (by simp) _⟩
def byN(s:ByteArray)(i:Nat):Nat:=(s.get! i).toNat
theorem qgn(s:ByteArray)(i:Nat):byN s i < 256:=UInt8.toNat_lt _
def qfm(s:ByteArray)(i lo hi:Nat):Bool:=decide (i < s.size/\lo<=byN s i/\byN s i<=hi)
def loB(c:Nat):Nat:=if c=224 then 160 else if c=240 then 144 else 128
def hiB(c:Nat):Nat:=if c=237 then 159 else if c=244 then 143 else 191
def qal(s:ByteArray)(i:Nat):Nat:=
 if 194<=byN s i/\byN s i<=223/\qfm s (i+1) (loB (byN s i)) (hiB (byN s i))=true then 2
 else if 224<=byN s i/\byN s i<=239/\qfm s (i+1) (loB (byN s i)) (hiB (byN s i))=true/\qfm s (i+2) 128 191=true then 3
 else if 240<=byN s i/\byN s i<=244/\qfm s (i+1) (loB (byN s i)) (hiB (byN s i))=true/\qfm s (i+2) 128 191=true/\qfm s (i+3) 128 191=true then 4
 else 1
theorem qfk(s:ByteArray)(i:Nat) :
  Utf8.decode s i=if byN s i < 128 then (byN s i,1)
   else if qal s i=2 then ((byN s i % 32)*64+byN s (i+1) % 64,2)
   else if qal s i=3 then ((byN s i % 16)*4096+(byN s (i+1) % 64)*64+byN s (i+2) % 64,3)
   else if qal s i=4 then ((byN s i % 8)*262144+(byN s (i+1) % 64)*4096+(byN s (i+2) % 64)*64+byN s (i+3) % 64,4)
   else (65533,1):=by
 have h0:=qgn s i;have h1:=qgn s (i+1);have h2:=qgn s (i+2);have h3:=qgn s (i+3)
 have e:Utf8.decode s i=(if byN s i < 128 then (byN s i,1)
   else if (byN s i / 32 == 6 && (decide (i+1 < s.size) && byN s (i+1) / 64 == 2))=true then
    (if (byN s i % 32)*64+byN s (i+1) % 64≥128 then ((byN s i % 32)*64+byN s (i+1) % 64,2) else (65533,1))
   else if (byN s i / 16 == 14 && (decide (i+1 < s.size) && byN s (i+1) / 64 == 2) && (decide (i+2 < s.size) && byN s (i+2) / 64 == 2))=true then
    (if (decide ((byN s i % 16)*4096+(byN s (i+1) % 64)*64+byN s (i+2) % 64≥2048) && Utf8.valid (((byN s i % 16)*4096+(byN s (i+1) % 64)*64+byN s (i+2) % 64:Nat):Int))=true then ((byN s i % 16)*4096+(byN s (i+1) % 64)*64+byN s (i+2) % 64,3) else (65533,1))
   else if (byN s i / 8 == 30 && (decide (i+1 < s.size) && byN s (i+1) / 64 == 2) && (decide (i+2 < s.size) && byN s (i+2) / 64 == 2) && (decide (i+3 < s.size) && byN s (i+3) / 64 == 2))=true then
    (if (decide ((byN s i % 8)*262144+(byN s (i+1) % 64)*4096+(byN s (i+2) % 64)*64+byN s (i+3) % 64≥65536) && Utf8.valid (((byN s i % 8)*262144+(byN s (i+1) % 64)*4096+(byN s (i+2) % 64)*64+byN s (i+3) % 64:Nat):Int))=true then ((byN s i % 8)*262144+(byN s (i+1) % 64)*4096+(byN s (i+2) % 64)*64+byN s (i+3) % 64,4) else (65533,1))
   else (65533,1)):=rfl
 rw[e]
 have hlo:(byN s i=224->loB (byN s i)=160)/\(byN s i=240->loB (byN s i)=144)/\(byN s i≠224->byN s i≠240->loB (byN s i)=128):=by
  unfold loB;refine⟨λh=>by simp[h],λh=>by simp[h],λh h'=>by simp[h,h']⟩
 have hhi:(byN s i=237->hiB (byN s i)=159)/\(byN s i=244->hiB (byN s i)=143)/\(byN s i≠237->byN s i≠244->hiB (byN s i)=191):=by
  unfold hiB;refine⟨λh=>by simp[h],λh=>by simp[h],λh h'=>by simp[h,h']⟩
 unfold qal qfm Utf8.valid;generalize loB (byN s i)=lo at *;generalize hiB (byN s i)=hi at *;generalize byN s i=b0 at *;generalize byN s (i+1)=b1 at *;generalize byN s (i+2)=b2 at *;generalize byN s (i+3)=b3 at *;generalize s.size=n at *;clear e;simp only[Bool.and_eq_true,Bool.or_eq_true,decide_eq_true_eq,beq_iff_eq,ge_iff_le];by_cases k0:b0 < 128
 ·rw[if_pos k0,if_pos k0]
 rw[if_neg k0,if_neg k0];by_cases a2:194<=b0/\b0<=223/\i+1 < n/\lo<=b1/\b1<=hi
 ·rw[if_pos (by omega),if_pos (by omega)];simp[a2]
 by_cases a3:224<=b0/\b0<=239/\(i+1 < n/\lo<=b1/\b1<=hi)/\i+2 < n/\128<=b2/\b2<=191
 ·rw[if_neg (by omega),if_pos (by omega),if_pos (by omega)];rw[if_neg a2,if_pos a3];rfl
 by_cases a4:240<=b0/\b0<=244/\(i+1 < n/\lo<=b1/\b1<=hi)/\(i+2 < n/\128<=b2/\b2<=191)/\i+3 < n/\128<=b3/\b3<=191
 ·rw[if_neg (by omega),if_neg (by omega),if_pos (by omega),if_pos (by omega)];rw[if_neg a2,if_neg a3,if_pos a4];rfl
 rw[if_neg a2,if_neg a3,if_neg a4];show _=(65533,1);split
 ·rw[if_neg (by omega)]
 ·split
  ·rw[if_neg (by omega)]
  ·split
   ·rw[if_neg (by omega)]
   ·rfl
theorem ql2(s:ByteArray)(i:Nat):(Utf8.decode s i).2=qal s i:=by
 have h0:=qgn s i;rw[qfk];by_cases k0:byN s i < 128
 ·rw[if_pos k0];unfold qal;rw[if_neg (by omega),if_neg (by omega),if_neg (by omega)]
 rw[if_neg k0]
 have h4:qal s i=1\/qal s i=2\/qal s i=3\/qal s i=4:=by
  unfold qal;split
  ·simp
  ·split
   ·simp
   ·split <;> simp
 rcases h4 with h | h | h | h <;> simp[h]
def qx0(c:Nat):Nat:=
 if 97<=c/\c<=122 then 1 else if 65<=c/\c<=90 then 2 else if 48<=c/\c<=57 then 3 else if c=32\/c=9\/c=10 then 4
 else if c=40\/c=41\/c=44\/c=46 then 5 else if c=58 then 6 else if c=45 then 7 else 8
def qmm(a b:Nat):Nat:=
 if 945<=64*((a:Int) - 192)+b - 128/\64*((a:Int) - 192)+b - 128<=969 then 1
 else if 913<=64*((a:Int) - 192)+b - 128/\64*((a:Int) - 192)+b - 128<=937/\64*((a:Int) - 192)+b - 128≠930 then 2 else 8
def qdf(s:ByteArray)(i:Nat):Nat:=
 if qal s i=1 then qx0 (byN s i) else if qal s i=2 then qmm (byN s i) (byN s (i+1)) else 8
def q7(r:Nat):Nat:=
 if qbu r=true then 1 else if qf4 r=true then 2 else if qki r=true then 3 else if qd4 r=true then 4
 else if r=40\/r=41\/r=44\/r=46 then 5 else if r=58 then 6 else if r=45 then 7 else 8
theorem qhr(r:Nat)(h:970<=r):q7 r=8:=by
 unfold q7 qbu qf4 qki qd4;simp only[decide_eq_true_eq];rw[if_neg (by omega),if_neg (by omega),if_neg (by omega),if_neg (by omega),if_neg (by omega),if_neg (by omega),if_neg (by omega)]
theorem q8k(s:ByteArray)(i:Nat)(h:qal s i=3):224<=byN s i/\byN s i<=239/\(byN s i=224->160<=byN s (i+1))/\byN s (i+1)<=191/\128<=byN s (i+1):=by
 have hlo:(byN s i=224->loB (byN s i)=160)/\128<=loB (byN s i):=by
  unfold loB;refine⟨λh=>by simp[h],?_⟩;split;decide;split <;> decide
 have hhi:hiB (byN s i)<=191:=by unfold hiB;split;decide;split <;> decide
 unfold qal at h;split at h
 ·cases h
 ·split at h
  ·rename_i _ hb;obtain⟨b1,b2,b3,b4⟩:=hb;unfold qfm at b3;simp only[decide_eq_true_eq] at b3;omega
  ·split at h <;> cases h
theorem q8l(s:ByteArray)(i:Nat)(h:qal s i=4):240<=byN s i/\byN s i<=244/\(byN s i=240->144<=byN s (i+1))/\byN s (i+1)<=191/\128<=byN s (i+1):=by
 have hlo:(byN s i=240->loB (byN s i)=144)/\128<=loB (byN s i):=by
  unfold loB;refine⟨λh=>by simp[h],?_⟩;split;decide;split <;> decide
 have hhi:hiB (byN s i)<=191:=by unfold hiB;split;decide;split <;> decide
 unfold qal at h;split at h
 ·cases h
 ·split at h
  ·cases h
  ·split at h
   ·rename_i _ _ hb;obtain⟨b1,b2,b3,b4⟩:=hb;unfold qfm at b3;simp only[decide_eq_true_eq] at b3;omega
   ·cases h
theorem q38(s:ByteArray)(i:Nat):qdf s i=q7 (Utf8.decode s i).1:=by
 have h0:=qgn s i;have h1:=qgn s (i+1);have hd:=qfk s i;have hs:=ql2 s i;by_cases k0:byN s i < 128
 ·rw[if_pos k0] at hd;rw[hd] at hs ⊢;unfold qdf;rw[if_pos hs.symm];unfold qx0 q7 qbu qf4 qki qd4;simp only[decide_eq_true_eq];generalize byN s i=c at *
  repeat' split
  all_goals first | rfl | (exfalso;omega)
 rw[if_neg k0] at hd
 have h4:qal s i=1\/qal s i=2\/qal s i=3\/qal s i=4:=by
  unfold qal;split
  ·simp
  ·split
   ·simp
   ·split <;> simp
 rcases h4 with h | h | h | h
 ·rw[if_neg (by omega),if_neg (by omega),if_neg (by omega)] at hd;rw[hd];unfold qdf;rw[if_pos h,qhr _ (by decide)];unfold qx0;rw[if_neg (by omega),if_neg (by omega),if_neg (by omega),if_neg (by omega),if_neg (by omega),if_neg (by omega),if_neg (by omega)]
 ·have hb:194<=byN s i/\byN s i<=223/\qfm s (i+1) (loB (byN s i)) (hiB (byN s i))=true:=by
   apply Classical.byContradiction;intro hn;unfold qal at h;rw[if_neg hn] at h;split at h
   ·cases h
   ·split at h <;> cases h
  have hf:=hb.2.2;unfold qfm at hf;simp only[decide_eq_true_eq] at hf;have e1:loB (byN s i)=128:=by unfold loB;rw[if_neg (by omega),if_neg (by omega)]
  have e2:hiB (byN s i)=191:=by unfold hiB;rw[if_neg (by omega),if_neg (by omega)]
  rw[e1,e2] at hf;rw[if_pos h] at hd;rw[hd];unfold qdf;rw[if_neg (by omega),if_pos h];unfold qmm;have hr:64*((byN s i:Int) - 192)+(byN s (i+1):Int) - 128=((byN s i % 32*64+byN s (i+1) % 64:Nat):Int):=by omega
  have hlo:128<=byN s i % 32*64+byN s (i+1) % 64:=by omega
  rw[hr];simp only;generalize byN s i % 32*64+byN s (i+1) % 64=r at *;clear hr hd hs hf hb h h0 h1 k0 e1 e2;unfold q7 qbu qf4 qki qd4;simp only[decide_eq_true_eq];by_cases c1:945<=r/\r<=969
  ·rw[if_pos (by omega),if_pos (by omega)]
  ·rw[if_neg (by omega)];by_cases c2:913<=r/\r<=937/\r≠930
   ·rw[if_pos (by omega),if_neg (by omega),if_pos (by omega)]
   ·rw[if_neg (by omega),if_neg (by omega),if_neg (by omega),if_neg (by omega),if_neg (by omega),if_neg (by omega),if_neg (by omega),if_neg (by omega)]
 ·have hb:=q8k s i h;rw[if_neg (by omega),if_pos h] at hd;rw[hd];unfold qdf;rw[if_neg (by omega),if_neg (by omega),qhr _ (by show 970<=byN s i % 16*4096+byN s (i+1) % 64*64+byN s (i+2) % 64;omega)]
 ·have hb:=q8l s i h;rw[if_neg (by omega),if_neg (by omega),if_pos h] at hd;rw[hd];unfold qdf;rw[if_neg (by omega),if_neg (by omega),qhr _ (by show 970<=byN s i % 8*262144+byN s (i+1) % 64*4096+byN s (i+2) % 64*64+byN s (i+3) % 64;omega)]
structure Rn where
 kind:Nat
 text:ByteArray
def qi6:Nat->ByteArray->List Rn
 | 0,_=>[]
 | f+1,s=>if s.size=0 then [] else ⟨q7 (Utf8.decode s 0).1,s.extract 0 (Utf8.decode s 0).2⟩::qi6 f (s.extract (Utf8.decode s 0).2 s.size)
theorem qsa(r:Nat):qfz r=decide (q7 r<=3):=by
 unfold qfz q7;by_cases h1:qbu r=true
 ·simp[h1]
 ·by_cases h2:qf4 r=true
  ·simp[h1,h2]
  ·by_cases h3:qki r=true
   ·simp[h1,h2,h3]
   ·have e1:qbu r=false:=by simpa using h1
    have e2:qf4 r=false:=by simpa using h2
    have e3:qki r=false:=by simpa using h3
    simp only[e1,e2,e3,Bool.false_eq_true,if_false,Bool.or_self];symm;simp only[decide_eq_false_iff_not]
    repeat' split
    all_goals omega
theorem qc2(f:Nat)(s:ByteArray)(h:s.size=0):qi6 f s=[]:=by
 cases f <;> simp[qi6,h]
theorem qen(s:ByteArray)(i:Nat):0 < (Utf8.decode s i).2:=by
 rw[ql2];unfold qal;split
 ·decide
 ·split
  ·decide
  ·split <;> decide
theorem qkv:∀(f g:Nat) (s:ByteArray),s.size<=f->s.size<=g->qi6 f s=qi6 g s
 | 0,g,s,h,_=>by rw[qc2 _ _ (by omega),qc2 _ _ (by omega)]
 | f+1,0,s,_,h=>by rw[qc2 _ _ (by omega),qc2 _ _ (by omega)]
 | f+1,g+1,s,h,h'=>by
  unfold qi6;split
  ·rfl
  ·rename_i hn;have hp:=qen s 0;have hz:(s.extract (Utf8.decode s 0).2 s.size).size<=s.size - 1:=by simp;omega
   rw[qkv f g _ (by omega) (by omega)]
def R(s:ByteArray)(i:Nat):List Rn:=qi6 s.size (s.extract i s.size)
theorem qss(s:ByteArray)(i a b:Nat):(s.extract i s.size).extract a b=s.extract (i+a) (min (i+b) s.size):=by
 apply ByteArray.ext;simp only[ByteArray.data_extract,Array.extract_extract]
theorem qia(s:ByteArray)(i:Nat)(h:¬i < s.size):R s i=[]:=qc2 _ _ (by simp;omega)
theorem qew(s:ByteArray)(i:Nat)(h:i < s.size):R s i=⟨q7 (Utf8.decode s i).1,s.extract i (i+(Utf8.decode s i).2)⟩::R s (i+(Utf8.decode s i).2):=by
 have hd:=Lib.tail_decode s i 0;rw[Nat.add_zero] at hd;have hw:=qai s i h;have hp:=qen s i;obtain⟨k,hk⟩:∃k,s.size=k+1:=⟨s.size - 1,by omega⟩;have hsz:(s.extract i s.size).size=s.size - i:=by simp
 unfold R;rw[hk]
 conv=>lhs;unfold qi6
 rw[<- hk,if_neg (by rw[hsz];omega),hd,qss,qss,Nat.add_zero,hsz,Nat.min_eq_left hw];have e:min (i+(s.size - i)) s.size=s.size:=by omega
 rw[e];congr 1;exact qkv _ _ _ (by simp <;> omega) (by simp <;> omega)
def tw(l:List Rn):List Rn:=l.takeWhile (λx=>decide (x.kind<=3))
def qjy:List Rn->Nat
 | []=>0
 | x::l=>x.text.size+qjy l
theorem qkx(s:ByteArray):∀(f i m:Nat),s.size<=i+f->qbo s f i m=(i+qjy (tw (R s i)),m+(tw (R s i)).length)
 | 0,i,m,h=>by
  rw[qp6 _ _ _ _ (by omega),qia s i (by omega)];simp[tw,qjy]
 | f+1,i,m,h=>by
  by_cases hi:i < s.size
  ·have hp:=qen s i;have hw:=qai s i hi;by_cases hr:qfz (Utf8.decode s i).1=true
   ·have ih:=qkx s f (i+(Utf8.decode s i).2) (m+1) (by omega);have hk:q7 (Utf8.decode s i).1<=3:=by rw[qsa] at hr;simpa using hr
    conv=>lhs;unfold qbo
    rw[if_pos hi,if_pos hr,ih,qew s i hi]
    have e:tw (⟨q7 (Utf8.decode s i).1,s.extract i (i+(Utf8.decode s i).2)⟩::R s (i+(Utf8.decode s i).2))=⟨q7 (Utf8.decode s i).1,s.extract i (i+(Utf8.decode s i).2)⟩::tw (R s (i+(Utf8.decode s i).2)):=by
     unfold tw;rw[List.takeWhile_cons,if_pos (by simpa using hk)]
    rw[e];have hz:(s.extract i (i+(Utf8.decode s i).2)).size=(Utf8.decode s i).2:=by simp;omega
    simp only[qjy,List.length_cons,hz,Prod.mk.injEq];omega
   ·have hr':qfz (Utf8.decode s i).1=false:=by simpa using hr
    have hk:¬q7 (Utf8.decode s i).1<=3:=by rw[qsa] at hr';simpa using hr'
    rw[qr5 _ _ _ _ hr',qew s i hi]
    have e:tw (⟨q7 (Utf8.decode s i).1,s.extract i (i+(Utf8.decode s i).2)⟩::R s (i+(Utf8.decode s i).2))=[]:=by
     unfold tw;rw[List.takeWhile_cons,if_neg (by simpa using hk)]
    rw[e];simp[qjy]
  ·rw[qp6 _ _ _ _ hi,qia s i hi];simp[tw,qjy]
theorem qsd(s:ByteArray)(n:Nat):R (s.extract n s.size) 0=R s n:=by
 have hz:(s.extract n s.size).size=s.size - n:=by simp
 unfold R;rw[qss,hz,Nat.add_zero];have e:min (n+(s.size - n)) s.size=s.size\/¬n < s.size:=by omega
 rcases e with e | e
 ·rw[e];exact qkv _ _ _ (by simp) (by simp)
 ·rw[qc2 _ _ (by simp;omega),qc2 _ _ (by simp;omega)]
theorem q17(s:ByteArray):∀(k i:Nat),k<=(R s i).length->R s (i+qjy ((R s i).take k))=(R s i).drop k
 | 0,i,_=>by simp[qjy]
 | k+1,i,h=>by
  by_cases hi:i < s.size
  ·have hw:=qai s i hi;have hc:=qew s i hi;rw[hc] at h ⊢;rw[List.take_succ_cons,List.drop_succ_cons];have hz:(s.extract i (i+(Utf8.decode s i).2)).size=(Utf8.decode s i).2:=by simp;omega
   have ih:=q17 s k (i+(Utf8.decode s i).2) (by simpa using h);simp only[qjy,hz];rw[<- Nat.add_assoc];exact ih
  ·rw[qia s i hi] at h;simp at h
theorem q2f{W w1:Wq}(hb:Below W.heap.size W w1):(∀b o,b < W.heap.size->w1.cell? ⟨b,o,none⟩=W.cell? ⟨b,o,none⟩)/\(∀b o,b < W.heap.size->w1.frozen? ⟨b,o,none⟩=W.frozen? ⟨b,o,none⟩):=
 ⟨λb o h=>hb.cell (p:=⟨b,o,none⟩) h,λb o h=>hb.frozen (p:=⟨b,o,none⟩) h⟩
def Q6(s:ByteArray):Int×Nat×Nat:=
 if qf4 (Utf8.decode s 0).1 then (2,(qbo s s.size 0 0).1,(qbo s s.size 0 0).2)
 else if qbu (Utf8.decode s 0).1 then (1,(qbo s s.size 0 0).1,(qbo s s.size 0 0).2)
 else if Lib.hasPrefix s.data.toList [58,45] then (7,2,2)
 else (ql0 (Utf8.decode s 0).1,(Utf8.decode s 0).2,1)
def qhh(s:ByteArray)(p:Int):Vq:=qbk (Q6 s).1 (s.extract 0 (Q6 s).2.1) p (Q6 s).2.2
theorem qvq(s:ByteArray)(h:Lib.hasPrefix s.data.toList [58,45]=true):s.extract 0 2=⟨#[58,45]⟩:=by
 have h1:[58,45] <+: s.data.toList:=by simpa [Lib.hasPrefix] using h
 obtain⟨t,ht⟩:=h1
 have hs:s=⟨([58,45]++t).toArray⟩:=by
  cases s;simp at ht;simp[ht]
 rw[hs];apply ByteArray.ext;simp
theorem qz8(s:ByteArray)(w:Wq)(hs:s.size<=maxLen)(h0:0 < s.size)(hT:Lib.Utf8Tabs 0 1 w) :
  Calls Tryz.prog 161 #[.string s] w λe w'=>e=.returned (qhh s 0)/\Below w.heap.size w w':=by
 have hdg:Lib.decodeGo s=Utf8.decode s 0:=by
  unfold Lib.decodeGo;rw[if_neg (by omega)]
 have hT1:=Utf8Tabs_below hT ((Below.refl w.heap.size w).alloc zl (.cells #[.int .i64 0,.string ⟨#[]⟩,.int .i64 0,.int .i64 0] 191));go_enter Tryz.func161,Tryz.ntmps161;go_wp2_with fail;refine (Tryz.utf8_DecodeRuneInString _ _ hT1).mono ?_;rintro e w1 ⟨rfl,hb1⟩;rw[hdg];generalize hd:Utf8.decode s 0=d;obtain⟨r,wd⟩:=d;have HD:Hid (Utf8.decode s 0=(r,wd)):=hd;clear hd hdg;obtain⟨hc1,hf1⟩:=q2f hb1;have hz1:w.heap.size < w1.heap.size:=by have:=hb1.size;simp at this;omega
 by_cases qer:qf4 (r:Int)=true
 ·go_wp2_with (go_at_call 211;refine (qbj _ _).mono ?_;rintro e w' ⟨rfl,rfl⟩)
  refine (qv7 _ _ _ hs).mono ?_;rintro e w2 ⟨rfl,hb2⟩;obtain⟨hc2,hf2⟩:=q2f hb2;have hz2:w.heap.size < w2.heap.size:=by have:=hb2.size;omega
  have hB:Below w.heap.size w w2:=(((Below.refl w.heap.size w).alloc zl _).trans (hb1.mono (by simp))).trans (hb2.mono (by omega));clear hb1 hb2 hT hT1
  have q9:Hid (qhh s 0=qbk 2 (s.extract 0 (qbo s s.size 0 0).1) 0 (qbo s s.size 0 0).2):=by
   show qhh s 0=_;unfold qhh Q6;rw[HD.out];simp[qer]
  generalize (qbo s s.size 0 0).1=sb at *;generalize (qbo s s.size 0 0).2=sm at *;unfold qbk qec;go_wp2;refine bodyPost_ret (v:=qbk 2 (s.extract 0 sb) 0 sm) (by simp[results,Tryz.results161,go_sem,qbk,qec,hc2,hf2,hc1,hf1,hz1,hz2]) rfl ?_;rw[q9.out];exact⟨rfl,(((hB.setCell (by simp) _).setCell (by simp) _).setCell (by simp) _).setCell (by simp) _⟩
 have qli:qf4 (r:Int)=false:=by simpa using qer
 clear qer;by_cases hsm:qbu (r:Int)=true
 ·go_wp2_with (first | (go_at_call 211;refine (qbj _ _).mono ?_;rintro e w' ⟨rfl,rfl⟩) | (go_at_call 213;refine (qcy _ _).mono ?_;rintro e w' ⟨rfl,rfl⟩))
  refine (qv7 _ _ _ hs).mono ?_;rintro e w2 ⟨rfl,hb2⟩;obtain⟨hc2,hf2⟩:=q2f hb2;have hz2:w.heap.size < w2.heap.size:=by have:=hb2.size;omega
  have hB:Below w.heap.size w w2:=(((Below.refl w.heap.size w).alloc zl _).trans (hb1.mono (by simp))).trans (hb2.mono (by omega));clear hb1 hb2 hT hT1
  have q9:Hid (qhh s 0=qbk 1 (s.extract 0 (qbo s s.size 0 0).1) 0 (qbo s s.size 0 0).2):=by
   show qhh s 0=_;unfold qhh Q6;rw[HD.out];simp[qli,hsm]
  generalize (qbo s s.size 0 0).1=sb at *;generalize (qbo s s.size 0 0).2=sm at *;unfold qbk qec;go_wp2;refine bodyPost_ret (v:=qbk 1 (s.extract 0 sb) 0 sm) (by simp[results,Tryz.results161,go_sem,qbk,qec,hc2,hf2,hc1,hf1,hz1,hz2]) rfl ?_;rw[q9.out];exact⟨rfl,(((hB.setCell (by simp) _).setCell (by simp) _).setCell (by simp) _).setCell (by simp) _⟩
 have qxi:qbu (r:Int)=false:=by simpa using hsm
 clear hsm;have hwl:wd<=s.size:=by have:=Lib.width_le s h0;rw[HD.out] at this;exact this
 have hB:Below w.heap.size w w1:=((Below.refl w.heap.size w).alloc zl _).trans (hb1.mono (by simp));clear hb1 hT hT1;unfold maxLen at hs;by_cases qiu:Lib.hasPrefix s.data.toList [58,45]=true
 ·have q9:Hid (qhh s 0=qbk 7 ⟨#[58,45]⟩ 0 2):=by
   show qhh s 0=_;unfold qhh Q6;rw[HD.out];simp only[qli,qxi,qiu,Bool.false_eq_true,if_false,if_true];rw[qvq s qiu];rfl
  clear HD
  go_wp2_with (first | (go_at_call 211;refine (qbj _ _).mono ?_;rintro e w' ⟨rfl,rfl⟩) | (go_at_call 213;refine (qcy _ _).mono ?_;rintro e w' ⟨rfl,rfl⟩) | (go_at_call 214;refine (Tryz.strings_HasPrefix _ _ _).mono ?_;rintro e w' ⟨rfl,rfl⟩))
  refine bodyPost_ret (v:=qbk 7 ⟨#[58,45]⟩ 0 2) (by simp[results,Tryz.results161,go_sem,qbk,qec,hc1,hf1,hz1]) rfl ?_;rw[q9.out];exact⟨rfl,(((hB.setCell (by simp) _).setCell (by simp) _).setCell (by simp) _).setCell (by simp) _⟩
 ·have Qc1:Lib.hasPrefix s.data.toList [58,45]=false:=by simpa using qiu
  clear qiu
  have q9:Hid (qhh s 0=qbk (ql0 r) (s.extract 0 wd) 0 1):=by
   show qhh s 0=_;unfold qhh Q6;rw[HD.out];simp[qli,qxi,Qc1]
  clear HD
  go_wp2_with (first | (go_at_call 211;refine (qbj _ _).mono ?_;rintro e w' ⟨rfl,rfl⟩) | (go_at_call 213;refine (qcy _ _).mono ?_;rintro e w' ⟨rfl,rfl⟩) | (go_at_call 214;refine (Tryz.strings_HasPrefix _ _ _).mono ?_;rintro e w' ⟨rfl,rfl⟩))
  go_region_with (go_at_call 215;refine (qtm _ _).mono ?_;rintro e w' ⟨rfl,rfl⟩)
  all_goals
   go_wp2;refine bodyPost_ret (v:=qbk (ql0 r) (s.extract 0 wd) 0 1) (by simp[results,Tryz.results161,go_sem,qbk,qec,hc1,hf1,hz1]) rfl ?_;rw[q9.out];exact⟨rfl,((((hB.setCell (by simp) _).setCell (by simp) _).setCell (by simp) _).setCell (by simp) _).drew⟩
end Go.Proofs.YtjajnhemgphefaaGreatDoor
namespace Go.Proofs.YtjajnhemgphefaaGreatDoor
open Go renaming World->Wq,Value->Vq
open Go.RowKit Go.Shelf
attribute [local go_sem] Oper.semAt_some
variable {A B C:Wq}
structure Tok where
 kind:Int
 text:ByteArray
 place:Nat
 runes:Nat
 ok:text.size<=1200
def Tok.v(t:Tok):Vq:=qbk t.kind t.text t.place t.runes
def qch:Nat->ByteArray->Nat->List Tok
 | 0,_,_=>[]
 | f+1,s,p=>
  if s.size=0 then []
  else if qd4 (Utf8.decode s 0).1 then qch f (s.extract (Utf8.decode s 0).2 s.size) (p+1)
  else if h:(s.extract 0 (Q6 s).2.1).size<=1200 then ⟨(Q6 s).1,s.extract 0 (Q6 s).2.1,p,(Q6 s).2.2,h⟩::qch f (s.extract (Q6 s).2.1 s.size) (p+(Q6 s).2.2)
  else []
def qe2(W W':Wq):Prop:=∀(k:Nat) (c:Array Vq) (fz:Nat×Nat),W.heap[k]?=some (Obj.cells c 191 fz)->W'.heap[k]?=some (Obj.cells c 191 fz)
theorem qe2.trans(h:qe2 A B)(k:qe2 B C):qe2 A C:=λi c fz hi=>k i c fz (h i c fz hi)
theorem qe2.put(W:Wq)(l:Nat)(o o':Obj)(h:W.heap[l]?=some o)(ho:o.isCells=false):qe2 W (W.putObj l o'):=by
 intro k c fz hk;by_cases e:k=l
 ·subst e;rw[h] at hk;cases hk;simp[Obj.isCells] at ho
 ·rw[(grownBy_putObj' W l o').block k (zg hk).1 (by simpa using e)];exact hk
theorem qh{W W':Wq}(h:Below W.heap.size W W'):W.grownBy W' none:=⟨h.os,h.tape,h.output,h.size,λk hk _=>h.block k hk⟩
theorem qi7(s:ByteArray):∀f pos m,pos<=s.size->m<=pos->pos<=(qbo s f pos m).1/\(qbo s f pos m).1<=s.size/\(qbo s f pos m).2<=(qbo s f pos m).1
 | 0,pos,m,h,hm=>by simp[qbo];omega
 | f+1,pos,m,h,hm=>by
  unfold qbo;split
  ·rename_i hp;have h1:=Lib.decode_width_pos s pos hp;have h2:=qai s pos hp;split
   ·have:=qi7 s f (pos+(Utf8.decode s pos).2) (m+1) h2 (by omega);omega
   ·simp;omega
  ·simp;omega
theorem qp7(s:ByteArray)(h0:0 < s.size)(hw:qfz (Utf8.decode s 0).1=true):1<=(qbo s s.size 0 0).1:=by
 obtain⟨n,hn⟩:∃n,s.size=n+1:=⟨s.size - 1,by omega⟩;rw[hn];unfold qbo;rw[if_pos h0,if_pos hw];have h1:=Lib.decode_width_pos s 0 h0;have h2:=qai s 0 h0;have:=qi7 s n (0+(Utf8.decode s 0).2) (0+1) h2 (by omega);omega
theorem qqs(s:ByteArray)(h0:0 < s.size):1<=(Q6 s).2.1/\(Q6 s).2.1<=s.size/\(Q6 s).2.2<=(Q6 s).2.1:=by
 have hb:=qi7 s s.size 0 0 (by omega) (by omega);have h1:=Lib.decode_width_pos s 0 h0;have h2:=qai s 0 h0;unfold Q6;split
 ·rename_i hc;have:=qp7 s h0 (by simp[qfz,hc]);simp;omega
 ·split
  ·rename_i hc;have:=qp7 s h0 (by simp[qfz,hc]);simp;omega
  ·split
   ·rename_i hp;have:=Lib.hasPrefix_le hp;simp at this;simp;exact this
   ·simp;omega
theorem qqe(f:Nat)(s:ByteArray)(p:Nat)(h:s.size=0):qch f s p=[]:=by
 cases f <;> simp[qch,h]
theorem q5z(s:ByteArray)(w:Wq) :
  Calls Tryz.prog 96 #[.string s] w λe w'=>e=.returned (.func (.func 158) #[] #[.pointer (some ⟨w.heap.size,0,none⟩)])/\w'=w.alloc (.cells #[.string s] 9):=by
 go_enter Tryz.func96,Tryz.ntmps96;go_wp2;go_ret;exact⟨rfl,rfl⟩
theorem qlq(t:ByteArray):t.toList.isEmpty=decide (t.size=0):=by
 rw[<- decide_eq_emptyBytes];apply decide_eq_decide.2;constructor
 ·intro h;rw[h];rfl
 ·intro h;exact ByteArray.size_eq_zero_iff.1 h
def qyb:Vq->Nat | .string t=>t.size | _=>0
theorem q5y(n:Nat)(hn:1<=n)(l B:Nat)(s:ByteArray)(hs:s.size<=1200)(w0:Wq)(hT:Lib.Utf8Tabs 0 1 w0)(J Jx:List Tok->Wq->Prop)(W:Wq)(hJ:AbidesFrom W.heap.size J)(hY:∀pre x W1,J pre W1->pre.length < (qch s.size s 0).length->YieldAt Fence.wide (n - 1) Tryz.prog l #[x.v] W1 λe W'=>
   (e=.returned (.bool true)/\J (pre++[x]) W'/\Below w0.heap.size W1 W'/\qe2 W1 W')\/(e=.returned (.bool false)/\Jx (pre++[x]) W'))(hW:Below w0.heap.size w0 W)(hB:W.cell? ⟨B,0,none⟩=some (.string s))(h0:J [] W) :
  CallsIn Fence.wide n Tryz.prog 158 #[.func (.yield l) #[] #[],.pointer (some ⟨B,0,none⟩)] W λe W'=>(∃v,e=.returned v)/\
   ((∃ys,ys=qch s.size s 0/\J ys W')\/(∃pre,pre <+: qch s.size s 0/\Jx pre W')):=by
 refine callsIn_of_wp Tryz.func158 rfl trivial ?_ rfl;simp only[Tryz.ntmps158,List.size_toArray,List.length_cons,List.length_nil,Nat.reduceAdd,Nat.reduceSub,Array.replicate_succ,Array.replicate_zero,List.push_toArray,List.append_toArray,List.nil_append,List.cons_append]
 gi_wp2
 generalize hxs:qch s.size s 0=xs at *;have HX:Hid (qch s.size s 0=xs):=hxs;clear hxs
 gi_loopw [3,4] (λrest place wr=>∃(pre:List Tok) (t:ByteArray) (p f:Nat),rest=.string t/\place=.int .i64 p/\Hid (pre++qch f t p=xs)/\t.size<=f/\p+t.size<=s.size/\J pre wr/\Below w0.heap.size w0 wr)
  (λrest _ _=>qyb rest)
 case atStart=>exact⟨[],s,0,s.size,rfl,rfl,HX,by omega,by omega,h0,hW⟩
 case round=>
  obtain⟨pre,t,p,f,rfl,rfl,hx,hf,hp,hJs,hB0⟩:=hrel;by_cases ht:t.size=0
  ·have he:t.toList.isEmpty=true:=by rw[qlq];simp[ht]
   gi_wp2
   go_end0
   exact⟨⟨_,rfl⟩,.inl ⟨pre,by rw[<- HX.out] at hx;rw[<- hx.out,qqe f t p ht];simp,hJs⟩⟩
  ·have he:t.toList.isEmpty=false:=by rw[qlq];simp[ht]
   have h1:0 < t.size:=by omega
   obtain⟨g,rfl⟩:∃g,f=g+1:=⟨f - 1,by omega⟩;have hdg:Lib.decodeGo t=Utf8.decode t 0:=by unfold Lib.decodeGo;rw[if_neg ht]
   have hwp:=Lib.decode_width_pos t 0 h1;have hwl:=qai t 0 h1;rw[Nat.zero_add] at hwl;have hTr:=Utf8Tabs_below hT hB0
   have q0e:Calls Tryz.prog 159 #[.string t] wr λe w'=>e=.returned (.tuple #[.int .i32 (Utf8.decode t 0).1,.int .i64 (Utf8.decode t 0).2])/\Below wr.heap.size wr w':=by
    rw[<- hdg];exact Tryz.utf8_DecodeRuneInString t wr hTr
   generalize hd:Utf8.decode t 0=d at *;obtain⟨r,wd⟩:=d;have HD:Hid (Utf8.decode t 0=(r,wd)):=hd;clear hd hdg;simp only at hwp hwl q0e;by_cases hbl:qd4 (r:Int)=true
   ·gi_wp2_with (first | (refine⟨trivial,?_⟩;gi_at_call 159;refine (callsIn_wide.2 q0e).mono ?_;rintro e w1 ⟨rfl,hb1⟩) | (refine⟨trivial,?_⟩;gi_at_call 160;refine (callsIn_wide.2 (qng _ _)).mono ?_;rintro e w' ⟨rfl,rfl⟩))
    go_roundw
    case rel=>
     refine⟨pre,t.extract wd t.size,p+1,g,rfl,by go_num,?_,by simp;omega,by simp;omega,hJ pre wr _ none hJs (qh hb1) (λr e=>by cases e),hB0.trans (hb1.mono hB0.size)⟩;have:=hx.out;unfold qch at this;rw[if_neg ht,HD.out,if_pos hbl] at this;exact this
    case measure=>simp[qyb];omega
   ·have q9c:qd4 (r:Int)=false:=by simpa using hbl
    clear hbl;have hok:(t.extract 0 (Q6 t).2.1).size<=1200:=by simp;omega
    have hx2:pre ++ ⟨(Q6 t).1,t.extract 0 (Q6 t).2.1,p,(Q6 t).2.2,hok⟩::qch g (t.extract (Q6 t).2.1 t.size) (p+(Q6 t).2.2)=xs:=by
     have:=hx.out;unfold qch at this;rw[if_neg ht,HD.out,if_neg (by simp[q9c]),dif_pos hok] at this;exact this
    have hfb:=qqs t h1
    have q9j:∀w1,Below wr.heap.size wr w1->Calls Tryz.prog 161 #[.string t] w1 λe w'=>e=.returned (qbk (Q6 t).1 (t.extract 0 (Q6 t).2.1) 0 (Q6 t).2.2)/\Below w1.heap.size w1 w':=by
     intro w1 hb;exact qz8 t w1 (by unfold maxLen;omega) h1 (Utf8Tabs_below hT (hB0.trans (hb.mono hB0.size)))
    generalize hF:Q6 t=ft at *;obtain⟨fk,fb,fr⟩:=ft;simp only at hx2 hfb q9j hok;have HX2:Hid (pre ++ ⟨fk,t.extract 0 fb,p,fr,hok⟩::qch g (t.extract fb t.size) (p+fr)=xs):=hx2;clear hx2 hx HD hF;have HF:Hid (∀w1,Below wr.heap.size wr w1->Calls Tryz.prog 161 #[.string t] w1 λe w'=>e=.returned (qbk fk (t.extract 0 fb) 0 fr)/\Below w1.heap.size w1 w'):=q9j;clear q9j;have HJ:Hid (AbidesFrom W.heap.size J):=hJ;have HY:=hY;clear hY hJ
    gi_wp2_with (first | (refine⟨trivial,?_⟩;gi_at_call 159;refine (callsIn_wide.2 q0e).mono ?_;rintro e w1 ⟨rfl,hb1⟩) | (refine⟨trivial,?_⟩;gi_at_call 160;refine (callsIn_wide.2 (qng _ _)).mono ?_;rintro e w' ⟨rfl,rfl⟩))
    refine⟨trivial,?_⟩;refine (callsIn_wide.2 (HF.out _ hb1)).mono ?_;rintro e w2 ⟨rfl,hb2⟩;have qw8:Below wr.heap.size wr w2:=hb1.trans (hb2.mono hb1.size);have hb3:=qw8.alloc qw8.size (.cells #[.int .i64 fk,.string (t.extract 0 fb),.int .i64 p,.int .i64 fr] 191);obtain⟨fn,tmps,assign,body,hy,hR⟩:=HY pre ⟨fk,t.extract 0 fb,p,fr,hok⟩ (w2.alloc (.cells #[.int .i64 fk,.string (t.extract 0 fb),.int .i64 p,.int .i64 fr] 191)) (HJ.out pre wr _ none hJs (qh hb3) (λr e=>by cases e)) (by rw[<- HX2.out];simp);dsimp only[Tok.v] at hy;have q3w:(t.extract 0 fb).size=fb:=by simp;omega
    unfold qbk qec at hy ⊢;generalize hte:t.extract 0 fb=te at *
    gi_wp2
    refine hR.mono ?_;rintro e W3 (⟨rfl,hJ3,hk3,htk⟩ | ⟨rfl,hJx3⟩)
    ·have qh8:W3.heap[w2.heap.size]?=some (.cells #[.int .i64 fk,.string te,.int .i64 p,.int .i64 fr] 191):=htk _ _ _ (World.alloc_heap_new w2 _);have hcA:W3.cell? ⟨w2.heap.size,1,none⟩=some (.string te):=by simp[World.cell?,qh8]
     have hcB:W3.cell? ⟨w2.heap.size,3,none⟩=some (.int .i64 fr):=by simp[World.cell?,qh8]
     have hi1:(fb:Int)<=(t.size:Int):=by omega
     clear qh8 htk hy hR
     gi_wp2
     gi_region
     all_goals
      gi_wp2
      go_roundw
      case rel=>
       refine⟨pre++[⟨fk,te,p,fr,hok⟩],t.extract fb t.size,p+fr,g,by simp[q3w],by go_num,?_,by simp;omega,by simp;omega,HJ.out _ _ _ none hJ3 (qh ((Below.refl _ W3).drew)) (λr e=>by cases e),((hB0.trans (hb3.mono hB0.size)).trans hk3).drew⟩;have:=HX2.out;show _=_;rw[<- this];simp
      case measure=>simp[qyb,q3w];omega
    ·gi_wp2
     refine bodyPost_ret (results_none rfl _ _ _) rfl ?_;exact⟨⟨_,rfl⟩,.inr ⟨pre++[⟨fk,te,p,fr,hok⟩],⟨qch g (t.extract fb t.size) (p+fr),by rw[HX.out,<- HX2.out];simp⟩,hJx3⟩⟩
def qcq(n₀:Nat)(A B:Wq):Prop:=Below n₀ A B/\qe2 A B
theorem qcq.tr{n₀:Nat}(h:qcq n₀ A B)(k:qcq n₀ B C):qcq n₀ A C:=⟨h.1.trans k.1,h.2.trans k.2⟩
theorem qcq.put{n₀:Nat}{w:Wq}(hn:n₀<=w.heap.size)(W:Wq)(l:Nat)(o o':Obj)(hl:w.heap.size<=l)(h:W.heap[l]?=some o)(ho:o.isCells=false)(hk:o.isWalk=false):qcq n₀ W (W.putObj l o'):=
 ⟨belowK_b hn W l o o' hl h ho hk,qe2.put W l o o' h ho⟩
theorem qzp(n:Nat)(hn:1<=n)(B:Nat)(s:ByteArray)(hs:s.size<=1200)(w0:Wq)(hT:Lib.Utf8Tabs 0 1 w0)(w:Wq)(hw:Below w0.heap.size w0 w)(hBw:B < w.heap.size)(hc:w.cell? ⟨B,0,none⟩=some (.string s)) :
  SeqStopsK Fence.wide n Tryz.prog 158 #[.pointer (some ⟨B,0,none⟩)] (λx:Tok=>#[x.v]) (qcq w0.heap.size) (λys=>ys=qch s.size s 0) (λpre=>pre <+: qch s.size s 0) (qch s.size s 0).length w:=
 λl J Jx W hW hJ _ hY h0=>q5y n hn l B s hs w0 hT J Jx W hJ hY (hw.trans (hW.mono hw.size)) ((hW.cell (p:=⟨B,0,none⟩) hBw).trans hc) h0
