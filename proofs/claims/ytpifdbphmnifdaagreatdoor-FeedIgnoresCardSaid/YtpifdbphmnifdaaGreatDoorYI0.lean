/-
  Facts of the proof. Condition: each theorem's own.
-/
import Derived.Lib.Strings
import Derived.Lib.ItoaNum
import Derived.Laws.RangeAny
import GoSem.Op.String
import Derived.Test.YtpifdbphmnifdaaGreatDoorRows
import Derived.WalkKit
import Derived.WalkSpells
import Derived.WalkLawsBesides
import Derived.WalkSmall
import Derived.Lib.Hide
import Derived.Lib.LaidTab
import Derived.Laws.RangeString
import Derived.Laws.BytesArg
import Derived.LoopN
import Derived.Sort.Grow
import Derived.ShutString
import Derived.Deep.RegionHeld3
import Derived.Deep.QuietTactic
import Derived.BigQuiet
import Derived.Lib.AppendStr
import Derived.OwnWalk
import Derived.Laws.OwnMore
import Derived.Laws.IdiomStrings
import Derived.Deep.RegionLaw
import Derived.Deep.OwnRows
import Derived.Laws.Rows
import Derived.SliceStrings
import Derived.OpenShut
import Derived.Carry
import Derived.ChangeSlices
import Derived.ProofKit
import Derived.Deep.DeepHandedRow
import Derived.Maps.OwnSet
import Derived.WalkArith
import Derived.Lib.Bytealg
set_option maxRecDepth 100000
set_option maxHeartbeats 8000000
open Go.Proofs.Tryz
namespace Go.Proofs.YtpifdbphmnifdaaGreatDoor
section
open Go
abbrev str (l:List UInt8):ByteArray:=⟨l.toArray⟩
def dig (c:UInt8):Bool:=decide (48≤c.toNat∧c.toNat≤57)
def digs (l:List UInt8):Bool:=l.all dig
def valN (l:List UInt8):Nat:=l.foldl (fun n c=>n*10+(c.toNat - 48)) 0
theorem Jcd (c:UInt8):dig c=true↔48≤c.toNat∧c.toNat≤57:=by unfold dig;exact decide_eq_true_iff
theorem Jks (l:List UInt8) (c:UInt8):valN (l++[c])=valN l*10+(c.toNat - 48):=by simp [valN]
theorem Js8:∀(l:List UInt8) (a:Nat),digs l=true→l.foldl (fun n c=>n*10+(c.toNat - 48)) a<(a+1)*10 ^ l.length
 | [],a,_=>by simp
 | c::l,a,h=>by
  have hl:dig c=true∧digs l=true:=by simpa [digs] using h
  have hc:=(Jcd c).1 hl.1;have:=Js8 l (a*10+(c.toNat - 48)) hl.2;rw [List.foldl_cons,List.length_cons,Nat.pow_succ];refine Nat.lt_of_lt_of_le this ?_;rw [Nat.mul_comm (10 ^ l.length) 10,←Nat.mul_assoc];exact Nat.mul_le_mul_right _ (by omega)
theorem Jja (l:List UInt8) (h:digs l=true):valN l<10 ^ l.length:=by
 have:=Js8 l 0 h;simpa [valN] using this
theorem Jkt (l:List UInt8) (k:Nat) (h:digs l=true):digs (l.take k)=true:=by
 unfold digs at *;rw [List.all_eq_true] at *;exact fun x hx=>h x (List.mem_of_mem_take hx)
theorem Jde (s:ByteArray) (k:Nat) (h:k<s.size):s.data.toList[k]?=some s[k]:=by
 rw [List.getElem?_eq_getElem (by simpa using h)];rfl
theorem Je1 (s:ByteArray) (k:Nat) (h:k<s.size):s.data.toList.take (k+1)=s.data.toList.take k++[s[k]]:=by
 rw [List.take_succ_eq_append_getElem (by simpa using h)];rfl
theorem Jjb (s:ByteArray) (k:Nat) (h:k<s.size) (hd:digs s.data.toList=true):48≤s[k].toNat∧s[k].toNat≤57:=by
 unfold digs at hd;rw [List.all_eq_true] at hd;exact (Jcd _).1 (hd _ (List.mem_iff_getElem?.2 ⟨k,Jde s k h⟩))
theorem Jgk (s:ByteArray) (k:Nat) (h:¬k<s.size) (hd:digs (s.data.toList.take k)=true):digs s.data.toList=true:=by
 rwa [List.take_of_length_le (by simpa using h)] at hd
theorem Jku (s:ByteArray) (k:Nat) (h:k<s.size) (hd:digs (s.data.toList.take k)=true) (hc:48≤s[k].toNat∧s[k].toNat≤57):digs (s.data.toList.take (k+1))=true:=by
 rw [Je1 s k h];have:=(Jcd _).2 hc;simp_all [digs]
def two (x:Int):List UInt8:=[UInt8.ofNat (48+x.toNat / 10),UInt8.ofNat (48+x.toNat % 10)]
def dec (x:Int):List UInt8:=Lib.decDigits x.toNat
def Jbs (l:List UInt8) (a:Nat):Nat:=valN ((l.drop a).take 2)
theorem ofNat_toNat (x:Nat) (h:x<10):(UInt8.ofNat (48+x)).toNat=48+x:=by
 rw [UInt8.toNat_ofNat'];omega
theorem Jkv (x:Nat) (h:x<10):dig (UInt8.ofNat (48+x))=true:=by
 rw [Jcd,ofNat_toNat x h];omega
theorem Jy0 (a b:UInt8):valN [a,b]=(a.toNat - 48)*10+(b.toNat - 48):=by
 simp [valN]
theorem Jmx (x:Int):(two x).length=2:=rfl
theorem Jhc (x:Int) (h:x<100):(dec x).length≤2:=by
 unfold dec;by_cases h1:x.toNat<10
 ·rw [Lib.decDigits_one h1];simp
 ·rw [Lib.decDigits_two h1 (by omega)];simp
theorem Jid (x:Int):(two x).length≤100:=by rw [Jmx];decide
theorem Js9 (x:Int) (h:x<100):(dec x).length≤100:=by have:=Jhc x h;omega
theorem Jta (x:Int) (h0:0≤x) (h1:x<100):dec (x / 10)++dec (x % 10)=two x:=by
 obtain⟨n,rfl⟩:∃n:Nat,x=n:=⟨x.toNat,by omega⟩;unfold dec two;rw [Lib.decDigits_one (i:=((n:Int) / 10).toNat) (by omega),Lib.decDigits_one (i:=((n:Int) % 10).toNat) (by omega)];rw [show ((n:Int) / 10).toNat=n / 10 by omega,show ((n:Int) % 10).toNat=n % 10 by omega];rfl
theorem Jao {α:Type} {l:List α} {k:Nat} (h:k<l.length):∃x,l[k]?=some x:=⟨l[k],List.getElem?_eq_getElem h⟩
theorem Jbc {α:Type} (l:List α) (k:Nat) (x:α) (h:l[k]?=some x):l.drop k=x::l.drop (k+1):=by
 have hk:=(List.getElem?_eq_some_iff.1 h).1;rw [List.drop_eq_getElem_cons hk,(List.getElem?_eq_some_iff.1 h).2]
theorem Jb0 {α:Type} (l:List α) (k:Nat) (x:α) (h:l[k]?=some x):l.take (k+1)=l.take k++[x]:=by
 rw [List.take_add_one,h];rfl
theorem Jov {p:UInt8→Bool} {l:List UInt8} {k:Nat} {c:UInt8} (h:l[k]?=some c) (hc:p c=false):l.all p=false:=by
 cases ha:l.all p with
 | false=>rfl
 | true =>
  rw [List.all_eq_true] at ha;rw [ha c (List.mem_iff_getElem?.2 ⟨k,h⟩)] at hc;cases hc
theorem Jgv (p:UInt8→Bool) (l:List UInt8) (k:Nat) (c:UInt8) (h:l[k]?=some c) (ht:(l.take k).all p=true) (hc:p c=true):(l.take (k+1)).all p=true:=by
 rw [Jb0 l k c h,List.all_append,ht];simp [hc]
def idB (c:UInt8):Bool:=decide ((65≤c.toNat∧c.toNat≤90)∨(97≤c.toNat∧c.toNat≤122)∨(48≤c.toNat∧c.toNat≤57)∨c.toNat=45∨c.toNat=95∨c.toNat=46)
def Jak (l:List UInt8):Bool:=decide (1≤l.length)&&decide (l.length≤32)&&l.all idB
theorem Je2 (l:List UInt8):Jak l=true↔(1≤l.length∧l.length≤32)∧l.all idB=true:=by
 unfold Jak;rw [Bool.and_eq_true,Bool.and_eq_true,decide_eq_true_iff,decide_eq_true_iff]
theorem Jmy (s i:Nat):(s / 2 ^ i % 2=1)↔s.testBit i=true:=by
 rw [Nat.testBit_eq_decide_div_mod_eq,decide_eq_true_iff]
def delB (s i:Nat):Nat:=if s.testBit i then s - 2 ^ i else s
theorem Jtb {s i:Nat} (h:s.testBit i=false):s+2 ^ i=s ||| 2 ^ i:=by
 apply Nat.eq_of_testBit_eq
 intro j;rw [Nat.testBit_or,Nat.testBit_two_pow];rw [Nat.add_comm];rcases Nat.lt_trichotomy j i with hj | hj | hj
 ·rw [Nat.testBit_two_pow_add_gt hj]
  simp;omega
 ·subst hj
  rw [Nat.testBit_two_pow_add_eq,h];simp
 ·
  have hs:s=s % 2 ^ (i+1)+2 ^ (i+1)*(s / 2 ^ (i+1)):=(Nat.mod_add_div _ _).symm;have hlow:s % 2 ^ (i+1)<2 ^ i:=by
   have hdiv:s / 2 ^ i % 2=0:=by
    have:=Jmy s i;rw [h] at this;simp at this;omega
   have h1:s % 2 ^ (i+1)=s % 2 ^ i+2 ^ i*(s / 2 ^ i % 2):=by rw [Nat.pow_succ,Nat.mod_mul]
   rw [h1,hdiv,Nat.mul_zero,Nat.add_zero];exact Nat.mod_lt _ (Nat.two_pow_pos i)
  have hsum:2 ^ i+s=2 ^ (i+1)*(s / 2 ^ (i+1))+(2 ^ i+s % 2 ^ (i+1)):=by omega
  rw [hsum,Nat.testBit_two_pow_mul_add _ (Nat.lt_of_lt_of_le (Nat.add_lt_add_left hlow _) (by rw [Nat.pow_succ];omega))];rw [if_neg (by omega)];conv=>rhs;rw [show s=2 ^ (i+1)*(s / 2 ^ (i+1))+s % 2 ^ (i+1) by omega]
  rw [Nat.testBit_two_pow_mul_add _ (Nat.mod_lt _ (Nat.two_pow_pos _)),if_neg (by omega)];simp;omega
theorem Jtc {s i:Nat} (h:s.testBit i=true):∃r,s=r+2 ^ i∧r.testBit i=false∧∀j,j≠i→r.testBit j=s.testBit j:=by
 refine⟨s ^^^ 2 ^ i,?_,?_,fun j hj=>?_⟩
 ·have h0:(s ^^^ 2 ^ i).testBit i=false:=by rw [Nat.testBit_xor,Nat.testBit_two_pow,h];simp
  rw [Jtb h0];apply Nat.eq_of_testBit_eq
  intro j;rw [Nat.testBit_or,Nat.testBit_xor,Nat.testBit_two_pow];by_cases hij:i=j
  ·subst hij;simp [h]
  ·simp [hij]
 ·rw [Nat.testBit_xor,Nat.testBit_two_pow,h];simp
 ·rw [Nat.testBit_xor,Nat.testBit_two_pow]
  simp [Ne.symm hj]
theorem Jmz (s i j:Nat):(delB s i).testBit j=(s.testBit j&&!(decide (i=j))):=by
 unfold delB;split
 ·next h =>
  obtain⟨r,hr,h1,h2⟩:=Jtc h;rw [show s - 2 ^ i=r by omega];by_cases hij:i=j
  ·subst hij;simp [h1]
  ·rw [h2 j (Ne.symm hij)];simp [hij]
 ·next h =>
  by_cases hij:i=j
  ·subst hij;simp [h]
  ·simp [hij]
theorem J8v (s i:Nat):delB s i≤s:=by
 unfold delB;split
 ·exact Nat.sub_le _ _
 ·exact Nat.le_refl _
theorem Jhd {s:Nat} (h:s<2 ^ 64) {j:Nat} (hj:64≤j):s.testBit j=false:=Nat.testBit_lt_two_pow (Nat.lt_of_lt_of_le h (Nat.pow_le_pow_right (by decide) hj))
theorem Jtd {s t:Nat} (hs:s<2 ^ 64) (ht:t<2 ^ 64) (h:∀j,j<64→s.testBit j=t.testBit j):s=t:=by
 apply Nat.eq_of_testBit_eq
 intro j;by_cases hj:j<64
 ·exact h j hj
 ·rw [Jhd hs (by omega),Jhd ht (by omega)]
def elems (s:Nat):List Nat:=(List.range 64).filter fun i=>s.testBit i
theorem Jhe (s i:Nat):i∈elems s↔i<64∧s.testBit i=true:=by
 unfold elems;rw [List.mem_filter,List.mem_range]
theorem Jkw (s:Nat):(elems s).length≤64:=by
 have:=List.length_filter_le (fun i=>s.testBit i) (List.range 64);rw [List.length_range] at this;exact this
theorem Jie (s:Nat):(elems s).Pairwise (·<·):=List.Pairwise.filter _ List.pairwise_lt_range
theorem Jhf:∀a b:List Nat,a.Pairwise (·<·)→b.Pairwise (·<·)→(∀i,i∈a↔i∈b)→a=b
 | [],[],_,_,_=>rfl
 | [],y::b,_,_,h=>by have:=(h y).2 (by simp);cases this
 | x::a,[],_,_,h=>by have:=(h x).1 (by simp);cases this
 | x::a,y::b,ha,hb,h=>by
  rw [List.pairwise_cons] at ha hb;have hxy:x=y:=by
   rcases List.mem_cons.1 ((h x).1 (by simp)) with e | hx
   ·exact e
   ·rcases List.mem_cons.1 ((h y).2 (by simp)) with e | hy
    ·exact e.symm
    ·have:=hb.1 x hx;have:=ha.1 y hy;omega
  subst hxy;rw [Jhf a b ha.2 hb.2 (fun i=>?_)];constructor
  ·intro hi
   rcases List.mem_cons.1 ((h i).1 (List.mem_cons_of_mem _ hi)) with e | hm
   ·subst e;have:=ha.1 i hi;omega
   ·exact hm
  ·intro hi
   rcases List.mem_cons.1 ((h i).2 (List.mem_cons_of_mem _ hi)) with e | hm
   ·subst e;have:=hb.1 i hi;omega
   ·exact hm
theorem Jy1 {s:Nat} {l:List Nat} (h1:l.Pairwise (·<·)) (h2:∀i,i∈l↔i<64∧s.testBit i=true):l=elems s :=
 Jhf l _ h1 (Jie s) fun i=>(h2 i).trans (Jhe s i).symm
theorem Jy2 {s m:Nat} (hb:s.testBit m=true) (hl:∀j,j<m→s.testBit j=false):s=2 ^ (m+1)*(s / 2 ^ (m+1))+2 ^ m:=by
 have h0:s % 2 ^ m=0:=by
  apply Nat.eq_of_testBit_eq
  intro j;rw [Nat.testBit_mod_two_pow,Nat.zero_testBit];by_cases hj:j<m
  ·simp [hl j hj]
  ·simp [hj]
 have h1:s % 2 ^ (m+1)=2 ^ m:=by
  rw [Nat.pow_succ,Nat.mod_mul,h0,(Jmy s m).2 hb];omega
 have:=Nat.div_add_mod s (2 ^ (m+1));omega
theorem Jte {s m:Nat} (hb:s.testBit m=true) (hl:∀j,j<m→s.testBit j=false):s &&& (s - 1)=delB s m:=by
 have hf:=Jy2 hb hl;generalize s / 2 ^ (m+1)=r at hf;have hp:=Nat.two_pow_pos m;have hs:s - 1=2 ^ (m+1)*r+(2 ^ m - 1):=by omega
 have hz:(2 ^ m - 1).testBit m=false:=Nat.testBit_lt_two_pow (by omega);apply Nat.eq_of_testBit_eq
 intro j;rw [Nat.testBit_and,Jmz];rcases Nat.lt_trichotomy j m with hj | hj | hj
 ·simp [hl j hj]
 ·subst hj
  rw [hs,Nat.testBit_two_pow_mul_add _ (by rw [Nat.pow_succ];omega),if_pos (by omega),hz];simp
 ·have hne:¬m=j:=by omega
  rw [hs,Nat.testBit_two_pow_mul_add _ (by rw [Nat.pow_succ];omega),if_neg (by omega)];rw [hf,Nat.testBit_two_pow_mul_add _ (by rw [Nat.pow_succ];omega),if_neg (by omega)];simp [hne]
theorem Jtf {s m:Nat} (hm:m<64) (hb:s.testBit m=true) (hl:∀j,j<m→s.testBit j=false):elems s=m::elems (delB s m):=by
 refine (Jy1 ?_ fun i=>?_).symm
 ·rw [List.pairwise_cons]
  refine⟨fun i hi=>?_,Jie _⟩;have h:=(Jhe _ _).1 hi;rw [Jmz,Bool.and_eq_true] at h;rcases Nat.lt_trichotomy i m with h1 | h1 | h1
  ·rw [hl i h1] at h;simp at h
  ·subst h1;simp at h
  ·exact h1
 ·rw [List.mem_cons,Jhe,Jmz]
  by_cases him:i=m
  ·subst him;simp [hm,hb]
  ·simp [him,Ne.symm him]
theorem Jq3:elems 0=[]:=by
 unfold elems;rw [List.filter_eq_nil_iff];intro i _;simp
abbrev W64 (s:Nat):Prop:=s<18446744073709551616
def one (i:Int):Nat:=if 0≤i∧i<64 then 2 ^ i.toNat else 0
theorem Jgw {k:Nat} (h:k<64):2 ^ k<18446744073709551616:=by
 rw [show 18446744073709551616=2 ^ 64 by rfl];exact Nat.pow_lt_pow_right (by decide) h
theorem J24 (i:Int):W64 (one i):=by
 unfold one;split
 ·exact Jgw (by omega)
 ·decide
open Go.RowKit
theorem rel {P:Program} {f:FuncId} {args:Array Value} {w W:World} {x:Ending} (h:Calls P f args w fun e w'=>e=x∧Below w.heap.size w w') (hb:Below W.heap.size W w) :
  Calls P f args w fun e w'=>e=x∧Below W.heap.size W w' :=
 h.mono fun _ _ ⟨he,hc⟩=>⟨he,hb.trans (hc.mono hb.size)⟩
theorem Jaj {B:Nat} {a w:World} (h:Below B a w) (n:Nat):Below B a (w.drewN n):=⟨h.os,h.tape,h.output,h.size,h.block⟩
theorem Jm0 {P:Program} {f:FuncId} {args:Array Value} {w:World} {x:Ending} (h:Calls P f args w fun e w'=>e=x∧w=w') :
  Calls P f args w fun e w'=>e=x∧Below w.heap.size w w' :=
 h.mono fun _ _ ⟨he,hc⟩=>⟨he,hc ▸ Below.refl _ _⟩
theorem Jgl {fn:Func} {t u v x:Tmp} (h:fn.results=#[.tmp t,.tmp u,.tmp v,.tmp x]) (tmps:Array Value) (P:Program) (w:World) :
  (results fn tmps).run P w=.ok (.tuple #[tmps.getD t undef,tmps.getD u undef,tmps.getD v undef,tmps.getD x undef]) w:=by simp [results,h]
theorem Jd9 (s:ByteArray) (i:Nat) (h:i<s.size) (W:World):(Instr.index 9 (.string s) (.int .i64 i)).run prog W=.ok (.int .u8 s[i].toNat) W:=by
 go_simp
theorem Jaz (w:World) (s:ByteArray) (k:Nat):Below w.heap.size w (w.iter s k):=(Below.refl _ _).alloc (Nat.le_refl _) _
theorem Jac {a b:Int} (h:a≠b):(a==b)=false:=by rw [beq_eq_false_iff_ne];exact h
theorem Jae {a b:Int} (h:a≠b):(a != b)=true:=by rw [bne,Jac h];rfl
theorem Jaq {a b:Int} (h:a=b):(a==b)=true:=by rw [beq_iff_eq];exact h
theorem Jar {a b:Int} (h:a=b):(a != b)=false:=by rw [h];simp
theorem Jcz (a b:List UInt8):str a++str b=str (a++b):=by
 apply ByteArray.ext
 simp [str]
theorem Jtg {a b:ByteArray} (h:a=b) {n:Int}:Ending.returned (.tuple #[.string a,.int .i64 n])=Ending.returned (.tuple #[.string b,.int .i64 n]):=by rw [h]
theorem Jjc {a b:List UInt8} (h:a=b) {n:Int}:Ending.returned (.tuple #[.string (str a),.int .i64 n])=Ending.returned (.tuple #[.string (str b),.int .i64 n]):=by rw [h]
theorem Jad {k:IntKind} {a b:Int} (h:a=b):Ending.returned (.int k a)=.returned (.int k b):=by rw [h]
theorem Jaa {a b:Bool} (h:a=b):Ending.returned (.bool a)=.returned (.bool b):=by rw [h]
theorem Jy3 {a b:Int} {c:Bool} (h:a=b):Ending.returned (.tuple #[.int .i64 a,.bool c])=.returned (.tuple #[.int .i64 b,.bool c]):=by rw [h]
theorem J4t {a b c x y z:Int} (h1:a=x) (h2:b=y) (h3:c=z):Ending.returned (.tuple #[.int .i64 a,.int .i64 b,.int .i64 c,.bool true])=Ending.returned (.tuple #[.int .i64 x,.int .i64 y,.int .i64 z,.bool true]):=by rw [h1,h2,h3]
theorem J4u {a b c d:Int} (h:a=c) (k:b=d):Ending.returned (.tuple #[.int .i64 a,.int .i64 b])=.returned (.tuple #[.int .i64 c,.int .i64 d]):=by rw [h,k]
theorem Jaf (l:List UInt8):(str l).size=l.length:=by show l.toArray.size=_;simp
theorem Jq4 (w:World) (k:Nat) (os:Array Obj):Below w.heap.size w (Sort.grow (w.drewN k) os) :=
 ⟨rfl,rfl,rfl,by simp,fun j hj=>Sort.heap_grow_old (w.drewN k) os hj⟩
theorem Jeh {a b:ByteArray} (h:a=b):Ending.returned (.string a)=Ending.returned (.string b):=by rw [h]
theorem Jth (l:List UInt8) (i:Nat) (c:UInt8) (h:l[i]?=some c) (e:Int) (he:e=i) (W:World):(Instr.index 9 (.string (str l)) (.int .i64 e)).run prog W=.ok (.int .u8 c.toNat) W:=by
 subst he;have hi:i<l.length:=(List.getElem?_eq_some_iff.1 h).1;rw [Jd9 (str l) i (by rw [Jaf];exact hi) W];have:(str l)[i]'(by rw [Jaf];exact hi)=c:=(List.getElem?_eq_some_iff.1 h).2;rw [this]
theorem Jti (l:List UInt8) (j:Nat) (hj:j≤l.length) (m:List UInt8) (hm:l.take j=m) (e:Int) (he:e=j) (W:World):(Instr.slice 9 (.string (str l)) none (some (.int .i64 e)) none).run prog W=.ok (.string (str m)) W:=by
 subst he hm;rw [run_slice_string_h W 9 (str l) underlying9 .i64 j (by omega) (by rw [Jaf];omega)];congr 2
 rw [Lib.extract_eq];simp
theorem Jtj (l:List UInt8) (j:Nat) (hj:j≤l.length) (m:List UInt8) (hm:l.drop j=m) (e:Int) (he:e=j) (W:World):(Instr.slice 9 (.string (str l)) (some (.int .i64 e)) none none).run prog W=.ok (.string (str m)) W:=by
 subst he hm;rw [run_slice_string_l W 9 (str l) underlying9 .i64 j (by omega) (by rw [Jaf];omega)];congr 2
 rw [Lib.extract_eq,Jaf];simp;rw [List.take_of_length_le (by simp)]
theorem J4v (l:List UInt8) (i j:Nat) (hi:i≤j) (hj:j≤l.length) (m:List UInt8) (hm:(l.drop i).take (j - i)=m) (e f:Int) (he:e=i) (hf:f=j) (W:World):(Instr.slice 9 (.string (str l)) (some (.int .i64 e)) (some (.int .i64 f)) none).run prog W=.ok (.string (str m)) W:=by
 subst he hf hm;rw [run_slice_string W 9 (str l) .i64 .i64 i j underlying9 (by omega) (by omega) (by rw [Jaf];omega)];congr 2
 rw [Lib.extract_eq];simp
abbrev bts (l:List UInt8):List Value:=l.map fun b=>Value.int .u8 b.toNat
abbrev sts (l:List (List UInt8)):List Value:=l.map fun s=>Value.string (str s)
theorem Jm1:(prog.info? 5).map (fun i=>(i.zero,i.size,i.bytes))=some (some (.int .u8 0),1,1):=by kernel_rfl
theorem Jgx:(prog.info? 9).map (fun i=>(i.zero,i.size,i.bytes))=some (some (.string ByteArray.empty),1,16):=by kernel_rfl
def OwnB (w:World) (base:Nat) (v:Value) (l:List UInt8):Prop:=w.ownsRow base 5 1 v l.length (bts l)
def OwnS (w:World) (base:Nat) (v:Value) (l:List (List UInt8)):Prop:=w.ownsRow base 9 1 v l.length (sts l)
theorem OwnB.nil (w:World) (base:Nat):OwnB w base (.slice none 0 0) []:=World.ownsRow_nil _ _ _ _
theorem OwnS.nil (w:World) (base:Nat):OwnS w base (.slice none 0 0) []:=World.ownsRow_nil _ _ _ _
theorem Jtk (l:List UInt8):∀u∈bts l,u.oneCell'=true:=by
 intro u hu;obtain⟨b,_,rfl⟩:=List.mem_map.1 hu;rfl
theorem Jtl (l:List (List UInt8)):∀u∈sts l,u.oneCell'=true:=by
 intro u hu;obtain⟨b,_,rfl⟩:=List.mem_map.1 hu;rfl
theorem Je3 {w:World} {base:Nat} {e:TypeId} {v:Value} {n:Nat} {xs:List Value} (h:w.ownsRow base e 1 v n xs):∃A c,v=.slice A n c∧n≤c∧(0<n→∃g,A=some ⟨g,0,none⟩∧base≤g∧g<w.heap.size∧∀j u,xs[j]?=some u→w.cell? ⟨g,0+j,none⟩=some u):=by
 have hl:=h.1;rcases h.2 with ⟨rfl,rfl⟩ | ⟨g,cap,cur,rfl,hb,hg,hn,_,_,ht⟩
 ·exact⟨none,0,rfl,Nat.le_refl _,fun h=>absurd h (Nat.lt_irrefl _)⟩
 ·refine⟨some ⟨g,0,none⟩,cap,rfl,hn,fun _=>⟨g,rfl,hb,?_,?_⟩⟩
  ·rcases Nat.lt_or_ge g w.heap.size with h | h
   ·exact h
   ·rw [Array.getElem?_eq_none h] at hg;cases hg
  ·intro j u hu
   rw [Nat.zero_add,cell_of_row w g j cur e (0,0) hg];have hj:=(List.getElem?_eq_some_iff.1 hu).1;rw [←ht,List.getElem?_take] at hu;split at hu
   ·rw [←hu];simp
   ·cases hu
theorem Jei {w:World} {base:Nat} {e:TypeId} {v:Value} {n:Nat} {xs:List Value} (h:w.ownsRow base e 1 v n xs):∃A c,v=.slice A n c:=by
 obtain⟨A,c,hv,_⟩:=Je3 h;exact⟨A,c,hv⟩
theorem Jhg {w w':World} {base:Nat} {e:TypeId} {v:Value} {n:Nat} {xs:List Value} (h:w.ownsRow base e 1 v n xs) (hb:Below w.heap.size w w'):w'.ownsRow base e 1 v n xs:=by
 refine⟨h.1,?_⟩;rcases h.2 with h0 | ⟨g,cap,cur,hv,hbg,hg,hr⟩
 ·exact Or.inl h0
 ·have hlt:g<w.heap.size:=by
   rcases Nat.lt_or_ge g w.heap.size with h | h
   ·exact h
   ·rw [Array.getElem?_eq_none h] at hg;cases hg
  exact Or.inr ⟨g,cap,cur,hv,hbg,(hb.block g hlt).trans hg,hr⟩
theorem Je4 {w w':World} {base:Nat} {e:TypeId} {v:Value} {n:Nat} {xs:List Value} (h:w.ownsRow base e 1 v n xs) (hg:w.grownBy w' v.ownBlock) (hb:base≤w.heap.size):Below base w w' :=
 (Below.refl _ _).grown hg hb fun k hk=>(h.lt k hk).1
theorem Je5 (w:World) {ops:Array Oper} {rest:List Oper} {o:Oper} {a:Act} {Q:Exit→Act→World→Prop} (hgd:o.guard=none) (s x:Operand)
  (ho:o.op=.call { callee:=.builtin .append,args:=#[s,x],argTypes:=#[155,155] }) (base:Nat) (v:Value) (l m:List UInt8) (hs:a.eval s=v) (hown:OwnB w base v l)
  (k:Nat) (cells:Array Value) (hk:w.heap[k]?=some (.cells cells 5 (0,0))) (hc:cells.toList=bts m) (hx:a.eval x=.slice (some ⟨k,0,none⟩) m.length m.length) (hb:base≤w.heap.size)
  (hl:l.length+m.length≤140737488355328) (h:∀v' w',OwnB w' base v' (l++m)→Below base w w'→wpList prog ops Q rest (a.put o.dst v') w'):wpList prog ops Q (o::rest) a w:=by
 obtain⟨i,hi,hz,hsz,hby⟩:=info_parts Jm1;refine wpList_append_own w hgd s x 155 ho base 5 i _ 1 1 underlying155 hi hz hsz hby rfl (by decide) v l.length (bts l) hs hown ⟨k,0,none⟩ m.length m.length (bts m) hx (by simp) ?_ (Jtk m) (by unfold maxLen;omega) (by omega) hb ?_
 ·intro j u hu
  have hadd:(⟨k,0,none⟩:Addr).add j=⟨k,j,none⟩:=by unfold Addr.add;split <;> simp_all
  rw [hadd,cell_of_row w k j cells _ _ hk,←hu,←hc];simp
 ·intro v' w' h1 h2 _
  refine h v' w' ?_ (Je4 hown h2 hb);unfold OwnB bts;rw [List.length_append,List.map_append];exact h1
theorem Jq5 (w:World) {ops:Array Oper} {o:Oper} {a:Act} {K:Act→World→Prop} {Q:Exit→Act→World→Prop} {E:Prop} (hgd:o.guard=none) (s x:Operand)
  (ho:o.op=.call { callee:=.builtin .append,args:=#[s,x],argTypes:=#[155,155] }) (base:Nat) (v:Value) (l m:List UInt8) (hs:a.eval s=v) (hown:OwnB w base v l)
  (k:Nat) (cells:Array Value) (hk:w.heap[k]?=some (.cells cells 5 (0,0))) (hc:cells.toList=bts m) (hx:a.eval x=.slice (some ⟨k,0,none⟩) m.length m.length) (hb:base≤w.heap.size)
  (hl:l.length+m.length≤140737488355328) (h:∀v' w',OwnB w' base v' (l++m)→Below base w w'→K (a.put o.dst v') w'):if Region.wanted o (yielded ops a.tmps)=true then Oper.wp prog o a w K Q else E:=by
 obtain⟨i,hi,hz,hsz,hby⟩:=info_parts Jm1;have hw:Region.wanted o (yielded ops a.tmps)=true:=by simp [Region.wanted,hgd]
 rw [if_pos hw];refine wp_append_own w s x 155 ho base 5 i _ 1 1 underlying155 hi hz hsz hby rfl (by decide) v l.length (bts l) hs hown ⟨k,0,none⟩ m.length m.length (bts m) hx (by simp) ?_ (Jtk m) (by unfold maxLen;omega) (by omega) hb ?_
 ·intro j u hu
  have hadd:(⟨k,0,none⟩:Addr).add j=⟨k,j,none⟩:=by unfold Addr.add;split <;> simp_all
  rw [hadd,cell_of_row w k j cells _ _ hk,←hu,←hc];simp
 ·intro v' w' h1 h2 _
  refine h v' w' ?_ (Je4 hown h2 hb);unfold OwnB bts;rw [List.length_append,List.map_append];exact h1
theorem Jej (w:World) {ops:Array Oper} {rest:List Oper} {o:Oper} {a:Act} {Q:Exit→Act→World→Prop} (hgd:o.guard=none) (s x:Operand)
  (ho:o.op=.call { callee:=.builtin .append,args:=#[s,x],argTypes:=#[155,9] }) (base:Nat) (v:Value) (l:List UInt8) (m:ByteArray) (hs:a.eval s=v) (hown:OwnB w base v l)
  (hx:a.eval x=.string m) (hb:base≤w.heap.size)
  (hl:l.length+m.size≤140737488355328) (h:∀v' w',OwnB w' base v' (l++m.data.toList)→Below base w w'→wpList prog ops Q rest (a.put o.dst v') w'):wpList prog ops Q (o::rest) a w:=by
 obtain⟨i,hi,hz,hsz,hby⟩:=info_parts Jm1;refine Lib.wpList_append_own_string w hgd s x 155 9 ho base 5 i underlying155 underlying9 hi hz hsz hby v l.length (bts l) hs hown m hx (by unfold maxLen;omega) (by omega) hb ?_;intro v' w' h1 h2 _;refine h v' w' ?_ (Je4 hown h2 hb);unfold OwnB bts;rw [List.length_append,List.map_append,show m.data.toList.length=m.size by simp];exact h1
theorem Jm2 (w:World) {ops:Array Oper} {rest:List Oper} {o:Oper} {a:Act} {Q:Exit→Act→World→Prop} (hgd:o.guard=none) (s x:Operand)
  (ho:o.op=.call { callee:=.builtin .append,args:=#[s,x],argTypes:=#[66,66] }) (base:Nat) (v:Value) (l:List (List UInt8)) (m:List UInt8) (hs:a.eval s=v) (hown:OwnS w base v l)
  (k:Nat) (cells:Array Value) (hk:w.heap[k]?=some (.cells cells 9 (0,0))) (hc:cells=#[.string (str m)]) (hx:a.eval x=.slice (some ⟨k,0,none⟩) 1 1) (hb:base≤w.heap.size)
  (hl:l.length+1≤1099511627776) (h:∀v' w',OwnS w' base v' (l++[m])→Below base w w'→wpList prog ops Q rest (a.put o.dst v') w'):wpList prog ops Q (o::rest) a w:=by
 obtain⟨i,hi,hz,hsz,hby⟩:=info_parts Jgx;refine wpList_append_own w hgd s x 66 ho base 9 i _ 1 16 underlying66 hi hz hsz hby rfl (by decide) v l.length (sts l) hs hown ⟨k,0,none⟩ 1 1 (sts [m]) hx (by simp) ?_ (Jtl [m]) (by unfold maxLen;omega) (by omega) hb ?_
 ·intro j u hu
  have hadd:(⟨k,0,none⟩:Addr).add j=⟨k,j,none⟩:=by unfold Addr.add;split <;> simp_all
  rw [hadd,cell_of_row w k j cells _ _ hk,←hu,hc];simp
 ·intro v' w' h1 h2 _
  refine h v' w' ?_ (Je4 hown h2 hb);unfold OwnS sts;rw [List.length_append,List.map_append];exact h1
theorem Jjd {w:World} {base:Nat} {v:Value} {l:List UInt8} (h:OwnB w base v l):(convert 155 9 v).run prog w=.ok (.string (str l)) w:=by
 obtain⟨A,c,rfl,_,hc⟩:=Je3 h;rcases Nat.eq_zero_or_pos l.length with h0 | h0
 ·have:l=[]:=List.length_eq_zero_iff.1 h0
  subst this;cases A with
  | none=>exact run_convert_bytes_nil w 155 5 underlying155 underlying5 0 c 9 underlying9
  | some a=>exact run_convert_bytes_back w 155 9 5 a c [] underlying155 underlying5 underlying9 (fun j hj=>absurd hj (Nat.not_lt_zero _))
 ·obtain⟨g,rfl,_,_,hcell⟩:=hc h0
  refine run_convert_bytes_back w 155 9 5 ⟨g,0,none⟩ c l underlying155 underlying5 underlying9 (fun j hj=>?_);have hadd:(⟨g,0,none⟩:Addr).add j=⟨g,0+j,none⟩:=by unfold Addr.add;split <;> simp_all
  rw [hadd];exact hcell j _ (by simp [hj])
theorem Jbo (s:ByteArray) (i:Nat) (c:UInt8) (h:s.data.toList[i]?=some c) (e:Int) (he:e=i) (W:World):(Instr.index 9 (.string s) (.int .i64 e)).run prog W=.ok (.int .u8 c.toNat) W:=by
 subst he;have hi:i<s.size:=by have:=(List.getElem?_eq_some_iff.1 h).1;simpa using this
 rw [Jd9 s i hi W];have:=Jde s i hi;rw [h] at this;rw [Option.some.inj this]
theorem Jea (s:ByteArray) (i:Nat) (h:i<s.size):∃c,s.data.toList[i]?=some c:=⟨s[i],Jde s i h⟩
theorem Ja0 (s:ByteArray):s.data.toList.length=s.size:=by simp
theorem Jay (s:ByteArray):str s.data.toList=s:=by cases s;rfl
theorem Jbd (s:ByteArray):s.toList.isEmpty=decide (s.size=0):=by
 rw [Lib.toList_data];cases h:s.data.toList with
 | nil=>have:=Ja0 s;rw [h] at this;simp [←this]
 | cons c r=>have:=Ja0 s;rw [h] at this;simp [←this]
theorem Jc8 {a b:ByteArray} (h:a≠b):(a.toList==b.toList)=false:=by
 rw [beq_eq_false_iff_ne,Lib.toList_data,Lib.toList_data];intro e;apply h
 rw [←Jay a,←Jay b,e]
theorem Jc9 {a b:ByteArray} (h:a=b):(a.toList==b.toList)=true:=by rw [h];simp
theorem Jhh (s t:ByteArray) (j:Nat) (hj:j≤s.size) (ht:s.data.toList.drop j=t.data.toList) (e:Int) (he:e=j) (W:World):(Instr.slice 9 (.string s) (some (.int .i64 e)) none none).run prog W=.ok (.string t) W:=by
 have h:=Jtj s.data.toList j (by rw [Ja0];exact hj) _ ht e he W;rw [Jay,Jay] at h;exact h
theorem J8w (s t:ByteArray) (j:Nat) (hj:j≤s.size) (ht:s.data.toList.take j=t.data.toList) (e:Int) (he:e=j) (W:World):(Instr.slice 9 (.string s) none (some (.int .i64 e)) none).run prog W=.ok (.string t) W:=by
 have h:=Jti s.data.toList j (by rw [Ja0];exact hj) _ ht e he W;rw [Jay,Jay] at h;exact h
theorem J25 (s t:ByteArray) (i j:Nat) (hi:i≤j) (hj:j≤s.size) (ht:(s.data.toList.drop i).take (j - i)=t.data.toList) (e f:Int) (he:e=i) (hf:f=j) (W:World):(Instr.slice 9 (.string s) (some (.int .i64 e)) (some (.int .i64 f)) none).run prog W=.ok (.string t) W:=by
 have h:=J4v s.data.toList i j hi (by rw [Ja0];exact hj) _ ht e f he hf W;rw [Jay,Jay] at h;exact h
theorem Jcm (l:List UInt8):∃s:ByteArray,s.data.toList=l∧s.size=l.length∧str l=s:=⟨str l,rfl,Jaf l,rfl⟩
def szOf:Value→Nat | .string s=>s.size | _=>0
def Lst (w:World) (v:Value) (ls:List (List UInt8)):Prop:=∃A c,v=.slice A ls.length c∧(ls.length≤c∧(A=none→c=0))∧(0<ls.length→∃b o,A=some ⟨b,o,none⟩∧b<w.heap.size∧∀(j:Nat) x,(sts ls)[j]?=some x→w.cell? ⟨b,o+j,none⟩=some x)
theorem OwnS.lst {w:World} {base:Nat} {v:Value} {l:List (List UInt8)} (h:OwnS w base v l):Lst w v l:=by
 obtain⟨A,c,hv,hc,hx⟩:=Je3 h;refine⟨A,c,hv,⟨hc,?_⟩,fun h0=>?_⟩
 ·rintro rfl
  rcases h.2 with ⟨h0,_⟩ | ⟨g,cap,cur,h0,_⟩
  ·rw [hv] at h0;simp at h0;exact h0.2
  ·rw [hv] at h0;simp at h0
 obtain⟨g,hA,_,hg,hcell⟩:=hx h0;exact⟨g,0,hA,hg,hcell⟩
theorem Lst.below {w w':World} {v:Value} {l:List (List UInt8)} (h:Lst w v l) (hb:Below w.heap.size w w'):Lst w' v l:=by
 obtain⟨A,c,hv,hc,hx⟩:=h;refine⟨A,c,hv,hc,fun h0=>?_⟩;obtain⟨b,o,hA,hbl,hcell⟩:=hx h0;exact⟨b,o,hA,Nat.lt_of_lt_of_le hbl hb.size,fun j x hj=>(hb.cell (p:=⟨b,o+j,none⟩) hbl).trans (hcell j x hj)⟩
theorem J26 (l:List (List UInt8)) (k:Nat) (x:List UInt8) (h:l[k]?=some x):(sts l)[k]?=some (.string (str x)):=by
 unfold sts;rw [List.getElem?_map,h];rfl
abbrev ints (l:List Int):List Value:=l.map fun x=>Value.int .i64 x
theorem Jje:(prog.info? 3).map (fun i=>(i.zero,i.size,i.bytes))=some (some (.int .i64 0),1,8):=by kernel_rfl
def OwnI (w:World) (base:Nat) (v:Value) (l:List Int):Prop:=w.ownsRow base 3 1 v l.length (ints l)
def LstI (w:World) (v:Value) (ls:List Int):Prop:=∃A c,v=.slice A ls.length c∧ls.length≤c∧(A=none→c=0)∧(0<ls.length→∃b o,A=some ⟨b,o,none⟩∧b<w.heap.size∧∀(j:Nat) x,(ints ls)[j]?=some x→w.cell? ⟨b,o+j,none⟩=some x)
theorem Jy4 (l:List Int):∀u∈ints l,u.oneCell'=true:=by
 intro u hu;obtain⟨b,_,rfl⟩:=List.mem_map.1 hu;rfl
theorem Jtm (l:List Int) (k:Nat) (x:Int) (h:l[k]?=some x):(ints l)[k]?=some (.int .i64 x):=by
 unfold ints;rw [List.getElem?_map,h];rfl
theorem OwnI.lst {w:World} {base:Nat} {v:Value} {l:List Int} (h:OwnI w base v l):LstI w v l:=by
 obtain⟨A,c,hv,hc,hx⟩:=Je3 h;refine⟨A,c,hv,hc,?_,fun h0=>?_⟩
 ·rintro rfl
  rcases h.2 with ⟨h0,_⟩ | ⟨g,cap,cur,h0,_⟩
  ·rw [hv] at h0;simp at h0;exact h0.2
  ·rw [hv] at h0;simp at h0
 ·obtain⟨g,hA,_,hg,hcell⟩:=hx h0
  exact⟨g,0,hA,hg,hcell⟩
theorem LstI.nil (w:World):LstI w (.slice none 0 0) []:=⟨none,0,rfl,Nat.le_refl _,fun _=>rfl,fun h=>absurd h (Nat.lt_irrefl _)⟩
theorem OwnI.below {w w':World} {base:Nat} {v:Value} {l:List Int} (h:OwnI w base v l) (hb:Below w.heap.size w w'):OwnI w' base v l:=Jhg h hb
theorem Jd8 {P:Program} (w:World) (base:Nat) (t ty e:TypeId) (i:TypeInfo) (z:Value) (size bytes:Nat) (ht:P.underlying t=some (.slice e)) (hi:P.info? e=some i) (hz:i.zero=some z)
  (hsize:i.size=size) (hby:i.bytes=bytes) (hzs:z.cells.size=size) (hsz:0<size)
  (v:Value) (n:Nat) (xs:List Value) (hown:w.ownsRow base e size v n xs)
  (a:Addr) (m c:Nat) (news:List Value) (hl:news.length=m*size) (hnews:∀j u,news[j]?=some u→w.cell? (a.add j)=some u) (h1:∀u∈news,u.oneCell'=true)
  (h63:n+m≤maxLen) (hbytes:(n+m)*bytes≤140737488355328) (hbase:base≤w.heap.size) :
  ∃v' w',(Builtin.append_ #[t,t] ty #[v,.slice (some a) m c]).run P w=.ok v' w'∧w'.ownsRow base e size v' (n+m) (xs++news)∧w.grownBy w' v.ownBlock∧(∀g,v'.ownBlock=some g→v.ownBlock=some g∨g=w.heap.size):=by
 obtain⟨v',w',hr,h2,h3,h4⟩:=run_append_own (P:=P) w base t ty e i z size bytes ht hi hz hsize hby hzs hsz v n xs hown a m c news hl hnews h1 h63 hbytes hbase;refine⟨v',w',hr,h2,h3,?_⟩;have hsmall:n+m≤9223372036854775807:=by unfold maxLen at h63;omega
 rcases hown.2 with ⟨rfl,rfl⟩ | ⟨g,cap,cur,rfl,hbg,hg,hnc,hcm,hcs,htake⟩
 ·by_cases hm:m=0
  ·rw [h4.2 ⟨rfl,hm⟩]
   intro g hg;cases hg
  ·have hn:=run_append_nil (P:=P) w t ty e i z ht hi hz a m c news (by rw [hl,hsize]) hnews (by omega) (by omega) (by rw [hby];have hb:=hbytes;simp only [Nat.zero_add] at hb;omega)
   rw [hr] at hn;cases hn
   intro g hg;cases hg
   exact .inr rfl
 ·by_cases hroom:n+m≤cap
  ·have hfit:n*i.size+news.length≤cur.size:=by rw [hl,hcs,hsize,←Nat.add_mul];exact Nat.mul_le_mul_right _ hroom
   have hn:=run_append_room (P:=P) w t ty e i ht hi g n cap cur hg a m c news (by rw [hl,hsize]) hnews h1 hroom hfit;rw [hr] at hn;cases hn
   intro g' hg';exact .inl hg'
  ·have holds:∀j u,xs[j]?=some u→w.cell? ((⟨g,0,none⟩:Addr).add j)=some u:=hown.cells (g:=g) rfl
   have hn:=run_append_grow (P:=P) w t ty e i z ht hi hz ⟨g,0,none⟩ n cap xs (by rw [hown.1,hsize]) holds a m c news (by rw [hl,hsize]) hnews (by omega) (by omega) (growslice_fits (by omega) (by rw [hby];exact hbytes));rw [hr] at hn;cases hn
   intro g' hg';cases hg'
   exact .inr rfl
theorem Jew {P:Program} (w:World) {ops:Array Oper} {rest:List Oper} {o:Oper} {a:Act} {Q:Exit→Act→World→Prop} (hgd:o.guard=none) (s x:Operand) (t:TypeId)
  (ho:o.op=.call { callee:=.builtin .append,args:=#[s,x],argTypes:=#[t,t] })
  (base:Nat) (e:TypeId) (i:TypeInfo) (z:Value) (size bytes:Nat) (ht:P.underlying t=some (.slice e)) (hi:P.info? e=some i) (hz:i.zero=some z)
  (hsize:i.size=size) (hby:i.bytes=bytes) (hzs:z.cells.size=size) (hsz:0<size)
  (v:Value) (n:Nat) (xs:List Value) (hs:a.eval s=v) (hown:w.ownsRow base e size v n xs)
  (ad:Addr) (m c:Nat) (news:List Value) (hx:a.eval x=.slice (some ad) m c) (hl:news.length=m*size) (hnews:∀j u,news[j]?=some u→w.cell? (ad.add j)=some u) (h1:∀u∈news,u.oneCell'=true)
  (h63:n+m≤maxLen) (hbytes:(n+m)*bytes≤140737488355328) (hbase:base≤w.heap.size)
  (h:∀v' w',w'.ownsRow base e size v' (n+m) (xs++news)→w.grownBy w' v.ownBlock→(∀g,v'.ownBlock=some g→v.ownBlock=some g∨g=w.heap.size)→wpList P ops Q rest (a.put o.dst v') w'):wpList P ops Q (o::rest) a w :=
 wpList_plain hgd fun K hK=>by
  obtain⟨v',w',hr,h2,h3,h4⟩:=Jd8 (P:=P) w base t o.type e i z size bytes ht hi hz hsize hby hzs hsz v n xs hown ad m c news hl hnews h1 h63 hbytes hbase;unfold Oper.wp execOp;simp only [ho,resolve,invoke,builtin,Sem.run_bind,Sem.run_pure,Result.andThen_ok,List.map_toArray,List.map_cons,List.map_nil,hs,hx,hr];exact hK _ _ (h v' w' h2 h3 h4)
section
variable {α:Type} (enc:α→List Value) (k:Nat)
def fl (l:List α):List Value:=l.flatMap enc
theorem Jfy (a:α) (l:List α):fl enc (a::l)=enc a++fl enc l:=by unfold fl;rw [List.flatMap_cons]
theorem Jow (l m:List α):fl enc (l++m)=fl enc l++fl enc m:=by unfold fl;rw [List.flatMap_append]
theorem Jox (a:α):fl enc [a]=enc a:=by rw [Jfy];show enc a++[]=_;rw [List.append_nil]
variable {enc} {k}
theorem Joy (hk:∀a,(enc a).length=k) (l:List α):(fl enc l).length=l.length*k:=by
 induction l with
 | nil=>show 0=_;simp
 | cons a r ih=>rw [Jfy,List.length_append,hk,ih,List.length_cons,Nat.add_mul];omega
theorem Jbl (hk:∀a,(enc a).length=k) {l:List α} {i:Nat} {a:α} (h:l[i]?=some a) (j:Nat) (hj:j<k):(fl enc l)[i*k+j]?=(enc a)[j]?:=by
 induction l generalizing i with
 | nil=>simp at h
 | cons b r ih =>
  rw [Jfy];cases i with
  | zero =>
   simp at h;subst h;rw [Nat.zero_mul,Nat.zero_add,List.getElem?_append_left (by rw [hk];exact hj)]
  | succ i =>
   simp at h;rw [List.getElem?_append_right (by rw [hk,Nat.add_mul];omega),hk,←ih h];congr 1
   rw [Nat.add_mul];omega
theorem J4w (hk:∀a,(enc a).length=k) (l:List α) (n:Nat):(fl enc l).take (n*k)=fl enc (l.take n):=by
 induction l generalizing n with
 | nil=>simp [fl]
 | cons a r ih =>
  cases n with
  | zero=>simp [fl]
  | succ n =>
   rw [Jfy,List.take_succ_cons,Jfy,List.take_append,hk];rw [List.take_of_length_le (by rw [hk,Nat.add_mul];omega),show (n+1)*k - k=n*k by rw [Nat.add_mul];omega,ih]
def OwnG (enc:α→List Value) (T:TypeId) (k:Nat) (w:World) (base:Nat) (v:Value) (l:List α):Prop:=w.ownsRow base T k v l.length (fl enc l)
def LstG (enc:α→List Value) (w:World) (v:Value) (l:List α):Prop:=∃A c,v=.slice A l.length c∧l.length≤c∧(A=none→c=0)∧(0<l.length→∃b o,A=some ⟨b,o,none⟩∧b<w.heap.size∧∀(j:Nat) x,(fl enc l)[j]?=some x→w.cell? ⟨b,o+j,none⟩=some x)
variable {T:TypeId}
theorem LstG.nil (enc:α→List Value) (w:World):LstG enc w (.slice none 0 0) []:=⟨none,0,rfl,Nat.le_refl _,fun _=>rfl,fun h=>absurd h (Nat.lt_irrefl _)⟩
theorem Jbf {w:World} {base:Nat} {v:Value} {n:Nat} {xs:List Value} (h:w.ownsRow base T k v n xs):∃A c,v=.slice A n c∧n≤c∧(A=none→c=0)∧(0<n→∃g,A=some ⟨g,0,none⟩∧base≤g∧g<w.heap.size∧∀j u,xs[j]?=some u→w.cell? ⟨g,0+j,none⟩=some u):=by
 rcases h.2 with ⟨rfl,rfl⟩ | ⟨g,cap,cur,rfl,hb,hg,hn,_,_,ht⟩
 ·exact⟨none,0,rfl,Nat.le_refl _,fun _=>rfl,fun h=>absurd h (Nat.lt_irrefl _)⟩
 ·refine⟨some ⟨g,0,none⟩,cap,rfl,hn,(fun h=>by cases h),fun _=>⟨g,rfl,hb,?_,?_⟩⟩
  ·rcases Nat.lt_or_ge g w.heap.size with h | h
   ·exact h
   ·rw [Array.getElem?_eq_none h] at hg;cases hg
  ·intro j u hu
   rw [Nat.zero_add,cell_of_row w g j cur T (0,0) hg];rw [←ht,List.getElem?_take] at hu;split at hu
   ·rw [←hu];simp
   ·cases hu
theorem OwnG.lst {w:World} {base:Nat} {v:Value} {l:List α} (h:OwnG enc T k w base v l):LstG enc w v l:=by
 obtain⟨A,c,hv,hc,hn,hx⟩:=Jbf h;refine⟨A,c,hv,hc,hn,fun h0=>?_⟩;obtain⟨g,hA,_,hg,hcell⟩:=hx h0;exact⟨g,0,hA,hg,hcell⟩
theorem LstG.below {w w':World} {v:Value} {l:List α} (h:LstG enc w v l) (hb:Below w.heap.size w w'):LstG enc w' v l:=by
 obtain⟨A,c,hv,hc,hn,hx⟩:=h;refine⟨A,c,hv,hc,hn,fun h0=>?_⟩;obtain⟨b,o,hA,hbl,hcell⟩:=hx h0;exact⟨b,o,hA,Nat.lt_of_lt_of_le hbl hb.size,fun j x hj=>(hb.cell (p:=⟨b,o+j,none⟩) hbl).trans (hcell j x hj)⟩
theorem Jfz {w w':World} {base:Nat} {v:Value} {n:Nat} {xs:List Value} (h:w.ownsRow base T k v n xs) (hb:Below w.heap.size w w'):w'.ownsRow base T k v n xs:=by
 refine⟨h.1,?_⟩;rcases h.2 with h0 | ⟨g,cap,cur,hv,hbg,hg,hr⟩
 ·exact Or.inl h0
 ·have hlt:g<w.heap.size:=by
   rcases Nat.lt_or_ge g w.heap.size with h | h
   ·exact h
   ·rw [Array.getElem?_eq_none h] at hg;cases hg
  exact Or.inr ⟨g,cap,cur,hv,hbg,(hb.block g hlt).trans hg,hr⟩
end
theorem J4x {n:Int} (h:(Lit.int .i64 n).wf=true):n≤9223372036854775807:=by
 unfold Lit.wf at h;rw [Bool.and_eq_true,decide_eq_true_eq,decide_eq_true_eq] at h;exact h.2
theorem J4y {n:Int} (h:(Lit.int .i64 n).wf=true):-9223372036854775808≤n:=by
 unfold Lit.wf at h;rw [Bool.and_eq_true,decide_eq_true_eq,decide_eq_true_eq] at h;exact h.1
open Go.ChangeShapes Go.WideShapes
section
variable {α:Type} {enc:α→List Value} {k:Nat}
theorem J4z (hk:∀a,(enc a).length=k) (l:List α) (n:Nat):(fl enc l).drop (n*k)=fl enc (l.drop n):=by
 induction l generalizing n with
 | nil=>simp [fl]
 | cons a r ih =>
  cases n with
  | zero=>simp
  | succ n =>
   rw [Jfy,List.drop_succ_cons,←ih,List.drop_append,List.drop_of_length_le (by rw [hk,Nat.add_mul];omega),hk,show (n+1)*k - k=n*k by rw [Nat.add_mul];omega];rfl
theorem LstG.part (hk:∀a,(enc a).length=k) {w:World} {A:Option Addr} {c:Nat} {l:List α} (h:LstG enc w (.slice A l.length c) l) (i j m:Nat) (hi:i≤j) (hj:j≤l.length) (hm:j≤m) (hmc:m≤c) :
  LstG enc w (sliced A i j m k) ((l.drop i).take (j - i)):=by
 obtain⟨A',c',hv,hc,hn,hx⟩:=h;cases hv
 have hl:((l.drop i).take (j - i)).length=j - i:=by rw [List.length_take,List.length_drop];omega
 refine⟨if m=i then A else A.map (·.add (i*k)),m - i,by unfold sliced;rw [hl],by omega,fun h0=>?_,fun h0=>?_⟩
 ·by_cases e:m=i
  ·omega
  ·rw [if_neg e] at h0
   cases A with
   | none=>have:=hn rfl;omega
   | some a=>cases h0
 ·rw [hl] at h0
  obtain⟨b,o,rfl,hb,hcell⟩:=hx (by omega);have hadd:(⟨b,o,none⟩:Addr).add (i*k)=⟨b,o+i*k,none⟩:=by unfold Addr.add;split <;> simp_all
  refine⟨b,o+i*k,by rw [if_neg (by omega)];simp only [Option.map_some,hadd],hb,fun t x ht=>?_⟩;rw [←J4w hk,←J4z hk,List.getElem?_take] at ht;split at ht
  ·rw [List.getElem?_drop] at ht
   rw [Nat.add_assoc];exact hcell _ x ht
  ·cases ht
variable {T:TypeId}
end
open Go.RowKit Go.Maps
abbrev Dm:=DataW Unit
theorem Jf0:Keyed prog 9:=string_keyed underlying9
theorem Jy5 (w:World):(zeroValue 3).run prog w=.ok (.int .i64 0) w:=by kernel_rfl
theorem Je6 (w:World):(zeroValue 4).run prog w=.ok (.bool false) w:=by kernel_rfl
theorem Jif (s:ByteArray) (h:s.size≤4611686018427387904):keyOf prog 9 (.string s)=some (.string s.data.toList):=Go.WideMaps.keyOf_string_mk underlying9 (by unfold maxLen;omega)
theorem Jkx {w w':World} (hb:Below w.heap.size w w'):w.grownBy w' none:=⟨hb.os,hb.tape,hb.output,hb.size,fun k hk _=>hb.block k hk⟩
def MapB (w:World) (b:Nat) (ls:List (List UInt8)):Prop:=∃D:Dm,w.ownsMap prog 9 (plainElem prog 4) b ls.length D∧IsMap D∧(∀x,has D (.string x)=decide (x∈ls))∧∀x z,x∈ls→D.atKey (.string x) z=.lit (.bool true)
theorem MapB.made (w:World):MapB (w.alloc (.map #[] 0)) w.heap.size []:=⟨.map [],World.ownsMap_made _ _ _ _,isMap_empty,fun x=>by simp [has_eq],fun x z h=>by simp at h⟩
theorem MapB.below {w w':World} {b:Nat} {ls:List (List UInt8)} (h:MapB w b ls) (hb:Below w.heap.size w w'):MapB w' b ls:=by
 obtain⟨D,h1,h2⟩:=h;exact⟨D,h1.kept (Jkx hb) (by simp),h2⟩
theorem Jer {v:Value} {z:Dm×List MemPlace} (h:plainElem prog 4 v=some z):∃x,v=.bool x∧z=(.lit (.bool x),[]):=by
 unfold plainElem at h;rw [underlying4] at h;cases v <;> simp at h
 exact⟨_,rfl,h.symm⟩
theorem MapB.look {w:World} {b:Nat} {ls:List (List UInt8)} (h:MapB w b ls) (s:ByteArray) (x:List UInt8) (hx:s.data.toList=x) (hs:s.size≤4611686018427387904) :
  (Instr.lookup 191 (.map (some b)) (.string s) false).run prog w=.ok (.bool (decide (x∈ls))) w:=by
 subst hx;obtain⟨D,h1,h2,h3,h4⟩:=h;obtain⟨v,ps,hrun,hv⟩:=h1.lookup Jf0 underlying191 (Je6 w) (plainElem_bool underlying4 false) (Jif s hs);obtain⟨c,rfl,hc⟩:=Jer hv;have hc:=congrArg Prod.fst hc;rw [hrun];have:c=decide (s.data.toList∈ls):=by
  by_cases hm:s.data.toList∈ls
  ·rw [h4 _ _ hm] at hc
   simp at hc;simp [hm,←hc]
  ·rw [atKey_of_not_has (by rw [h3];exact decide_eq_false hm)] at hc
   simp at hc;simp [hm,←hc]
 rw [this]
theorem Je7 (w:World) {ops:Array Oper} {rest:List Oper} {o:Oper} {a:Act} {Q:Exit→Act→World→Prop} (hgd:o.guard=none) (m x v:Operand) (ho:o.op=Op.mapUpdate 191 m x v)
  (b:Nat) (ls:List (List UInt8)) (hm:a.eval m=.map (some b)) (hown:MapB w b ls) (s:ByteArray) (y:List UInt8) (hy:s.data.toList=y) (hs:s.size≤4611686018427387904) (hx:a.eval x=.string s) (hv:a.eval v=.bool true)
  (hl:ls.length<1099511627776) (h:∀w',MapB w' b (ls++[y])→w.grownBy w' (some b)→wpList prog ops Q rest (a.put o.dst undef) w'):wpList prog ops Q (o::rest) a w:=by
 subst hy;obtain⟨D,h1,h2,h3,h4⟩:=hown;refine wpList_mapUpdate_own w hgd m x v 191 ho 9 4 Jf0 underlying191 _ b ls.length D hm h1 (by unfold maxLen;omega) _ _ _ hx hv (Jif s hs) _ [] (plainElem_bool underlying4 true) ?_;intro w' g1 g2;refine h w' ⟨_,by rw [List.length_append];exact g1,h2.put _ _,fun x=>?_,fun x z hi=>?_⟩ g2
 ·by_cases hx:x=s.data.toList
  ·subst hx
   rw [has_put_same h2 (by simp [WideAt.IsKeyLit])];simp
  ·rw [has_put_other (by simpa using hx),h3]
   simp [hx]
 ·by_cases hx:x=s.data.toList
  ·subst hx
   rw [atKey_put_same h2 (by simp [WideAt.IsKeyLit])]
  ·rw [atKey_put_other (by simpa using hx)]
   exact h4 x z (by simpa [hx] using hi)
def lttI (n:Int):Bool:=decide ((65≤n∧n≤90)∨(97≤n∧n≤122))
def digI (n:Int):Bool:=decide (48≤n∧n≤57)
def sgnI (n:Int):Bool:=decide (n=45∨n=95∨n=46)
theorem J40 (c:UInt8):idB c=(lttI c.toNat || digI c.toNat || sgnI c.toNat):=by
 rw [Bool.eq_iff_iff];unfold idB lttI digI sgnI;simp only [Bool.or_eq_true,decide_eq_true_iff];omega
theorem Jq6 (n:Int) (w:World):Calls prog 259 #[.int .u8 n] w fun e w'=>e=.returned (.bool (lttI n))∧w=w':=by
 have hw:n≤64∨(65≤n∧n≤90)∨(91≤n∧n≤96)∨(97≤n∧n≤122)∨123≤n:=by omega
 rcases hw with h | h | h | h | h
 ·have R:Hid (lttI n=false):=by show _=_;unfold lttI;simp;omega
  have g0:decide ((65:Int)≤n)=false:=by simp;omega
  have g1:n≤90:=by omega
  have g2:decide ((97:Int)≤n)=false:=by simp;omega
  have g3:n≤122:=by omega
  clear h;go_enter func259,ntmps259
  go_wp2_with fail
  go_ret;exact⟨Jaa R.out.symm,rfl⟩
 ·have R:Hid (lttI n=true):=by show _=_;unfold lttI;simp;omega
  have g0:(65:Int)≤n:=by omega
  have g1:n≤90:=by omega
  have g2:decide ((97:Int)≤n)=false:=by simp;omega
  have g3:n≤122:=by omega
  clear h;go_enter func259,ntmps259
  go_wp2_with fail
  go_ret;exact⟨Jaa R.out.symm,rfl⟩
 ·have R:Hid (lttI n=false):=by show _=_;unfold lttI;simp;omega
  have g0:(65:Int)≤n:=by omega
  have g1:decide (n≤90)=false:=by simp;omega
  have g2:decide ((97:Int)≤n)=false:=by simp;omega
  have g3:n≤122:=by omega
  clear h;go_enter func259,ntmps259
  go_wp2_with fail
  go_ret;exact⟨Jaa R.out.symm,rfl⟩
 ·have R:Hid (lttI n=true):=by show _=_;unfold lttI;simp;omega
  have g0:(65:Int)≤n:=by omega
  have g1:decide (n≤90)=false:=by simp;omega
  have g2:(97:Int)≤n:=by omega
  have g3:n≤122:=by omega
  clear h;go_enter func259,ntmps259
  go_wp2_with fail
  go_ret;exact⟨Jaa R.out.symm,rfl⟩
 ·have R:Hid (lttI n=false):=by show _=_;unfold lttI;simp;omega
  have g0:(65:Int)≤n:=by omega
  have g1:decide (n≤90)=false:=by simp;omega
  have g2:(97:Int)≤n:=by omega
  have g3:decide (n≤122)=false:=by simp;omega
  clear h;go_enter func259,ntmps259
  go_wp2_with fail
  go_ret;exact⟨Jaa R.out.symm,rfl⟩
theorem Jtn (n:Int) (w:World):Calls prog 260 #[.int .u8 n] w fun e w'=>e=.returned (.bool (digI n))∧w=w':=by
 have hw:n≤47∨(48≤n∧n≤57)∨58≤n:=by omega
 rcases hw with h | h | h
 ·have R:Hid (digI n=false):=by show _=_;unfold digI;simp;omega
  have g0:decide ((48:Int)≤n)=false:=by simp;omega
  have g1:n≤57:=by omega
  clear h;go_enter func260,ntmps260
  go_wp2_with fail
  go_ret;exact⟨Jaa R.out.symm,rfl⟩
 ·have R:Hid (digI n=true):=by show _=_;unfold digI;simp;omega
  have g0:(48:Int)≤n:=by omega
  have g1:n≤57:=by omega
  clear h;go_enter func260,ntmps260
  go_wp2_with fail
  go_ret;exact⟨Jaa R.out.symm,rfl⟩
 ·have R:Hid (digI n=false):=by show _=_;unfold digI;simp;omega
  have g0:(48:Int)≤n:=by omega
  have g1:decide (n≤57)=false:=by simp;omega
  clear h;go_enter func260,ntmps260
  go_wp2_with fail
  go_ret;exact⟨Jaa R.out.symm,rfl⟩
theorem Jy6 (n:Int) (w:World):Calls prog 261 #[.int .u8 n] w fun e w'=>e=.returned (.bool (sgnI n))∧w=w':=by
 by_cases h:n=45∨n=95∨n=46
 ·have R:Hid (sgnI n=true):=by show _=_;unfold sgnI;simpa using h
  rcases h with rfl | rfl | rfl
  all_goals
   go_enter func261,ntmps261
   go_wp2_with fail
   go_ret;exact⟨Jaa R.out.symm,rfl⟩
 ·have R:Hid (sgnI n=false):=by show _=_;unfold sgnI;simpa using h
  have q1:(n==45)=false:=Jac (by omega);have q2:(n==95)=false:=Jac (by omega);have q3:(n==46)=false:=Jac (by omega);clear h;go_enter func261,ntmps261
  go_wp2_with fail
  go_ret;exact⟨Jaa R.out.symm,rfl⟩
theorem Jm3 (s:ByteArray) (h:s.size=0):Jak s.data.toList=false:=by
 unfold Jak;rw [Ja0,h];rfl
theorem Jdk (s:ByteArray) (h:32<s.size):Jak s.data.toList=false:=by
 unfold Jak;rw [Ja0,decide_eq_false (show ¬s.size≤32 by omega),Bool.and_false,Bool.false_and]
theorem Jto (s:ByteArray) (h1:1≤s.size) (h2:s.size≤32):Jak s.data.toList=s.data.toList.all idB:=by
 unfold Jak;rw [Ja0,decide_eq_true h1,decide_eq_true h2,Bool.true_and,Bool.true_and]
theorem Je8 (s:ByteArray) (hs:s.size≤1099511627776) (w:World):Calls prog 193 #[.string s] w fun e w'=>e=.returned (.bool (Jak s.data.toList))∧w=w':=by
 have hem:=Jbd s;by_cases h0:s.size=0
 ·have e:=Jm3 s h0
  have he:s.toList.isEmpty=true:=by rw [hem];simpa using h0
  clear hem h0;rw [e];go_enter func193,ntmps193
  go_wp2_with fail
  go_ret;exact⟨rfl,rfl⟩
 have he:s.toList.isEmpty=false:=by rw [hem];simpa using h0
 by_cases h3:32<s.size
 ·have e:=Jdk s h3
  have g:(32:Int)<(s.size:Int):=by omega
  clear hem h0 h3;rw [e];go_enter func193,ntmps193
  go_wp2_with fail
  go_ret;exact⟨rfl,rfl⟩
 have g:decide ((32:Int)<(s.size:Int))=false:=by simp;omega
 rw [Jto s (by omega) (by omega)];obtain⟨r,hr⟩:∃r,s.data.toList.all idB=r:=⟨_,rfl⟩;rw [hr];have HR:=Lib.hid hr;clear hr;clear hem h0 h3;go_enter func193,ntmps193
 go_wp2_with fail
 go_loop [13] (fun i=>∃k:Nat,i=.int .i64 k∧k≤s.size∧Hid ((s.data.toList.take k).all idB=true)) (fun i=>s.size - (intOf i).toNat)
 case atStart=>exact⟨0,rfl,Nat.zero_le _,Lib.hid rfl⟩
 case round =>
  clear he g;obtain⟨k,rfl,hk,ht⟩:=hrel;by_cases hlt:k<s.size
  ·obtain⟨c,hc⟩:=Jea s k hlt
   have k1:=fun W=>Jbo s k c hc k rfl W
   have hid:=J40 c;generalize hn:(c.toNat:Int)=n at k1 hid;have A:=Lib.hid (fun W=>Jq6 n W);have B:=Lib.hid (fun W=>Jtn n W);have C:=Lib.hid (fun W=>Jy6 n W);generalize lttI n=a at A hid;generalize digI n=b at B hid;generalize sgnI n=d at C hid;clear hn;have hways:(a=true)∨(a=false∧b=true)∨(a=false∧b=false∧d=true)∨(a=false∧b=false∧d=false):=by cases a <;> cases b <;> cases d <;> simp
   rcases hways with rfl | ⟨rfl,rfl⟩ | ⟨rfl,rfl,rfl⟩ | ⟨rfl,rfl,rfl⟩
   ·have T:=Lib.hid (Jgv idB _ k c hc ht.out (by rw [hid];rfl))
    clear hc hid ht B C;go_wp2_with fail
    refine (A.out _).mono ?_;rintro e w' ⟨rfl,rfl⟩;go_wp2_with fail
    go_round
    case rel=>exact⟨k+1,by go_num,by omega,T⟩
    case measure=>simp [intOf];omega
   ·have T:=Lib.hid (Jgv idB _ k c hc ht.out (by rw [hid];rfl))
    clear hc hid ht C;go_wp2_with fail
    refine (A.out _).mono ?_;rintro e w' ⟨rfl,rfl⟩;go_wp2_with fail
    refine (B.out _).mono ?_;rintro e w' ⟨rfl,rfl⟩;go_wp2_with fail
    go_round
    case rel=>exact⟨k+1,by go_num,by omega,T⟩
    case measure=>simp [intOf];omega
   ·have T:=Lib.hid (Jgv idB _ k c hc ht.out (by rw [hid];rfl))
    clear hc hid ht;go_wp2_with fail
    refine (A.out _).mono ?_;rintro e w' ⟨rfl,rfl⟩;go_wp2_with fail
    refine (B.out _).mono ?_;rintro e w' ⟨rfl,rfl⟩;go_wp2_with fail
    refine (C.out _).mono ?_;rintro e w' ⟨rfl,rfl⟩;go_wp2_with fail
    go_round
    case rel=>exact⟨k+1,by go_num,by omega,T⟩
    case measure=>simp [intOf];omega
   ·have T:=Lib.hid (Jov (p:=idB) hc (by rw [hid];rfl))
    clear hc hid ht;go_wp2_with fail
    refine (A.out _).mono ?_;rintro e w' ⟨rfl,rfl⟩;go_wp2_with fail
    refine (B.out _).mono ?_;rintro e w' ⟨rfl,rfl⟩;go_wp2_with fail
    refine (C.out _).mono ?_;rintro e w' ⟨rfl,rfl⟩;go_wp2_with fail
    go_ret;exact⟨Jaa (by rw [←HR.out,T.out]),rfl⟩
  ·have R:Hid (r=true):=by
    show _=_
    rw [←HR.out];have:=ht.out;rw [List.take_of_length_le (by rw [Ja0];omega)] at this;exact this
   have d:decide (k<s.size)=false:=by rw [decide_eq_false_iff_not];exact hlt
   clear hlt ht;go_wp2_with fail
   go_ret;exact⟨Jaa R.out.symm,rfl⟩
end
end Go.Proofs.YtpifdbphmnifdaaGreatDoor
