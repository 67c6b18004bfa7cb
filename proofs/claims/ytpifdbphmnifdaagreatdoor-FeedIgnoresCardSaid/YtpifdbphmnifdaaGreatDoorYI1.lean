/-
  Facts of the proof. Condition: each theorem's own.
-/
import Derived.Laws.Bits64b
import Derived.Laws.BitsAllLaws
import Derived.Laws.ShiftsVarLaws
import Derived.Lib.TrailingZeros
import Derived.IntWalk
import Derived.Deep.Slices
import Derived.ChangeSame
import Derived.Deep.Strs
import Derived.Lib.SmallJoins
import Derived.Test.YtpifdbphmnifdaaGreatDoorYI0
set_option maxRecDepth 100000
set_option maxHeartbeats 8000000
open Go.Proofs.Tryz
namespace Go.Proofs.YtpifdbphmnifdaaGreatDoor
section
open Go.RowKit
theorem Jq7 {a b:Int} (h:a=b):Ending.returned (.int .u64 a)=.returned (.int .u64 b):=by rw [h]
theorem Joz (k:Nat):(2:Int) ^ k=((2 ^ k:Nat):Int):=by simp
def lowN (i:Int):Nat:=2 ^ (min (max i 0) 64).toNat - 1
def Je9 (s t:Nat):Nat:=s &&& (18446744073709551615 - t)
def hasB (s:Nat) (i:Int):Bool:=decide (0≤i∧i<64)&&s.testBit i.toNat
theorem Jo0 (i:Int):W64 (lowN i):=by
 unfold lowN;have h:2 ^ (min (max i 0) 64).toNat≤2 ^ 64:=Nat.pow_le_pow_right (by decide) (by omega);have:=Nat.two_pow_pos (min (max i 0) 64).toNat;unfold W64;omega
theorem J41 (s t:Nat):Je9 s t≤s:=Nat.and_le_left
theorem Jtp (i:Int) (j:Nat) (hj:j<64):(lowN i).testBit j=decide ((j:Int)<i):=by
 unfold lowN;rw [Nat.testBit_two_pow_sub_one,Bool.eq_iff_iff,decide_eq_true_iff,decide_eq_true_iff];omega
theorem Jjf (s t:Nat) (ht:W64 t) (j:Nat) (hj:j<64):(Je9 s t).testBit j=(s.testBit j&&!t.testBit j):=by
 unfold Je9;rw [Nat.testBit_and,show 18446744073709551615 - t=2 ^ 64 - (t+1) by omega,Nat.testBit_two_pow_sub_succ (by unfold W64 at ht;omega)];simp [hj]
theorem Jtq {s t:Nat} (hs:W64 s):W64 (Je9 s t):=Nat.lt_of_le_of_lt (J41 s t) hs
theorem J42 (s:Nat) (i:Int):decide (s &&& one i=0)=!hasB s i:=by
 unfold one hasB;split
 ·next h =>
  rw [nat_bit];have hb:=Jmy s i.toNat;have hp:=Nat.two_pow_pos i.toNat;cases ht:s.testBit i.toNat with
  | true =>
   rw [hb.2 ht,Nat.one_mul];simp [h]
  | false =>
   have h0:s / 2 ^ i.toNat % 2=0:=by
    rw [ht] at hb;simp at hb;omega
   rw [h0];simp
 ·next h=>simp [h]
theorem Jky (s t:Nat) (hs:W64 s) (ht:W64 t) (w:World):Calls prog 304 #[.int .u64 (s:Int),.int .u64 (t:Int)] w fun e w'=>e=.returned (.int .u64 ((Je9 s t:Nat):Int))∧w=w':=by
 have e:=u64_andNot_nat s t hs ht;change _=((Je9 s t:Nat):Int) at e;go_enter func304,ntmps304
 go_wp2_with fail
 go_ret;exact⟨rfl,rfl⟩
theorem Jci (s t:Nat) (hs:W64 s) (ht:W64 t) (w:World):Calls prog 226 #[.int .u64 (s:Int),.int .u64 (t:Int)] w fun e w'=>e=.returned (.bool (decide (Je9 s t=0)))∧w=w':=by
 have M:=Lib.hid (fun W=>Jky s t hs ht W);generalize Je9 s t=r at M ⊢;go_enter func226,ntmps226
 go_wp2_with fail
 refine (M.out _).mono ?_;rintro e w' ⟨rfl,rfl⟩;go_wp2_with fail
 go_ret;exact⟨Jaa (by rw [Bool.eq_iff_iff];simp),rfl⟩
theorem Jig (i:Int) (w:World):Calls prog 295 #[.int .i64 i] w fun e w'=>e=.returned (.int .u64 ((one i:Nat):Int))∧w=w':=by
 by_cases h1:i<0
 ·have H:=Lib.hid (show one i=0 by unfold one;rw [if_neg (by omega)])
  go_enter func295,ntmps295
  go_wp2_with fail
  go_ret;exact⟨Jq7 (by rw [H.out];rfl),rfl⟩
 ·have h1':decide (i<0)=false:=decide_eq_false h1
  by_cases h2:64≤i
  ·have H:=Lib.hid (show one i=0 by unfold one;rw [if_neg (by omega)])
   clear h1;go_enter func295,ntmps295
   go_wp2_with fail
   go_ret;exact⟨Jq7 (by rw [H.out];rfl),rfl⟩
  ·have h2':decide (64≤i)=false:=decide_eq_false h2
   have H:=Lib.hid (show IntKind.u64.wrap (2 ^ i.toNat)=((one i:Nat):Int) by
    have hp:2 ^ i.toNat<18446744073709551616:=Jgw (by omega);unfold one;rw [if_pos (by omega),IntKind.wrap_u64,Joz];exact Int.emod_eq_of_lt (Int.natCast_nonneg _) (by omega))
   go_enter func295,ntmps295
   go_wp2_with fail
   go_ret;exact⟨Jq7 H.out,rfl⟩
theorem Jkz (i:Int) (w:World):Calls prog 357 #[.int .i64 i] w fun e w'=>e=.returned (.int .u64 ((lowN i:Nat):Int))∧w=w':=by
 by_cases h1:i<0
 ·have H:=Lib.hid (show lowN i=0 by unfold lowN;rw [show (min (max i 0) 64).toNat=0 by omega])
  go_enter func357,ntmps357
  go_wp2_with fail
  go_ret;exact⟨Jq7 (by rw [H.out];rfl),rfl⟩
 ·have h1':decide (i<0)=false:=decide_eq_false h1
  by_cases h2:64≤i
  ·have H:=Lib.hid (show lowN i=18446744073709551615 by unfold lowN;rw [show (min (max i 0) 64).toNat=64 by omega])
   go_enter func357,ntmps357
   go_wp2_with fail
   go_ret;exact⟨Jq7 (by rw [H.out];rfl),rfl⟩
  ·have h2':decide (64≤i)=false:=decide_eq_false h2
   have H:=Lib.hid (show IntKind.u64.wrap (IntKind.u64.wrap (2 ^ i.toNat) - 1)=((lowN i:Nat):Int) by
    have hp:2 ^ i.toNat<18446744073709551616:=Jgw (by omega);have h0:=Nat.two_pow_pos i.toNat;unfold lowN;rw [show (min (max i 0) 64).toNat=i.toNat by omega,IntKind.wrap_u64,IntKind.wrap_u64,Joz];generalize 2 ^ i.toNat=p at hp h0;omega)
   go_enter func357,ntmps357
   go_wp2_with fail
   go_ret;exact⟨Jq7 H.out,rfl⟩
theorem J43 (s:Nat) (hs:W64 s) (i:Int) (w:World):Calls prog 221 #[.int .u64 (s:Int),.int .i64 i] w fun e w'=>e=.returned (.bool (hasB s i))∧w=w':=by
 have e:=bits_and_u64_nat s (one i) hs (J24 i);have M:=Lib.hid (fun W=>Jig i W);have R:=Lib.hid (J42 s i);generalize s &&& one i=r at e R;generalize one i=x at e M;go_enter func221,ntmps221
 go_wp2_with fail
 refine (M.out _).mono ?_;rintro e w' ⟨rfl,rfl⟩;go_wp2_with fail
 go_ret;exact⟨Jaa (by have:=R.out;rw [Bool.eq_iff_iff] at this ⊢;simp at this ⊢;rw [this];simp),rfl⟩
theorem Jo1 (s:Nat) (hs:W64 s) (i:Int) (w:World):Calls prog 330 #[.int .u64 (s:Int),.int .i64 i] w fun e w'=>e=.returned (.int .u64 ((s ||| one i:Nat):Int))∧w=w':=by
 have e:=bits_or_u64_nat s (one i) hs (J24 i);have M:=Lib.hid (fun W=>Jig i W);generalize s ||| one i=r at e ⊢
 generalize one i=x at e M;go_enter func330,ntmps330
 go_wp2_with fail
 refine (M.out _).mono ?_;rintro e w' ⟨rfl,rfl⟩;go_wp2_with fail
 go_ret;exact⟨rfl,rfl⟩
theorem Jfa (i j:Int) (w:World):Calls prog 329 #[.int .i64 i,.int .i64 j] w fun e w'=>e=.returned (.int .u64 ((Je9 (lowN j) (lowN i):Nat):Int))∧w=w':=by
 have A:=Lib.hid (fun W=>Jkz j W);have B:=Lib.hid (fun W=>Jkz i W);have M:=Lib.hid (fun W=>Jky (lowN j) (lowN i) (Jo0 j) (Jo0 i) W);generalize Je9 (lowN j) (lowN i)=r at M ⊢;generalize lowN j=x at A M;generalize lowN i=y at B M;go_enter func329,ntmps329
 go_wp2_with fail
 refine (A.out _).mono ?_;rintro e w' ⟨rfl,rfl⟩;go_wp2_with fail
 refine (B.out _).mono ?_;rintro e w' ⟨rfl,rfl⟩;go_wp2_with fail
 refine (M.out _).mono ?_;rintro e w' ⟨rfl,rfl⟩;go_wp2_with fail
 go_ret;exact⟨rfl,rfl⟩
theorem Jah {w wr:World} (h:∃n,wr=w.drewN n):Below w.heap.size w wr:=by
 obtain⟨n,rfl⟩:=h;exact Jaj (Below.refl _ _) n
theorem Ja4 {w wr:World} (h:Hid (∃n,wr=w.drewN n)) (m:Nat):Hid (∃n,wr.drewN m=w.drewN n):=by
 obtain⟨n,rfl⟩:=h.out;exact Lib.hid ⟨n+m,World.drewN_drewN _ _ _⟩
open Go
section
variable {κ α:Type}
def fbF (bad:List κ→α→Int) (key:α→κ) (seen:List κ) (k:Nat):List α→Int×Int
 | []=>(0,0)
 | x::r=>if bad seen x=0 then fbF bad key (seen++[key x]) (k+1) r else ((k:Int),bad seen x)
variable {bad:List κ→α→Int} {key:α→κ}
theorem Jdy {l:List α} {k:Nat} {x:α} (h:l[k]?=some x):(l.take (k+1)).map key=(l.take k).map key++[key x]:=by
 rw [Jb0 l k x h,List.map_append];rfl
theorem Jdz {l:List α} {k:Nat} {x:α} {q:Int×Int} (hr:q=fbF bad key ((l.take k).map key) k (l.drop k)) (h:l[k]?=some x) (hb:bad ((l.take k).map key) x=0):q=fbF bad key ((l.take (k+1)).map key) (k+1) (l.drop (k+1)):=by
 rw [hr,Jbc l k x h,Jdy h];conv=>lhs;unfold fbF
 rw [if_pos hb]
theorem Ja7 {l:List α} {k:Nat} {x:α} {q:Int×Int} (hr:q=fbF bad key ((l.take k).map key) k (l.drop k)) (h:l[k]?=some x) {e:Int} (hb:bad ((l.take k).map key) x=e) (he:e≠0):q=((k:Int),e):=by
 rw [hr,Jbc l k x h];unfold fbF;rw [if_neg (by rw [hb];exact he),hb]
theorem Jd0 {l:List α} {k:Nat} {q:Int×Int} (hr:q=fbF bad key ((l.take k).map key) k (l.drop k)) (h:l.length≤k):q=(0,0):=by
 rw [hr,List.drop_of_length_le h];rfl
end
section
variable {α:Type}
def fdF (p:α→Bool) (k:Nat):List α→Int
 | []=>-1
 | x::r=>if p x then (k:Int) else fdF p (k+1) r
def fdT (p:α→Bool) (l:List α):Int:=fdF p 0 l
variable {p:α→Bool}
theorem Jk0 {q:Int} {l:List α} {k:Nat} {x:α} (hr:q=fdF p k (l.drop k)) (h:l[k]?=some x) (hp:p x=true):q=(k:Int):=by
 rw [hr,Jbc l k x h];unfold fdF;rw [if_pos hp]
theorem Jhi {q:Int} {l:List α} {k:Nat} {x:α} (hr:q=fdF p k (l.drop k)) (h:l[k]?=some x) (hp:p x=false):q=fdF p (k+1) (l.drop (k+1)):=by
 rw [hr,Jbc l k x h];conv=>lhs;unfold fdF
 rw [if_neg (by rw [hp];simp)]
theorem Jk1 {q:Int} {l:List α} {k:Nat} (hr:q=fdF p k (l.drop k)) (h:l.length≤k):q=-1:=by
 rw [hr,List.drop_of_length_le h];rfl
theorem Jk2 (p:α→Bool):∀(l:List α) (k:Nat),fdF p k l=-1∨((k:Int)≤fdF p k l∧fdF p k l<((k+l.length:Nat):Int))
 | [],_=>.inl rfl
 | x::r,k=>by
  unfold fdF;split
  ·exact .inr ⟨Int.le_refl _,by simp;omega⟩
  ·rcases Jk2 p r (k+1) with h | ⟨h1,h2⟩
   ·exact .inl h
   ·exact .inr ⟨by omega,by simp only [List.length_cons];omega⟩
theorem Jo2 (p:α→Bool) (l:List α):fdT p l=-1∨(0≤fdT p l∧fdT p l<(l.length:Int)):=by
 have:=Jk2 p l 0;rw [Nat.zero_add] at this;exact this
theorem Jjg (p:α→Bool):∀(l:List α) (k:Nat),fdF p k l≠-1→∃(j:Nat) (x:α),l[j]?=some x∧p x=true∧fdF p k l=((k+j:Nat):Int)
 | [],_,h=>absurd rfl h
 | y::r,k,h=>by
  unfold fdF at h ⊢;by_cases hp:p y=true
  ·rw [if_pos hp]
   exact⟨0,y,rfl,hp,rfl⟩
  ·rw [if_neg hp] at h ⊢
   obtain⟨j,x,h1,h2,h3⟩:=Jjg p r (k+1) h;exact⟨j+1,x,h1,h2,by rw [h3];congr 1;omega⟩
theorem J8x {p:α→Bool} {l:List α} (h:fdT p l≠-1):∃(j:Nat) (x:α),l[j]?=some x∧p x=true∧fdT p l=(j:Int):=by
 obtain⟨j,x,h1,h2,h3⟩:=Jjg p l 0 h;exact⟨j,x,h1,h2,by rw [Nat.zero_add] at h3;exact h3⟩
end
abbrev Rt:=List UInt8×Int×Bool
def okM (m:Int):Prop:=0≤m∧m<8
instance (m:Int):Decidable (okM m):=by unfold okM;infer_instance
def badR (seen:List (List UInt8)) (x:Rt):Int:=if Jak x.1=false then 12 else if x.1∈seen then 6 else if okM x.2.1 then 0 else 2
theorem Jk3 {seen:List (List UInt8)} {x:Rt} (h:Jak x.1=false):badR seen x=12:=by unfold badR;rw [if_pos h]
theorem Jq8 {seen:List (List UInt8)} {x:Rt} (h:Jak x.1=true) (h2:x.1∈seen):badR seen x=6:=by unfold badR;rw [if_neg (by rw [h];simp),if_pos h2]
theorem Jtr {seen:List (List UInt8)} {x:Rt} (h:Jak x.1=true) (h2:x.1 ∉ seen) (h3:¬okM x.2.1):badR seen x=2:=by unfold badR;rw [if_neg (by rw [h];simp),if_neg h2,if_neg h3]
theorem Jts {seen:List (List UInt8)} {x:Rt} (h:Jak x.1=true) (h2:x.1 ∉ seen) (h3:okM x.2.1):badR seen x=0:=by unfold badR;rw [if_neg (by rw [h];simp),if_neg h2,if_pos h3]
theorem Jq9 {seen:List (List UInt8)} {x:Rt} (h:badR seen x=0):Jak x.1=true:=by
 cases hv:Jak x.1 with
 | true=>rfl
 | false=>rw [Jk3 hv] at h;simp at h
theorem valid_le {l:List UInt8} (h:Jak l=true):l.length≤32:=((Je2 l).1 h).1.2
def idR (x:Rt):List UInt8:=x.1
def chkR (l:List Rt):Int×Int:=if 64<l.length then (0,5) else fbF badR idR [] 0 l
theorem Jtt {l:List Rt} (h:64<l.length):chkR l=(0,5):=by unfold chkR;rw [if_pos h]
theorem Jra {l:List Rt} (h:l.length≤64):chkR l=fbF badR idR ((l.take 0).map idR) 0 (l.drop 0):=by unfold chkR;rw [if_neg (by omega)];rfl
def nmB:List UInt8:=[98,117,115]
def nmL:List (List UInt8):=[nmB,[116,114,97,109],[109,101,116,114,111],[114,97,105,108],[102,101,114,114,121],[99,111,97,99,104],[99,97,98,108,101],[102,117,110,105,99,117,108,97,114]]
def nmR (m:Nat):List UInt8:=nmL.getD m []
def isN (s x:List UInt8):Bool:=decide (x=s)
def Jd1 (s:List UInt8):Int:=fdT (isN s) nmL
theorem Jm4 (s:List UInt8):Jd1 s=-1∨(0≤Jd1 s∧Jd1 s<8):=Jo2 (isN s) nmL
theorem J8y {m:Nat} (h:m<8):nmL[m]?=some (nmR m):=by
 unfold nmR;have h8:m<nmL.length:=h;rw [List.getD_eq_getElem?_getD,List.getElem?_eq_getElem h8];rfl
theorem J44:∀m:Nat,m<8→1≤(nmR m).length∧(nmR m).length≤9:=by decide
def Jib (n:Int):Nat:=(n % 18446744073709551616).toNat
theorem Jtu (n:Int):W64 (Jib n):=by unfold Jib W64;omega
theorem Jtv (n:Int):((Jib n:Nat):Int)=n % 18446744073709551616:=by unfold Jib;omega
def catR (a:List UInt8) (m:Nat):List UInt8:=if a=[] then nmR m else a++43::nmR m
def txF (n:Nat):Nat→List UInt8
 | 0=>[]
 | m+1=>if n.testBit m then catR (txF n m) m else txF n m
theorem J27 (n:Nat):∀m:Nat,m≤8→(txF n m).length≤10*m
 | 0,_=>Nat.le_refl _
 | m+1,h=>by
  have ih:=J27 n m (by omega);have:=(J44 m (by omega)).2;unfold txF catR;split
  ·split
   ·omega
   ·rw [List.length_append,List.length_cons];omega
  ·omega
def Jm5:List UInt8:=[110,111,110,101]
def textR (n:Nat):List UInt8:=if txF n 8=[] then Jm5 else txF n 8
theorem Jy7 (n:Nat):(textR n).length≤100:=by
 have:=J27 n 8 (by omega);unfold textR;split
 ·decide
 ·omega
theorem Jy8:∀n:Nat,n<256→textR n≠[]:=by decide +kernel
def fmtR (n:Int):List UInt8×Int:=if n<0∨255<n then ([],2) else (textR n.toNat,0)
theorem Jy9 {n:Int} (h:n<0∨255<n):fmtR n=([],2):=by unfold fmtR;rw [if_pos h]
theorem J45 {n:Nat} (h:n<256):fmtR (n:Int)=(textR n,0):=by unfold fmtR;rw [if_neg (by omega),Int.toNat_natCast]
def cutR (s:Nat) (c:List UInt8):Option Nat:=if Jd1 c=-1 then none else if s<2 ^ (Jd1 c).toNat then some (s+2 ^ (Jd1 c).toNat) else none
theorem Jza {s:Nat} {c:List UInt8} (h:Jd1 c=-1):cutR s c=none:=by unfold cutR;rw [if_pos h]
theorem Jrb {s m:Nat} {c:List UInt8} (h:Jd1 c=(m:Int)) (h2:¬s<2 ^ m):cutR s c=none:=by
 unfold cutR;rw [h,Int.toNat_natCast,if_neg (by omega),if_neg h2]
theorem Jtw {s m:Nat} {c:List UInt8} (h:Jd1 c=(m:Int)) (h2:s<2 ^ m):cutR s c=some (s+2 ^ m):=by
 unfold cutR;rw [h,Int.toNat_natCast,if_neg (by omega),if_pos h2]
def prsF (s:Nat) (c:List UInt8):List UInt8→Option Nat
 | []=>cutR s c
 | x::r=>if x=43 then (match cutR s c with | some t=>prsF t [] r | none=>none) else prsF s (c++[x]) r
def prsR (t:List UInt8):Int:=if t=Jm5 then 0 else match prsF 0 [] t with | some n=>(n:Int) | none=>-1
def ansR (n:Int):Int×Int:=if n=-1 then (0,3) else (n,0)
theorem Jk4 (n:Nat):ansR (n:Int)=((n:Int),0):=by unfold ansR;rw [if_neg (by omega)]
def optR (o:Option Nat):Int:=match o with | some n=>(n:Int) | none=>-1
theorem Jtx {t:List UInt8} (h:t≠Jm5):prsR t=optR (prsF 0 [] (t.drop 0)):=by unfold prsR;rw [if_neg h];rfl
theorem Jzb {q:Int} {s k:Nat} {c t:List UInt8} (hr:q=optR (prsF s c (t.drop k))) (h:t.length≤k):q=optR (cutR s c):=by
 rw [hr,List.drop_of_length_le h];rfl
theorem Jty {q:Int} {s k:Nat} {c t:List UInt8} {x:UInt8} (hr:q=optR (prsF s c (t.drop k))) (h:t[k]?=some x) (hx:x≠43):q=optR (prsF s (c++[x]) (t.drop (k+1))):=by
 rw [hr,Jbc t k x h];conv=>lhs;unfold prsF
 rw [if_neg hx]
theorem Jzc {q:Int} {s k u:Nat} {c t:List UInt8} (hr:q=optR (prsF s c (t.drop k))) (h:t[k]?=some 43) (hc:cutR s c=some u):q=optR (prsF u [] (t.drop (k+1))):=by
 rw [hr,Jbc t k 43 h];conv=>lhs;unfold prsF
 rw [if_pos rfl,hc]
theorem Jo3 {q:Int} {s k:Nat} {c t:List UInt8} (hr:q=optR (prsF s c (t.drop k))) (h:t[k]?=some 43) (hc:cutR s c=none):q=-1:=by
 rw [hr,Jbc t k 43 h];unfold prsF;rw [if_pos rfl,hc];rfl
theorem J46 {s:Nat} {m:Nat} (hs:s<256):s<2 ^ m↔∀j,j<64→s.testBit j=true→j<m:=by
 constructor
 ·intro h j _ hj
  rcases Nat.lt_or_ge j m with h2 | h2
  ·exact h2
  ·rw [Nat.testBit_lt_two_pow (Nat.lt_of_lt_of_le h (Nat.pow_le_pow_right (by decide) h2))] at hj
   cases hj
 ·intro h
  apply Nat.lt_pow_two_of_testBit
  intro j hj;rcases Nat.lt_or_ge j 64 with h2 | h2
  ·cases hb:s.testBit j with
   | false=>rfl
   | true=>have:=h j h2 hb;omega
  ·exact Nat.testBit_lt_two_pow (Nat.lt_of_lt_of_le hs (Nat.le_trans (by decide:256≤2 ^ 64) (Nat.pow_le_pow_right (by decide) h2)))
theorem Jtz {s m:Nat} (h:s<2 ^ m):s ||| 2 ^ m=s+2 ^ m:=by
 rw [Jtb (Nat.testBit_lt_two_pow h)]
theorem Jih:∀n:Nat,n<256→n≠0→List.intercalate [43] ((elems n).map nmR)=textR n:=by decide +kernel
theorem Jrc:∀n:Nat,n<256→∀m∈elems n,m<8:=by decide +kernel
theorem valid_all_any (s:ByteArray) (w:World):Calls prog 193 #[.string s] w fun e w'=>e=.returned (.bool (Jak s.data.toList))∧w=w':=by
 by_cases hs:s.size≤1099511627776
 ·exact Je8 s hs w
 have e:=Jdk s (by omega);have he:s.toList.isEmpty=false:=by rw [Jbd,decide_eq_false_iff_not];omega
 have g:(32:Int)<(s.size:Int):=by omega
 clear hs;rw [e];go_enter func193,ntmps193
 go_wp2_with fail
 go_ret;exact⟨rfl,rfl⟩
theorem valid_small {s:ByteArray} {id:List UInt8} (hs:str id=s) (hv:Jak id=true):s.size≤32:=by
 rw [←hs,Jaf];exact valid_le hv
end
namespace S13
open Go
abbrev St:=List UInt8×Int×Bool×Int
def idsS (l:List St):List (List UInt8):=l.map fun x=>x.1
theorem J47 (l:List St):(idsS l).length=l.length:=by unfold idsS;rw [List.length_map]
theorem Jo4 {l:List St} {k:Nat} {x:St} (h:l[k]?=some x):idsS (l.take (k+1))=idsS (l.take k)++[x.1]:=by
 unfold idsS;rw [Jb0 l k x h,List.map_append];rfl
def farS (z c:Int):Prop:=z<0∨16≤z∨c<0∨3600<c
instance (z c:Int):Decidable (farS z c):=by unfold farS;infer_instance
def badS (seen:List (List UInt8)) (x:St):Int:=if Jak x.1=false then 12 else if x.1∈seen then 6 else if farS x.2.1 x.2.2.2 then 2 else 0
theorem Jo5 {seen:List (List UInt8)} {x:St} (h:Jak x.1=false):badS seen x=12:=by unfold badS;rw [if_pos h]
theorem Jt0 {seen:List (List UInt8)} {x:St} (h:Jak x.1=true) (h2:x.1∈seen):badS seen x=6:=by unfold badS;rw [if_neg (by rw [h];simp),if_pos h2]
theorem J48 {seen:List (List UInt8)} {x:St} (h:Jak x.1=true) (h2:x.1 ∉ seen) (h3:farS x.2.1 x.2.2.2):badS seen x=2:=by unfold badS;rw [if_neg (by rw [h];simp),if_neg h2,if_pos h3]
theorem Jzd {seen:List (List UInt8)} {x:St} (h:Jak x.1=true) (h2:x.1 ∉ seen) (h3:¬farS x.2.1 x.2.2.2):badS seen x=0:=by unfold badS;rw [if_neg (by rw [h];simp),if_neg h2,if_neg h3]
def chkF (seen:List (List UInt8)) (k:Nat):List St→Int×Int
 | []=>(0,0)
 | x::r=>if badS seen x=0 then chkF (seen++[x.1]) (k+1) r else ((k:Int),badS seen x)
def chkT (l:List St):Int×Int:=if 64<l.length then (0,5) else chkF [] 0 l
theorem chkT_many {l:List St} (h:64<l.length):chkT l=(0,5):=by unfold chkT;rw [if_pos h]
theorem Jze {l:List St} (h:l.length≤64):chkT l=chkF [] 0 l:=by unfold chkT;rw [if_neg (by omega)]
theorem chkT_start {l:List St} (h:l.length≤64):chkT l=chkF (idsS (l.take 0)) 0 (l.drop 0):=by rw [Jze h];rfl
theorem Jt1 {seen:List (List UInt8)} {k:Nat} {x:St} {r:List St} (h:badS seen x=0):chkF seen k (x::r)=chkF (seen++[x.1]) (k+1) r:=by
 conv=>lhs;unfold chkF
 rw [if_pos h]
theorem Jzf {seen:List (List UInt8)} {k:Nat} {x:St} {r:List St} (h:badS seen x≠0):chkF seen k (x::r)=((k:Int),badS seen x):=by
 unfold chkF;rw [if_neg h]
theorem Jt2 {l:List St} {k:Nat} {x:St} (hr:chkT l=chkF (idsS (l.take k)) k (l.drop k)) (h:l[k]?=some x) (hb:badS (idsS (l.take k)) x=0):chkT l=chkF (idsS (l.take (k+1))) (k+1) (l.drop (k+1)):=by
 rw [hr,Jbc l k x h,Jt1 hb,Jo4 h]
theorem Jt3 {l:List St} {k:Nat} {x:St} (hr:chkT l=chkF (idsS (l.take k)) k (l.drop k)) (h:l[k]?=some x) {e:Int} (hb:badS (idsS (l.take k)) x=e) (he:e≠0):chkT l=((k:Int),e):=by
 rw [hr,Jbc l k x h,Jzf (by rw [hb];exact he),hb]
theorem Jt4 {l:List St} {k:Nat} (hr:chkT l=chkF (idsS (l.take k)) k (l.drop k)) (h:l.length≤k):chkT l=(0,0):=by
 rw [hr,List.drop_of_length_le h];rfl
open Go.RowKit
def se (x:St):List Value:=[.string (str x.1),.int .i64 x.2.1,.bool x.2.2.1,.int .i64 x.2.2.2]
theorem se_len (x:St):(se x).length=4:=rfl
abbrev LstS:=@LstG St se
theorem four_at {w:World} {A:Option Addr} {n c:Nat} {l:List St} (h:LstS w (.slice A n c) l) {i:Nat} {id:List UInt8} {z:Int} {f:Bool} {ch:Int} (hs:l[i]?=some (id,z,f,ch)) {s:ByteArray} (hst:str id=s) :
  ∃b o,A=some ⟨b,o,none⟩∧b<w.heap.size∧w.cell? ⟨b,o+i*4,none⟩=some (.string s)∧w.cell? ⟨b,o+i*4+1,none⟩=some (.int .i64 z)∧w.cell? ⟨b,o+i*4+2,none⟩=some (.bool f)∧w.cell? ⟨b,o+i*4+3,none⟩=some (.int .i64 ch):=by
 subst hst;obtain⟨A',c',hv,_,_,hx⟩:=h;cases hv
 have hi:=(List.getElem?_eq_some_iff.1 hs).1;obtain⟨b,o,rfl,hb,hcell⟩:=hx (by omega);refine⟨b,o,rfl,hb,hcell (i*4) _ (by rw [←Nat.add_zero (i*4),Jbl se_len hs 0 (by omega)];rfl),(hcell (i*4+1) _ (by rw [Jbl se_len hs 1 (by omega)];rfl):_),(hcell (i*4+2) _ (by rw [Jbl se_len hs 2 (by omega)];rfl):_),(hcell (i*4+3) _ (by rw [Jbl se_len hs 3 (by omega)];rfl):_)⟩
abbrev boxS (s:ByteArray) (z:Int) (f:Bool) (ch:Int):Obj:=.cells #[.string s,.int .i64 z,.bool f,.int .i64 ch] 112 (0,0)
theorem J28 {w w7:World} {s:ByteArray} {z:Int} {f:Bool} {ch:Int} (h:w.alloc (boxS s z f ch)=w7) :
  Below w.heap.size w w7∧w7.cell? ⟨w.heap.size,0,none⟩=some (.string s)∧w7.cell? ⟨w.heap.size,1,none⟩=some (.int .i64 z)∧w7.cell? ⟨w.heap.size,2,none⟩=some (.bool f)∧w7.cell? ⟨w.heap.size,3,none⟩=some (.int .i64 ch)∧w.heap.size<w7.heap.size:=by
 subst h;have c7:=heap_alloc_new w (boxS s z f ch);exact⟨(Below.refl _ _).alloc (Nat.le_refl _) _,by rw [cell_of_row _ _ 0 _ _ _ c7];rfl,by rw [cell_of_row _ _ 1 _ _ _ c7];rfl,by rw [cell_of_row _ _ 2 _ _ _ c7];rfl,by rw [cell_of_row _ _ 3 _ _ _ c7];rfl,by simp⟩
theorem ret_chk {a b c d:Int} (h:a=b) (k:c=d):Ending.returned (.tuple #[.int .i64 a,.int .i64 c])=.returned (.tuple #[.int .i64 b,.int .i64 d]):=by rw [h,k]
theorem Jt5 (id:List UInt8) (z:Int) (f:Bool) (ch:Int) (s:ByteArray) (hs:str id=s) (b:Nat) (ls:List (List UInt8)) (w:World) (hm:MapB w b ls) :
  Calls prog 188 #[.agg #[.string s,.int .i64 z,.bool f,.int .i64 ch],.map (some b)] w fun e w'=>e=.returned (.int .i64 (badS ls (id,z,f,ch)))∧Below w.heap.size w w':=by
 have hid:s.data.toList=id:=by rw [←hs]
 obtain⟨w7,hw7⟩:∃W,w.alloc (.cells #[.string s,.int .i64 z,.bool f,.int .i64 ch] 112 (0,0))=W:=⟨_,rfl⟩;obtain⟨b7,p0,p1,p2,p3,-⟩:=J28 hw7;have lk:=fun hq:s.size≤32=>(hm.below b7).look s id hid (by omega)
 have V:=Lib.hid (valid_all_any s w7);rw [hid] at V;have B7:=Lib.hid b7;clear b7 hm hid;cases hv:Jak id with
 | false =>
  have R:=Lib.hid (Jo5 (seen:=ls) (x:=(id,z,f,ch)) hv);rw [hv] at V;clear hv hs lk;go_enter func188,ntmps188
  go_wp2_with fail
  refine V.out.mono ?_;rintro e w' ⟨rfl,rfl⟩;go_wp2_with fail
  go_ret;exact⟨Jad R.out.symm,B7.out⟩
 | true =>
  rw [hv] at V;have lk:=lk (valid_small hs hv);clear hs;by_cases hd:id∈ls
  ·have R:=Lib.hid (Jt0 (x:=(id,z,f,ch)) hv hd)
   rw [decide_eq_true hd] at lk;clear hv hd;go_enter func188,ntmps188
   go_wp2_with fail
   refine V.out.mono ?_;rintro e w' ⟨rfl,rfl⟩;go_wp2_with fail
   go_ret;exact⟨Jad R.out.symm,B7.out⟩
  ·rw [decide_eq_false hd] at lk
   have RF:=Lib.hid (fun hf=>J48 (x:=(id,z,f,ch)) hv hd hf);have RN:=Lib.hid (fun hf=>Jzd (x:=(id,z,f,ch)) hv hd hf);clear hv hd;unfold farS at RF RN;simp only at RF RN;by_cases h1:z<0
   ·have R:=Lib.hid (RF.out (.inl h1))
    clear RF RN;go_enter func188,ntmps188
    go_wp2_with fail
    refine V.out.mono ?_;rintro e w' ⟨rfl,rfl⟩;go_wp2_with fail
    go_ret;exact⟨Jad R.out.symm,B7.out⟩
   have d1:decide (z<0)=false:=decide_eq_false h1;by_cases h2:16≤z
   ·have R:=Lib.hid (RF.out (.inr (.inl h2)))
    clear RF RN h1;go_enter func188,ntmps188
    go_wp2_with fail
    refine V.out.mono ?_;rintro e w' ⟨rfl,rfl⟩;go_wp2_with fail
    go_ret;exact⟨Jad R.out.symm,B7.out⟩
   have d2:decide (16≤z)=false:=decide_eq_false h2;by_cases h3:ch<0
   ·have R:=Lib.hid (RF.out (.inr (.inr (.inl h3))))
    clear RF RN h1 h2;go_enter func188,ntmps188
    go_wp2_with fail
    refine V.out.mono ?_;rintro e w' ⟨rfl,rfl⟩;go_wp2_with fail
    go_ret;exact⟨Jad R.out.symm,B7.out⟩
   have d3:decide (ch<0)=false:=decide_eq_false h3;by_cases h4:3600<ch
   ·have R:=Lib.hid (RF.out (.inr (.inr (.inr h4))))
    clear RF RN h1 h2 h3;go_enter func188,ntmps188
    go_wp2_with fail
    refine V.out.mono ?_;rintro e w' ⟨rfl,rfl⟩;go_wp2_with fail
    go_ret;exact⟨Jad R.out.symm,B7.out⟩
   have d4:decide (3600<ch)=false:=decide_eq_false h4;have R:=Lib.hid (RN.out (by omega));clear RF RN h1 h2 h3 h4;go_enter func188,ntmps188
   go_wp2_with fail
   refine V.out.mono ?_;rintro e w' ⟨rfl,rfl⟩;go_wp2_with fail
   go_ret;exact⟨Jad R.out.symm,B7.out⟩
theorem Jrd {seen:List (List UInt8)} {x:St} (h:badS seen x=0):Jak x.1=true:=by
 cases hv:Jak x.1 with
 | true=>rfl
 | false=>rw [Jo5 hv] at h;cases h
theorem kcheck_all (v:Value) (l:List St) (hl:l.length≤9223372036854775807) (w:World) (h:LstS w v l):Calls prog 97 #[v] w fun e w'=>e=.returned (.tuple #[.int .i64 ((chkT l).1),.int .i64 ((chkT l).2)])∧Below w.heap.size w w':=by
 have H:=Lib.hid h;obtain⟨A,c,rfl,-,-,-⟩:=h;by_cases h64:64<l.length
 ·have R:=Lib.hid (chkT_many h64)
  have g:(64:Int)<(l.length:Int):=by omega
  generalize chkT l=q at R ⊢;clear h64;go_enter func97,ntmps97
  go_wp2_with fail
  go_ret2;exact⟨ret_chk (by rw [R.out]) (by rw [R.out]),Below.refl _ _⟩
 have g:decide ((64:Int)<(l.length:Int))=false:=by rw [decide_eq_false_iff_not];omega
 have ST:=Lib.hid (chkT_start (l:=l) (by omega));have h64':l.length≤64:=by omega
 have hmm:=@run_makeMap prog;obtain⟨q,hq⟩:∃q,chkT l=q:=⟨_,rfl⟩;rw [hq];have HQ:=Lib.hid hq;clear h64 hq;go_enter func97,ntmps97
 go_wp2_with fail
 go_loopw [14] (fun i wr=>∃k:Nat,i=.int .i64 k∧k≤l.length∧Hid (chkT l=chkF (idsS (l.take k)) k (l.drop k))∧Hid (MapB wr w.heap.size (idsS (l.take k)))∧Hid (Below w.heap.size w wr)) (fun i _=>l.length - (intOf i).toNat)
 case atStart=>exact⟨0,rfl,Nat.zero_le _,ST,Lib.hid (MapB.made w),Lib.hid ((Below.refl _ _).alloc (Nat.le_refl _) _)⟩
 case round =>
  clear g ST hmm;obtain⟨k,rfl,hk,hz,HM,HB⟩:=hrel;by_cases hlt:k<l.length
  ·obtain⟨⟨id,z,f,ch⟩,hx⟩:=Jao hlt
   obtain⟨nm,hnm⟩:∃nm,str id=nm:=⟨_,rfl⟩;obtain⟨b,o,rfl,hb,r0,r1,r2,r3⟩:=four_at (H.out.below HB.out) hx hnm;have gk:(k:Int)<(l.length:Int):=by omega
   obtain⟨w7,hw7⟩:∃W,wr.alloc (.cells #[.string nm,.int .i64 z,.bool f,.int .i64 ch] 112 (0,0))=W:=⟨_,rfl⟩;obtain⟨b7,p0,p1,p2,p3,s7⟩:=J28 hw7;have B7:Hid (Below w.heap.size w w7):=HB.out.trans (b7.mono HB.out.size);have M7:=Lib.hid (HM.out.below b7);have C:=Lib.hid (Jt5 id z f ch nm hnm w.heap.size (idsS (l.take k)) w7 M7.out);by_cases he:badS (idsS (l.take k)) (id,z,f,ch)=0
   ·have N:=Lib.hid (Jt2 hz.out hx he)
    have T:=Lib.hid (Jo4 hx);have hil:(idsS (l.take k)).length≤64:=by rw [J47,List.length_take];omega
    have hid:Hid (nm.data.toList=id):=by show _=_;rw [←hnm]
    have hns:=valid_small hnm (Jrd he);rw [he] at C;simp only at T;clear hx hz HB HM b7 hnm hb he;go_wp2_with fail
    refine C.out.mono ?_;rintro e w8 ⟨rfl,b8⟩;have q0:=(b8.cell (p:=⟨wr.heap.size,0,none⟩) s7).trans p0;have B8:Hid (Below w.heap.size w w8):=B7.out.trans (b8.mono B7.out.size);have M8:=Lib.hid (M7.out.below b8);clear b8 p0 p1 p2 p3 B7 M7 C;go_wp2_with (at_mapUpdate;refine Je7 _ rfl _ _ _ rfl w.heap.size (idsS (l.take k)) rfl M8.out nm id hid.out (by omega) rfl rfl (by omega) ?_;intro w9 m9 g9)
    have M:Hid (MapB w9 w.heap.size (idsS (l.take (k+1)))):=by
     show MapB _ _ _
     rw [T.out];exact m9
    have B:Hid (Below w.heap.size w w9):=B8.out.grown g9 B8.out.size (fun j hj=>by cases hj;exact Nat.le_refl _);clear m9 g9 M8 B8;go_wp2_with fail
    go_roundw
    case rel=>exact⟨k+1,by go_num,by omega,N,M,B⟩
    case measure=>simp [intOf];omega
   ·have R:=Lib.hid (Jt3 hz.out hx rfl he)
    have ne:=Jae he;generalize badS (idsS (l.take k)) (id,z,f,ch)=y at C R ne;clear hx hz HB HM b7 hnm hb he;go_wp2_with fail
    refine C.out.mono ?_;rintro e w8 ⟨rfl,b8⟩;have B8:Hid (Below w.heap.size w w8):=B7.out.trans (b8.mono B7.out.size);clear b8 B7 C p0 p1 p2 p3;go_wp2_with fail
    go_ret2;exact⟨ret_chk (by rw [←HQ.out,R.out]) (by rw [←HQ.out,R.out]),B8.out⟩
  ·have R:=Lib.hid (Jt4 hz.out (by omega))
   have d:decide (k<l.length)=false:=by rw [decide_eq_false_iff_not];exact hlt
   clear hz hlt HM;go_wp2_with fail
   go_ret2;exact⟨ret_chk (by rw [←HQ.out,R.out]) (by rw [←HQ.out,R.out]),HB.out⟩
open Go.RowKit Go.ChangeShapes Go.WideShapes Go.Deep
end S13
end Go.Proofs.YtpifdbphmnifdaaGreatDoor
