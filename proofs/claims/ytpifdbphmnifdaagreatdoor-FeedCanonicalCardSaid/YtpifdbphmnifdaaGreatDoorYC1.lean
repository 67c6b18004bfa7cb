/-
  Facts. Condition: each theorem's own.
-/
import Derived.Laws.Bits64b
import Derived.Laws.BitsAllLaws
import Derived.Laws.ShiftsVarLaws
import Derived.Lib.TrailingZeros
import Derived.IntWalk
import Derived.ChangeSlices
import Derived.ProofKit
import Derived.Deep.DeepHandedRow
import Derived.Deep.Slices
import Derived.ChangeSame
import Derived.Deep.Strs
import Derived.Lib.SmallJoins
import Derived.Test.YtpifdbphmnifdaaGreatDoorYC0
set_option maxRecDepth 100000
set_option maxHeartbeats 8000000
section
variable {p:Prop}
theorem Q4 (h:p:=by rw [decide_eq_false_iff_not];omega):p:=h
theorem Va (h:p:=by rw [R.out]):p:=h
theorem Vb (h:p:=by have q0:(n==45)=false:=Jaa (by omega);have q1:(n==95)=false:=Jaa (by omega);have q2:(n==46)=false:=Jaa (by omega);clear hc hid ht h;go_wp2_with fail;go_ret;exact⟨Jab (by rw [←HR.out,T.out]),rfl⟩):p:=h
theorem Vc (h:p:=by go_wp2_with fail;go_ret2;exact⟨ret_chk (by rw [R.out]) (by rw [R.out]),Pg⟩):p:=h
theorem Vd (h:p:=by go_wp2_with fail;go_ret;exact⟨Jad R.out.symm,B7.out⟩):p:=h
theorem Ve (h:p:=by go_wp2_with fail;go_ret2;exact⟨ret_chk (by rw [←HQ.out,R.out]) (by rw [←HQ.out,R.out]),rfl⟩):p:=h
theorem Vf (h:p:=by rw [←HQ.out,R.out]):p:=h
theorem Vg (h:p:=by go_wp2_with fail;go_ret;exact⟨Jad R.out.symm,rfl⟩):p:=h
theorem Vh (h:p:=by cases hj;exact Nat.le_refl _):p:=h
theorem Vi (h:p:=by have:=congrArg (fun b:ByteArray=>b.data.toList) e2;simpa [str] using this):p:=h
theorem Vj (h:p:=by rw [cell_of_row _ _ 2 _ _ _ c7];rfl):p:=h
theorem Vk (h:p:=by rw [cell_of_row _ _ 1 _ _ _ c7];rfl):p:=h
theorem Vl (h:p:=by rw [cell_of_row _ _ 0 _ _ _ c7];rfl):p:=h
theorem Vm (h:p:=by decide +kernel):p:=h
theorem Vn (h:p:=by simp only [List.length_cons];omega):p:=h
theorem Vo (h:p:=by rw [hr,List.drop_of_length_le h];rfl):p:=h
theorem Vp (h:p:=by clear hs;rw [e];go_enter func193,ntmps193;exact Ki):p:=h
theorem Vq (h:p:=by rw [Jcn,decide_eq_false_iff_not];omega):p:=h
theorem Vr (h:p:=by go_wp2_with fail;go_ret;exact⟨Jur (by rw [H.out];rfl),rfl⟩):p:=h
theorem Vs (h:p:=by rw [beq_eq_false_iff_ne];omega):p:=h
theorem Vt (h:p:=by rw [←hnm]):p:=h
theorem Vu (h:p:=by clear hz hlt HM;go_wp2_with fail;go_ret2;exact⟨ret_chk Vf Vf,HB.out⟩):p:=h
theorem Vv (h:p:=by show _=_;rw [←hnm]):p:=h
theorem Vw (h:p:=by rw [←hs]):p:=h
theorem Vx (h:p:=by rw [←hs,Jao];exact valid_le hv):p:=h
theorem Vy (h:p:=by rw [←hnm,←HT.out,he]):p:=h
theorem Vz (h:p:=by rw [hs,ht,e]):p:=h
theorem V3 (h:p:=by obtain⟨j,hj⟩:=List.mem_iff_getElem?.1 hx;exact⟨j,x,hj,rfl⟩):p:=h
end
open Go.Proofs.Tryz
namespace Go.Proofs.YtpifdbphmnifdaaGreatDoor
section
open Go.RowKit
theorem Jur {a b:Int} (h:a=b):Ending.returned (.int .u64 a)=.returned (.int .u64 b):=Qj
theorem Jry (k:Nat):(2:Int) ^ k=((2 ^ k:Nat):Int):=Kj
def lowN (i:Int):Nat:=2 ^ (min (max i 0) 64).toNat - 1
def Jf8 (s t:Nat):Nat:=s &&& (18446744073709551615 - t)
def hasB (s:Nat) (i:Int):Bool:=decide (0≤i∧i<64)&&s.testBit i.toNat
theorem Jrz (i:Int):W64 (lowN i):=by
 unfold lowN;have h:2 ^ (min (max i 0) 64).toNat≤2 ^ 64:=Nat.pow_le_pow_right Kl Kd;have:=Nat.two_pow_pos (min (max i 0) 64).toNat;unfold W64;omega
theorem J8m (s t:Nat):Jf8 s t≤s:=Nat.and_le_left
theorem Jwy (i:Int) (j:Nat) (hj:j<64):(lowN i).testBit j=decide ((j:Int)<i):=by
 unfold lowN;rw [Nat.testBit_two_pow_sub_one,Bool.eq_iff_iff,decide_eq_true_iff,decide_eq_true_iff];omega
theorem Jln (s t:Nat) (ht:W64 t) (j:Nat) (hj:j<64):(Jf8 s t).testBit j=(s.testBit j&&!t.testBit j):=by
 unfold Jf8;rw [Nat.testBit_and,show 18446744073709551615 - t=2 ^ 64 - (t+1) by omega,Nat.testBit_two_pow_sub_succ (by unfold W64 at ht;omega)];simp [hj]
theorem Jwz {s t:Nat} (hs:W64 s):W64 (Jf8 s t):=Nat.lt_of_le_of_lt (J8m s t) hs
theorem J8n (s:Nat) (i:Int):decide (s &&& one i=0)=!hasB s i:=by
 unfold one hasB;split
 ·next h =>
  rw [nat_bit];have hb:=Jpv s i.toNat;have hp:=Nat.two_pow_pos i.toNat;cases ht:s.testBit i.toNat with
  | true =>
   rw [hb.2 ht,Nat.one_mul];simp [h]
  | false =>
   have h0:s / 2 ^ i.toNat % 2=0:=by
    rw [ht] at hb;simp at hb;omega
   rw [h0];simp
 ·next h=>simp [h]
theorem Jnc (s t:Nat) (hs:W64 s) (ht:W64 t) (w:World):Pb 304 #[.int .u64 (s:Int),.int .u64 (t:Int)] w (.int .u64 ((Jf8 s t:Nat):Int)):=by
 have e:=u64_andNot_nat s t hs ht;change _=((Jf8 s t:Nat):Int) at e;go_enter func304,ntmps304;exact Ki
theorem Jcx (s t:Nat) (hs:W64 s) (ht:W64 t) (w:World):Pb 226 #[.int .u64 (s:Int),.int .u64 (t:Int)] w (.bool (decide (Jf8 s t=0))):=by
 have M:=Pe (fun W=>Jnc s t hs ht W);generalize Jf8 s t=r at M ⊢;go_enter func226,ntmps226;go_wp2_with fail;refine Pf (M.out _) ?_;go_wp2_with fail;go_ret;exact⟨Jab (by rw [Bool.eq_iff_iff];simp),rfl⟩
theorem Jj6 (i:Int) (w:World):Pb 295 #[.int .i64 i] w (.int .u64 ((one i:Nat):Int)):=by
 by_cases h1:i<0
 ·have H:=Pe (show one i=0 by unfold one;rw [if_neg Kd])
  go_enter func295,ntmps295;exact Vr
 ·have h1':decide (i<0)=false:=Pj h1
  by_cases h2:64≤i
  ·have H:=Pe (show one i=0 by unfold one;rw [if_neg Kd])
   clear h1;go_enter func295,ntmps295;exact Vr
  ·have h2':decide (64≤i)=false:=Pj h2
   have H:=Pe (show IntKind.u64.wrap (2 ^ i.toNat)=((one i:Nat):Int) by
    have hp:2 ^ i.toNat<18446744073709551616:=Jh2 Kd;unfold one;rw [if_pos Kd,IntKind.wrap_u64,Jry];exact Int.emod_eq_of_lt (Int.natCast_nonneg _) Kd)
   go_enter func295,ntmps295;go_wp2_with fail;go_ret;exact⟨Jur H.out,rfl⟩
theorem Jnd (i:Int) (w:World):Pb 357 #[.int .i64 i] w (.int .u64 ((lowN i:Nat):Int)):=by
 by_cases h1:i<0
 ·have H:=Pe (show lowN i=0 by unfold lowN;rw [show (min (max i 0) 64).toNat=0 by omega])
  go_enter func357,ntmps357;exact Vr
 ·have h1':decide (i<0)=false:=Pj h1
  by_cases h2:64≤i
  ·have H:=Pe (show lowN i=18446744073709551615 by unfold lowN;rw [show (min (max i 0) 64).toNat=64 by omega])
   go_enter func357,ntmps357;exact Vr
  ·have h2':decide (64≤i)=false:=Pj h2
   have H:=Pe (show IntKind.u64.wrap (IntKind.u64.wrap (2 ^ i.toNat) - 1)=((lowN i:Nat):Int) by
    have hp:2 ^ i.toNat<18446744073709551616:=Jh2 Kd;have h0:=Nat.two_pow_pos i.toNat;unfold lowN;rw [show (min (max i 0) 64).toNat=i.toNat by omega,IntKind.wrap_u64,IntKind.wrap_u64,Jry];generalize 2 ^ i.toNat=p at hp h0;omega)
   go_enter func357,ntmps357;go_wp2_with fail;go_ret;exact⟨Jur H.out,rfl⟩
theorem J8o (s:Nat) (hs:W64 s) (i:Int) (w:World):Pb 221 #[.int .u64 (s:Int),.int .i64 i] w (.bool (hasB s i)):=by
 have e:=bits_and_u64_nat s (one i) hs (J6h i);have M:=Pe (fun W=>Jj6 i W);have R:=Pe (J8n s i);generalize s &&& one i=r at e R;generalize one i=x at e M;go_enter func221,ntmps221;go_wp2_with fail;refine Pf (M.out _) ?_;go_wp2_with fail;go_ret;exact⟨Jab (by have:=R.out;rw [Bool.eq_iff_iff] at this ⊢;simp at this ⊢;rw [this];simp),rfl⟩
theorem Jr0 (s:Nat) (hs:W64 s) (i:Int) (w:World):Pb 330 #[.int .u64 (s:Int),.int .i64 i] w (.int .u64 ((s ||| one i:Nat):Int)):=by
 have e:=bits_or_u64_nat s (one i) hs (J6h i);have M:=Pe (fun W=>Jj6 i W);generalize s ||| one i=r at e ⊢
 generalize one i=x at e M;go_enter func330,ntmps330;go_wp2_with fail;refine Pf (M.out _) ?_;exact Ki
theorem Jf9 (i j:Int) (w:World):Pb 329 #[.int .i64 i,.int .i64 j] w (.int .u64 ((Jf8 (lowN j) (lowN i):Nat):Int)):=by
 have A:=Pe (fun W=>Jnd j W);have B:=Pe (fun W=>Jnd i W);have M:=Pe (fun W=>Jnc (lowN j) (lowN i) (Jrz j) (Jrz i) W);generalize Jf8 (lowN j) (lowN i)=r at M ⊢;generalize lowN j=x at A M;generalize lowN i=y at B M;go_enter func329,ntmps329;go_wp2_with fail;refine Pf (A.out _) ?_;go_wp2_with fail;refine Pf (B.out _) ?_;go_wp2_with fail;refine Pf (M.out _) ?_;exact Ki
theorem Calls.below {P:Program} {f:FuncId} {args:Array Value} {x:Ending} {w:World} (h:Calls P f args w fun e w'=>e=x∧∃m,w'=w.drewN m):Calls P f args w fun e w'=>e=x∧Pn w w' :=
 h.mono fun _ _ ⟨he,m,hm⟩=>⟨he,hm ▸ Jac Pg m⟩
theorem Jag {w wr:World} (h:∃n,wr=w.drewN n):Pn w wr:=by
 obtain⟨n,rfl⟩:=h;exact Jac Pg n
theorem Jap {w wr:World} (h:Hid (∃n,wr=w.drewN n)) (m:Nat):Hid (∃n,wr.drewN m=w.drewN n):=by
 obtain⟨n,rfl⟩:=h.out;exact Pe ⟨n+m,World.drewN_drewN _ _ _⟩
open Go
section
variable {κ α:Type}
def fbF (bad:List κ→α→Int) (key:α→κ) (seen:List κ) (k:Nat):List α→Int×Int
 | []=>(0,0)
 | x::r=>if bad seen x=0 then fbF bad key (seen++[key x]) (k+1) r else ((k:Int),bad seen x)
variable {bad:List κ→α→Int} {key:α→κ}
theorem Jep {l:List α} {k:Nat} {x:α} (h:l[k]?=some x):(l.take (k+1)).map key=(l.take k).map key++[key x]:=by
 rw [Jbv l k x h,List.map_append];rfl
theorem Jb3 {l:List α} {k:Nat} {x:α} {q:Int×Int} (hr:q=fbF bad key ((l.take k).map key) k (l.drop k)) (h:l[k]?=some x) (hb:bad ((l.take k).map key) x=0):q=fbF bad key ((l.take (k+1)).map key) (k+1) (l.drop (k+1)):=by
 rw [hr,Jbd l k x h,Jep h];conv=>lhs;unfold fbF
 rw [if_pos hb]
theorem Jan {l:List α} {k:Nat} {x:α} {q:Int×Int} (hr:q=fbF bad key ((l.take k).map key) k (l.drop k)) (h:l[k]?=some x) {e:Int} (hb:bad ((l.take k).map key) x=e) (he:e≠0):q=((k:Int),e):=by
 rw [hr,Jbd l k x h];unfold fbF;rw [if_neg (by rw [hb];exact he),hb]
theorem Jb4 {l:List α} {k:Nat} {q:Int×Int} (hr:q=fbF bad key ((l.take k).map key) k (l.drop k)) (h:l.length≤k):q=(0,0):=by
 exact Vo
theorem J2l {l:List α} {c:κ}:c∈l.map key↔∃(j:Nat) (x:α),l[j]?=some x∧key x=c:=by
 rw [List.mem_map];constructor
 ·rintro⟨x,hx,rfl⟩
  exact V3
 ·rintro⟨j,x,hx,rfl⟩
  exact⟨x,List.mem_iff_getElem?.2 ⟨j,hx⟩,rfl⟩
theorem Jne {l:List α} {c:κ} {k:Nat}:c∈(l.take k).map key↔∃(j:Nat) (x:α),j<k∧l[j]?=some x∧key x=c:=by
 rw [J2l];constructor
 ·rintro⟨j,x,hx,h⟩
  rw [List.getElem?_take] at hx;split at hx
  ·next hj=>exact⟨j,x,hj,hx,h⟩
  ·cases hx
 ·rintro⟨j,x,hj,hx,h⟩
  exact⟨j,x,by rw [List.getElem?_take,if_pos hj];exact hx,h⟩
theorem Jdj {l:List α} {c:κ} {k j:Nat} {x:α} (hj:j<k) (hx:l[j]?=some x) (h:key x=c):c∈(l.take k).map key:=Jne.2 ⟨j,x,hj,hx,h⟩
theorem Jco {l:List α} {c:κ} {k:Nat} (h:∀(j:Nat) (x:α),j<k→l[j]?=some x→key x≠c):c ∉ (l.take k).map key:=fun hm=>by
 obtain⟨j,x,hj,hx,hc⟩:=Jne.1 hm;exact h j x hj hx hc
end
section
variable {α:Type}
def fdF (p:α→Bool) (k:Nat):List α→Int
 | []=>-1
 | x::r=>if p x then (k:Int) else fdF p (k+1) r
def fdT (p:α→Bool) (l:List α):Int:=fdF p 0 l
variable {p:α→Bool}
theorem Jj7 {q:Int} {l:List α} {k:Nat} {x:α} (hr:q=fdF p k (l.drop k)) (h:l[k]?=some x) (hp:p x=true):q=(k:Int):=by
 rw [hr,Jbd l k x h];unfold fdF;rw [if_pos hp]
theorem Jg4 {q:Int} {l:List α} {k:Nat} {x:α} (hr:q=fdF p k (l.drop k)) (h:l[k]?=some x) (hp:p x=false):q=fdF p (k+1) (l.drop (k+1)):=by
 rw [hr,Jbd l k x h];conv=>lhs;unfold fdF
 rw [if_neg (by rw [hp];simp)]
theorem Jj8 {q:Int} {l:List α} {k:Nat} (hr:q=fdF p k (l.drop k)) (h:l.length≤k):q=-1:=by
 exact Vo
theorem Jnf (p:α→Bool):∀(l:List α) (k:Nat),fdF p k l=-1∨((k:Int)≤fdF p k l∧fdF p k l<((k+l.length:Nat):Int))
 | [],_=>.inl rfl
 | x::r,k=>by
  unfold fdF;split
  ·exact .inr ⟨Int.le_refl _,Ke⟩
  ·rcases Jnf p r (k+1) with h | ⟨h1,h2⟩
   ·exact .inl h
   ·exact .inr ⟨Kd,Vn⟩
theorem Jlo (p:α→Bool) (l:List α):fdT p l=-1∨(0≤fdT p l∧fdT p l<(l.length:Int)):=by
 have:=Jnf p l 0;rw [Nat.zero_add] at this;exact this
theorem Jlp (p:α→Bool):∀(l:List α) (k:Nat),fdF p k l≠-1→∃(j:Nat) (x:α),l[j]?=some x∧p x=true∧fdF p k l=((k+j:Nat):Int)
 | [],_,h=>absurd rfl h
 | y::r,k,h=>by
  unfold fdF at h ⊢;by_cases hp:p y=true
  ·rw [if_pos hp]
   exact⟨0,y,rfl,hp,rfl⟩
  ·rw [if_neg hp] at h ⊢
   obtain⟨j,x,h1,h2,h3⟩:=Jlp p r (k+1) h;exact⟨j+1,x,h1,h2,by rw [h3];congr 1;omega⟩
theorem J6k {p:α→Bool} {l:List α} (h:fdT p l≠-1):∃(j:Nat) (x:α),l[j]?=some x∧p x=true∧fdT p l=(j:Int):=by
 obtain⟨j,x,h1,h2,h3⟩:=Jlp p l 0 h;exact⟨j,x,h1,h2,by rw [Nat.zero_add] at h3;exact h3⟩
end
abbrev Rt:=List UInt8×Int×Bool
def okM (m:Int):Prop:=0≤m∧m<8
instance (m:Int):Decidable (okM m):=by unfold okM;infer_instance
def badR (seen:List (List UInt8)) (x:Rt):Int:=if Jaj x.1=false then 12 else if x.1∈seen then 6 else if okM x.2.1 then 0 else 2
theorem Jit {seen:List (List UInt8)} {x:Rt} (h:Jaj x.1=false):badR seen x=12:=by unfold badR;rw [if_pos h]
theorem Jj9 {seen:List (List UInt8)} {x:Rt} (h:Jaj x.1=true) (h2:x.1∈seen):badR seen x=6:=by unfold badR;rw [if_neg Kw,if_pos h2]
theorem Jng {seen:List (List UInt8)} {x:Rt} (h:Jaj x.1=true) (h2:x.1 ∉ seen) (h3:¬okM x.2.1):badR seen x=2:=by unfold badR;rw [if_neg Kw,if_neg h2,if_neg h3]
theorem Jnh {seen:List (List UInt8)} {x:Rt} (h:Jaj x.1=true) (h2:x.1 ∉ seen) (h3:okM x.2.1):badR seen x=0:=by unfold badR;rw [if_neg Kw,if_neg h2,if_pos h3]
theorem Jus {seen:List (List UInt8)} {x:Rt} (h:badR seen x=0):Jaj x.1=true:=by
 cases hv:Jaj x.1 with
 | true=>rfl
 | false=>rw [Jit hv] at h;simp at h
theorem valid_le {l:List UInt8} (h:Jaj l=true):l.length≤32:=((Jf1 l).1 h).1.2
def idR (x:Rt):List UInt8:=x.1
def chkR (l:List Rt):Int×Int:=if 64<l.length then (0,5) else fbF badR idR [] 0 l
theorem Jni {l:List Rt} (h:64<l.length):chkR l=(0,5):=by unfold chkR;rw [if_pos h]
theorem Jka {l:List Rt} (h:l.length≤64):chkR l=fbF badR idR ((l.take 0).map idR) 0 (l.drop 0):=by unfold chkR;rw [if_neg Kd];rfl
def nmB:List UInt8:=[98,117,115]
def nmL:List (List UInt8):=[nmB,[116,114,97,109],[109,101,116,114,111],[114,97,105,108],[102,101,114,114,121],[99,111,97,99,104],[99,97,98,108,101],[102,117,110,105,99,117,108,97,114]]
def nmR (m:Nat):List UInt8:=nmL.getD m []
def isN (s x:List UInt8):Bool:=decide (x=s)
def Jeq (s:List UInt8):Int:=fdT (isN s) nmL
theorem Jp0 (s:List UInt8):Jeq s=-1∨(0≤Jeq s∧Jeq s<8):=Jlo (isN s) nmL
theorem Qck {m:Nat} (h:m<8):nmL[m]?=some (nmR m):=by
 unfold nmR;have h8:m<nmL.length:=h;rw [List.getD_eq_getElem?_getD,List.getElem?_eq_getElem h8];rfl
theorem J8p:∀m:Nat,m<8→1≤(nmR m).length∧(nmR m).length≤9:=Kl
def Jj0 (n:Int):Nat:=(n % 18446744073709551616).toNat
theorem Jw0 (n:Int):W64 (Jj0 n):=by unfold Jj0 W64;omega
theorem Jw1 (n:Int):((Jj0 n:Nat):Int)=n % 18446744073709551616:=by unfold Jj0;omega
def catR (a:List UInt8) (m:Nat):List UInt8:=if a=[] then nmR m else a++43::nmR m
def txF (n:Nat):Nat→List UInt8
 | 0=>[]
 | m+1=>if n.testBit m then catR (txF n m) m else txF n m
theorem J6l (n:Nat):∀m:Nat,m≤8→(txF n m).length≤10*m
 | 0,_=>Nat.le_refl _
 | m+1,h=>by
  have ih:=J6l n m Kd;have:=(J8p m Kd).2;unfold txF catR;split
  ·split
   ·omega
   ·rw [Pp,List.length_cons];omega
  ·omega
def Jp1:List UInt8:=[110,111,110,101]
def textR (n:Nat):List UInt8:=if txF n 8=[] then Jp1 else txF n 8
theorem J2m (n:Nat):(textR n).length≤100:=by
 have:=J6l n 8 Kd;unfold textR;split
 ·decide
 ·omega
theorem J2n:∀n:Nat,n<256→textR n≠[]:=Vm
def fmtR (n:Int):List UInt8×Int:=if n<0∨255<n then ([],2) else (textR n.toNat,0)
theorem J2o {n:Int} (h:n<0∨255<n):fmtR n=([],2):=by unfold fmtR;rw [if_pos h]
theorem J8q {n:Nat} (h:n<256):fmtR (n:Int)=(textR n,0):=by unfold fmtR;rw [if_neg Kd,Int.toNat_natCast]
def cutR (s:Nat) (c:List UInt8):Option Nat:=if Jeq c=-1 then none else if s<2 ^ (Jeq c).toNat then some (s+2 ^ (Jeq c).toNat) else none
theorem J2p {s:Nat} {c:List UInt8} (h:Jeq c=-1):cutR s c=none:=by unfold cutR;rw [if_pos h]
theorem Jut {s m:Nat} {c:List UInt8} (h:Jeq c=(m:Int)) (h2:¬s<2 ^ m):cutR s c=none:=by
 unfold cutR;rw [h,Int.toNat_natCast,if_neg Kd,if_neg h2]
theorem Jw2 {s m:Nat} {c:List UInt8} (h:Jeq c=(m:Int)) (h2:s<2 ^ m):cutR s c=some (s+2 ^ m):=by
 unfold cutR;rw [h,Int.toNat_natCast,if_neg Kd,if_pos h2]
def prsF (s:Nat) (c:List UInt8):List UInt8→Option Nat
 | []=>cutR s c
 | x::r=>if x=43 then (match cutR s c with | some t=>prsF t [] r | none=>none) else prsF s (c++[x]) r
def prsR (t:List UInt8):Int:=if t=Jp1 then 0 else match prsF 0 [] t with | some n=>(n:Int) | none=>-1
theorem Jw3:∀n:Nat,n<256→prsR (textR n)=(n:Int):=Vm
def ansR (n:Int):Int×Int:=if n=-1 then (0,3) else (n,0)
theorem Jiu (n:Nat):ansR (n:Int)=((n:Int),0):=by unfold ansR;rw [if_neg Kd]
def optR (o:Option Nat):Int:=match o with | some n=>(n:Int) | none=>-1
theorem Jw4 {t:List UInt8} (h:t≠Jp1):prsR t=optR (prsF 0 [] (t.drop 0)):=by unfold prsR;rw [if_neg h];rfl
theorem J2q {q:Int} {s k:Nat} {c t:List UInt8} (hr:q=optR (prsF s c (t.drop k))) (h:t.length≤k):q=optR (cutR s c):=by
 exact Vo
theorem Jw5 {q:Int} {s k:Nat} {c t:List UInt8} {x:UInt8} (hr:q=optR (prsF s c (t.drop k))) (h:t[k]?=some x) (hx:x≠43):q=optR (prsF s (c++[x]) (t.drop (k+1))):=by
 rw [hr,Jbd t k x h];conv=>lhs;unfold prsF
 rw [if_neg hx]
theorem J2r {q:Int} {s k u:Nat} {c t:List UInt8} (hr:q=optR (prsF s c (t.drop k))) (h:t[k]?=some 43) (hc:cutR s c=some u):q=optR (prsF u [] (t.drop (k+1))):=by
 rw [hr,Jbd t k 43 h];conv=>lhs;unfold prsF
 rw [if_pos rfl,hc]
theorem Jr1 {q:Int} {s k:Nat} {c t:List UInt8} (hr:q=optR (prsF s c (t.drop k))) (h:t[k]?=some 43) (hc:cutR s c=none):q=-1:=by
 rw [hr,Jbd t k 43 h];unfold prsF;rw [if_pos rfl,hc];rfl
theorem J8r {s:Nat} {m:Nat} (hs:s<256):s<2 ^ m↔∀j,j<64→s.testBit j=true→j<m:=by
 constructor
 ·intro h j _ hj
  rcases Nat.lt_or_ge j m with h2 | h2
  ·exact h2
  ·rw [Nat.testBit_lt_two_pow (Pr h (Nat.pow_le_pow_right Kl h2))] at hj
   cases hj
 ·intro h
  apply Nat.lt_pow_two_of_testBit
  intro j hj;rcases Nat.lt_or_ge j 64 with h2 | h2
  ·cases hb:s.testBit j with
   | false=>rfl
   | true=>have:=h j h2 hb;omega
  ·exact Nat.testBit_lt_two_pow (Pr hs (Nat.le_trans (by decide:256≤2 ^ 64) (Nat.pow_le_pow_right Kl h2)))
theorem Jw6 {s m:Nat} (h:s<2 ^ m):s ||| 2 ^ m=s+2 ^ m:=by
 rw [Jwl (Nat.testBit_lt_two_pow h)]
theorem Jkb:∀n:Nat,n<256→n≠0→List.intercalate [43] ((elems n).map nmR)=textR n:=Vm
theorem Juu:∀n:Nat,n<256→∀m∈elems n,m<8:=Vm
theorem valid_all_any (s:ByteArray) (w:World):Pb 193 #[.string s] w (.bool (Jaj s.data.toList)):=by
 by_cases hs:s.size≤1099511627776
 ·exact Jf7 s hs w
 have e:=Jbn s Kd;have he:s.toList.isEmpty=false:=Vq;have g:(32:Int)<(s.size:Int):=Kd;exact Vp
theorem rvalid_all_any (s:ByteArray) (w:World):Pb 158 #[.string s] w (.bool (Jaj s.data.toList)):=by
 by_cases hs:s.size≤1099511627776
 ·exact Jj5 s hs w
 have e:=Jbn s Kd;have he:((s.size:Int)==0)=false:=Jaa Kd;have he2:(s.size==0)=false:=Vs;have g:(32:Int)<(s.size:Int):=Kd;clear hs;rw [e];exact Qb
theorem valid_small {s:ByteArray} {id:List UInt8} (hs:str id=s) (hv:Jaj id=true):s.size≤32:=by
 exact Vx
end
namespace S13
open Go
abbrev St:=List UInt8×Int×Bool×Int
def idsS (l:List St):List (List UInt8):=l.map fun x=>x.1
theorem J8s (l:List St):(idsS l).length=l.length:=by unfold idsS;rw [Pq]
theorem Jr2 {l:List St} {k:Nat} {x:St} (h:l[k]?=some x):idsS (l.take (k+1))=idsS (l.take k)++[x.1]:=by
 unfold idsS;rw [Jbv l k x h,List.map_append];rfl
theorem Jlq {l:List St} {id:List UInt8}:id∈idsS l↔∃(j:Nat) (x:St),l[j]?=some x∧x.1=id:=by
 unfold idsS;rw [List.mem_map];constructor
 ·rintro⟨x,hx,rfl⟩
  exact V3
 ·rintro⟨j,x,hx,rfl⟩
  exact⟨x,List.mem_iff_getElem?.2 ⟨j,hx⟩,rfl⟩
def farS (z c:Int):Prop:=z<0∨16≤z∨c<0∨3600<c
instance (z c:Int):Decidable (farS z c):=by unfold farS;infer_instance
def badS (seen:List (List UInt8)) (x:St):Int:=if Jaj x.1=false then 12 else if x.1∈seen then 6 else if farS x.2.1 x.2.2.2 then 2 else 0
theorem Jlr {seen:List (List UInt8)} {x:St} (h:Jaj x.1=false):badS seen x=12:=by unfold badS;rw [if_pos h]
theorem Jnj {seen:List (List UInt8)} {x:St} (h:Jaj x.1=true) (h2:x.1∈seen):badS seen x=6:=by unfold badS;rw [if_neg Kw,if_pos h2]
theorem Jw7 {seen:List (List UInt8)} {x:St} (h:Jaj x.1=true) (h2:x.1 ∉ seen) (h3:farS x.2.1 x.2.2.2):badS seen x=2:=by unfold badS;rw [if_neg Kw,if_neg h2,if_pos h3]
theorem Jr3 {seen:List (List UInt8)} {x:St} (h:Jaj x.1=true) (h2:x.1 ∉ seen) (h3:¬farS x.2.1 x.2.2.2):badS seen x=0:=by unfold badS;rw [if_neg Kw,if_neg h2,if_neg h3]
def chkF (seen:List (List UInt8)) (k:Nat):List St→Int×Int
 | []=>(0,0)
 | x::r=>if badS seen x=0 then chkF (seen++[x.1]) (k+1) r else ((k:Int),badS seen x)
def chkT (l:List St):Int×Int:=if 64<l.length then (0,5) else chkF [] 0 l
theorem chkT_many {l:List St} (h:64<l.length):chkT l=(0,5):=by unfold chkT;rw [if_pos h]
theorem J2s {l:List St} (h:l.length≤64):chkT l=chkF [] 0 l:=by unfold chkT;rw [if_neg Kd]
theorem chkT_start {l:List St} (h:l.length≤64):chkT l=chkF (idsS (l.take 0)) 0 (l.drop 0):=by rw [J2s h];rfl
theorem Jw8 {seen:List (List UInt8)} {k:Nat} {x:St} {r:List St} (h:badS seen x=0):chkF seen k (x::r)=chkF (seen++[x.1]) (k+1) r:=by
 conv=>lhs;unfold chkF
 rw [if_pos h]
theorem J2t {seen:List (List UInt8)} {k:Nat} {x:St} {r:List St} (h:badS seen x≠0):chkF seen k (x::r)=((k:Int),badS seen x):=by
 unfold chkF;rw [if_neg h]
theorem Jnk {l:List St} {k:Nat} {x:St} (hr:chkT l=chkF (idsS (l.take k)) k (l.drop k)) (h:l[k]?=some x) (hb:badS (idsS (l.take k)) x=0):chkT l=chkF (idsS (l.take (k+1))) (k+1) (l.drop (k+1)):=by
 rw [hr,Jbd l k x h,Jw8 hb,Jr2 h]
theorem Jga {l:List St} {k:Nat} {x:St} (hr:chkT l=chkF (idsS (l.take k)) k (l.drop k)) (h:l[k]?=some x) {e:Int} (hb:badS (idsS (l.take k)) x=e) (he:e≠0):chkT l=((k:Int),e):=by
 rw [hr,Jbd l k x h,J2t (by rw [hb];exact he),hb]
theorem Jnl {l:List St} {k:Nat} (hr:chkT l=chkF (idsS (l.take k)) k (l.drop k)) (h:l.length≤k):chkT l=(0,0):=by
 exact Vo
def fndF (id:List UInt8) (k:Nat):List St→Int
 | []=>-1
 | x::r=>if x.1=id then (k:Int) else fndF id (k+1) r
def fndT (l:List St) (id:List UInt8):Int:=fndF id 0 l
theorem J2u {id:List UInt8} {k:Nat} {l:List St} {x:St} (h:l[k]?=some x) (hx:x.1=id):fndF id k (l.drop k)=(k:Int):=by
 rw [Jbd l k x h];unfold fndF;rw [if_pos hx]
theorem Jw9 {id:List UInt8} {k:Nat} {l:List St} {x:St} (h:l[k]?=some x) (hx:x.1≠id):fndF id k (l.drop k)=fndF id (k+1) (l.drop (k+1)):=by
 rw [Jbd l k x h];conv=>lhs;unfold fndF
 rw [if_neg hx]
theorem J2v {id:List UInt8} {k:Nat} {l:List St} (h:l.length≤k):fndF id k (l.drop k)=-1:=by
 rw [List.drop_of_length_le h];rfl
theorem Jxa:∀(l:List St) (id:List UInt8) (k:Nat),(fndF id k l=-1∧id ∉ idsS l)∨∃(j:Nat) (x:St),l[j]?=some x∧x.1=id∧fndF id k l=((k+j:Nat):Int)∧id ∉ idsS (l.take j)
 | [],_,_=>.inl ⟨rfl,by simp [idsS]⟩
 | y::r,id,k=>by
  by_cases hy:y.1=id
  ·refine .inr ⟨0,y,rfl,hy,?_,by simp [idsS]⟩
   unfold fndF;rw [if_pos hy];rfl
  ·have e:fndF id k (y::r)=fndF id (k+1) r:=by
    conv=>lhs;unfold fndF
    rw [if_neg hy]
   have hy':¬id=y.1:=fun h=>hy h.symm
   rcases Jxa r id (k+1) with ⟨h1,h2⟩ | ⟨j,x,h1,h2,h3,h4⟩
   ·refine .inl ⟨by rw [e,h1],?_⟩
    simp only [idsS,List.map_cons,List.mem_cons,not_or];exact⟨hy',h2⟩
   ·refine .inr ⟨j+1,x,h1,h2,?_,?_⟩
    ·rw [e,h3]
     congr 1
     omega
    ·rw [List.take_succ_cons]
     simp only [idsS,List.map_cons,List.mem_cons,not_or];exact⟨hy',h4⟩
theorem J8t (l:List St) (id:List UInt8):(fndT l id=-1∧id ∉ idsS l)∨∃(j:Nat) (x:St),l[j]?=some x∧x.1=id∧fndT l id=(j:Int)∧id ∉ idsS (l.take j):=by
 have:=Jxa l id 0;simp only [Nat.zero_add] at this;exact this
theorem J8u {l:List St} {i:Nat} {x:St} (h:l[i]?=some x):fndT l x.1<(i:Int)↔x.1∈idsS (l.take i):=by
 rcases J8t l x.1 with ⟨_,h2⟩ | ⟨j,y,h1,h2,h3,h4⟩
 ·exact absurd (Jlq.2 ⟨i,x,h,rfl⟩) h2
 ·rw [h3]
  constructor
  ·intro hlt
   refine Jlq.2 ⟨j,y,?_,h2⟩;rw [List.getElem?_take,if_pos Kd];exact h1
  ·intro hm
   obtain⟨k,z,hz,hzx⟩:=Jlq.1 hm;rw [List.getElem?_take] at hz;split at hz
   ·next hk =>
    rcases Nat.lt_or_ge j i with hj | hj
    ·omega
    ·refine absurd (Jlq.2 ⟨k,z,?_,hzx⟩) h4
     rw [List.getElem?_take,if_pos Kd];exact hz
   ·cases hz
open Go.RowKit
def se (x:St):List Value:=[.string (str x.1),.int .i64 x.2.1,.bool x.2.2.1,.int .i64 x.2.2.2]
theorem se_len (x:St):(se x).length=4:=rfl
abbrev LstS:=@LstG St se
theorem four_at {w:World} {A:Option Addr} {n c:Nat} {l:List St} (h:LstS w (.slice A n c) l) {i:Nat} {id:List UInt8} {z:Int} {f:Bool} {ch:Int} (hs:l[i]?=some (id,z,f,ch)) {s:ByteArray} (hst:str id=s) :
  ∃b o,A=some ⟨b,o,none⟩∧b<w.heap.size∧w.cell? ⟨b,o+i*4,none⟩=some (.string s)∧w.cell? ⟨b,o+i*4+1,none⟩=some (.int .i64 z)∧w.cell? ⟨b,o+i*4+2,none⟩=some (.bool f)∧w.cell? ⟨b,o+i*4+3,none⟩=some (.int .i64 ch):=by
 subst hst;obtain⟨A',c',hv,_,_,hx⟩:=h;cases hv;have hi:=(Pl hs).1;obtain⟨b,o,rfl,hb,hcell⟩:=hx Kd;refine⟨b,o,rfl,hb,hcell (i*4) _ (by rw [←Nat.add_zero (i*4),Jbr se_len hs 0 Kd];rfl),(hcell (i*4+1) _ (by rw [Jbr se_len hs 1 Kd];rfl):_),(hcell (i*4+2) _ (by rw [Jbr se_len hs 2 Kd];rfl):_),(hcell (i*4+3) _ (by rw [Jbr se_len hs 3 Kd];rfl):_)⟩
abbrev boxS (s:ByteArray) (z:Int) (f:Bool) (ch:Int):Obj:=.cells #[.string s,.int .i64 z,.bool f,.int .i64 ch] 112 (0,0)
theorem J6m {w w7:World} {s:ByteArray} {z:Int} {f:Bool} {ch:Int} (h:w.alloc (boxS s z f ch)=w7) :
  Pn w w7∧w7.cell? ⟨w.heap.size,0,none⟩=some (.string s)∧w7.cell? ⟨w.heap.size,1,none⟩=some (.int .i64 z)∧w7.cell? ⟨w.heap.size,2,none⟩=some (.bool f)∧w7.cell? ⟨w.heap.size,3,none⟩=some (.int .i64 ch)∧w.heap.size<w7.heap.size:=by
 subst h;have c7:=heap_alloc_new w (boxS s z f ch);exact⟨(Below.refl _ _).alloc Ph _,Vl,Vk,Vj,by rw [cell_of_row _ _ 3 _ _ _ c7];rfl,Kj⟩
theorem str_ne {id:List UInt8} {x:List UInt8} {s t:ByteArray} (hs:str x=s) (ht:str id=t) (h:x≠id):s≠t:=by
 intro e;apply h;have e2:str x=str id:=Vz;exact Vi
theorem ret_chk {a b c d:Int} (h:a=b) (k:c=d):Ending.returned (.tuple #[.int .i64 a,.int .i64 c])=.returned (.tuple #[.int .i64 b,.int .i64 d]):=Qk
theorem Jxb (id:List UInt8) (z:Int) (f:Bool) (ch:Int) (s:ByteArray) (hs:str id=s) (b:Nat) (ls:List (List UInt8)) (w:World) (hm:MapB w b ls) :
  Pc 188 #[.agg #[.string s,.int .i64 z,.bool f,.int .i64 ch],.map (some b)] w (.int .i64 (badS ls (id,z,f,ch))):=by
 have hid:s.data.toList=id:=Vw;obtain⟨w7,hw7⟩:=Pi (w.alloc (.cells #[.string s,.int .i64 z,.bool f,.int .i64 ch] 112 (0,0)));obtain⟨b7,p0,p1,p2,p3,-⟩:=J6m hw7;have lk:=fun hq:s.size≤32=>(hm.below b7).look s id hid Kd
 have V:=Pe (valid_all_any s w7);rw [hid] at V;have B7:=Pe b7;clear b7 hm hid;cases hv:Jaj id with
 | false =>
  have R:=Pe (Jlr (seen:=ls) (x:=(id,z,f,ch)) hv);rw [hv] at V;clear hv hs lk;go_enter func188,ntmps188;go_wp2_with fail;refine Pf V.out ?_;exact Vd
 | true =>
  rw [hv] at V;have lk:=lk (valid_small hs hv);clear hs;by_cases hd:id∈ls
  ·have R:=Pe (Jnj (x:=(id,z,f,ch)) hv hd)
   rw [Pk hd] at lk;clear hv hd;go_enter func188,ntmps188;go_wp2_with fail;refine Pf V.out ?_;exact Vd
  ·rw [Pj hd] at lk
   have RF:=Pe (fun hf=>Jw7 (x:=(id,z,f,ch)) hv hd hf);have RN:=Pe (fun hf=>Jr3 (x:=(id,z,f,ch)) hv hd hf);clear hv hd;unfold farS at RF RN;simp only at RF RN;by_cases h1:z<0
   ·have R:=Pe (RF.out (.inl h1))
    clear RF RN;go_enter func188,ntmps188;go_wp2_with fail;refine Pf V.out ?_;exact Vd
   have d1:decide (z<0)=false:=Pj h1;by_cases h2:16≤z
   ·have R:=Pe (RF.out (.inr (.inl h2)))
    clear RF RN h1;go_enter func188,ntmps188;go_wp2_with fail;refine Pf V.out ?_;exact Vd
   have d2:decide (16≤z)=false:=Pj h2;by_cases h3:ch<0
   ·have R:=Pe (RF.out (.inr (.inr (.inl h3))))
    clear RF RN h1 h2;go_enter func188,ntmps188;go_wp2_with fail;refine Pf V.out ?_;exact Vd
   have d3:decide (ch<0)=false:=Pj h3;by_cases h4:3600<ch
   ·have R:=Pe (RF.out (.inr (.inr (.inr h4))))
    clear RF RN h1 h2 h3;go_enter func188,ntmps188;go_wp2_with fail;refine Pf V.out ?_;exact Vd
   have d4:decide (3600<ch)=false:=Pj h4;have R:=Pe (RN.out Kd);clear RF RN h1 h2 h3 h4;go_enter func188,ntmps188;go_wp2_with fail;refine Pf V.out ?_;exact Vd
theorem Juv {seen:List (List UInt8)} {x:St} (h:badS seen x=0):Jaj x.1=true:=by
 cases hv:Jaj x.1 with
 | true=>rfl
 | false=>rw [Jlr hv] at h;cases h
theorem kcheck_all (v:Value) (l:List St) (hl:l.length≤9223372036854775807) (w:World) (h:LstS w v l):Pc 97 #[v] w (.tuple #[.int .i64 ((chkT l).1),.int .i64 ((chkT l).2)]):=by
 have H:=Pe h;obtain⟨A,c,rfl,-,-,-⟩:=h;by_cases h64:64<l.length
 ·have R:=Pe (chkT_many h64)
  have g:(64:Int)<(l.length:Int):=Kd;generalize chkT l=q at R ⊢;clear h64;go_enter func97,ntmps97;exact Vc
 have g:decide ((64:Int)<(l.length:Int))=false:=Q4;have ST:=Pe (chkT_start (l:=l) Kd);have h64':l.length≤64:=Kd;have hmm:=@run_makeMap prog;obtain⟨q,hq⟩:=Pi (chkT l);rw [hq];have HQ:=Pe hq;clear h64 hq;go_enter func97,ntmps97;go_wp2_with fail;go_loopw [14] (fun i wr=>∃k:Nat,i=.int .i64 k∧k≤l.length∧Hid (chkT l=chkF (idsS (l.take k)) k (l.drop k))∧Hid (MapB wr w.heap.size (idsS (l.take k)))∧Hid (Pn w wr)) (fun i _=>l.length - (intOf i).toNat);case atStart=>exact⟨0,rfl,Nat.zero_le _,ST,Pe (MapB.made w),Pe ((Below.refl _ _).alloc Ph _)⟩
 case round =>
  clear g ST hmm;obtain⟨k,rfl,hk,hz,HM,HB⟩:=hrel;by_cases hlt:k<l.length
  ·obtain⟨⟨id,z,f,ch⟩,hx⟩:=Jah hlt
   obtain⟨nm,hnm⟩:=Pi (str id);obtain⟨b,o,rfl,hb,r0,r1,r2,r3⟩:=four_at (H.out.below HB.out) hx hnm;have gk:(k:Int)<(l.length:Int):=Kd;obtain⟨w7,hw7⟩:=Pi (wr.alloc (.cells #[.string nm,.int .i64 z,.bool f,.int .i64 ch] 112 (0,0)));obtain⟨b7,p0,p1,p2,p3,s7⟩:=J6m hw7;have B7:Hid (Pn w w7):=HB.out.trans (b7.mono HB.out.size);have M7:=Pe (HM.out.below b7);have C:=Pe (Jxb id z f ch nm hnm w.heap.size (idsS (l.take k)) w7 M7.out);by_cases he:badS (idsS (l.take k)) (id,z,f,ch)=0
   ·have N:=Pe (Jnk hz.out hx he)
    have T:=Pe (Jr2 hx);have hil:(idsS (l.take k)).length≤64:=by rw [J8s,List.length_take];omega
    have hid:Hid (nm.data.toList=id):=Vv;have hns:=valid_small hnm (Juv he);rw [he] at C;simp only at T;clear hx hz HB HM b7 hnm hb he;go_wp2_with fail;refine C.out.mono ?_;rintro e w8 ⟨rfl,b8⟩;have q0:=(b8.cell (p:=⟨wr.heap.size,0,none⟩) s7).trans p0;have B8:Hid (Pn w w8):=B7.out.trans (b8.mono B7.out.size);have M8:=Pe (M7.out.below b8);clear b8 p0 p1 p2 p3 B7 M7 C;go_wp2_with (at_mapUpdate;refine Jf5 _ rfl _ _ _ rfl w.heap.size (idsS (l.take k)) rfl M8.out nm id hid.out Kd rfl rfl Kd ?_;intro w9 m9 g9);have M:Hid (MapB w9 w.heap.size (idsS (l.take (k+1)))):=by
     show MapB _ _ _
     rw [T.out];exact m9
    have B:Hid (Pn w w9):=B8.out.grown g9 B8.out.size (fun j hj=>Vh);clear m9 g9 M8 B8;go_wp2_with fail;go_roundw;case rel=>exact⟨k+1,Kg,Kd,N,M,B⟩
    case measure=>exact Qz
   ·have R:=Pe (Jga hz.out hx rfl he)
    have ne:=Jaf he;generalize badS (idsS (l.take k)) (id,z,f,ch)=y at C R ne;clear hx hz HB HM b7 hnm hb he;go_wp2_with fail;refine C.out.mono ?_;rintro e w8 ⟨rfl,b8⟩;have B8:Hid (Pn w w8):=B7.out.trans (b8.mono B7.out.size);clear b8 B7 C p0 p1 p2 p3;go_wp2_with fail;go_ret2;exact⟨ret_chk Vf Vf,B8.out⟩
  ·have R:=Pe (Jnl hz.out Kd)
   have d:decide (k<l.length)=false:=Kb;exact Vu
theorem rfind_any (v:Value) (l:List St) (hl:l.length≤1099511627776) (id:List UInt8) (t:ByteArray) (ht:str id=t) (w:World) (h:LstS w v l):Pb 155 #[v,.string t] w (.int .i64 (fndT l id)):=by
 have H:=Pe h;have HT:=Pe ht;clear ht;obtain⟨A,c,rfl,-,-,-⟩:=h;obtain⟨r,hr⟩:=Pi (fndT l id);rw [hr];have HR:=Pe hr;clear hr;go_enter func155,ntmps155;go_wp2_with fail;go_loop [5] (fun i=>∃k:Nat,i=.int .i64 k∧k≤l.length∧Hid (fndT l id=fndF id k (l.drop k))) (fun i=>l.length - (intOf i).toNat);case atStart=>exact⟨0,rfl,Nat.zero_le _,Pe rfl⟩
 case round =>
  obtain⟨k,rfl,hk,hz⟩:=hrel;by_cases hlt:k<l.length
  ·obtain⟨⟨ix,z,f,ch⟩,hx⟩:=Jah hlt
   obtain⟨nm,hnm⟩:=Pi (str ix);obtain⟨b,o,rfl,hb,r0,r1,r2,r3⟩:=four_at H.out hx hnm;have gk:(k:Int)<(l.length:Int):=Kd;by_cases he:ix=id
   ·have g:=Jby (a:=nm) (b:=t) Vy
    have R:Hid (r=(k:Int)):=by
     show _=_
     rw [←HR.out,hz.out,J2u hx he]
    clear hx hz hnm hb he hlt HR HT;exact Vg
   ·have g:=Jb7 (a:=nm) (b:=t) (str_ne hnm HT.out he)
    have N:Hid (fndT l id=fndF id (k+1) (l.drop (k+1))):=by
     show _=_
     rw [hz.out,Jw9 hx he]
    clear hx hz hnm hb he;go_wp2_with fail;go_round;case rel=>exact⟨k+1,Kg,Kd,N⟩
    case measure=>exact Qz
  ·have R:Hid (r=-1):=by
    show _=_
    rw [←HR.out,hz.out,J2v Kd]
   have d:decide (k<l.length)=false:=Kb;clear hz hlt HR HT;exact Vg
theorem Juw (s:ByteArray) (hs:s.size≤1099511627776) (w:World):Pb 154 #[.string s] w (.bool (Jaj s.data.toList)):=by
 by_cases h0:s.size=0
 ·have e:=Jeo s h0
  have he:(s.size:Int)<1:=Kd;rw [e];clear e h0;go_enter func154,ntmps154;exact Ki
 have he:decide ((s.size:Int)<1)=false:=Q4;by_cases h3:32<s.size
 ·have e:=Jbn s h3
  have g:(32:Int)<(s.size:Int):=Kd;clear h0 h3;rw [e];go_enter func154,ntmps154;exact Ki
 have g:decide ((32:Int)<(s.size:Int))=false:=Ke;rw [Jf6 s Kd Kd];obtain⟨r,hr⟩:=Pi (s.data.toList.all idB);rw [hr];have HR:=Pe hr;clear hr;clear h0 h3;go_enter func154,ntmps154;go_wp2_with fail;go_loop [3] (fun i=>∃k:Nat,i=.int .i64 k∧k≤s.size∧Hid ((s.data.toList.take k).all idB=true)) (fun i=>s.size - (intOf i).toNat);case atStart=>exact⟨0,rfl,Nat.zero_le _,Pe rfl⟩
 case round =>
  clear he g;obtain⟨k,rfl,hk,ht⟩:=hrel;by_cases hlt:k<s.size
  ·obtain⟨c,hc⟩:=Jdr s k hlt
   have k1:=fun W=>Jb2 s k c hc k rfl W
   have hid:=Jlm c;generalize hn:(c.toNat:Int)=n at k1 hid;clear hn;unfold lttI digI sgnI at hid;rcases Jis n with h | rfl | rfl | rfl | h | h | h | h | rfl | rfl | h | h
   ·have T:=Pe (Jbb (p:=idB) hc Kp)
    have g0:decide ((65:Int)≤n)=false:=Q4;have g1:n≤90:=Kd;have g2:decide ((97:Int)≤n)=false:=Q4;have g3:n≤122:=Kd;have g4:decide ((48:Int)≤n)=false:=Q4;have g5:n≤57:=Kd;exact Vb
   ·have T:=Pe (Ja4 idB _ k c hc ht.out Kv)
    clear hc hid ht;go_wp2_with fail;go_round;case rel=>exact⟨k+1,Kg,Kd,T⟩
    case measure=>exact Qz
   ·have T:=Pe (Ja4 idB _ k c hc ht.out Kv)
    clear hc hid ht;go_wp2_with fail;go_round;case rel=>exact⟨k+1,Kg,Kd,T⟩
    case measure=>exact Qz
   ·have T:=Pe (Jbb (p:=idB) hc Kv)
    exact Qa
   ·have T:=Pe (Ja4 idB _ k c hc ht.out Kp)
    have g0:decide ((65:Int)≤n)=false:=Q4;have g1:n≤90:=Kd;have g2:decide ((97:Int)≤n)=false:=Q4;have g3:n≤122:=Kd;have g4:(48:Int)≤n:=Kd;have g5:n≤57:=Kd;have q0:(n==45)=false:=Jaa Kd;have q1:(n==95)=false:=Jaa Kd;have q2:(n==46)=false:=Jaa Kd;clear hc hid ht h;go_wp2_with fail;go_round;case rel=>exact⟨k+1,Kg,Kd,T⟩
    case measure=>exact Qz
   ·have T:=Pe (Jbb (p:=idB) hc Kp)
    have g0:decide ((65:Int)≤n)=false:=Q4;have g1:n≤90:=Kd;have g2:decide ((97:Int)≤n)=false:=Q4;have g3:n≤122:=Kd;have g4:(48:Int)≤n:=Kd;have g5:decide (n≤57)=false:=Q4;exact Vb
   ·have T:=Pe (Ja4 idB _ k c hc ht.out Kp)
    have g0:(65:Int)≤n:=Kd;have g1:n≤90:=Kd;have g2:decide ((97:Int)≤n)=false:=Q4;have g3:n≤122:=Kd;have g4:(48:Int)≤n:=Kd;have g5:decide (n≤57)=false:=Q4;have q0:(n==45)=false:=Jaa Kd;have q1:(n==95)=false:=Jaa Kd;have q2:(n==46)=false:=Jaa Kd;clear hc hid ht h;go_wp2_with fail;go_round;case rel=>exact⟨k+1,Kg,Kd,T⟩
    case measure=>exact Qz
   ·have T:=Pe (Jbb (p:=idB) hc Kp)
    have g0:(65:Int)≤n:=Kd;have g1:decide (n≤90)=false:=Q4;have g2:decide ((97:Int)≤n)=false:=Q4;have g3:n≤122:=Kd;have g4:(48:Int)≤n:=Kd;have g5:decide (n≤57)=false:=Q4;exact Vb
   ·have T:=Pe (Ja4 idB _ k c hc ht.out Kv)
    clear hc hid ht;go_wp2_with fail;go_round;case rel=>exact⟨k+1,Kg,Kd,T⟩
    case measure=>exact Qz
   ·have T:=Pe (Jbb (p:=idB) hc Kv)
    exact Qa
   ·have T:=Pe (Ja4 idB _ k c hc ht.out Kp)
    have g0:(65:Int)≤n:=Kd;have g1:decide (n≤90)=false:=Q4;have g2:(97:Int)≤n:=Kd;have g3:n≤122:=Kd;have g4:(48:Int)≤n:=Kd;have g5:decide (n≤57)=false:=Q4;have q0:(n==45)=false:=Jaa Kd;have q1:(n==95)=false:=Jaa Kd;have q2:(n==46)=false:=Jaa Kd;clear hc hid ht h;go_wp2_with fail;go_round;case rel=>exact⟨k+1,Kg,Kd,T⟩
    case measure=>exact Qz
   ·have T:=Pe (Jbb (p:=idB) hc Kp)
    have g0:(65:Int)≤n:=Kd;have g1:decide (n≤90)=false:=Q4;have g2:(97:Int)≤n:=Kd;have g3:decide (n≤122)=false:=Q4;have g4:(48:Int)≤n:=Kd;have g5:decide (n≤57)=false:=Q4;exact Vb
  ·have R:Hid (r=true):=by
    show _=_
    exact Ku
   have d:decide (k<s.size)=false:=Kb;clear hlt ht;exact Ka
theorem Jj1 (s:ByteArray) (w:World):Pb 154 #[.string s] w (.bool (Jaj s.data.toList)):=by
 by_cases hs:s.size≤1099511627776
 ·exact Juw s hs w
 have e:=Jbn s Kd;have he:decide ((s.size:Int)<1)=false:=Q4;have g:(32:Int)<(s.size:Int):=Kd;clear hs;rw [e];go_enter func154,ntmps154;exact Ki
theorem rcheck_all (v:Value) (l:List St) (hl:l.length≤9223372036854775807) (w:World) (h:LstS w v l):Pb 68 #[v] w (.tuple #[.int .i64 ((chkT l).1),.int .i64 ((chkT l).2)]):=by
 have H:=Pe h;obtain⟨A,c,rfl,-,-,-⟩:=h;by_cases h64:64<l.length
 ·have R:=Pe (chkT_many h64)
  have g:(64:Int)<(l.length:Int):=Kd;generalize chkT l=q at R ⊢;clear h64;go_enter func68,ntmps68;go_wp2_with fail;go_ret2;exact⟨ret_chk Va Va,rfl⟩
 have g:decide ((64:Int)<(l.length:Int))=false:=Q4;have ST:=Pe (chkT_start (l:=l) Kd);have h64':l.length≤64:=Kd;obtain⟨q,hq⟩:=Pi (chkT l);rw [hq];have HQ:=Pe hq;clear h64 hq;go_enter func68,ntmps68;go_wp2_with fail;go_loop [4] (fun i=>∃k:Nat,i=.int .i64 k∧k≤l.length∧Hid (chkT l=chkF (idsS (l.take k)) k (l.drop k))) (fun i=>l.length - (intOf i).toNat);case atStart=>exact⟨0,rfl,Nat.zero_le _,ST⟩
 case round =>
  clear g ST;obtain⟨k,rfl,hk,hz⟩:=hrel;by_cases hlt:k<l.length
  ·obtain⟨⟨id,z,f,ch⟩,hx⟩:=Jah hlt
   obtain⟨nm,hnm⟩:=Pi (str id);have F:=Pe (rfind_any _ l Kd id nm hnm w H.out);obtain⟨b,o,rfl,hb,r0,r1,r2,r3⟩:=four_at H.out hx hnm;have gk:(k:Int)<(l.length:Int):=Kd;have hid:nm.data.toList=id:=Vt;have V:=Pe (Jj1 nm w);rw [hid] at V;have FL:=J8u hx;simp only at FL;generalize fndT l id=p at F FL;cases hv:Jaj id with
   | false =>
    have R:=Pe (Jga hz.out hx (Jlr (seen:=idsS (l.take k)) (x:=(id,z,f,ch)) hv) Kl);rw [hv] at V;clear hx hz hnm hb hid hv FL F;go_wp2_with fail;refine Pf V.out ?_;exact Ve
   | true =>
    rw [hv] at V;by_cases hd:id∈idsS (l.take k)
    ·have R:=Pe (Jga hz.out hx (Jnj (x:=(id,z,f,ch)) hv hd) Kl)
     have fl:=FL.2 hd;clear hx hz hnm hb hid hv FL hd;go_wp2_with fail;refine Pf V.out ?_;go_wp2_with fail;refine Pf F.out ?_;exact Ve
    ·have fl:decide (p<(k:Int))=false:=Pj fun e=>hd (FL.1 e)
     have RF:=Pe (fun hf=>Jga hz.out hx (Jw7 (x:=(id,z,f,ch)) hv hd hf) Kl);have RN:=Pe (fun hf=>Jnk hz.out hx (Jr3 (x:=(id,z,f,ch)) hv hd hf));unfold farS at RF RN;simp only at RF RN;clear hx hz hnm hb hid hv FL hd;go_wp2_with fail;refine Pf V.out ?_;go_wp2_with fail;refine Pf F.out ?_;clear V F;by_cases h1:z<0
     ·have R:=Pe (RF.out (.inl h1))
      clear RF RN;exact Ve
     have d1:decide (z<0)=false:=Pj h1;by_cases h2:16≤z
     ·have R:=Pe (RF.out (.inr (.inl h2)))
      clear RF RN h1;exact Ve
     have d2:decide (16≤z)=false:=Pj h2;by_cases h3:ch<0
     ·have R:=Pe (RF.out (.inr (.inr (.inl h3))))
      clear RF RN h1 h2;exact Ve
     have d3:decide (ch<0)=false:=Pj h3;by_cases h4:3600<ch
     ·have R:=Pe (RF.out (.inr (.inr (.inr h4))))
      clear RF RN h1 h2 h3;exact Ve
     have d4:decide (3600<ch)=false:=Pj h4;have N:=Pe (RN.out Kd);clear RF RN h1 h2 h3 h4;go_wp2_with fail;go_round;case rel=>exact⟨k+1,Kg,Kd,N⟩
     case measure=>exact Qz
  ·have R:=Pe (Jnl hz.out Kd)
   have d:decide (k<l.length)=false:=Kb;clear hz hlt;exact Ve
open Go.RowKit Go.ChangeShapes Go.WideShapes Go.Deep
end S13
end Go.Proofs.YtpifdbphmnifdaaGreatDoor
