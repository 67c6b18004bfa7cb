/-
  Facts. Condition: each theorem's own.
-/
import Derived.Lib.Strings
import Derived.Lib.ItoaNum
import Derived.Laws.RangeAny
import GoSem.Op.String
import Derived.Test.YtpifdbphmnifdaaGreatDoorRows
import Derived.WalkKit
import Derived.WalkSpells
import Derived.WalkLawsBesides
import Derived.WalkSmall
import Derived.Lib.Hide
import Derived.Lib.LaidTab
import Derived.Laws.RangeString
import Derived.Laws.BytesArg
import Derived.LoopN
import Derived.Sort.Grow
import Derived.ShutString
import Derived.Deep.RegionHeld3
import Derived.Deep.QuietTactic
import Derived.BigQuiet
import Derived.Lib.AppendStr
import Derived.OwnWalk
import Derived.Laws.OwnMore
import Derived.Laws.IdiomStrings
import Derived.Deep.RegionLaw
import Derived.Deep.OwnRows
import Derived.Laws.Rows
import Derived.SliceStrings
import Derived.OpenShut
import Derived.Carry
import Derived.Maps.OwnSet
import Derived.WalkArith
import Derived.Lib.Bytealg
set_option maxRecDepth 100000
set_option maxHeartbeats 8000000
section
variable {p:Prop}
theorem Ka (h:p:=by go_wp2_with fail;go_ret;exact⟨Jab R.out.symm,rfl⟩):p:=h
theorem Kb (h:p:=by rw [decide_eq_false_iff_not];exact hlt):p:=h
theorem Kc (h:p:=by clear hc hid ht h;go_wp2_with fail;go_ret;exact⟨Jab (by rw [←HR.out,T.out]),rfl⟩):p:=h
theorem Kd (h:p:=by omega):p:=h
theorem Ke (h:p:=by simp;omega):p:=h
theorem Kf (h:p:=by simp [intOf];omega):p:=h
theorem Kg (h:p:=by go_num):p:=h
theorem Kh (h:p:=by go_wp2_with fail;go_ret;exact⟨Jab (by rw [←HR.out,T.out]),rfl⟩):p:=h
theorem Ki (h:p:=by go_wp2_with fail;go_ret;exact⟨rfl,rfl⟩):p:=h
theorem Kj (h:p:=by simp):p:=h
theorem Kk (h:p:=by kernel_rfl):p:=h
theorem Kl (h:p:=by decide):p:=h
theorem Km (h:p:=by first | exact Pg | exact (Below.refl _ _).drew):p:=h
theorem Kn (h:p:=by assumption):p:=h
theorem Ko (h:p:=by have q0:(n != 45)=true:=Jaf Kd;have q1:(n != 95)=true:=Jaf Kd;have q2:(n != 46)=true:=Jaf Kd;exact Kc):p:=h
theorem Kp (h:p:=by rw [hid];simp;omega):p:=h
theorem Kq (h:p:=by simp [WideAt.IsKeyLit]):p:=h
theorem Kr (h:p:=by unfold maxLen;omega):p:=h
theorem Ks (h:p:=by unfold Addr.add;split <;> simp_all):p:=h
theorem Kt (h:p:=by simpa using h):p:=h
theorem Ku (h:p:=by rw [←HR.out];have:=ht.out;rw [List.take_of_length_le (by rw [Ja1];omega)] at this;exact this):p:=h
theorem Kv (h:p:=by rw [hid];simp):p:=h
theorem Kw (h:p:=by rw [h];simp):p:=h
theorem Kx (h:p:=by exact Kf):p:=h
theorem Ky (h:p:=by rw [beq_eq_false_iff_ne];exact h0):p:=h
theorem Kz (h:p:=by rw [e];go_enter func193,ntmps193;exact Ki):p:=h
theorem K4 (h:p:=by clear h;go_enter func259,ntmps259;exact Ka):p:=h
theorem K5 (h:p:=by show _=_;unfold lttI;simp;omega):p:=h
theorem K6 (h:p:=by simp at hc;simp [hm,←hc]):p:=h
theorem K7 (h:p:=by obtain⟨b,o,hA,hbl,hcell⟩:=hx h0;exact⟨b,o,hA,Pr hbl hb.size,fun j x hj=>(hb.cell (p:=⟨b,o+j,none⟩) hbl).trans (hcell j x hj)⟩):p:=h
theorem K8 (h:p:=by rw [Jao];omega):p:=h
theorem K9 (h:p:=by exact Kx):p:=h
theorem Qa (h:p:=by clear hc hid ht;exact Kh):p:=h
theorem Qb (h:p:=by go_enter func158,ntmps158;exact Ki):p:=h
theorem Qc (h:p:=by rw [hem];simpa using h0):p:=h
theorem Qd (h:p:=by rw [has_put_same h2 Kq];simp):p:=h
theorem Qe (h:p:=by simp [has_eq]):p:=h
theorem Qf (h:p:=by cases h):p:=h
theorem Qg (h:p:=by rw [Pp,List.map_append];exact h1):p:=h
theorem Qh (h:p:=by rw [hadd,cell_of_row w k j cells _ _ hk,←hu,hc];simp):p:=h
theorem Qi (h:p:=by intro u hu;obtain⟨b,_,rfl⟩:=List.mem_map.1 hu;rfl):p:=h
theorem Qj (h:p:=by rw [h]):p:=h
theorem Qk (h:p:=by rw [h,k]):p:=h
theorem Ql (h:p:=by rw [Nat.pow_succ];omega):p:=h
theorem Qm (h:p:=by exact K9):p:=h
theorem Qn (h:p:=by clear h;go_enter func260,ntmps260;exact Ka):p:=h
theorem Qo (h:p:=by show _=_;unfold digI;simp;omega):p:=h
theorem Qp (h:p:=by simpa [hx] using hi):p:=h
theorem Qq (h:p:=by simpa using hx):p:=h
theorem Qr (h:p:=by rw [atKey_put_same h2 Kq]):p:=h
theorem Qs (h:p:=by rw [Pp];exact g1):p:=h
theorem Qt (h:p:=by simp at h):p:=h
theorem Qu (h:p:=by rw [hk,Nat.add_mul];omega):p:=h
theorem Qv (h:p:=by have:=(Pl hj).1;omega):p:=h
theorem Qw (h:p:=by exact Qm):p:=h
theorem Qx (h:p:=by simp [h1]):p:=h
theorem Qy (h:p:=by simp at this;omega):p:=h
theorem Qz (h:p:=by exact Qw):p:=h
end
theorem Pe {p:Prop} (h:p):Go.RowKit.Hid p:=h
theorem Pf {P f a w v w2} {R:Go.Ending→Go.World→Prop} (h:Go.Calls P f a w fun e w'=>e=v∧w2=w') (k:R v w2):Go.Calls P f a w R:=h.mono fun _ _ h=>h.1▸h.2▸k
theorem Pg {n:Nat} {w:Go.World}:Go.RowKit.Below n w w:=.refl _ _
theorem Ph {n:Nat}:n≤n:=Nat.le_refl _
theorem Pi {α:Sort _} (a:α):∃x,a=x:=⟨a,rfl⟩
theorem Pj {p:Prop} [Decidable p] (h:¬p):decide p=false:=decide_eq_false h
theorem Pk {p:Prop} [Decidable p] (h:p):decide p=true:=decide_eq_true h
theorem Pl {α:Type _} {l:List α} {i:Nat} {a:α} (h:l[i]?=some a):∃h:i<l.length,l[i]=a:=List.getElem?_eq_some_iff.1 h
theorem Pm {α:Type _} {l:Array α} {i:Nat} {a:α} (h:l[i]?=some a):∃h:i<l.size,l[i]=a:=Array.getElem?_eq_some_iff.1 h
abbrev Pn (w w':Go.World):Prop:=Go.RowKit.Below w.heap.size w w'
theorem Po {α:Type _} {a b:α} (h:some a=some b):a=b:=Option.some.inj h
theorem Pp {α:Type _} {l r:List α}:(l++r).length=l.length+r.length:=List.length_append
theorem Pq {α β:Type _} {f:α→β} {l:List α}:(l.map f).length=l.length:=List.length_map f
theorem Pr {a b c:Nat} (h:a<b) (k:b≤c):a<c:=Nat.lt_of_lt_of_le h k
theorem Ps {p:Prop} [Decidable p] (h:¬¬p):p:=Decidable.not_not.1 h
abbrev Pb (f:Go.FuncId) (a:Array Go.Value) (w:Go.World) (v:Go.Value):Prop:=Go.Calls Go.Proofs.Tryz.prog f a w fun e w'=>e=.returned v∧w=w'
abbrev Pc (f:Go.FuncId) (a:Array Go.Value) (w:Go.World) (v:Go.Value):Prop:=Go.Calls Go.Proofs.Tryz.prog f a w fun e w'=>e=.returned v∧Go.RowKit.Below w.heap.size w w'
open Go.Proofs.Tryz
namespace Go.Proofs.YtpifdbphmnifdaaGreatDoor
section
open Go
abbrev str (l:List UInt8):ByteArray:=⟨l.toArray⟩
def dig (c:UInt8):Bool:=decide (48≤c.toNat∧c.toNat≤57)
def digs (l:List UInt8):Bool:=l.all dig
def valN (l:List UInt8):Nat:=l.foldl (fun n c=>n*10+(c.toNat - 48)) 0
theorem Jcj (c:UInt8):dig c=true↔48≤c.toNat∧c.toNat≤57:=by unfold dig;exact decide_eq_true_iff
theorem Jil (l:List UInt8) (c:UInt8):valN (l++[c])=valN l*10+(c.toNat - 48):=by simp [valN]
theorem Jwi:∀(l:List UInt8) (a:Nat),digs l=true→l.foldl (fun n c=>n*10+(c.toNat - 48)) a<(a+1)*10 ^ l.length
 | [],a,_=>Kj
 | c::l,a,h=>by
  have hl:dig c=true∧digs l=true:=by simpa [digs] using h
  have hc:=(Jcj c).1 hl.1;have:=Jwi l (a*10+(c.toNat - 48)) hl.2;rw [List.foldl_cons,List.length_cons,Nat.pow_succ];refine Pr this ?_;rw [Nat.mul_comm (10 ^ l.length) 10,←Nat.mul_assoc];exact Nat.mul_le_mul_right _ Kd
theorem Jlg (l:List UInt8) (h:digs l=true):valN l<10 ^ l.length:=by
 have:=Jwi l 0 h;simpa [valN] using this
theorem Jm6 (l:List UInt8) (k:Nat) (h:digs l=true):digs (l.take k)=true:=by
 unfold digs at *;rw [List.all_eq_true] at *;exact fun x hx=>h x (List.mem_of_mem_take hx)
theorem Jd8 (s:ByteArray) (k:Nat) (h:k<s.size):s.data.toList[k]?=some s[k]:=by
 rw [List.getElem?_eq_getElem Kt];rfl
theorem Jfy (s:ByteArray) (k:Nat) (h:k<s.size):s.data.toList.take (k+1)=s.data.toList.take k++[s[k]]:=by
 rw [List.take_succ_eq_append_getElem Kt];rfl
theorem Jlh (s:ByteArray) (k:Nat) (h:k<s.size) (hd:digs s.data.toList=true):48≤s[k].toNat∧s[k].toNat≤57:=by
 unfold digs at hd;rw [List.all_eq_true] at hd;exact (Jcj _).1 (hd _ (List.mem_iff_getElem?.2 ⟨k,Jd8 s k h⟩))
theorem Jhr (s:ByteArray) (k:Nat) (h:¬k<s.size) (hd:digs (s.data.toList.take k)=true):digs s.data.toList=true:=by
 rwa [List.take_of_length_le Kt] at hd
theorem Jm7 (s:ByteArray) (k:Nat) (h:k<s.size) (hd:digs (s.data.toList.take k)=true) (hc:48≤s[k].toNat∧s[k].toNat≤57):digs (s.data.toList.take (k+1))=true:=by
 rw [Jfy s k h];have:=(Jcj _).2 hc;simp_all [digs]
def two (x:Int):List UInt8:=[UInt8.ofNat (48+x.toNat / 10),UInt8.ofNat (48+x.toNat % 10)]
def dec (x:Int):List UInt8:=Lib.decDigits x.toNat
def Jbt (l:List UInt8) (a:Nat):Nat:=valN ((l.drop a).take 2)
theorem ofNat_toNat (x:Nat) (h:x<10):(UInt8.ofNat (48+x)).toNat=48+x:=by
 rw [UInt8.toNat_ofNat'];omega
theorem Jda (x:Nat) (h:x<10):dig (UInt8.ofNat (48+x))=true:=by
 rw [Jcj,ofNat_toNat x h];omega
theorem Jfz (x:Int) (h1:x<100):digs (two x)=true:=by
 unfold two digs;simp only [List.all_cons,List.all_nil,Bool.and_true,Bool.and_eq_true];exact⟨Jda _ Kd,Jda _ Kd⟩
theorem Jdq (x:Int) (h1:x<100):valN (two x)=x.toNat:=by
 unfold two valN;simp only [List.foldl_cons,List.foldl_nil];rw [ofNat_toNat _ Kd,ofNat_toNat _ Kd];omega
theorem J2d (a b:UInt8):valN [a,b]=(a.toNat - 48)*10+(b.toNat - 48):=by
 simp [valN]
theorem Jg0 (x:Int) (h1:x<10):dec x=[UInt8.ofNat (48+x.toNat)]:=by
 unfold dec;rw [Lib.decDigits_one Kd]
theorem Jf0 (x:Int) (h0:10≤x) (h1:x<100):dec x=two x:=by
 unfold dec two;rw [Lib.decDigits_two Kd Kd]
theorem Jh1 (x:Int) (h0:0≤x) (h1:x<100):digs (dec x)=true:=by
 by_cases h:x<10
 ·rw [Jg0 x h]
  unfold digs;simp only [List.all_cons,List.all_nil,Bool.and_true];exact Jda _ Kd
 ·rw [Jf0 x Kd h1]
  exact Jfz x h1
theorem Jim (x:Int) (h0:0≤x) (h1:x<100):valN (dec x)=x.toNat:=by
 by_cases h:x<10
 ·rw [Jg0 x h]
  unfold valN;simp only [List.foldl_cons,List.foldl_nil];rw [ofNat_toNat _ Kd];omega
 ·rw [Jf0 x Kd h1]
  exact Jdq x h1
theorem Jg1 (x:Int) (h1:x<100):(dec x).length≤2:=by
 by_cases h:x<10
 ·rw [Jg0 x h];exact Nat.le_succ 1
 ·rw [Jf0 x Kd h1];exact Nat.le_refl 2
theorem Jli (x:Int):(two x).length=2:=rfl
theorem Jin (x:Int) (h:x<100):(dec x).length≤2:=by
 unfold dec;by_cases h1:x.toNat<10
 ·rw [Lib.decDigits_one h1];simp
 ·rw [Lib.decDigits_two h1 Kd];simp
theorem Jj2 (x:Int):(two x).length≤100:=by rw [Jli];decide
theorem Jwj (x:Int) (h:x<100):(dec x).length≤100:=by have:=Jin x h;omega
theorem Jwk (x:Int) (h0:0≤x) (h1:x<100):dec (x / 10)++dec (x % 10)=two x:=by
 obtain⟨n,rfl⟩:∃n:Nat,x=n:=⟨x.toNat,Kd⟩;unfold dec two;rw [Lib.decDigits_one (i:=((n:Int) / 10).toNat) Kd,Lib.decDigits_one (i:=((n:Int) % 10).toNat) Kd];rw [show ((n:Int) / 10).toNat=n / 10 by omega,show ((n:Int) % 10).toNat=n % 10 by omega];rfl
theorem Jah {α:Type} {l:List α} {k:Nat} (h:k<l.length):∃x,l[k]?=some x:=⟨l[k],List.getElem?_eq_getElem h⟩
theorem Jbd {α:Type} (l:List α) (k:Nat) (x:α) (h:l[k]?=some x):l.drop k=x::l.drop (k+1):=by
 have hk:=(Pl h).1;rw [List.drop_eq_getElem_cons hk,(Pl h).2]
theorem Jbv {α:Type} (l:List α) (k:Nat) (x:α) (h:l[k]?=some x):l.take (k+1)=l.take k++[x]:=by
 rw [List.take_add_one,h];rfl
theorem Jbb {p:UInt8→Bool} {l:List UInt8} {k:Nat} {c:UInt8} (h:l[k]?=some c) (hc:p c=false):l.all p=false:=by
 cases ha:l.all p with
 | false=>rfl
 | true =>
  rw [List.all_eq_true] at ha;rw [ha c (List.mem_iff_getElem?.2 ⟨k,h⟩)] at hc;cases hc
theorem Ja4 (p:UInt8→Bool) (l:List UInt8) (k:Nat) (c:UInt8) (h:l[k]?=some c) (ht:(l.take k).all p=true) (hc:p c=true):(l.take (k+1)).all p=true:=by
 rw [Jbv l k c h,List.all_append,ht];simp [hc]
def idB (c:UInt8):Bool:=decide ((65≤c.toNat∧c.toNat≤90)∨(97≤c.toNat∧c.toNat≤122)∨(48≤c.toNat∧c.toNat≤57)∨c.toNat=45∨c.toNat=95∨c.toNat=46)
def Jaj (l:List UInt8):Bool:=decide (1≤l.length)&&decide (l.length≤32)&&l.all idB
theorem Jf1 (l:List UInt8):Jaj l=true↔(1≤l.length∧l.length≤32)∧l.all idB=true:=by
 unfold Jaj;rw [Bool.and_eq_true,Bool.and_eq_true,decide_eq_true_iff,decide_eq_true_iff]
theorem Jpv (s i:Nat):(s / 2 ^ i % 2=1)↔s.testBit i=true:=by
 rw [Nat.testBit_eq_decide_div_mod_eq,decide_eq_true_iff]
def delB (s i:Nat):Nat:=if s.testBit i then s - 2 ^ i else s
theorem Jwl {s i:Nat} (h:s.testBit i=false):s+2 ^ i=s ||| 2 ^ i:=by
 apply Nat.eq_of_testBit_eq
 intro j;rw [Nat.testBit_or,Nat.testBit_two_pow];rw [Nat.add_comm];rcases Nat.lt_trichotomy j i with hj | hj | hj
 ·rw [Nat.testBit_two_pow_add_gt hj]
  exact Ke
 ·subst hj
  rw [Nat.testBit_two_pow_add_eq,h];simp
 ·
  have hs:s=s % 2 ^ (i+1)+2 ^ (i+1)*(s / 2 ^ (i+1)):=(Nat.mod_add_div _ _).symm;have hlow:s % 2 ^ (i+1)<2 ^ i:=by
   have hdiv:s / 2 ^ i % 2=0:=by
    have:=Jpv s i;rw [h] at this;exact Qy
   have h1:s % 2 ^ (i+1)=s % 2 ^ i+2 ^ i*(s / 2 ^ i % 2):=by rw [Nat.pow_succ,Nat.mod_mul]
   rw [h1,hdiv,Nat.mul_zero,Nat.add_zero];exact Nat.mod_lt _ (Nat.two_pow_pos i)
  have hsum:2 ^ i+s=2 ^ (i+1)*(s / 2 ^ (i+1))+(2 ^ i+s % 2 ^ (i+1)):=Kd;rw [hsum,Nat.testBit_two_pow_mul_add _ (Pr (Nat.add_lt_add_left hlow _) Ql)];rw [if_neg Kd];conv=>rhs;rw [show s=2 ^ (i+1)*(s / 2 ^ (i+1))+s % 2 ^ (i+1) by omega]
  rw [Nat.testBit_two_pow_mul_add _ (Nat.mod_lt _ (Nat.two_pow_pos _)),if_neg Kd];exact Ke
theorem Jwm {s i:Nat} (h:s.testBit i=true):∃r,s=r+2 ^ i∧r.testBit i=false∧∀j,j≠i→r.testBit j=s.testBit j:=by
 refine⟨s ^^^ 2 ^ i,?_,?_,fun j hj=>?_⟩
 ·have h0:(s ^^^ 2 ^ i).testBit i=false:=by rw [Nat.testBit_xor,Nat.testBit_two_pow,h];simp
  rw [Jwl h0];apply Nat.eq_of_testBit_eq;intro j;rw [Nat.testBit_or,Nat.testBit_xor,Nat.testBit_two_pow];by_cases hij:i=j
  ·subst hij;simp [h]
  ·simp [hij]
 ·rw [Nat.testBit_xor,Nat.testBit_two_pow,h];simp
 ·rw [Nat.testBit_xor,Nat.testBit_two_pow]
  simp [Ne.symm hj]
theorem Jpw (s i j:Nat):(delB s i).testBit j=(s.testBit j&&!(decide (i=j))):=by
 unfold delB;split
 ·next h =>
  obtain⟨r,hr,h1,h2⟩:=Jwm h;rw [show s - 2 ^ i=r by omega];by_cases hij:i=j
  ·subst hij;exact Qx
  ·rw [h2 j (Ne.symm hij)];simp [hij]
 ·next h =>
  by_cases hij:i=j
  ·subst hij;simp [h]
  ·simp [hij]
theorem Qcj (s i:Nat):delB s i≤s:=by
 unfold delB;split
 ·exact Nat.sub_le _ _
 ·exact Nat.le_refl _
theorem Jio {s:Nat} (h:s<2 ^ 64) {j:Nat} (hj:64≤j):s.testBit j=false:=Nat.testBit_lt_two_pow (Pr h (Nat.pow_le_pow_right Kl hj))
theorem Jwn {s t:Nat} (hs:s<2 ^ 64) (ht:t<2 ^ 64) (h:∀j,j<64→s.testBit j=t.testBit j):s=t:=by
 apply Nat.eq_of_testBit_eq
 intro j;by_cases hj:j<64
 ·exact h j hj
 ·rw [Jio hs Kd,Jio ht Kd]
def elems (s:Nat):List Nat:=(List.range 64).filter fun i=>s.testBit i
theorem Jip (s i:Nat):i∈elems s↔i<64∧s.testBit i=true:=by
 unfold elems;rw [List.mem_filter,List.mem_range]
theorem Jm8 (s:Nat):(elems s).length≤64:=by
 have:=List.length_filter_le (fun i=>s.testBit i) (List.range 64);rw [List.length_range] at this;exact this
theorem Jj3 (s:Nat):(elems s).Pairwise (·<·):=List.Pairwise.filter _ List.pairwise_lt_range
theorem Jiq:∀a b:List Nat,a.Pairwise (·<·)→b.Pairwise (·<·)→(∀i,i∈a↔i∈b)→a=b
 | [],[],_,_,_=>rfl
 | [],y::b,_,_,h=>by have:=(h y).2 Kj;cases this
 | x::a,[],_,_,h=>by have:=(h x).1 Kj;cases this
 | x::a,y::b,ha,hb,h=>by
  rw [List.pairwise_cons] at ha hb;have hxy:x=y:=by
   rcases List.mem_cons.1 ((h x).1 Kj) with e | hx
   ·exact e
   ·rcases List.mem_cons.1 ((h y).2 Kj) with e | hy
    ·exact e.symm
    ·have:=hb.1 x hx;have:=ha.1 y hy;omega
  subst hxy;rw [Jiq a b ha.2 hb.2 (fun i=>?_)];constructor
  ·intro hi
   rcases List.mem_cons.1 ((h i).1 (List.mem_cons_of_mem _ hi)) with e | hm
   ·subst e;have:=ha.1 i hi;omega
   ·exact hm
  ·intro hi
   rcases List.mem_cons.1 ((h i).2 (List.mem_cons_of_mem _ hi)) with e | hm
   ·subst e;have:=hb.1 i hi;omega
   ·exact hm
theorem J2e {s:Nat} {l:List Nat} (h1:l.Pairwise (·<·)) (h2:∀i,i∈l↔i<64∧s.testBit i=true):l=elems s :=
 Jiq l _ h1 (Jj3 s) fun i=>(h2 i).trans (Jip s i).symm
theorem J2f {s m:Nat} (hb:s.testBit m=true) (hl:∀j,j<m→s.testBit j=false):s=2 ^ (m+1)*(s / 2 ^ (m+1))+2 ^ m:=by
 have h0:s % 2 ^ m=0:=by
  apply Nat.eq_of_testBit_eq
  intro j;rw [Nat.testBit_mod_two_pow,Nat.zero_testBit];by_cases hj:j<m
  ·simp [hl j hj]
  ·simp [hj]
 have h1:s % 2 ^ (m+1)=2 ^ m:=by
  rw [Nat.pow_succ,Nat.mod_mul,h0,(Jpv s m).2 hb];omega
 have:=Nat.div_add_mod s (2 ^ (m+1));omega
theorem Jwo {s m:Nat} (hb:s.testBit m=true) (hl:∀j,j<m→s.testBit j=false):s &&& (s - 1)=delB s m:=by
 have hf:=J2f hb hl;generalize s / 2 ^ (m+1)=r at hf;have hp:=Nat.two_pow_pos m;have hs:s - 1=2 ^ (m+1)*r+(2 ^ m - 1):=Kd;have hz:(2 ^ m - 1).testBit m=false:=Nat.testBit_lt_two_pow Kd;apply Nat.eq_of_testBit_eq;intro j;rw [Nat.testBit_and,Jpw];rcases Nat.lt_trichotomy j m with hj | hj | hj
 ·simp [hl j hj]
 ·subst hj
  rw [hs,Nat.testBit_two_pow_mul_add _ Ql,if_pos Kd,hz];simp
 ·have hne:¬m=j:=Kd
  rw [hs,Nat.testBit_two_pow_mul_add _ Ql,if_neg Kd];rw [hf,Nat.testBit_two_pow_mul_add _ Ql,if_neg Kd];simp [hne]
theorem Jwp {s m:Nat} (hm:m<64) (hb:s.testBit m=true) (hl:∀j,j<m→s.testBit j=false):elems s=m::elems (delB s m):=by
 refine (J2e ?_ fun i=>?_).symm
 ·rw [List.pairwise_cons]
  refine⟨fun i hi=>?_,Jj3 _⟩;have h:=(Jip _ _).1 hi;rw [Jpw,Bool.and_eq_true] at h;rcases Nat.lt_trichotomy i m with h1 | h1 | h1
  ·rw [hl i h1] at h;exact Qt
  ·subst h1;exact Qt
  ·exact h1
 ·rw [List.mem_cons,Jip,Jpw]
  by_cases him:i=m
  ·subst him;simp [hm,hb]
  ·simp [him,Ne.symm him]
theorem Jum:elems 0=[]:=by
 unfold elems;rw [List.filter_eq_nil_iff];intro i _;simp
abbrev W64 (s:Nat):Prop:=s<18446744073709551616
def one (i:Int):Nat:=if 0≤i∧i<64 then 2 ^ i.toNat else 0
theorem Jh2 {k:Nat} (h:k<64):2 ^ k<18446744073709551616:=by
 rw [show 18446744073709551616=2 ^ 64 by rfl];exact Nat.pow_lt_pow_right Kl h
theorem J6h (i:Int):W64 (one i):=by
 unfold one;split
 ·exact Jh2 Kd
 ·decide
open Go.RowKit
theorem rel {P:Program} {f:FuncId} {args:Array Value} {w W:World} {x:Ending} (h:Calls P f args w fun e w'=>e=x∧Pn w w') (hb:Pn W w) :
  Calls P f args w fun e w'=>e=x∧Pn W w' :=
 h.mono fun _ _ ⟨he,hc⟩=>⟨he,hb.trans (hc.mono hb.size)⟩
theorem Jac {B:Nat} {a w:World} (h:Below B a w) (n:Nat):Below B a (w.drewN n):=⟨h.os,h.tape,h.output,h.size,h.block⟩
theorem Jpx {P:Program} {f:FuncId} {args:Array Value} {w:World} {x:Ending} (h:Calls P f args w fun e w'=>e=x∧w=w') :
  Calls P f args w fun e w'=>e=x∧Pn w w' :=
 h.mono fun _ _ ⟨he,hc⟩=>⟨he,hc ▸ Pg⟩
theorem Jhs {fn:Func} {t u v x:Tmp} (h:fn.results=#[.tmp t,.tmp u,.tmp v,.tmp x]) (tmps:Array Value) (P:Program) (w:World) :
  (results fn tmps).run P w=.ok (.tuple #[tmps.getD t undef,tmps.getD u undef,tmps.getD v undef,tmps.getD x undef]) w:=by simp [results,h]
theorem Je2 (s:ByteArray) (i:Nat) (h:i<s.size) (W:World):(Instr.index 9 (.string s) (.int .i64 i)).run prog W=.ok (.int .u8 s[i].toNat) W:=by
 go_simp
theorem Ja6 (w:World) (s:ByteArray) (k:Nat):Pn w (w.iter s k):=(Below.refl _ _).alloc Ph _
theorem Jaa {a b:Int} (h:a≠b):(a==b)=false:=by rw [beq_eq_false_iff_ne];exact h
theorem Jaf {a b:Int} (h:a≠b):(a != b)=true:=by rw [bne,Jaa h];rfl
theorem Jai {a b:Int} (h:a=b):(a==b)=true:=by rw [beq_iff_eq];exact h
theorem Jal {a b:Int} (h:a=b):(a != b)=false:=Kw
theorem Je3 (a b:List UInt8):str a++str b=str (a++b):=by
 apply ByteArray.ext
 simp [str]
theorem Jwq {a b:ByteArray} (h:a=b) {n:Int}:Ending.returned (.tuple #[.string a,.int .i64 n])=Ending.returned (.tuple #[.string b,.int .i64 n]):=Qj
theorem Jlj {a b:List UInt8} (h:a=b) {n:Int}:Ending.returned (.tuple #[.string (str a),.int .i64 n])=Ending.returned (.tuple #[.string (str b),.int .i64 n]):=Qj
theorem Jad {k:IntKind} {a b:Int} (h:a=b):Ending.returned (.int k a)=.returned (.int k b):=Qj
theorem Jab {a b:Bool} (h:a=b):Ending.returned (.bool a)=.returned (.bool b):=Qj
theorem J2g {a b:Int} {c:Bool} (h:a=b):Ending.returned (.tuple #[.int .i64 a,.bool c])=.returned (.tuple #[.int .i64 b,.bool c]):=Qj
theorem J8g {a b c x y z:Int} (h1:a=x) (h2:b=y) (h3:c=z):Ending.returned (.tuple #[.int .i64 a,.int .i64 b,.int .i64 c,.bool true])=Ending.returned (.tuple #[.int .i64 x,.int .i64 y,.int .i64 z,.bool true]):=by rw [h1,h2,h3]
theorem J8h {a b c d:Int} (h:a=c) (k:b=d):Ending.returned (.tuple #[.int .i64 a,.int .i64 b])=.returned (.tuple #[.int .i64 c,.int .i64 d]):=Qk
theorem Jao (l:List UInt8):(str l).size=l.length:=by show l.toArray.size=_;simp
theorem Jun (w:World) (k:Nat) (os:Array Obj):Pn w (Sort.grow (w.drewN k) os) :=
 ⟨rfl,rfl,rfl,Kj,fun j hj=>Sort.heap_grow_old (w.drewN k) os hj⟩
theorem Je9 {a b:ByteArray} (h:a=b):Ending.returned (.string a)=Ending.returned (.string b):=Qj
theorem Jwr (l:List UInt8) (i:Nat) (c:UInt8) (h:l[i]?=some c) (e:Int) (he:e=i) (W:World):(Instr.index 9 (.string (str l)) (.int .i64 e)).run prog W=.ok (.int .u8 c.toNat) W:=by
 subst he;have hi:i<l.length:=(Pl h).1;rw [Je2 (str l) i (by rw [Jao];exact hi) W];have:(str l)[i]'(by rw [Jao];exact hi)=c:=(Pl h).2;rw [this]
theorem Jws (l:List UInt8) (j:Nat) (hj:j≤l.length) (m:List UInt8) (hm:l.take j=m) (e:Int) (he:e=j) (W:World):(Instr.slice 9 (.string (str l)) none (some (.int .i64 e)) none).run prog W=.ok (.string (str m)) W:=by
 subst he hm;rw [run_slice_string_h W 9 (str l) underlying9 .i64 j Kd K8];congr 2;rw [Lib.extract_eq];simp
theorem Jwt (l:List UInt8) (j:Nat) (hj:j≤l.length) (m:List UInt8) (hm:l.drop j=m) (e:Int) (he:e=j) (W:World):(Instr.slice 9 (.string (str l)) (some (.int .i64 e)) none none).run prog W=.ok (.string (str m)) W:=by
 subst he hm;rw [run_slice_string_l W 9 (str l) underlying9 .i64 j Kd K8];congr 2;rw [Lib.extract_eq,Jao];simp;rw [List.take_of_length_le Kj]
theorem J8i (l:List UInt8) (i j:Nat) (hi:i≤j) (hj:j≤l.length) (m:List UInt8) (hm:(l.drop i).take (j - i)=m) (e f:Int) (he:e=i) (hf:f=j) (W:World):(Instr.slice 9 (.string (str l)) (some (.int .i64 e)) (some (.int .i64 f)) none).run prog W=.ok (.string (str m)) W:=by
 subst he hf hm;rw [run_slice_string W 9 (str l) .i64 .i64 i j underlying9 Kd Kd K8];congr 2;rw [Lib.extract_eq];simp
abbrev bts (l:List UInt8):List Value:=l.map fun b=>Value.int .u8 b.toNat
abbrev sts (l:List (List UInt8)):List Value:=l.map fun s=>Value.string (str s)
theorem Jpy:(prog.info? 5).map (fun i=>(i.zero,i.size,i.bytes))=some (some (.int .u8 0),1,1):=Kk
theorem Jh3:(prog.info? 9).map (fun i=>(i.zero,i.size,i.bytes))=some (some (.string ByteArray.empty),1,16):=Kk
def OwnB (w:World) (base:Nat) (v:Value) (l:List UInt8):Prop:=w.ownsRow base 5 1 v l.length (bts l)
def OwnS (w:World) (base:Nat) (v:Value) (l:List (List UInt8)):Prop:=w.ownsRow base 9 1 v l.length (sts l)
theorem OwnB.nil (w:World) (base:Nat):OwnB w base (.slice none 0 0) []:=World.ownsRow_nil _ _ _ _
theorem OwnS.nil (w:World) (base:Nat):OwnS w base (.slice none 0 0) []:=World.ownsRow_nil _ _ _ _
theorem Jwu (l:List UInt8):∀u∈bts l,u.oneCell'=true:=by
 exact Qi
theorem Jwv (l:List (List UInt8)):∀u∈sts l,u.oneCell'=true:=by
 exact Qi
theorem Jf2 {w:World} {base:Nat} {e:TypeId} {v:Value} {n:Nat} {xs:List Value} (h:w.ownsRow base e 1 v n xs):∃A c,v=.slice A n c∧n≤c∧(0<n→∃g,A=some ⟨g,0,none⟩∧base≤g∧g<w.heap.size∧∀j u,xs[j]?=some u→w.cell? ⟨g,0+j,none⟩=some u):=by
 have hl:=h.1;rcases h.2 with ⟨rfl,rfl⟩ | ⟨g,cap,cur,rfl,hb,hg,hn,_,_,ht⟩
 ·exact⟨none,0,rfl,Nat.le_refl _,fun h=>absurd h (Nat.lt_irrefl _)⟩
 ·refine⟨some ⟨g,0,none⟩,cap,rfl,hn,fun _=>⟨g,rfl,hb,?_,?_⟩⟩
  ·rcases Nat.lt_or_ge g w.heap.size with h | h
   ·exact h
   ·rw [Array.getElem?_eq_none h] at hg;cases hg
  ·intro j u hu
   rw [Nat.zero_add,cell_of_row w g j cur e (0,0) hg];have hj:=(Pl hu).1;rw [←ht,List.getElem?_take] at hu;split at hu
   ·rw [←hu];simp
   ·cases hu
theorem Jdp {w:World} {base:Nat} {e:TypeId} {v:Value} {n:Nat} {xs:List Value} (h:w.ownsRow base e 1 v n xs):∃A c,v=.slice A n c:=by
 obtain⟨A,c,hv,_⟩:=Jf2 h;exact⟨A,c,hv⟩
theorem Jir {w w':World} {base:Nat} {e:TypeId} {v:Value} {n:Nat} {xs:List Value} (h:w.ownsRow base e 1 v n xs) (hb:Pn w w'):w'.ownsRow base e 1 v n xs:=by
 refine⟨h.1,?_⟩;rcases h.2 with h0 | ⟨g,cap,cur,hv,hbg,hg,hr⟩
 ·exact Or.inl h0
 ·have hlt:g<w.heap.size:=by
   rcases Nat.lt_or_ge g w.heap.size with h | h
   ·exact h
   ·rw [Array.getElem?_eq_none h] at hg;cases hg
  exact Or.inr ⟨g,cap,cur,hv,hbg,(hb.block g hlt).trans hg,hr⟩
theorem Je4 {w w':World} {base:Nat} {e:TypeId} {v:Value} {n:Nat} {xs:List Value} (h:w.ownsRow base e 1 v n xs) (hg:w.grownBy w' v.ownBlock) (hb:base≤w.heap.size):Below base w w' :=
 (Below.refl _ _).grown hg hb fun k hk=>(h.lt k hk).1
theorem J2h {w:World} {base base':Nat} {e:TypeId} {v:Value} {n:Nat} {xs:List Value} (h:w.ownsRow base e 1 v n xs) (hb:base'≤base):w.ownsRow base' e 1 v n xs:=by
 refine⟨h.1,?_⟩;rcases h.2 with h0 | ⟨g,cap,cur,hv,hbg,hr⟩
 ·exact Or.inl h0
 ·exact Or.inr ⟨g,cap,cur,hv,Nat.le_trans hb hbg,hr⟩
theorem Jf3 (w:World) {ops:Array Oper} {rest:List Oper} {o:Oper} {a:Act} {Q:Exit→Act→World→Prop} (hgd:o.guard=none) (s x:Operand)
  (ho:o.op=.call { callee:=.builtin .append,args:=#[s,x],argTypes:=#[155,155] }) (base:Nat) (v:Value) (l m:List UInt8) (hs:a.eval s=v) (hown:OwnB w base v l)
  (k:Nat) (cells:Array Value) (hk:w.heap[k]?=some (.cells cells 5 (0,0))) (hc:cells.toList=bts m) (hx:a.eval x=.slice (some ⟨k,0,none⟩) m.length m.length) (hb:base≤w.heap.size)
  (hl:l.length+m.length≤140737488355328) (h:∀v' w',OwnB w' base v' (l++m)→Below base w w'→wpList prog ops Q rest (a.put o.dst v') w'):wpList prog ops Q (o::rest) a w:=by
 obtain⟨i,hi,hz,hsz,hby⟩:=info_parts Jpy;refine wpList_append_own w hgd s x 155 ho base 5 i _ 1 1 underlying155 hi hz hsz hby rfl Kl v l.length (bts l) hs hown ⟨k,0,none⟩ m.length m.length (bts m) hx Kj ?_ (Jwu m) Kr Kd hb ?_
 ·intro j u hu
  have hadd:(⟨k,0,none⟩:Addr).add j=⟨k,j,none⟩:=Ks;rw [hadd,cell_of_row w k j cells _ _ hk,←hu,←hc];simp
 ·intro v' w' h1 h2 _
  refine h v' w' ?_ (Je4 hown h2 hb);unfold OwnB bts;exact Qg
theorem Juo (w:World) {ops:Array Oper} {o:Oper} {a:Act} {K:Act→World→Prop} {Q:Exit→Act→World→Prop} {E:Prop} (hgd:o.guard=none) (s x:Operand)
  (ho:o.op=.call { callee:=.builtin .append,args:=#[s,x],argTypes:=#[155,155] }) (base:Nat) (v:Value) (l m:List UInt8) (hs:a.eval s=v) (hown:OwnB w base v l)
  (k:Nat) (cells:Array Value) (hk:w.heap[k]?=some (.cells cells 5 (0,0))) (hc:cells.toList=bts m) (hx:a.eval x=.slice (some ⟨k,0,none⟩) m.length m.length) (hb:base≤w.heap.size)
  (hl:l.length+m.length≤140737488355328) (h:∀v' w',OwnB w' base v' (l++m)→Below base w w'→K (a.put o.dst v') w'):if Region.wanted o (yielded ops a.tmps)=true then Oper.wp prog o a w K Q else E:=by
 obtain⟨i,hi,hz,hsz,hby⟩:=info_parts Jpy;have hw:Region.wanted o (yielded ops a.tmps)=true:=by simp [Region.wanted,hgd]
 rw [if_pos hw];refine wp_append_own w s x 155 ho base 5 i _ 1 1 underlying155 hi hz hsz hby rfl Kl v l.length (bts l) hs hown ⟨k,0,none⟩ m.length m.length (bts m) hx Kj ?_ (Jwu m) Kr Kd hb ?_
 ·intro j u hu
  have hadd:(⟨k,0,none⟩:Addr).add j=⟨k,j,none⟩:=Ks;rw [hadd,cell_of_row w k j cells _ _ hk,←hu,←hc];simp
 ·intro v' w' h1 h2 _
  refine h v' w' ?_ (Je4 hown h2 hb);unfold OwnB bts;exact Qg
theorem Jfa (w:World) {ops:Array Oper} {rest:List Oper} {o:Oper} {a:Act} {Q:Exit→Act→World→Prop} (hgd:o.guard=none) (s x:Operand)
  (ho:o.op=.call { callee:=.builtin .append,args:=#[s,x],argTypes:=#[155,9] }) (base:Nat) (v:Value) (l:List UInt8) (m:ByteArray) (hs:a.eval s=v) (hown:OwnB w base v l)
  (hx:a.eval x=.string m) (hb:base≤w.heap.size)
  (hl:l.length+m.size≤140737488355328) (h:∀v' w',OwnB w' base v' (l++m.data.toList)→Below base w w'→wpList prog ops Q rest (a.put o.dst v') w'):wpList prog ops Q (o::rest) a w:=by
 obtain⟨i,hi,hz,hsz,hby⟩:=info_parts Jpy;refine Lib.wpList_append_own_string w hgd s x 155 9 ho base 5 i underlying155 underlying9 hi hz hsz hby v l.length (bts l) hs hown m hx Kr Kd hb ?_;intro v' w' h1 h2 _;refine h v' w' ?_ (Je4 hown h2 hb);unfold OwnB bts;rw [Pp,List.map_append,show m.data.toList.length=m.size by simp];exact h1
theorem Jpz (w:World) {ops:Array Oper} {rest:List Oper} {o:Oper} {a:Act} {Q:Exit→Act→World→Prop} (hgd:o.guard=none) (s x:Operand)
  (ho:o.op=.call { callee:=.builtin .append,args:=#[s,x],argTypes:=#[66,66] }) (base:Nat) (v:Value) (l:List (List UInt8)) (m:List UInt8) (hs:a.eval s=v) (hown:OwnS w base v l)
  (k:Nat) (cells:Array Value) (hk:w.heap[k]?=some (.cells cells 9 (0,0))) (hc:cells=#[.string (str m)]) (hx:a.eval x=.slice (some ⟨k,0,none⟩) 1 1) (hb:base≤w.heap.size)
  (hl:l.length+1≤1099511627776) (h:∀v' w',OwnS w' base v' (l++[m])→Below base w w'→wpList prog ops Q rest (a.put o.dst v') w'):wpList prog ops Q (o::rest) a w:=by
 obtain⟨i,hi,hz,hsz,hby⟩:=info_parts Jh3;refine wpList_append_own w hgd s x 66 ho base 9 i _ 1 16 underlying66 hi hz hsz hby rfl Kl v l.length (sts l) hs hown ⟨k,0,none⟩ 1 1 (sts [m]) hx Kj ?_ (Jwv [m]) Kr Kd hb ?_
 ·intro j u hu
  have hadd:(⟨k,0,none⟩:Addr).add j=⟨k,j,none⟩:=Ks;exact Qh
 ·intro v' w' h1 h2 _
  refine h v' w' ?_ (Je4 hown h2 hb);unfold OwnS sts;exact Qg
theorem Jlk {w:World} {base:Nat} {v:Value} {l:List UInt8} (h:OwnB w base v l):(convert 155 9 v).run prog w=.ok (.string (str l)) w:=by
 obtain⟨A,c,rfl,_,hc⟩:=Jf2 h;rcases Nat.eq_zero_or_pos l.length with h0 | h0
 ·have:l=[]:=List.length_eq_zero_iff.1 h0
  subst this;cases A with
  | none=>exact run_convert_bytes_nil w 155 5 underlying155 underlying5 0 c 9 underlying9
  | some a=>exact run_convert_bytes_back w 155 9 5 a c [] underlying155 underlying5 underlying9 (fun j hj=>absurd hj (Nat.not_lt_zero _))
 ·obtain⟨g,rfl,_,_,hcell⟩:=hc h0
  refine run_convert_bytes_back w 155 9 5 ⟨g,0,none⟩ c l underlying155 underlying5 underlying9 (fun j hj=>?_);have hadd:(⟨g,0,none⟩:Addr).add j=⟨g,0+j,none⟩:=Ks;rw [hadd];exact hcell j _ (by simp [hj])
theorem Jb2 (s:ByteArray) (i:Nat) (c:UInt8) (h:s.data.toList[i]?=some c) (e:Int) (he:e=i) (W:World):(Instr.index 9 (.string s) (.int .i64 e)).run prog W=.ok (.int .u8 c.toNat) W:=by
 subst he;have hi:i<s.size:=by have:=(Pl h).1;simpa using this
 rw [Je2 s i hi W];have:=Jd8 s i hi;rw [h] at this;rw [Po this]
theorem Jdr (s:ByteArray) (i:Nat) (h:i<s.size):∃c,s.data.toList[i]?=some c:=⟨s[i],Jd8 s i h⟩
theorem Ja1 (s:ByteArray):s.data.toList.length=s.size:=Kj
theorem Ja5 (s:ByteArray):str s.data.toList=s:=by cases s;rfl
theorem Jcn (s:ByteArray):s.toList.isEmpty=decide (s.size=0):=by
 rw [Lib.toList_data];cases h:s.data.toList with
 | nil=>have:=Ja1 s;rw [h] at this;simp [←this]
 | cons c r=>have:=Ja1 s;rw [h] at this;simp [←this]
theorem Jb7 {a b:ByteArray} (h:a≠b):(a.toList==b.toList)=false:=by
 rw [beq_eq_false_iff_ne,Lib.toList_data,Lib.toList_data];intro e;apply h;rw [←Ja5 a,←Ja5 b,e]
theorem Jby {a b:ByteArray} (h:a=b):(a.toList==b.toList)=true:=Kw
theorem Jd1 {P:Program} {f:FuncId} {args:Array Value} {x:Value} (h:∀w:World,Calls P f args w fun e w'=>e=.returned x∧w=w') (w:World) (n:Nat):Calls P f args (w.drewN n) fun e w''=>e=.returned x∧∃m,w''=w.drewN m :=
 Calls.quiet_of_same ((h _).mono fun _ _ ⟨a,b⟩=>⟨a,b.symm⟩)
theorem Jll (s t:ByteArray) (j:Nat) (hj:j≤s.size) (ht:s.data.toList.drop j=t.data.toList) (e:Int) (he:e=j) (W:World):(Instr.slice 9 (.string s) (some (.int .i64 e)) none none).run prog W=.ok (.string t) W:=by
 have h:=Jwt s.data.toList j (by rw [Ja1];exact hj) _ ht e he W;rw [Ja5,Ja5] at h;exact h
theorem sl_to (s t:ByteArray) (j:Nat) (hj:j≤s.size) (ht:s.data.toList.take j=t.data.toList) (e:Int) (he:e=j) (W:World):(Instr.slice 9 (.string s) none (some (.int .i64 e)) none).run prog W=.ok (.string t) W:=by
 have h:=Jws s.data.toList j (by rw [Ja1];exact hj) _ ht e he W;rw [Ja5,Ja5] at h;exact h
theorem J6i (s t:ByteArray) (i j:Nat) (hi:i≤j) (hj:j≤s.size) (ht:(s.data.toList.drop i).take (j - i)=t.data.toList) (e f:Int) (he:e=i) (hf:f=j) (W:World):(Instr.slice 9 (.string s) (some (.int .i64 e)) (some (.int .i64 f)) none).run prog W=.ok (.string t) W:=by
 have h:=J8i s.data.toList i j hi (by rw [Ja1];exact hj) _ ht e f he hf W;rw [Ja5,Ja5] at h;exact h
theorem Jdb (l:List UInt8):∃s:ByteArray,s.data.toList=l∧s.size=l.length∧str l=s:=⟨str l,rfl,Jao l,rfl⟩
def szOf:Value→Nat | .string s=>s.size | _=>0
def Lst (w:World) (v:Value) (ls:List (List UInt8)):Prop:=∃A c,v=.slice A ls.length c∧(ls.length≤c∧(A=none→c=0))∧(0<ls.length→∃b o,A=some ⟨b,o,none⟩∧b<w.heap.size∧∀(j:Nat) x,(sts ls)[j]?=some x→w.cell? ⟨b,o+j,none⟩=some x)
theorem OwnS.lst {w:World} {base:Nat} {v:Value} {l:List (List UInt8)} (h:OwnS w base v l):Lst w v l:=by
 obtain⟨A,c,hv,hc,hx⟩:=Jf2 h;refine⟨A,c,hv,⟨hc,?_⟩,fun h0=>?_⟩
 ·rintro rfl
  rcases h.2 with ⟨h0,_⟩ | ⟨g,cap,cur,h0,_⟩
  ·rw [hv] at h0;simp at h0;exact h0.2
  ·rw [hv] at h0;simp at h0
 obtain⟨g,hA,_,hg,hcell⟩:=hx h0;exact⟨g,0,hA,hg,hcell⟩
theorem Lst.below {w w':World} {v:Value} {l:List (List UInt8)} (h:Lst w v l) (hb:Pn w w'):Lst w' v l:=by
 obtain⟨A,c,hv,hc,hx⟩:=h;refine⟨A,c,hv,hc,fun h0=>?_⟩;exact K7
theorem J6j (l:List (List UInt8)) (k:Nat) (x:List UInt8) (h:l[k]?=some x):(sts l)[k]?=some (.string (str x)):=by
 unfold sts;rw [List.getElem?_map,h];rfl
abbrev ints (l:List Int):List Value:=l.map fun x=>Value.int .i64 x
theorem Jh4:(prog.info? 3).map (fun i=>(i.zero,i.size,i.bytes))=some (some (.int .i64 0),1,8):=Kk
def OwnI (w:World) (base:Nat) (v:Value) (l:List Int):Prop:=w.ownsRow base 3 1 v l.length (ints l)
def LstI (w:World) (v:Value) (ls:List Int):Prop:=∃A c,v=.slice A ls.length c∧ls.length≤c∧(A=none→c=0)∧(0<ls.length→∃b o,A=some ⟨b,o,none⟩∧b<w.heap.size∧∀(j:Nat) x,(ints ls)[j]?=some x→w.cell? ⟨b,o+j,none⟩=some x)
theorem OwnI.nil (w:World) (base:Nat):OwnI w base (.slice none 0 0) []:=World.ownsRow_nil _ _ _ _
theorem Jrw (l:List Int):∀u∈ints l,u.oneCell'=true:=by
 exact Qi
theorem Jww (l:List Int) (k:Nat) (x:Int) (h:l[k]?=some x):(ints l)[k]?=some (.int .i64 x):=by
 unfold ints;rw [List.getElem?_map,h];rfl
theorem OwnI.lst {w:World} {base:Nat} {v:Value} {l:List Int} (h:OwnI w base v l):LstI w v l:=by
 obtain⟨A,c,hv,hc,hx⟩:=Jf2 h;refine⟨A,c,hv,hc,?_,fun h0=>?_⟩
 ·rintro rfl
  rcases h.2 with ⟨h0,_⟩ | ⟨g,cap,cur,h0,_⟩
  ·rw [hv] at h0;simp at h0;exact h0.2
  ·rw [hv] at h0;simp at h0
 ·obtain⟨g,hA,_,hg,hcell⟩:=hx h0
  exact⟨g,0,hA,hg,hcell⟩
theorem LstI.nil (w:World):LstI w (.slice none 0 0) []:=⟨none,0,rfl,Nat.le_refl _,fun _=>rfl,fun h=>absurd h (Nat.lt_irrefl _)⟩
theorem OwnI.below {w w':World} {base:Nat} {v:Value} {l:List Int} (h:OwnI w base v l) (hb:Pn w w'):OwnI w' base v l:=Jir h hb
theorem J8j (w:World) {ops:Array Oper} {rest:List Oper} {o:Oper} {a:Act} {Q:Exit→Act→World→Prop} (hgd:o.guard=none) (s x:Operand)
  (ho:o.op=.call { callee:=.builtin .append,args:=#[s,x],argTypes:=#[84,84] }) (base:Nat) (v:Value) (l:List Int) (m:Int) (hs:a.eval s=v) (hown:OwnI w base v l)
  (k:Nat) (cells:Array Value) (hk:w.heap[k]?=some (.cells cells 3 (0,0))) (hc:cells=#[.int .i64 m]) (hx:a.eval x=.slice (some ⟨k,0,none⟩) 1 1) (hb:base≤w.heap.size)
  (hl:l.length+1≤1099511627776) (h:∀v' w',OwnI w' base v' (l++[m])→Below base w w'→wpList prog ops Q rest (a.put o.dst v') w'):wpList prog ops Q (o::rest) a w:=by
 obtain⟨i,hi,hz,hsz,hby⟩:=info_parts Jh4;refine wpList_append_own w hgd s x 84 ho base 3 i _ 1 8 underlying84 hi hz hsz hby rfl Kl v l.length (ints l) hs hown ⟨k,0,none⟩ 1 1 (ints [m]) hx Kj ?_ (Jrw [m]) Kr Kd hb ?_
 ·intro j u hu
  have hadd:(⟨k,0,none⟩:Addr).add j=⟨k,j,none⟩:=Ks;exact Qh
 ·intro v' w' h1 h2 _
  refine h v' w' ?_ (Je4 hown h2 hb);unfold OwnI ints;exact Qg
theorem Jew {P:Program} (w:World) (base:Nat) (t ty e:TypeId) (i:TypeInfo) (z:Value) (size bytes:Nat) (ht:P.underlying t=some (.slice e)) (hi:P.info? e=some i) (hz:i.zero=some z)
  (hsize:i.size=size) (hby:i.bytes=bytes) (hzs:z.cells.size=size) (hsz:0<size)
  (v:Value) (n:Nat) (xs:List Value) (hown:w.ownsRow base e size v n xs)
  (a:Addr) (m c:Nat) (news:List Value) (hl:news.length=m*size) (hnews:∀j u,news[j]?=some u→w.cell? (a.add j)=some u) (h1:∀u∈news,u.oneCell'=true)
  (h63:n+m≤maxLen) (hbytes:(n+m)*bytes≤140737488355328) (hbase:base≤w.heap.size) :
  ∃v' w',(Builtin.append_ #[t,t] ty #[v,.slice (some a) m c]).run P w=.ok v' w'∧w'.ownsRow base e size v' (n+m) (xs++news)∧w.grownBy w' v.ownBlock∧(∀g,v'.ownBlock=some g→v.ownBlock=some g∨g=w.heap.size):=by
 obtain⟨v',w',hr,h2,h3,h4⟩:=run_append_own (P:=P) w base t ty e i z size bytes ht hi hz hsize hby hzs hsz v n xs hown a m c news hl hnews h1 h63 hbytes hbase;refine⟨v',w',hr,h2,h3,?_⟩;have hsmall:n+m≤9223372036854775807:=by unfold maxLen at h63;omega
 rcases hown.2 with ⟨rfl,rfl⟩ | ⟨g,cap,cur,rfl,hbg,hg,hnc,hcm,hcs,htake⟩
 ·by_cases hm:m=0
  ·rw [h4.2 ⟨rfl,hm⟩]
   intro g hg;cases hg
  ·have hn:=run_append_nil (P:=P) w t ty e i z ht hi hz a m c news (by rw [hl,hsize]) hnews Kd Kd (by rw [hby];have hb:=hbytes;simp only [Nat.zero_add] at hb;omega)
   rw [hr] at hn;cases hn;intro g hg;cases hg;exact .inr rfl
 ·by_cases hroom:n+m≤cap
  ·have hfit:n*i.size+news.length≤cur.size:=by rw [hl,hcs,hsize,←Nat.add_mul];exact Nat.mul_le_mul_right _ hroom
   have hn:=run_append_room (P:=P) w t ty e i ht hi g n cap cur hg a m c news (by rw [hl,hsize]) hnews h1 hroom hfit;rw [hr] at hn;cases hn;intro g' hg';exact .inl hg'
  ·have holds:∀j u,xs[j]?=some u→w.cell? ((⟨g,0,none⟩:Addr).add j)=some u:=hown.cells (g:=g) rfl
   have hn:=run_append_grow (P:=P) w t ty e i z ht hi hz ⟨g,0,none⟩ n cap xs (by rw [hown.1,hsize]) holds a m c news (by rw [hl,hsize]) hnews Kd Kd (growslice_fits Kd (by rw [hby];exact hbytes));rw [hr] at hn;cases hn;intro g' hg';cases hg';exact .inr rfl
theorem Jds {P:Program} (w:World) {ops:Array Oper} {rest:List Oper} {o:Oper} {a:Act} {Q:Exit→Act→World→Prop} (hgd:o.guard=none) (s x:Operand) (t:TypeId)
  (ho:o.op=.call { callee:=.builtin .append,args:=#[s,x],argTypes:=#[t,t] })
  (base:Nat) (e:TypeId) (i:TypeInfo) (z:Value) (size bytes:Nat) (ht:P.underlying t=some (.slice e)) (hi:P.info? e=some i) (hz:i.zero=some z)
  (hsize:i.size=size) (hby:i.bytes=bytes) (hzs:z.cells.size=size) (hsz:0<size)
  (v:Value) (n:Nat) (xs:List Value) (hs:a.eval s=v) (hown:w.ownsRow base e size v n xs)
  (ad:Addr) (m c:Nat) (news:List Value) (hx:a.eval x=.slice (some ad) m c) (hl:news.length=m*size) (hnews:∀j u,news[j]?=some u→w.cell? (ad.add j)=some u) (h1:∀u∈news,u.oneCell'=true)
  (h63:n+m≤maxLen) (hbytes:(n+m)*bytes≤140737488355328) (hbase:base≤w.heap.size)
  (h:∀v' w',w'.ownsRow base e size v' (n+m) (xs++news)→w.grownBy w' v.ownBlock→(∀g,v'.ownBlock=some g→v.ownBlock=some g∨g=w.heap.size)→wpList P ops Q rest (a.put o.dst v') w'):wpList P ops Q (o::rest) a w :=
 wpList_plain hgd fun K hK=>by
  obtain⟨v',w',hr,h2,h3,h4⟩:=Jew (P:=P) w base t o.type e i z size bytes ht hi hz hsize hby hzs hsz v n xs hown ad m c news hl hnews h1 h63 hbytes hbase;unfold Oper.wp execOp;simp only [ho,resolve,invoke,builtin,Sem.run_bind,Sem.run_pure,Result.andThen_ok,List.map_toArray,List.map_cons,List.map_nil,hs,hx,hr];exact hK _ _ (h v' w' h2 h3 h4)
section
variable {α:Type} (enc:α→List Value) (k:Nat)
def fl (l:List α):List Value:=l.flatMap enc
theorem Jg2 (a:α) (l:List α):fl enc (a::l)=enc a++fl enc l:=by unfold fl;rw [List.flatMap_cons]
theorem Jm9 (l m:List α):fl enc (l++m)=fl enc l++fl enc m:=by unfold fl;rw [List.flatMap_append]
theorem Jna (a:α):fl enc [a]=enc a:=by rw [Jg2];show enc a++[]=_;rw [List.append_nil]
variable {enc} {k}
theorem Jrx (hk:∀a,(enc a).length=k) (l:List α):(fl enc l).length=l.length*k:=by
 induction l with
 | nil=>show 0=_;simp
 | cons a r ih=>rw [Jg2,Pp,hk,ih,List.length_cons,Nat.add_mul];omega
theorem Jbr (hk:∀a,(enc a).length=k) {l:List α} {i:Nat} {a:α} (h:l[i]?=some a) (j:Nat) (hj:j<k):(fl enc l)[i*k+j]?=(enc a)[j]?:=by
 induction l generalizing i with
 | nil=>simp at h
 | cons b r ih =>
  rw [Jg2];cases i with
  | zero =>
   simp at h;subst h;rw [Nat.zero_mul,Nat.zero_add,List.getElem?_append_left (by rw [hk];exact hj)]
  | succ i =>
   simp at h;rw [List.getElem?_append_right Qu,hk,←ih h];congr 1;rw [Nat.add_mul];omega
theorem J8k (hk:∀a,(enc a).length=k) (l:List α) (n:Nat):(fl enc l).take (n*k)=fl enc (l.take n):=by
 induction l generalizing n with
 | nil=>simp [fl]
 | cons a r ih =>
  cases n with
  | zero=>simp [fl]
  | succ n =>
   rw [Jg2,List.take_succ_cons,Jg2,List.take_append,hk];rw [List.take_of_length_le Qu,show (n+1)*k - k=n*k by rw [Nat.add_mul];omega,ih]
def OwnG (enc:α→List Value) (T:TypeId) (k:Nat) (w:World) (base:Nat) (v:Value) (l:List α):Prop:=w.ownsRow base T k v l.length (fl enc l)
def LstG (enc:α→List Value) (w:World) (v:Value) (l:List α):Prop:=∃A c,v=.slice A l.length c∧l.length≤c∧(A=none→c=0)∧(0<l.length→∃b o,A=some ⟨b,o,none⟩∧b<w.heap.size∧∀(j:Nat) x,(fl enc l)[j]?=some x→w.cell? ⟨b,o+j,none⟩=some x)
variable {T:TypeId}
theorem OwnG.nil (enc:α→List Value) (T:TypeId) (k:Nat) (w:World) (base:Nat):OwnG enc T k w base (.slice none 0 0) []:=World.ownsRow_nil _ _ _ _
theorem LstG.nil (enc:α→List Value) (w:World):LstG enc w (.slice none 0 0) []:=⟨none,0,rfl,Nat.le_refl _,fun _=>rfl,fun h=>absurd h (Nat.lt_irrefl _)⟩
theorem Jbx {w:World} {base:Nat} {v:Value} {n:Nat} {xs:List Value} (h:w.ownsRow base T k v n xs):∃A c,v=.slice A n c∧n≤c∧(A=none→c=0)∧(0<n→∃g,A=some ⟨g,0,none⟩∧base≤g∧g<w.heap.size∧∀j u,xs[j]?=some u→w.cell? ⟨g,0+j,none⟩=some u):=by
 rcases h.2 with ⟨rfl,rfl⟩ | ⟨g,cap,cur,rfl,hb,hg,hn,_,_,ht⟩
 ·exact⟨none,0,rfl,Nat.le_refl _,fun _=>rfl,fun h=>absurd h (Nat.lt_irrefl _)⟩
 ·refine⟨some ⟨g,0,none⟩,cap,rfl,hn,(fun h=>Qf),fun _=>⟨g,rfl,hb,?_,?_⟩⟩
  ·rcases Nat.lt_or_ge g w.heap.size with h | h
   ·exact h
   ·rw [Array.getElem?_eq_none h] at hg;cases hg
  ·intro j u hu
   rw [Nat.zero_add,cell_of_row w g j cur T (0,0) hg];rw [←ht,List.getElem?_take] at hu;split at hu
   ·rw [←hu];simp
   ·cases hu
theorem OwnG.lst {w:World} {base:Nat} {v:Value} {l:List α} (h:OwnG enc T k w base v l):LstG enc w v l:=by
 obtain⟨A,c,hv,hc,hn,hx⟩:=Jbx h;refine⟨A,c,hv,hc,hn,fun h0=>?_⟩;obtain⟨g,hA,_,hg,hcell⟩:=hx h0;exact⟨g,0,hA,hg,hcell⟩
theorem LstG.below {w w':World} {v:Value} {l:List α} (h:LstG enc w v l) (hb:Pn w w'):LstG enc w' v l:=by
 obtain⟨A,c,hv,hc,hn,hx⟩:=h;refine⟨A,c,hv,hc,hn,fun h0=>?_⟩;exact K7
theorem Jfb {w w':World} {base:Nat} {v:Value} {n:Nat} {xs:List Value} (h:w.ownsRow base T k v n xs) (hb:Pn w w'):w'.ownsRow base T k v n xs:=by
 refine⟨h.1,?_⟩;rcases h.2 with h0 | ⟨g,cap,cur,hv,hbg,hg,hr⟩
 ·exact Or.inl h0
 ·have hlt:g<w.heap.size:=by
   rcases Nat.lt_or_ge g w.heap.size with h | h
   ·exact h
   ·rw [Array.getElem?_eq_none h] at hg;cases hg
  exact Or.inr ⟨g,cap,cur,hv,hbg,(hb.block g hlt).trans hg,hr⟩
theorem OwnG.below {w w':World} {base:Nat} {v:Value} {l:List α} (h:OwnG enc T k w base v l) (hb:Pn w w'):OwnG enc T k w' base v l:=Jfb h hb
theorem OwnG.down {w:World} {base base':Nat} {v:Value} {l:List α} (h:OwnG enc T k w base v l) (hb:base'≤base):OwnG enc T k w base' v l:=by
 refine⟨h.1,?_⟩;rcases h.2 with h0 | ⟨g,cap,cur,hv,hbg,hr⟩
 ·exact Or.inl h0
 ·exact Or.inr ⟨g,cap,cur,hv,Nat.le_trans hb hbg,hr⟩
theorem Jup {w w':World} {base:Nat} {v:Value} {n:Nat} {xs:List Value} (h:w.ownsRow base T k v n xs) (hg:w.grownBy w' v.ownBlock) (hb:base≤w.heap.size):Below base w w' :=
 (Below.refl _ _).grown hg hb fun j hj=>(h.lt j hj).1
theorem J2i (hk:∀a,(enc a).length=k) (hone:∀a,∀u∈enc a,u.oneCell'=true) (k0:0<k) {ST:TypeId} {z:Value} {bytes:Nat} (hu:prog.underlying ST=some (.slice T)) (hinfo:(prog.info? T).map (fun i=>(i.zero,i.size,i.bytes))=some (some z,k,bytes)) (hz0:z.cells.size=k) (hb64:bytes≤64)
  (w:World) {ops:Array Oper} {rest:List Oper} {o:Oper} {a:Act} {Q:Exit→Act→World→Prop} (hgd:o.guard=none) (s x:Operand)
  (ho:o.op=.call { callee:=.builtin .append,args:=#[s,x],argTypes:=#[ST,ST] }) (base:Nat) (v:Value) (l:List α) (m:α) (hs:a.eval s=v) (hown:OwnG enc T k w base v l)
  (b:Nat) (cells:Array Value) (hbk:w.heap[b]?=some (.cells cells T (0,0))) (hc:cells.toList=enc m) (hx:a.eval x=.slice (some ⟨b,0,none⟩) 1 1) (hb:base≤w.heap.size)
  (hl:l.length+1≤1099511627776) (h:∀v' w',OwnG enc T k w' base v' (l++[m])→Below base w w'→w.grownBy w' v.ownBlock→(∀g,v'.ownBlock=some g→v.ownBlock=some g∨g=w.heap.size)→wpList prog ops Q rest (a.put o.dst v') w'):wpList prog ops Q (o::rest) a w:=by
 obtain⟨i,hi,hz,hsz,hby⟩:=info_parts hinfo;refine Jds w hgd s x ST ho base T i z k bytes hu hi hz hsz hby hz0 k0 v l.length (fl enc l) hs hown ⟨b,0,none⟩ 1 1 (enc m) hx (by rw [hk,Nat.one_mul]) ?_ (hone m) Kr (Nat.le_trans (Nat.mul_le_mul_left _ hb64) Kd) hb ?_
 ·intro j u hu
  have hadd:(⟨b,0,none⟩:Addr).add j=⟨b,j,none⟩:=Ks;rw [hadd,cell_of_row w b j cells _ _ hbk,←hu,←hc];simp
 ·intro v' w' h1 h2 h3
  refine h v' w' ?_ (Jup hown h2 hb) h2 h3;unfold OwnG;rw [Pp,Jm9,Jna];exact h1
end
section
variable {α:Type} {enc:α→List Value} {k:Nat}
theorem J8l (hk:∀a,(enc a).length=k) (l:List α) (n:Nat):(fl enc l).drop (n*k)=fl enc (l.drop n):=by
 induction l generalizing n with
 | nil=>simp [fl]
 | cons a r ih =>
  cases n with
  | zero=>simp
  | succ n =>
   rw [Jg2,List.drop_succ_cons,←ih,List.drop_append,List.drop_of_length_le Qu,hk,show (n+1)*k - k=n*k by rw [Nat.add_mul];omega];rfl
theorem LstG.part (hk:∀a,(enc a).length=k) {w:World} {A:Option Addr} {c:Nat} {l:List α} (h:LstG enc w (.slice A l.length c) l) (i j m:Nat) (hi:i≤j) (hj:j≤l.length) (hm:j≤m) (hmc:m≤c) :
  LstG enc w (sliced A i j m k) ((l.drop i).take (j - i)):=by
 obtain⟨A',c',hv,hc,hn,hx⟩:=h;cases hv;have hl:((l.drop i).take (j - i)).length=j - i:=by rw [List.length_take,List.length_drop];omega
 refine⟨if m=i then A else A.map (·.add (i*k)),m - i,by unfold sliced;rw [hl],Kd,fun h0=>?_,fun h0=>?_⟩
 ·by_cases e:m=i
  ·omega
  ·rw [if_neg e] at h0
   cases A with
   | none=>have:=hn rfl;omega
   | some a=>cases h0
 ·rw [hl] at h0
  obtain⟨b,o,rfl,hb,hcell⟩:=hx Kd;have hadd:(⟨b,o,none⟩:Addr).add (i*k)=⟨b,o+i*k,none⟩:=Ks;refine⟨b,o+i*k,by rw [if_neg Kd];simp only [Option.map_some,hadd],hb,fun t x ht=>?_⟩;rw [←J8k hk,←J8l hk,List.getElem?_take] at ht;split at ht
  ·rw [List.getElem?_drop] at ht
   rw [Nat.add_assoc];exact hcell _ x ht
  ·cases ht
variable {T:TypeId}
end
open Go.RowKit Go.Maps
abbrev Dm:=DataW Unit
theorem Jg3:Keyed prog 9:=string_keyed underlying9
theorem J2j (w:World):(zeroValue 3).run prog w=.ok (.int .i64 0) w:=Kk
theorem Jf4 (w:World):(zeroValue 4).run prog w=.ok (.bool false) w:=Kk
theorem Jj4 (s:ByteArray) (h:s.size≤4611686018427387904):keyOf prog 9 (.string s)=some (.string s.data.toList):=Go.WideMaps.keyOf_string_mk underlying9 Kr
theorem Jnb {w w':World} (hb:Pn w w'):w.grownBy w' none:=⟨hb.os,hb.tape,hb.output,hb.size,fun k hk _=>hb.block k hk⟩
def MapB (w:World) (b:Nat) (ls:List (List UInt8)):Prop:=∃D:Dm,w.ownsMap prog 9 (plainElem prog 4) b ls.length D∧IsMap D∧(∀x,has D (.string x)=decide (x∈ls))∧∀x z,x∈ls→D.atKey (.string x) z=.lit (.bool true)
theorem MapB.made (w:World):MapB (w.alloc (.map #[] 0)) w.heap.size []:=⟨.map [],World.ownsMap_made _ _ _ _,isMap_empty,fun x=>Qe,fun x z h=>Qt⟩
theorem MapB.below {w w':World} {b:Nat} {ls:List (List UInt8)} (h:MapB w b ls) (hb:Pn w w'):MapB w' b ls:=by
 obtain⟨D,h1,h2⟩:=h;exact⟨D,h1.kept (Jnb hb) Kj,h2⟩
theorem Jfl {v:Value} {z:Dm×List MemPlace} (h:plainElem prog 4 v=some z):∃x,v=.bool x∧z=(.lit (.bool x),[]):=by
 unfold plainElem at h;rw [underlying4] at h;cases v <;> simp at h
 exact⟨_,rfl,h.symm⟩
theorem MapB.look {w:World} {b:Nat} {ls:List (List UInt8)} (h:MapB w b ls) (s:ByteArray) (x:List UInt8) (hx:s.data.toList=x) (hs:s.size≤4611686018427387904) :
  (Instr.lookup 191 (.map (some b)) (.string s) false).run prog w=.ok (.bool (decide (x∈ls))) w:=by
 subst hx;obtain⟨D,h1,h2,h3,h4⟩:=h;obtain⟨v,ps,hrun,hv⟩:=h1.lookup Jg3 underlying191 (Jf4 w) (plainElem_bool underlying4 false) (Jj4 s hs);obtain⟨c,rfl,hc⟩:=Jfl hv;have hc:=congrArg Prod.fst hc;rw [hrun];have:c=decide (s.data.toList∈ls):=by
  by_cases hm:s.data.toList∈ls
  ·rw [h4 _ _ hm] at hc
   exact K6
  ·rw [atKey_of_not_has (by rw [h3];exact Pj hm)] at hc
   exact K6
 rw [this]
theorem Jf5 (w:World) {ops:Array Oper} {rest:List Oper} {o:Oper} {a:Act} {Q:Exit→Act→World→Prop} (hgd:o.guard=none) (m x v:Operand) (ho:o.op=Op.mapUpdate 191 m x v)
  (b:Nat) (ls:List (List UInt8)) (hm:a.eval m=.map (some b)) (hown:MapB w b ls) (s:ByteArray) (y:List UInt8) (hy:s.data.toList=y) (hs:s.size≤4611686018427387904) (hx:a.eval x=.string s) (hv:a.eval v=.bool true)
  (hl:ls.length<1099511627776) (h:∀w',MapB w' b (ls++[y])→w.grownBy w' (some b)→wpList prog ops Q rest (a.put o.dst undef) w'):wpList prog ops Q (o::rest) a w:=by
 subst hy;obtain⟨D,h1,h2,h3,h4⟩:=hown;refine wpList_mapUpdate_own w hgd m x v 191 ho 9 4 Jg3 underlying191 _ b ls.length D hm h1 Kr _ _ _ hx hv (Jj4 s hs) _ [] (plainElem_bool underlying4 true) ?_;intro w' g1 g2;refine h w' ⟨_,Qs,h2.put _ _,fun x=>?_,fun x z hi=>?_⟩ g2
 ·by_cases hx:x=s.data.toList
  ·subst hx
   exact Qd
  ·rw [has_put_other Qq,h3]
   simp [hx]
 ·by_cases hx:x=s.data.toList
  ·subst hx
   exact Qr
  ·rw [atKey_put_other Qq]
   exact h4 x z Qp
def lttI (n:Int):Bool:=decide ((65≤n∧n≤90)∨(97≤n∧n≤122))
def digI (n:Int):Bool:=decide (48≤n∧n≤57)
def sgnI (n:Int):Bool:=decide (n=45∨n=95∨n=46)
theorem Jlm (c:UInt8):idB c=(lttI c.toNat || digI c.toNat || sgnI c.toNat):=by
 rw [Bool.eq_iff_iff];unfold idB lttI digI sgnI;simp only [Bool.or_eq_true,decide_eq_true_iff];omega
theorem Jis (n:Int):n≤44∨n=45∨n=46∨n=47∨(48≤n∧n≤57)∨(58≤n∧n≤64)∨(65≤n∧n≤90)∨(91≤n∧n≤94)∨n=95∨n=96∨(97≤n∧n≤122)∨123≤n:=Kd
theorem Juq (n:Int) (w:World):Pb 259 #[.int .u8 n] w (.bool (lttI n)):=by
 have hw:n≤64∨(65≤n∧n≤90)∨(91≤n∧n≤96)∨(97≤n∧n≤122)∨123≤n:=Kd;rcases hw with h | h | h | h | h
 ·have R:Hid (lttI n=false):=K5
  have g0:decide ((65:Int)≤n)=false:=Ke;have g1:n≤90:=Kd;have g2:decide ((97:Int)≤n)=false:=Ke;have g3:n≤122:=Kd;exact K4
 ·have R:Hid (lttI n=true):=K5
  have g0:(65:Int)≤n:=Kd;have g1:n≤90:=Kd;have g2:decide ((97:Int)≤n)=false:=Ke;have g3:n≤122:=Kd;exact K4
 ·have R:Hid (lttI n=false):=K5
  have g0:(65:Int)≤n:=Kd;have g1:decide (n≤90)=false:=Ke;have g2:decide ((97:Int)≤n)=false:=Ke;have g3:n≤122:=Kd;exact K4
 ·have R:Hid (lttI n=true):=K5
  have g0:(65:Int)≤n:=Kd;have g1:decide (n≤90)=false:=Ke;have g2:(97:Int)≤n:=Kd;have g3:n≤122:=Kd;exact K4
 ·have R:Hid (lttI n=false):=K5
  have g0:(65:Int)≤n:=Kd;have g1:decide (n≤90)=false:=Ke;have g2:(97:Int)≤n:=Kd;have g3:decide (n≤122)=false:=Ke;exact K4
theorem Jwx (n:Int) (w:World):Pb 260 #[.int .u8 n] w (.bool (digI n)):=by
 have hw:n≤47∨(48≤n∧n≤57)∨58≤n:=Kd;rcases hw with h | h | h
 ·have R:Hid (digI n=false):=Qo
  have g0:decide ((48:Int)≤n)=false:=Ke;have g1:n≤57:=Kd;exact Qn
 ·have R:Hid (digI n=true):=Qo
  have g0:(48:Int)≤n:=Kd;have g1:n≤57:=Kd;exact Qn
 ·have R:Hid (digI n=false):=Qo
  have g0:(48:Int)≤n:=Kd;have g1:decide (n≤57)=false:=Ke;exact Qn
theorem J2k (n:Int) (w:World):Pb 261 #[.int .u8 n] w (.bool (sgnI n)):=by
 by_cases h:n=45∨n=95∨n=46
 ·have R:Hid (sgnI n=true):=by show _=_;unfold sgnI;simpa using h
  rcases h with rfl | rfl | rfl
  all_goals
   go_enter func261,ntmps261;exact Ka
 ·have R:Hid (sgnI n=false):=by show _=_;unfold sgnI;simpa using h
  have q1:(n==45)=false:=Jaa Kd;have q2:(n==95)=false:=Jaa Kd;have q3:(n==46)=false:=Jaa Kd;clear h;go_enter func261,ntmps261;exact Ka
theorem Jeo (s:ByteArray) (h:s.size=0):Jaj s.data.toList=false:=by
 unfold Jaj;rw [Ja1,h];rfl
theorem Jbn (s:ByteArray) (h:32<s.size):Jaj s.data.toList=false:=by
 unfold Jaj;rw [Ja1,Pj (show ¬s.size≤32 by omega),Bool.and_false,Bool.false_and]
theorem Jf6 (s:ByteArray) (h1:1≤s.size) (h2:s.size≤32):Jaj s.data.toList=s.data.toList.all idB:=by
 unfold Jaj;rw [Ja1,Pk h1,Pk h2,Bool.true_and,Bool.true_and]
theorem Jf7 (s:ByteArray) (hs:s.size≤1099511627776) (w:World):Pb 193 #[.string s] w (.bool (Jaj s.data.toList)):=by
 have hem:=Jcn s;by_cases h0:s.size=0
 ·have e:=Jeo s h0
  have he:s.toList.isEmpty=true:=Qc;clear hem h0;exact Kz
 have he:s.toList.isEmpty=false:=Qc;by_cases h3:32<s.size
 ·have e:=Jbn s h3
  have g:(32:Int)<(s.size:Int):=Kd;clear hem h0 h3;exact Kz
 have g:decide ((32:Int)<(s.size:Int))=false:=Ke;rw [Jf6 s Kd Kd];obtain⟨r,hr⟩:=Pi (s.data.toList.all idB);rw [hr];have HR:=Pe hr;clear hr;clear hem h0 h3;go_enter func193,ntmps193;go_wp2_with fail;go_loop [13] (fun i=>∃k:Nat,i=.int .i64 k∧k≤s.size∧Hid ((s.data.toList.take k).all idB=true)) (fun i=>s.size - (intOf i).toNat);case atStart=>exact⟨0,rfl,Nat.zero_le _,Pe rfl⟩
 case round =>
  clear he g;obtain⟨k,rfl,hk,ht⟩:=hrel;by_cases hlt:k<s.size
  ·obtain⟨c,hc⟩:=Jdr s k hlt
   have k1:=fun W=>Jb2 s k c hc k rfl W
   have hid:=Jlm c;generalize hn:(c.toNat:Int)=n at k1 hid;have A:=Pe (fun W=>Juq n W);have B:=Pe (fun W=>Jwx n W);have C:=Pe (fun W=>J2k n W);generalize lttI n=a at A hid;generalize digI n=b at B hid;generalize sgnI n=d at C hid;clear hn;have hways:(a=true)∨(a=false∧b=true)∨(a=false∧b=false∧d=true)∨(a=false∧b=false∧d=false):=by cases a <;> cases b <;> cases d <;> simp
   rcases hways with rfl | ⟨rfl,rfl⟩ | ⟨rfl,rfl,rfl⟩ | ⟨rfl,rfl,rfl⟩
   ·have T:=Pe (Ja4 idB _ k c hc ht.out (by rw [hid];rfl))
    clear hc hid ht B C;go_wp2_with fail;refine Pf (A.out _) ?_;go_wp2_with fail;go_round;case rel=>exact⟨k+1,Kg,Kd,T⟩
    case measure=>exact Qz
   ·have T:=Pe (Ja4 idB _ k c hc ht.out (by rw [hid];rfl))
    clear hc hid ht C;go_wp2_with fail;refine Pf (A.out _) ?_;go_wp2_with fail;refine Pf (B.out _) ?_;go_wp2_with fail;go_round;case rel=>exact⟨k+1,Kg,Kd,T⟩
    case measure=>exact Qz
   ·have T:=Pe (Ja4 idB _ k c hc ht.out (by rw [hid];rfl))
    clear hc hid ht;go_wp2_with fail;refine Pf (A.out _) ?_;go_wp2_with fail;refine Pf (B.out _) ?_;go_wp2_with fail;refine Pf (C.out _) ?_;go_wp2_with fail;go_round;case rel=>exact⟨k+1,Kg,Kd,T⟩
    case measure=>exact Qz
   ·have T:=Pe (Jbb (p:=idB) hc (by rw [hid];rfl))
    clear hc hid ht;go_wp2_with fail;refine Pf (A.out _) ?_;go_wp2_with fail;refine Pf (B.out _) ?_;go_wp2_with fail;refine Pf (C.out _) ?_;exact Kh
  ·have R:Hid (r=true):=by
    show _=_
    exact Ku
   have d:decide (k<s.size)=false:=Kb;clear hlt ht;exact Ka
theorem Jj5 (s:ByteArray) (hs:s.size≤1099511627776) (w:World):Pb 158 #[.string s] w (.bool (Jaj s.data.toList)):=by
 by_cases h0:s.size=0
 ·have e:=Jeo s h0
  have he:((s.size:Int)==0)=true:=Jai Kd;have he2:(s.size==0)=true:=by rw [h0];rfl
  rw [e];clear e h0;exact Qb
 have he:((s.size:Int)==0)=false:=Jaa Kd;have he2:(s.size==0)=false:=Ky;by_cases h3:32<s.size
 ·have e:=Jbn s h3
  have g:(32:Int)<(s.size:Int):=Kd;clear h0 h3;rw [e];exact Qb
 have g:decide ((32:Int)<(s.size:Int))=false:=Ke;rw [Jf6 s Kd Kd];obtain⟨r,hr⟩:=Pi (s.data.toList.all idB);rw [hr];have HR:=Pe hr;clear hr;clear h0 h3;go_enter func158,ntmps158;go_wp2_with fail;go_loop [3] (fun i=>∃k:Nat,i=.int .i64 k∧k≤s.size∧Hid ((s.data.toList.take k).all idB=true)) (fun i=>s.size - (intOf i).toNat);case atStart=>exact⟨0,rfl,Nat.zero_le _,Pe rfl⟩
 case round =>
  clear he he2 g;obtain⟨k,rfl,hk,ht⟩:=hrel;by_cases hlt:k<s.size
  ·obtain⟨c,hc⟩:=Jdr s k hlt
   have k1:=fun W=>Jb2 s k c hc k rfl W
   have hid:=Jlm c;generalize hn:(c.toNat:Int)=n at k1 hid;clear hn;unfold lttI digI sgnI at hid;rcases Jis n with h | rfl | rfl | rfl | h | h | h | h | rfl | rfl | h | h
   ·have T:=Pe (Jbb (p:=idB) hc Kp)
    have g0:decide ((65:Int)≤n)=false:=Ke;have g1:n≤90:=Kd;have g2:decide ((97:Int)≤n)=false:=Ke;have g3:n≤122:=Kd;have g4:decide ((48:Int)≤n)=false:=Ke;have g5:n≤57:=Kd;exact Ko
   ·have T:=Pe (Ja4 idB _ k c hc ht.out Kv)
    clear hc hid ht;go_wp2_with fail;go_round;case rel=>exact⟨k+1,Kg,Kd,T⟩
    case measure=>exact Qz
   ·have T:=Pe (Ja4 idB _ k c hc ht.out Kv)
    clear hc hid ht;go_wp2_with fail;go_round;case rel=>exact⟨k+1,Kg,Kd,T⟩
    case measure=>exact Qz
   ·have T:=Pe (Jbb (p:=idB) hc Kv)
    exact Qa
   ·have T:=Pe (Ja4 idB _ k c hc ht.out Kp)
    have g0:decide ((65:Int)≤n)=false:=Ke;have g1:n≤90:=Kd;have g2:decide ((97:Int)≤n)=false:=Ke;have g3:n≤122:=Kd;have g4:(48:Int)≤n:=Kd;have g5:n≤57:=Kd;have q0:(n != 45)=true:=Jaf Kd;have q1:(n != 95)=true:=Jaf Kd;have q2:(n != 46)=true:=Jaf Kd;clear hc hid ht h;go_wp2_with fail;go_round;case rel=>exact⟨k+1,Kg,Kd,T⟩
    case measure=>exact Qz
   ·have T:=Pe (Jbb (p:=idB) hc Kp)
    have g0:decide ((65:Int)≤n)=false:=Ke;have g1:n≤90:=Kd;have g2:decide ((97:Int)≤n)=false:=Ke;have g3:n≤122:=Kd;have g4:(48:Int)≤n:=Kd;have g5:decide (n≤57)=false:=Ke;exact Ko
   ·have T:=Pe (Ja4 idB _ k c hc ht.out Kp)
    have g0:(65:Int)≤n:=Kd;have g1:n≤90:=Kd;have g2:decide ((97:Int)≤n)=false:=Ke;have g3:n≤122:=Kd;have g4:(48:Int)≤n:=Kd;have g5:decide (n≤57)=false:=Ke;have q0:(n != 45)=true:=Jaf Kd;have q1:(n != 95)=true:=Jaf Kd;have q2:(n != 46)=true:=Jaf Kd;clear hc hid ht h;go_wp2_with fail;go_round;case rel=>exact⟨k+1,Kg,Kd,T⟩
    case measure=>exact Qz
   ·have T:=Pe (Jbb (p:=idB) hc Kp)
    have g0:(65:Int)≤n:=Kd;have g1:decide (n≤90)=false:=Ke;have g2:decide ((97:Int)≤n)=false:=Ke;have g3:n≤122:=Kd;have g4:(48:Int)≤n:=Kd;have g5:decide (n≤57)=false:=Ke;exact Ko
   ·have T:=Pe (Ja4 idB _ k c hc ht.out Kv)
    clear hc hid ht;go_wp2_with fail;go_round;case rel=>exact⟨k+1,Kg,Kd,T⟩
    case measure=>exact Qz
   ·have T:=Pe (Jbb (p:=idB) hc Kv)
    exact Qa
   ·have T:=Pe (Ja4 idB _ k c hc ht.out Kp)
    have g0:(65:Int)≤n:=Kd;have g1:decide (n≤90)=false:=Ke;have g2:(97:Int)≤n:=Kd;have g3:n≤122:=Kd;have g4:(48:Int)≤n:=Kd;have g5:decide (n≤57)=false:=Ke;have q0:(n != 45)=true:=Jaf Kd;have q1:(n != 95)=true:=Jaf Kd;have q2:(n != 46)=true:=Jaf Kd;clear hc hid ht h;go_wp2_with fail;go_round;case rel=>exact⟨k+1,Kg,Kd,T⟩
    case measure=>exact Qz
   ·have T:=Pe (Jbb (p:=idB) hc Kp)
    have g0:(65:Int)≤n:=Kd;have g1:decide (n≤90)=false:=Ke;have g2:(97:Int)≤n:=Kd;have g3:decide (n≤122)=false:=Ke;have g4:(48:Int)≤n:=Kd;have g5:decide (n≤57)=false:=Ke;exact Ko
  ·have R:Hid (r=true):=by
    show _=_
    exact Ku
   have d:decide (k<s.size)=false:=Kb;clear hlt ht;exact Ka
end
end Go.Proofs.YtpifdbphmnifdaaGreatDoor
