/-
  Facts. Condition: each theorem's own.
-/
import Derived.Lib.Strings
import Derived.Lib.ItoaNum
import Derived.Laws.RangeAny
import GoSem.Op.String
import Derived.Test.YtpifdbphmnifdaaGreatDoorRows
import Derived.WalkKit
import Derived.WalkSpells
import Derived.WalkLawsBesides
import Derived.WalkSmall
import Derived.Lib.Hide
import Derived.Lib.LaidTab
import Derived.Laws.RangeString
import Derived.Laws.BytesArg
import Derived.LoopN
import Derived.Sort.Grow
import Derived.ShutString
import Derived.Deep.RegionHeld3
import Derived.Deep.QuietTactic
import Derived.BigQuiet
import Derived.Lib.AppendStr
import Derived.OwnWalk
import Derived.Laws.OwnMore
import Derived.Laws.IdiomStrings
import Derived.Deep.RegionLaw
import Derived.Deep.OwnRows
import Derived.Laws.Rows
import Derived.SliceStrings
import Derived.OpenShut
import Derived.Carry
import Derived.ChangeSlices
import Derived.ProofKit
import Derived.Deep.DeepHandedRow
import Derived.Maps.OwnSet
import Derived.WalkArith
import Derived.Lib.Bytealg
import Derived.Laws.Bits64b
import Derived.Laws.BitsAllLaws
import Derived.Laws.ShiftsVarLaws
import Derived.Lib.TrailingZeros
import Derived.IntWalk
set_option maxRecDepth 100000
set_option maxHeartbeats 8000000
section
variable {p:Prop}
theorem Ka(h:p:=by omega):p:=h
theorem Kb(h:p:=by simp;omega):p:=h
theorem Kc(h:p:=by go_wp2_with fail;go_ret;exact⟨rfl,rfl⟩):p:=h
theorem Kd(h:p:=by decide):p:=h
theorem Ke(h:p:=by simp):p:=h
theorem Kf(h:p:=by go_wp2_with fail;go_ret;exact⟨Jac R.out.symm,rfl⟩):p:=h
theorem Kg(h:p:=by rw[decide_eq_false_iff_not];exact hlt):p:=h
theorem Kh(h:p:=by clear hc hid ht h;go_wp2_with fail;go_ret;exact⟨Jac (by rw[<-HR.out,T.out]),rfl⟩):p:=h
theorem Ki(h:p:=by simp[intOf];omega):p:=h
theorem Kj(h:p:=by go_num):p:=h
theorem Kk(h:p:=by go_wp2_with fail;go_ret;exact⟨Jac (by rw[<-HR.out,T.out]),rfl⟩):p:=h
theorem Kl(h:p:=by kernel_rfl):p:=h
theorem Km(h:p:=by first | exact Pg | exact(Below.refl _ _).drew):p:=h
theorem Kn(h:p:=by assumption):p:=h
theorem Ko(h:p:=by have q0:(n != 45)=true:=Jaf Ka;have q1:(n != 95)=true:=Jaf Ka;have q2:(n != 46)=true:=Jaf Ka;exact Kh):p:=h
theorem Kp(h:p:=by rw[hid];simp;omega):p:=h
theorem Kq(h:p:=by simp[WideAt.IsKeyLit]):p:=h
theorem Kr(h:p:=by unfold maxLen;omega):p:=h
theorem Ks(h:p:=by unfold Addr.add;split <;> simp_all):p:=h
theorem Kt(h:p:=by simpa using h):p:=h
theorem Ku(h:p:=by simp only[List.length_cons];omega):p:=h
theorem Kv(h:p:=by rw[<-HR.out];have:=ht.out;rw[List.take_of_length_le (by rw[Jau];omega)] at this;exact this):p:=h
theorem Kw(h:p:=by rw[hid];simp):p:=h
theorem Kx(h:p:=by rw[h];simp):p:=h
theorem Ky(h:p:=by rw[hr,List.drop_of_length_le h];rfl):p:=h
theorem Kz(h:p:=by go_wp2_with fail;go_ret;exact⟨Ju4 (by rw[H.out];rfl),rfl⟩):p:=h
theorem K4(h:p:=by exact Ki):p:=h
theorem K6(h:p:=by rw[e];go_enter func193,ntmps193;exact Kc):p:=h
theorem K7(h:p:=by clear h;go_enter func259,ntmps259;exact Kf):p:=h
theorem K8(h:p:=by show _=_;unfold lttI;simp;omega):p:=h
theorem K9(h:p:=by simp at hc;simp[hm,<-hc]):p:=h
theorem Qa(h:p:=by obtain⟨b,o,hA,hbl,hcell⟩:=hx h0;exact⟨b,o,hA,Ps hbl hb.size,fun j x hj=>(hb.cell (p:=⟨b,o+j,none⟩) hbl).trans (hcell j x hj)⟩):p:=h
theorem Qb(h:p:=by rw[Jai];omega):p:=h
theorem Qc(h:p:=by rw[h]):p:=h
theorem Qd(h:p:=by exact K4):p:=h
theorem Qe(h:p:=by clear hc hid ht;exact Kk):p:=h
theorem Qf(h:p:=by rw[beq_eq_false_iff_ne];exact h0):p:=h
theorem Qg(h:p:=by rw[hem];simpa using h0):p:=h
theorem Qh(h:p:=by rw[has_put_same h2 Kq];simp):p:=h
theorem Qi(h:p:=by cases h):p:=h
theorem Qj(h:p:=by rw[Pq,List.map_append];exact h1):p:=h
theorem Qk(h:p:=by rw[hadd,cell_of_row w k j cells _ _ hk,<-hu,hc];simp):p:=h
theorem Ql(h:p:=by intro u hu;obtain⟨b,_,rfl⟩:=List.mem_map.1 hu;rfl):p:=h
theorem Qm(h:p:=by rw[h,k]):p:=h
theorem Qn(h:p:=by rw[Nat.pow_succ];omega):p:=h
theorem Qo(h:p:=by exact Qd):p:=h
theorem Qp(h:p:=by clear h;go_enter func260,ntmps260;exact Kf):p:=h
theorem Qq(h:p:=by show _=_;unfold digI;simp;omega):p:=h
theorem Qr(h:p:=by simpa [hx] using hi):p:=h
theorem Qs(h:p:=by simpa using hx):p:=h
theorem Qt(h:p:=by rw[atKey_put_same h2 Kq]):p:=h
theorem Qu(h:p:=by rw[Pq];exact g1):p:=h
theorem Qv(h:p:=by simp at h):p:=h
theorem Qw(h:p:=by simp[has_eq]):p:=h
theorem Qx(h:p:=by have:=(Pm hj).1;omega):p:=h
theorem Qy(h:p:=by obtain⟨j,hj⟩:=List.mem_iff_getElem?.1 hx;exact⟨j,x,hj,rfl⟩):p:=h
theorem Qz(h:p:=by exact Qo):p:=h
theorem Q4(h:p:=by rw[hk,Nat.add_mul];omega):p:=h
theorem Q5(h:p:=by simp[h1]):p:=h
theorem Q6(h:p:=by simp at this;omega):p:=h
theorem Q7(h:p:=by exact Qz):p:=h
end
variable {p:Prop}
theorem Pe(h:p):Go.RowKit.Hid p:=h
theorem Pf{P f a w v w2}{R:Go.Ending->Go.World->Prop}(h:Go.Calls P f a w fun e w'=>e=v/\w2=w')(k:R v w2):Go.Calls P f a w R:=h.mono fun _ _ h=>h.1▸h.2▸k
theorem Pg{n:Nat}{w:Go.World}:Go.RowKit.Below n w w:=.refl _ _
theorem Ph{n:Nat}:n<=n:=Nat.le_refl _
theorem Pi{α:Sort _}(a:α):∃x,a=x:=⟨a,rfl⟩
theorem Pj[Decidable p](h:¬p):decide p=false:=decide_eq_false h
theorem Pk[Decidable p](h:p):decide p=true:=decide_eq_true h
theorem Pm{α:Type _}{l:List α}{i:Nat}{a:α}(h:l[i]?=some a):∃h:i<l.length,l[i]=a:=List.getElem?_eq_some_iff.1 h
theorem Pn{α:Type _}{l:Array α}{i:Nat}{a:α}(h:l[i]?=some a):∃h:i<l.size,l[i]=a:=Array.getElem?_eq_some_iff.1 h
abbrev Po(w w':Go.World):Prop:=Go.RowKit.Below w.heap.size w w'
theorem Pp{α:Type _}{a b:α}(h:some a=some b):a=b:=Option.some.inj h
theorem Pq{α:Type _}{l r:List α}:(l++r).length=l.length+r.length:=List.length_append
theorem Pr{α β:Type _}{f:α->β}{l:List α}:(l.map f).length=l.length:=List.length_map f
theorem Ps{a b c:Nat}(h:a<b)(k:b<=c):a<c:=Nat.lt_of_lt_of_le h k
theorem Pu[Decidable p](h:¬¬p):p:=Decidable.not_not.1 h
abbrev Pb(f:Go.FuncId)(a:Array Go.Value)(w:Go.World)(v:Go.Value):Prop:=Go.Calls Go.Proofs.Tryz.prog f a w fun e w'=>e=.returned v/\w=w'
abbrev Pc(f:Go.FuncId)(a:Array Go.Value)(w:Go.World)(v:Go.Value):Prop:=Go.Calls Go.Proofs.Tryz.prog f a w fun e w'=>e=.returned v/\Go.RowKit.Below w.heap.size w w'
open Go.Proofs.Tryz
namespace Go.Proofs.YtpifdbphmnifdaaGreatDoor
section
open Go
abbrev str(l:List UInt8):ByteArray:=⟨l.toArray⟩
def dig(c:UInt8):Bool:=decide (48<=c.toNat/\c.toNat<=57)
def digs(l:List UInt8):Bool:=l.all dig
def valN(l:List UInt8):Nat:=l.foldl (fun n c=>n*10+(c.toNat - 48)) 0
theorem Jcu(c:UInt8):dig c=true↔48<=c.toNat/\c.toNat<=57:=by unfold dig;exact decide_eq_true_iff
theorem Jnj(l:List UInt8)(c:UInt8):valN (l++[c])=valN l*10+(c.toNat - 48):=by simp[valN]
theorem Jw0:∀(l:List UInt8) (a:Nat),digs l=true->l.foldl (fun n c=>n*10+(c.toNat - 48)) a<(a+1)*10 ^ l.length
 | [],a,_=>Ke
 | c::l,a,h=>by
  have hl:dig c=true/\digs l=true:=by simpa [digs] using h
  have hc:=(Jcu c).1 hl.1;have:=Jw0 l (a*10+(c.toNat - 48)) hl.2;rw[List.foldl_cons,List.length_cons,Nat.pow_succ];refine Ps this ?_;rw[Nat.mul_comm (10 ^ l.length) 10,<-Nat.mul_assoc];exact Nat.mul_le_mul_right _ Ka
theorem Jlk(l:List UInt8)(h:digs l=true):valN l<10 ^ l.length:=by
 have:=Jw0 l 0 h;simpa [valN] using this
theorem Jnk(l:List UInt8)(k:Nat)(h:digs l=true):digs (l.take k)=true:=by
 unfold digs at *;rw[List.all_eq_true] at *;exact fun x hx=>h x (List.mem_of_mem_take hx)
theorem Jd4(s:ByteArray)(k:Nat)(h:k<s.size):s.data.toList[k]?=some s[k]:=by
 rw[List.getElem?_eq_getElem Kt];rfl
theorem Jf7(s:ByteArray)(k:Nat)(h:k<s.size):s.data.toList.take (k+1)=s.data.toList.take k++[s[k]]:=by
 rw[List.take_succ_eq_append_getElem Kt];rfl
theorem Jll(s:ByteArray)(k:Nat)(h:k<s.size)(hd:digs s.data.toList=true):48<=s[k].toNat/\s[k].toNat<=57:=by
 unfold digs at hd;rw[List.all_eq_true] at hd;exact(Jcu _).1 (hd _ (List.mem_iff_getElem?.2 ⟨k,Jd4 s k h⟩))
theorem Jhy(s:ByteArray)(k:Nat)(h:¬k<s.size)(hd:digs (s.data.toList.take k)=true):digs s.data.toList=true:=by
 rwa [List.take_of_length_le Kt] at hd
theorem Jnl(s:ByteArray)(k:Nat)(h:k<s.size)(hd:digs (s.data.toList.take k)=true)(hc:48<=s[k].toNat/\s[k].toNat<=57):digs (s.data.toList.take (k+1))=true:=by
 rw[Jf7 s k h];have:=(Jcu _).2 hc;simp_all [digs]
def two(x:Int):List UInt8:=[UInt8.ofNat (48+x.toNat / 10),UInt8.ofNat (48+x.toNat % 10)]
def dec(x:Int):List UInt8:=Lib.decDigits x.toNat
def Jcc(l:List UInt8)(a:Nat):Nat:=valN ((l.drop a).take 2)
theorem ofNat_toNat(x:Nat)(h:x<10):(UInt8.ofNat (48+x)).toNat=48+x:=by
 rw[UInt8.toNat_ofNat'];omega
theorem Jnm(x:Nat)(h:x<10):dig (UInt8.ofNat (48+x))=true:=by
 rw[Jcu,ofNat_toNat x h];omega
theorem J24(a b:UInt8):valN [a,b]=(a.toNat - 48)*10+(b.toNat - 48):=by
 simp[valN]
theorem Jir(x:Int):(two x).length=2:=rfl
theorem Jis(x:Int)(h:x<100):(dec x).length<=2:=by
 unfold dec;by_cases h1:x.toNat<10
 ·rw[Lib.decDigits_one h1];simp
 ·rw[Lib.decDigits_two h1 Ka];simp
theorem Jf8(x:Int):(two x).length<=100:=by rw[Jir];decide
theorem Jj4(x:Int)(h:x<100):(dec x).length<=100:=by have:=Jis x h;omega
theorem Jw1(x:Int)(h0:0<=x)(h1:x<100):dec (x / 10)++dec (x % 10)=two x:=by
 obtain⟨n,rfl⟩:∃n:Nat,x=n:=⟨x.toNat,Ka⟩;unfold dec two;rw[Lib.decDigits_one (i:=((n:Int) / 10).toNat) Ka,Lib.decDigits_one (i:=((n:Int) % 10).toNat) Ka];rw[show((n:Int) / 10).toNat=n / 10 by omega,show((n:Int) % 10).toNat=n % 10 by omega];rfl
variable {w w':World} {v:Value} {base s n k m:Nat} {a b:Int} {P:Program} {e:TypeId} {xs:List Value} {α:Type} {f:FuncId} {args:Array Value}
theorem Jah{l:List α}(h:k<l.length):∃x,l[k]?=some x:=⟨l[k],List.getElem?_eq_getElem h⟩
theorem Jbg(l:List α)(k:Nat)(x:α)(h:l[k]?=some x):l.drop k=x::l.drop (k+1):=by
 have hk:=(Pm h).1;rw[List.drop_eq_getElem_cons hk,(Pm h).2]
theorem Jbx(l:List α)(k:Nat)(x:α)(h:l[k]?=some x):l.take (k+1)=l.take k++[x]:=by
 rw[List.take_add_one,h];rfl
theorem Jbc{p:UInt8->Bool}{l:List UInt8}{c:UInt8}(h:l[k]?=some c)(hc:p c=false):l.all p=false:=by
 cases ha:l.all p with
 | false=>rfl
 | true =>
  rw[List.all_eq_true] at ha;rw[ha c (List.mem_iff_getElem?.2 ⟨k,h⟩)] at hc;cases hc
theorem Ja3(p:UInt8->Bool)(l:List UInt8)(k:Nat)(c:UInt8)(h:l[k]?=some c)(ht:(l.take k).all p=true)(hc:p c=true):(l.take (k+1)).all p=true:=by
 rw[Jbx l k c h,List.all_append,ht];simp[hc]
def idB(c:UInt8):Bool:=decide ((65<=c.toNat/\c.toNat<=90)\/(97<=c.toNat/\c.toNat<=122)\/(48<=c.toNat/\c.toNat<=57)\/c.toNat=45\/c.toNat=95\/c.toNat=46)
def Jak(l:List UInt8):Bool:=decide (1<=l.length)&&decide (l.length<=32)&&l.all idB
theorem Jf9(l:List UInt8):Jak l=true↔(1<=l.length/\l.length<=32)/\l.all idB=true:=by
 unfold Jak;rw[Bool.and_eq_true,Bool.and_eq_true,decide_eq_true_iff,decide_eq_true_iff]
theorem Jlm(s i:Nat):(s / 2 ^ i % 2=1)↔s.testBit i=true:=by
 rw[Nat.testBit_eq_decide_div_mod_eq,decide_eq_true_iff]
def delB(s i:Nat):Nat:=if s.testBit i then s - 2 ^ i else s
theorem Jw2{i:Nat}(h:s.testBit i=false):s+2 ^ i=s ||| 2 ^ i:=by
 apply Nat.eq_of_testBit_eq
 intro j;rw[Nat.testBit_or,Nat.testBit_two_pow];rw[Nat.add_comm];rcases Nat.lt_trichotomy j i with hj | hj | hj
 ·rw[Nat.testBit_two_pow_add_gt hj]
  exact Kb
 ·subst hj
  rw[Nat.testBit_two_pow_add_eq,h];simp
 ·
  have hs:s=s % 2 ^ (i+1)+2 ^ (i+1)*(s / 2 ^ (i+1)):=(Nat.mod_add_div _ _).symm;have hlow:s % 2 ^ (i+1)<2 ^ i:=by
   have hdiv:s / 2 ^ i % 2=0:=by
    have:=Jlm s i;rw[h] at this;exact Q6
   have h1:s % 2 ^ (i+1)=s % 2 ^ i+2 ^ i*(s / 2 ^ i % 2):=by rw[Nat.pow_succ,Nat.mod_mul]
   rw[h1,hdiv,Nat.mul_zero,Nat.add_zero];exact Nat.mod_lt _ (Nat.two_pow_pos i)
  have hsum:2 ^ i+s=2 ^ (i+1)*(s / 2 ^ (i+1))+(2 ^ i+s % 2 ^ (i+1)):=Ka;rw[hsum,Nat.testBit_two_pow_mul_add _ (Ps (Nat.add_lt_add_left hlow _) Qn)];rw[if_neg Ka];conv=>rhs;rw[show s=2 ^ (i+1)*(s / 2 ^ (i+1))+s % 2 ^ (i+1) by omega]
  rw[Nat.testBit_two_pow_mul_add _ (Nat.mod_lt _ (Nat.two_pow_pos _)),if_neg Ka];exact Kb
theorem Jw3{i:Nat}(h:s.testBit i=true):∃r,s=r+2 ^ i/\r.testBit i=false/\∀j,j≠i->r.testBit j=s.testBit j:=by
 refine⟨s ^^^ 2 ^ i,?_,?_,fun j hj=>?_⟩
 ·have h0:(s ^^^ 2 ^ i).testBit i=false:=by rw[Nat.testBit_xor,Nat.testBit_two_pow,h];simp
  rw[Jw2 h0];apply Nat.eq_of_testBit_eq;intro j;rw[Nat.testBit_or,Nat.testBit_xor,Nat.testBit_two_pow];by_cases hij:i=j
  ·subst hij;simp[h]
  ·simp[hij]
 ·rw[Nat.testBit_xor,Nat.testBit_two_pow,h];simp
 ·rw[Nat.testBit_xor,Nat.testBit_two_pow]
  simp[Ne.symm hj]
theorem Jqj(s i j:Nat):(delB s i).testBit j=(s.testBit j&&!(decide (i=j))):=by
 unfold delB;split
 ·next h =>
  obtain⟨r,hr,h1,h2⟩:=Jw3 h;rw[show s - 2 ^ i=r by omega];by_cases hij:i=j
  ·subst hij;exact Q5
  ·rw[h2 j (Ne.symm hij)];simp[hij]
 ·next h =>
  by_cases hij:i=j
  ·subst hij;simp[h]
  ·simp[hij]
theorem Qcs(s i:Nat):delB s i<=s:=by
 unfold delB;split
 ·exact Nat.sub_le _ _
 ·exact Nat.le_refl _
theorem Jit(h:s<2 ^ 64){j:Nat}(hj:64<=j):s.testBit j=false:=Nat.testBit_lt_two_pow (Ps h (Nat.pow_le_pow_right Kd hj))
theorem Jw4{t:Nat}(hs:s<2 ^ 64)(ht:t<2 ^ 64)(h:∀j,j<64->s.testBit j=t.testBit j):s=t:=by
 apply Nat.eq_of_testBit_eq
 intro j;by_cases hj:j<64
 ·exact h j hj
 ·rw[Jit hs Ka,Jit ht Ka]
def elems(s:Nat):List Nat:=(List.range 64).filter fun i=>s.testBit i
theorem Jiu(s i:Nat):i∈elems s↔i<64/\s.testBit i=true:=by
 unfold elems;rw[List.mem_filter,List.mem_range]
theorem Jnn(s:Nat):(elems s).length<=64:=by
 have:=List.length_filter_le (fun i=>s.testBit i) (List.range 64);rw[List.length_range] at this;exact this
theorem Jj5(s:Nat):(elems s).Pairwise (·<·):=List.Pairwise.filter _ List.pairwise_lt_range
theorem Jiv:∀a b:List Nat,a.Pairwise (·<·)->b.Pairwise (·<·)->(∀i,i∈a↔i∈b)->a=b
 | [],[],_,_,_=>rfl
 | [],y::b,_,_,h=>by have:=(h y).2 Ke;cases this
 | x::a,[],_,_,h=>by have:=(h x).1 Ke;cases this
 | x::a,y::b,ha,hb,h=>by
  rw[List.pairwise_cons] at ha hb;have hxy:x=y:=by
   rcases List.mem_cons.1 ((h x).1 Ke) with e | hx
   ·exact e
   ·rcases List.mem_cons.1 ((h y).2 Ke) with e | hy
    ·exact e.symm
    ·have:=hb.1 x hx;have:=ha.1 y hy;omega
  subst hxy;rw[Jiv a b ha.2 hb.2 (fun i=>?_)];constructor
  ·intro hi
   rcases List.mem_cons.1 ((h i).1 (List.mem_cons_of_mem _ hi)) with e | hm
   ·subst e;have:=ha.1 i hi;omega
   ·exact hm
  ·intro hi
   rcases List.mem_cons.1 ((h i).2 (List.mem_cons_of_mem _ hi)) with e | hm
   ·subst e;have:=hb.1 i hi;omega
   ·exact hm
theorem J25{l:List Nat}(h1:l.Pairwise (·<·))(h2:∀i,i∈l↔i<64/\s.testBit i=true):l=elems s :=
 Jiv l _ h1 (Jj5 s) fun i=>(h2 i).trans (Jiu s i).symm
theorem J26(hb:s.testBit m=true)(hl:∀j,j<m->s.testBit j=false):s=2 ^ (m+1)*(s / 2 ^ (m+1))+2 ^ m:=by
 have h0:s % 2 ^ m=0:=by
  apply Nat.eq_of_testBit_eq
  intro j;rw[Nat.testBit_mod_two_pow,Nat.zero_testBit];by_cases hj:j<m
  ·simp[hl j hj]
  ·simp[hj]
 have h1:s % 2 ^ (m+1)=2 ^ m:=by
  rw[Nat.pow_succ,Nat.mod_mul,h0,(Jlm s m).2 hb];omega
 have:=Nat.div_add_mod s (2 ^ (m+1));omega
theorem Jw5(hb:s.testBit m=true)(hl:∀j,j<m->s.testBit j=false):s &&& (s - 1)=delB s m:=by
 have hf:=J26 hb hl;generalize s / 2 ^ (m+1)=r at hf;have hp:=Nat.two_pow_pos m;have hs:s - 1=2 ^ (m+1)*r+(2 ^ m - 1):=Ka;have hz:(2 ^ m - 1).testBit m=false:=Nat.testBit_lt_two_pow Ka;apply Nat.eq_of_testBit_eq;intro j;rw[Nat.testBit_and,Jqj];rcases Nat.lt_trichotomy j m with hj | hj | hj
 ·simp[hl j hj]
 ·subst hj
  rw[hs,Nat.testBit_two_pow_mul_add _ Qn,if_pos Ka,hz];simp
 ·have hne:¬m=j:=Ka
  rw[hs,Nat.testBit_two_pow_mul_add _ Qn,if_neg Ka];rw[hf,Nat.testBit_two_pow_mul_add _ Qn,if_neg Ka];simp[hne]
theorem Jw6(hm:m<64)(hb:s.testBit m=true)(hl:∀j,j<m->s.testBit j=false):elems s=m::elems (delB s m):=by
 refine(J25 ?_ fun i=>?_).symm
 ·rw[List.pairwise_cons]
  refine⟨fun i hi=>?_,Jj5 _⟩;have h:=(Jiu _ _).1 hi;rw[Jqj,Bool.and_eq_true] at h;rcases Nat.lt_trichotomy i m with h1 | h1 | h1
  ·rw[hl i h1] at h;exact Qv
  ·subst h1;exact Qv
  ·exact h1
 ·rw[List.mem_cons,Jiu,Jqj]
  by_cases him:i=m
  ·subst him;simp[hm,hb]
  ·simp[him,Ne.symm him]
theorem Ju0:elems 0=[]:=by
 unfold elems;rw[List.filter_eq_nil_iff];intro i _;simp
abbrev W64(s:Nat):Prop:=s<18446744073709551616
def one(i:Int):Nat:=if 0<=i/\i<64 then 2 ^ i.toNat else 0
theorem Jia(h:k<64):2 ^ k<18446744073709551616:=by
 rw[show 18446744073709551616=2 ^ 64 by rfl];exact Nat.pow_lt_pow_right Kd h
theorem J7a(i:Int):W64 (one i):=by
 unfold one;split
 ·exact Jia Ka
 ·decide
open Go.RowKit
theorem rel{W:World}{x:Ending}(h:Calls P f args w fun e w'=>e=x/\Po w w')(hb:Po W w):
  Calls P f args w fun e w'=>e=x/\Po W w' :=
 h.mono fun _ _ ⟨he,hc⟩=>⟨he,hb.trans (hc.mono hb.size)⟩
theorem Jab{B:Nat}{a:World}(h:Below B a w)(n:Nat):Below B a (w.drewN n):=⟨h.os,h.tape,h.output,h.size,h.block⟩
theorem Jqk{x:Ending}(h:Calls P f args w fun e w'=>e=x/\w=w'):
  Calls P f args w fun e w'=>e=x/\Po w w' :=
 h.mono fun _ _ ⟨he,hc⟩=>⟨he,hc ▸ Pg⟩
theorem Je6{fn:Func}{t u v x:Tmp}(h:fn.results=#[.tmp t,.tmp u,.tmp v,.tmp x])(tmps:Array Value)(P:Program)(w:World):
  (results fn tmps).run P w=.ok (.tuple #[tmps.getD t undef,tmps.getD u undef,tmps.getD v undef,tmps.getD x undef]) w:=by simp[results,h]
theorem Je7(s:ByteArray)(i:Nat)(h:i<s.size)(W:World):(Instr.index 9 (.string s) (.int .i64 i)).run prog W=.ok (.int .u8 s[i].toNat) W:=by
 go_simp
theorem Ja5(w:World)(s:ByteArray)(k:Nat):Po w (w.iter s k):=(Below.refl _ _).alloc Ph _
theorem Jaa(h:a≠b):(a==b)=false:=by rw[beq_eq_false_iff_ne];exact h
theorem Jaf(h:a≠b):(a != b)=true:=by rw[bne,Jaa h];rfl
theorem Jag(h:a=b):(a==b)=true:=by rw[beq_iff_eq];exact h
theorem Jap(h:a=b):(a != b)=false:=Kx
theorem Jas(a b:List UInt8):str a++str b=str (a++b):=by
 apply ByteArray.ext
 simp[str]
theorem Je8{a b:ByteArray}(h:a=b){n:Int}:Ending.returned (.tuple #[.string a,.int .i64 n])=Ending.returned (.tuple #[.string b,.int .i64 n]):=Qc
theorem conv2(a b:Int)(w:World):
  (convert 155 9 (.slice (some ⟨w.heap.size,0,none⟩) 2 2)).run prog (w.alloc (.cells #[.int .u8 a,.int .u8 b] 5))=.ok (.string (str [UInt8.ofNat a.toNat,UInt8.ofNat b.toNat])) (w.alloc (.cells #[.int .u8 a,.int .u8 b] 5)) :=
 run_convert_bytes_arg (P:=prog) _ 155 5 underlying155 underlying5 w.heap.size 0 2 2 [a,b] rfl (by
  intro i hi;match i,hi with
  | 0,_=>go_simp
  | 1,_=>go_simp) 9 underlying9
theorem Jln(a:Int)(w:World):
  (convert 155 9 (.slice (some ⟨w.heap.size,0,none⟩) 1 1)).run prog (w.alloc (.cells #[.int .u8 a] 5))=.ok (.string (str [UInt8.ofNat a.toNat])) (w.alloc (.cells #[.int .u8 a] 5)) :=
 run_convert_bytes_arg (P:=prog) _ 155 5 underlying155 underlying5 w.heap.size 0 1 1 [a] rfl (by
  intro i hi;match i,hi with
  | 0,_=>go_simp) 9 underlying9
theorem Qct(x:Int)(h0:0<=x):[UInt8.ofNat (48+x / 10).toNat,UInt8.ofNat (48+x % 10).toNat]=two x:=by
 unfold two;rw[show(48+x / 10).toNat=48+x.toNat / 10 by omega,show(48+x % 10).toNat=48+x.toNat % 10 by omega]
theorem Jlo{a b:List UInt8}(h:a=b){n:Int}:Ending.returned (.tuple #[.string (str a),.int .i64 n])=Ending.returned (.tuple #[.string (str b),.int .i64 n]):=Qc
theorem Jad{k:IntKind}(h:a=b):Ending.returned (.int k a)=.returned (.int k b):=Qc
theorem Jac{a b:Bool}(h:a=b):Ending.returned (.bool a)=.returned (.bool b):=Qc
theorem J27{c:Bool}(h:a=b):Ending.returned (.tuple #[.int .i64 a,.bool c])=.returned (.tuple #[.int .i64 b,.bool c]):=Qc
theorem Jw7{c x y z:Int}(h1:a=x)(h2:b=y)(h3:c=z):Ending.returned (.tuple #[.int .i64 a,.int .i64 b,.int .i64 c,.bool true])=Ending.returned (.tuple #[.int .i64 x,.int .i64 y,.int .i64 z,.bool true]):=by rw[h1,h2,h3]
theorem J8w{c d:Int}(h:a=c)(k:b=d):Ending.returned (.tuple #[.int .i64 a,.int .i64 b])=.returned (.tuple #[.int .i64 c,.int .i64 d]):=Qm
theorem Jai(l:List UInt8):(str l).size=l.length:=by show l.toArray.size=_;simp
theorem Ju1(w:World)(k:Nat)(os:Array Obj):Po w (Sort.grow (w.drewN k) os) :=
 ⟨rfl,rfl,rfl,Ke,fun j hj=>Sort.heap_grow_old (w.drewN k) os hj⟩
theorem Jcv{a b:ByteArray}(h:a=b):Ending.returned (.string a)=Ending.returned (.string b):=Qc
theorem Jw8(l:List UInt8)(i:Nat)(c:UInt8)(h:l[i]?=some c)(e:Int)(he:e=i)(W:World):(Instr.index 9 (.string (str l)) (.int .i64 e)).run prog W=.ok (.int .u8 c.toNat) W:=by
 subst he;have hi:i<l.length:=(Pm h).1;rw[Je7 (str l) i (by rw[Jai];exact hi) W];have:(str l)[i]'(by rw[Jai];exact hi)=c:=(Pm h).2;rw[this]
theorem Jw9(l:List UInt8)(j:Nat)(hj:j<=l.length)(m:List UInt8)(hm:l.take j=m)(e:Int)(he:e=j)(W:World):(Instr.slice 9 (.string (str l)) none (some (.int .i64 e)) none).run prog W=.ok (.string (str m)) W:=by
 subst he hm;rw[run_slice_string_h W 9 (str l) underlying9 .i64 j Ka Qb];congr 2;rw[Lib.extract_eq];simp
theorem Jxa(l:List UInt8)(j:Nat)(hj:j<=l.length)(m:List UInt8)(hm:l.drop j=m)(e:Int)(he:e=j)(W:World):(Instr.slice 9 (.string (str l)) (some (.int .i64 e)) none none).run prog W=.ok (.string (str m)) W:=by
 subst he hm;rw[run_slice_string_l W 9 (str l) underlying9 .i64 j Ka Qb];congr 2;rw[Lib.extract_eq,Jai];simp;rw[List.take_of_length_le Ke]
theorem J8x(l:List UInt8)(i j:Nat)(hi:i<=j)(hj:j<=l.length)(m:List UInt8)(hm:(l.drop i).take (j - i)=m)(e f:Int)(he:e=i)(hf:f=j)(W:World):(Instr.slice 9 (.string (str l)) (some (.int .i64 e)) (some (.int .i64 f)) none).run prog W=.ok (.string (str m)) W:=by
 subst he hf hm;rw[run_slice_string W 9 (str l) .i64 .i64 i j underlying9 Ka Ka Qb];congr 2;rw[Lib.extract_eq];simp
abbrev bts(l:List UInt8):List Value:=l.map fun b=>Value.int .u8 b.toNat
abbrev sts(l:List (List UInt8)):List Value:=l.map fun s=>Value.string (str s)
theorem Jql:(prog.info? 5).map (fun i=>(i.zero,i.size,i.bytes))=some (some (.int .u8 0),1,1):=Kl
theorem Jib:(prog.info? 9).map (fun i=>(i.zero,i.size,i.bytes))=some (some (.string ByteArray.empty),1,16):=Kl
def OwnB(w:World)(base:Nat)(v:Value)(l:List UInt8):Prop:=w.ownsRow base 5 1 v l.length (bts l)
def OwnS(w:World)(base:Nat)(v:Value)(l:List (List UInt8)):Prop:=w.ownsRow base 9 1 v l.length (sts l)
theorem OwnB.nil(w:World)(base:Nat):OwnB w base (.slice none 0 0) []:=World.ownsRow_nil _ _ _ _
theorem OwnS.nil(w:World)(base:Nat):OwnS w base (.slice none 0 0) []:=World.ownsRow_nil _ _ _ _
theorem Jxb(l:List UInt8):∀u∈bts l,u.oneCell'=true:=by
 exact Ql
theorem Jxc(l:List (List UInt8)):∀u∈sts l,u.oneCell'=true:=by
 exact Ql
theorem Jga(h:w.ownsRow base e 1 v n xs):∃A c,v=.slice A n c/\n<=c/\(0<n->∃g,A=some ⟨g,0,none⟩/\base<=g/\g<w.heap.size/\∀j u,xs[j]?=some u->w.cell? ⟨g,0+j,none⟩=some u):=by
 have hl:=h.1;rcases h.2 with⟨rfl,rfl⟩ | ⟨g,cap,cur,rfl,hb,hg,hn,_,_,ht⟩
 ·exact⟨none,0,rfl,Nat.le_refl _,fun h=>absurd h (Nat.lt_irrefl _)⟩
 ·refine⟨some ⟨g,0,none⟩,cap,rfl,hn,fun _=>⟨g,rfl,hb,?_,?_⟩⟩
  ·rcases Nat.lt_or_ge g w.heap.size with h | h
   ·exact h
   ·rw[Array.getElem?_eq_none h] at hg;cases hg
  ·intro j u hu
   rw[Nat.zero_add,cell_of_row w g j cur e (0,0) hg];have hj:=(Pm hu).1;rw[<-ht,List.getElem?_take] at hu;split at hu
   ·rw[<-hu];simp
   ·cases hu
theorem Jc4(h:w.ownsRow base e 1 v n xs):∃A c,v=.slice A n c:=by
 obtain⟨A,c,hv,_⟩:=Jga h;exact⟨A,c,hv⟩
theorem Jiw(h:w.ownsRow base e 1 v n xs)(hb:Po w w'):w'.ownsRow base e 1 v n xs:=by
 refine⟨h.1,?_⟩;rcases h.2 with h0 | ⟨g,cap,cur,hv,hbg,hg,hr⟩
 ·exact Or.inl h0
 ·have hlt:g<w.heap.size:=by
   rcases Nat.lt_or_ge g w.heap.size with h | h
   ·exact h
   ·rw[Array.getElem?_eq_none h] at hg;cases hg
  exact Or.inr ⟨g,cap,cur,hv,hbg,(hb.block g hlt).trans hg,hr⟩
theorem Je9(h:w.ownsRow base e 1 v n xs)(hg:w.grownBy w' v.ownBlock)(hb:base<=w.heap.size):Below base w w' :=
 (Below.refl _ _).grown hg hb fun k hk=>(h.lt k hk).1
theorem J28{base':Nat}(h:w.ownsRow base e 1 v n xs)(hb:base'<=base):w.ownsRow base' e 1 v n xs:=by
 refine⟨h.1,?_⟩;rcases h.2 with h0 | ⟨g,cap,cur,hv,hbg,hr⟩
 ·exact Or.inl h0
 ·exact Or.inr ⟨g,cap,cur,hv,Nat.le_trans hb hbg,hr⟩
theorem Jcw(w:World){ops:Array Oper}{rest:List Oper}{o:Oper}{a:Act}{Q:Exit->Act->World->Prop}(hgd:o.guard=none)(s x:Operand)
  (ho:o.op=.call { callee:=.builtin .append,args:=#[s,x],argTypes:=#[155,155] }) (base:Nat) (v:Value) (l m:List UInt8) (hs:a.eval s=v) (hown:OwnB w base v l)
  (k:Nat) (cells:Array Value) (hk:w.heap[k]?=some (.cells cells 5 (0,0))) (hc:cells.toList=bts m) (hx:a.eval x=.slice (some ⟨k,0,none⟩) m.length m.length) (hb:base<=w.heap.size)
  (hl:l.length+m.length<=140737488355328) (h:∀v' w',OwnB w' base v' (l++m)->Below base w w'->wpList prog ops Q rest (a.put o.dst v') w'):wpList prog ops Q (o::rest) a w:=by
 obtain⟨i,hi,hz,hsz,hby⟩:=info_parts Jql;refine wpList_append_own w hgd s x 155 ho base 5 i _ 1 1 underlying155 hi hz hsz hby rfl Kd v l.length (bts l) hs hown ⟨k,0,none⟩ m.length m.length (bts m) hx Ke ?_ (Jxb m) Kr Ka hb ?_
 ·intro j u hu
  have hadd:(⟨k,0,none⟩:Addr).add j=⟨k,j,none⟩:=Ks;rw[hadd,cell_of_row w k j cells _ _ hk,<-hu,<-hc];simp
 ·intro v' w' h1 h2 _
  refine h v' w' ?_ (Je9 hown h2 hb);unfold OwnB bts;exact Qj
theorem Jj6(w:World){ops:Array Oper}{o:Oper}{a:Act}{K:Act->World->Prop}{Q:Exit->Act->World->Prop}{E:Prop}(hgd:o.guard=none)(s x:Operand)
  (ho:o.op=.call { callee:=.builtin .append,args:=#[s,x],argTypes:=#[155,155] }) (base:Nat) (v:Value) (l m:List UInt8) (hs:a.eval s=v) (hown:OwnB w base v l)
  (k:Nat) (cells:Array Value) (hk:w.heap[k]?=some (.cells cells 5 (0,0))) (hc:cells.toList=bts m) (hx:a.eval x=.slice (some ⟨k,0,none⟩) m.length m.length) (hb:base<=w.heap.size)
  (hl:l.length+m.length<=140737488355328) (h:∀v' w',OwnB w' base v' (l++m)->Below base w w'->K (a.put o.dst v') w'):if Region.wanted o (yielded ops a.tmps)=true then Oper.wp prog o a w K Q else E:=by
 obtain⟨i,hi,hz,hsz,hby⟩:=info_parts Jql;have hw:Region.wanted o (yielded ops a.tmps)=true:=by simp[Region.wanted,hgd]
 rw[if_pos hw];refine wp_append_own w s x 155 ho base 5 i _ 1 1 underlying155 hi hz hsz hby rfl Kd v l.length (bts l) hs hown ⟨k,0,none⟩ m.length m.length (bts m) hx Ke ?_ (Jxb m) Kr Ka hb ?_
 ·intro j u hu
  have hadd:(⟨k,0,none⟩:Addr).add j=⟨k,j,none⟩:=Ks;rw[hadd,cell_of_row w k j cells _ _ hk,<-hu,<-hc];simp
 ·intro v' w' h1 h2 _
  refine h v' w' ?_ (Je9 hown h2 hb);unfold OwnB bts;exact Qj
theorem Jdn(w:World){ops:Array Oper}{rest:List Oper}{o:Oper}{a:Act}{Q:Exit->Act->World->Prop}(hgd:o.guard=none)(s x:Operand)
  (ho:o.op=.call { callee:=.builtin .append,args:=#[s,x],argTypes:=#[155,9] }) (base:Nat) (v:Value) (l:List UInt8) (m:ByteArray) (hs:a.eval s=v) (hown:OwnB w base v l)
  (hx:a.eval x=.string m) (hb:base<=w.heap.size)
  (hl:l.length+m.size<=140737488355328) (h:∀v' w',OwnB w' base v' (l++m.data.toList)->Below base w w'->wpList prog ops Q rest (a.put o.dst v') w'):wpList prog ops Q (o::rest) a w:=by
 obtain⟨i,hi,hz,hsz,hby⟩:=info_parts Jql;refine Lib.wpList_append_own_string w hgd s x 155 9 ho base 5 i underlying155 underlying9 hi hz hsz hby v l.length (bts l) hs hown m hx Kr Ka hb ?_;intro v' w' h1 h2 _;refine h v' w' ?_ (Je9 hown h2 hb);unfold OwnB bts;rw[Pq,List.map_append,show m.data.toList.length=m.size by simp];exact h1
theorem Jqm(w:World){ops:Array Oper}{rest:List Oper}{o:Oper}{a:Act}{Q:Exit->Act->World->Prop}(hgd:o.guard=none)(s x:Operand)
  (ho:o.op=.call { callee:=.builtin .append,args:=#[s,x],argTypes:=#[66,66] }) (base:Nat) (v:Value) (l:List (List UInt8)) (m:List UInt8) (hs:a.eval s=v) (hown:OwnS w base v l)
  (k:Nat) (cells:Array Value) (hk:w.heap[k]?=some (.cells cells 9 (0,0))) (hc:cells=#[.string (str m)]) (hx:a.eval x=.slice (some ⟨k,0,none⟩) 1 1) (hb:base<=w.heap.size)
  (hl:l.length+1<=1099511627776) (h:∀v' w',OwnS w' base v' (l++[m])->Below base w w'->wpList prog ops Q rest (a.put o.dst v') w'):wpList prog ops Q (o::rest) a w:=by
 obtain⟨i,hi,hz,hsz,hby⟩:=info_parts Jib;refine wpList_append_own w hgd s x 66 ho base 9 i _ 1 16 underlying66 hi hz hsz hby rfl Kd v l.length (sts l) hs hown ⟨k,0,none⟩ 1 1 (sts [m]) hx Ke ?_ (Jxc [m]) Kr Ka hb ?_
 ·intro j u hu
  have hadd:(⟨k,0,none⟩:Addr).add j=⟨k,j,none⟩:=Ks;exact Qk
 ·intro v' w' h1 h2 _
  refine h v' w' ?_ (Je9 hown h2 hb);unfold OwnS sts;exact Qj
theorem Jgb{l:List UInt8}(h:OwnB w base v l):(convert 155 9 v).run prog w=.ok (.string (str l)) w:=by
 obtain⟨A,c,rfl,_,hc⟩:=Jga h;rcases Nat.eq_zero_or_pos l.length with h0 | h0
 ·have:l=[]:=List.length_eq_zero_iff.1 h0
  subst this;cases A with
  | none=>exact run_convert_bytes_nil w 155 5 underlying155 underlying5 0 c 9 underlying9
  | some a=>exact run_convert_bytes_back w 155 9 5 a c [] underlying155 underlying5 underlying9 (fun j hj=>absurd hj (Nat.not_lt_zero _))
 ·obtain⟨g,rfl,_,_,hcell⟩:=hc h0
  refine run_convert_bytes_back w 155 9 5 ⟨g,0,none⟩ c l underlying155 underlying5 underlying9 (fun j hj=>?_);have hadd:(⟨g,0,none⟩:Addr).add j=⟨g,0+j,none⟩:=Ks;rw[hadd];exact hcell j _ (by simp[hj])
theorem Jby(s:ByteArray)(i:Nat)(c:UInt8)(h:s.data.toList[i]?=some c)(e:Int)(he:e=i)(W:World):(Instr.index 9 (.string s) (.int .i64 e)).run prog W=.ok (.int .u8 c.toNat) W:=by
 subst he;have hi:i<s.size:=by have:=(Pm h).1;simpa using this
 rw[Je7 s i hi W];have:=Jd4 s i hi;rw[h] at this;rw[Pp this]
theorem Jcq(s:ByteArray)(i:Nat)(h:i<s.size):∃c,s.data.toList[i]?=some c:=⟨s[i],Jd4 s i h⟩
theorem Jau(s:ByteArray):s.data.toList.length=s.size:=Ke
theorem Jaw(s:ByteArray):str s.data.toList=s:=by cases s;rfl
theorem Jca(s:ByteArray):s.toList.isEmpty=decide (s.size=0):=by
 rw[Lib.toList_data];cases h:s.data.toList with
 | nil=>have:=Jau s;rw[h] at this;simp[<-this]
 | cons c r=>have:=Jau s;rw[h] at this;simp[<-this]
theorem Jcx{a b:ByteArray}(h:a≠b):(a.toList==b.toList)=false:=by
 rw[beq_eq_false_iff_ne,Lib.toList_data,Lib.toList_data];intro e;apply h;rw[<-Jaw a,<-Jaw b,e]
theorem Jcn{a b:ByteArray}(h:a=b):(a.toList==b.toList)=true:=Kx
theorem Jdx{x:Value}(h:∀w:World,Calls P f args w fun e w'=>e=.returned x/\w=w')(w:World)(n:Nat):Calls P f args (w.drewN n) fun e w''=>e=.returned x/\∃m,w''=w.drewN m :=
 Calls.quiet_of_same ((h _).mono fun _ _ ⟨a,b⟩=>⟨a,b.symm⟩)
theorem Jlp(s t:ByteArray)(j:Nat)(hj:j<=s.size)(ht:s.data.toList.drop j=t.data.toList)(e:Int)(he:e=j)(W:World):(Instr.slice 9 (.string s) (some (.int .i64 e)) none none).run prog W=.ok (.string t) W:=by
 have h:=Jxa s.data.toList j (by rw[Jau];exact hj) _ ht e he W;rw[Jaw,Jaw] at h;exact h
theorem sl_to(s t:ByteArray)(j:Nat)(hj:j<=s.size)(ht:s.data.toList.take j=t.data.toList)(e:Int)(he:e=j)(W:World):(Instr.slice 9 (.string s) none (some (.int .i64 e)) none).run prog W=.ok (.string t) W:=by
 have h:=Jw9 s.data.toList j (by rw[Jau];exact hj) _ ht e he W;rw[Jaw,Jaw] at h;exact h
theorem J7b(s t:ByteArray)(i j:Nat)(hi:i<=j)(hj:j<=s.size)(ht:(s.data.toList.drop i).take (j - i)=t.data.toList)(e f:Int)(he:e=i)(hf:f=j)(W:World):(Instr.slice 9 (.string s) (some (.int .i64 e)) (some (.int .i64 f)) none).run prog W=.ok (.string t) W:=by
 have h:=J8x s.data.toList i j hi (by rw[Jau];exact hj) _ ht e f he hf W;rw[Jaw,Jaw] at h;exact h
theorem Jc3(l:List UInt8):∃s:ByteArray,s.data.toList=l/\s.size=l.length/\str l=s:=⟨str l,rfl,Jai l,rfl⟩
def szOf:Value->Nat | .string s=>s.size | _=>0
def Lst(w:World)(v:Value)(ls:List (List UInt8)):Prop:=∃A c,v=.slice A ls.length c/\(ls.length<=c/\(A=none->c=0))/\(0<ls.length->∃b o,A=some ⟨b,o,none⟩/\b<w.heap.size/\∀(j:Nat) x,(sts ls)[j]?=some x->w.cell? ⟨b,o+j,none⟩=some x)
theorem OwnS.lst{l:List (List UInt8)}(h:OwnS w base v l):Lst w v l:=by
 obtain⟨A,c,hv,hc,hx⟩:=Jga h;refine⟨A,c,hv,⟨hc,?_⟩,fun h0=>?_⟩
 ·rintro rfl
  rcases h.2 with⟨h0,_⟩ | ⟨g,cap,cur,h0,_⟩
  ·rw[hv] at h0;simp at h0;exact h0.2
  ·rw[hv] at h0;simp at h0
 obtain⟨g,hA,_,hg,hcell⟩:=hx h0;exact⟨g,0,hA,hg,hcell⟩
theorem Lst.below{l:List (List UInt8)}(h:Lst w v l)(hb:Po w w'):Lst w' v l:=by
 obtain⟨A,c,hv,hc,hx⟩:=h;refine⟨A,c,hv,hc,fun h0=>?_⟩;exact Qa
theorem Jxd(l:List (List UInt8))(k:Nat)(x:List UInt8)(h:l[k]?=some x):(sts l)[k]?=some (.string (str x)):=by
 unfold sts;rw[List.getElem?_map,h];rfl
abbrev ints(l:List Int):List Value:=l.map fun x=>Value.int .i64 x
theorem Jic:(prog.info? 3).map (fun i=>(i.zero,i.size,i.bytes))=some (some (.int .i64 0),1,8):=Kl
def OwnI(w:World)(base:Nat)(v:Value)(l:List Int):Prop:=w.ownsRow base 3 1 v l.length (ints l)
def LstI(w:World)(v:Value)(ls:List Int):Prop:=∃A c,v=.slice A ls.length c/\ls.length<=c/\(A=none->c=0)/\(0<ls.length->∃b o,A=some ⟨b,o,none⟩/\b<w.heap.size/\∀(j:Nat) x,(ints ls)[j]?=some x->w.cell? ⟨b,o+j,none⟩=some x)
theorem OwnI.nil(w:World)(base:Nat):OwnI w base (.slice none 0 0) []:=World.ownsRow_nil _ _ _ _
theorem Jse(l:List Int):∀u∈ints l,u.oneCell'=true:=by
 exact Ql
theorem Jxe(l:List Int)(k:Nat)(x:Int)(h:l[k]?=some x):(ints l)[k]?=some (.int .i64 x):=by
 unfold ints;rw[List.getElem?_map,h];rfl
theorem OwnI.lst{l:List Int}(h:OwnI w base v l):LstI w v l:=by
 obtain⟨A,c,hv,hc,hx⟩:=Jga h;refine⟨A,c,hv,hc,?_,fun h0=>?_⟩
 ·rintro rfl
  rcases h.2 with⟨h0,_⟩ | ⟨g,cap,cur,h0,_⟩
  ·rw[hv] at h0;simp at h0;exact h0.2
  ·rw[hv] at h0;simp at h0
 ·obtain⟨g,hA,_,hg,hcell⟩:=hx h0
  exact⟨g,0,hA,hg,hcell⟩
theorem LstI.nil(w:World):LstI w (.slice none 0 0) []:=⟨none,0,rfl,Nat.le_refl _,fun _=>rfl,fun h=>absurd h (Nat.lt_irrefl _)⟩
theorem OwnI.below{l:List Int}(h:OwnI w base v l)(hb:Po w w'):OwnI w' base v l:=Jiw h hb
theorem J8y(w:World){ops:Array Oper}{rest:List Oper}{o:Oper}{a:Act}{Q:Exit->Act->World->Prop}(hgd:o.guard=none)(s x:Operand)
  (ho:o.op=.call { callee:=.builtin .append,args:=#[s,x],argTypes:=#[84,84] }) (base:Nat) (v:Value) (l:List Int) (m:Int) (hs:a.eval s=v) (hown:OwnI w base v l)
  (k:Nat) (cells:Array Value) (hk:w.heap[k]?=some (.cells cells 3 (0,0))) (hc:cells=#[.int .i64 m]) (hx:a.eval x=.slice (some ⟨k,0,none⟩) 1 1) (hb:base<=w.heap.size)
  (hl:l.length+1<=1099511627776) (h:∀v' w',OwnI w' base v' (l++[m])->Below base w w'->wpList prog ops Q rest (a.put o.dst v') w'):wpList prog ops Q (o::rest) a w:=by
 obtain⟨i,hi,hz,hsz,hby⟩:=info_parts Jic;refine wpList_append_own w hgd s x 84 ho base 3 i _ 1 8 underlying84 hi hz hsz hby rfl Kd v l.length (ints l) hs hown ⟨k,0,none⟩ 1 1 (ints [m]) hx Ke ?_ (Jse [m]) Kr Ka hb ?_
 ·intro j u hu
  have hadd:(⟨k,0,none⟩:Addr).add j=⟨k,j,none⟩:=Ks;exact Qk
 ·intro v' w' h1 h2 _
  refine h v' w' ?_ (Je9 hown h2 hb);unfold OwnI ints;exact Qj
theorem Je2(w:World)(base:Nat)(t ty e:TypeId)(i:TypeInfo)(z:Value)(size bytes:Nat)(ht:P.underlying t=some (.slice e))(hi:P.info? e=some i)(hz:i.zero=some z)
  (hsize:i.size=size) (hby:i.bytes=bytes) (hzs:z.cells.size=size) (hsz:0<size)
  (v:Value) (n:Nat) (xs:List Value) (hown:w.ownsRow base e size v n xs)
  (a:Addr) (m c:Nat) (news:List Value) (hl:news.length=m*size) (hnews:∀j u,news[j]?=some u->w.cell? (a.add j)=some u) (h1:∀u∈news,u.oneCell'=true)
  (h63:n+m<=maxLen) (hbytes:(n+m)*bytes<=140737488355328) (hbase:base<=w.heap.size) :
  ∃v' w',(Builtin.append_ #[t,t] ty #[v,.slice (some a) m c]).run P w=.ok v' w'/\w'.ownsRow base e size v' (n+m) (xs++news)/\w.grownBy w' v.ownBlock/\(∀g,v'.ownBlock=some g->v.ownBlock=some g\/g=w.heap.size):=by
 obtain⟨v',w',hr,h2,h3,h4⟩:=run_append_own (P:=P) w base t ty e i z size bytes ht hi hz hsize hby hzs hsz v n xs hown a m c news hl hnews h1 h63 hbytes hbase;refine⟨v',w',hr,h2,h3,?_⟩;have hsmall:n+m<=9223372036854775807:=by unfold maxLen at h63;omega
 rcases hown.2 with⟨rfl,rfl⟩ | ⟨g,cap,cur,rfl,hbg,hg,hnc,hcm,hcs,htake⟩
 ·by_cases hm:m=0
  ·rw[h4.2 ⟨rfl,hm⟩]
   intro g hg;cases hg
  ·have hn:=run_append_nil (P:=P) w t ty e i z ht hi hz a m c news (by rw[hl,hsize]) hnews Ka Ka (by rw[hby];have hb:=hbytes;simp only[Nat.zero_add] at hb;omega)
   rw[hr] at hn;cases hn;intro g hg;cases hg;exact .inr rfl
 ·by_cases hroom:n+m<=cap
  ·have hfit:n*i.size+news.length<=cur.size:=by rw[hl,hcs,hsize,<-Nat.add_mul];exact Nat.mul_le_mul_right _ hroom
   have hn:=run_append_room (P:=P) w t ty e i ht hi g n cap cur hg a m c news (by rw[hl,hsize]) hnews h1 hroom hfit;rw[hr] at hn;cases hn;intro g' hg';exact .inl hg'
  ·have holds:∀j u,xs[j]?=some u->w.cell? ((⟨g,0,none⟩:Addr).add j)=some u:=hown.cells (g:=g) rfl
   have hn:=run_append_grow (P:=P) w t ty e i z ht hi hz ⟨g,0,none⟩ n cap xs (by rw[hown.1,hsize]) holds a m c news (by rw[hl,hsize]) hnews Ka Ka (growslice_fits Ka (by rw[hby];exact hbytes));rw[hr] at hn;cases hn;intro g' hg';cases hg';exact .inr rfl
theorem Jdp(w:World){ops:Array Oper}{rest:List Oper}{o:Oper}{a:Act}{Q:Exit->Act->World->Prop}(hgd:o.guard=none)(s x:Operand)(t:TypeId)
  (ho:o.op=.call { callee:=.builtin .append,args:=#[s,x],argTypes:=#[t,t] })
  (base:Nat) (e:TypeId) (i:TypeInfo) (z:Value) (size bytes:Nat) (ht:P.underlying t=some (.slice e)) (hi:P.info? e=some i) (hz:i.zero=some z)
  (hsize:i.size=size) (hby:i.bytes=bytes) (hzs:z.cells.size=size) (hsz:0<size)
  (v:Value) (n:Nat) (xs:List Value) (hs:a.eval s=v) (hown:w.ownsRow base e size v n xs)
  (ad:Addr) (m c:Nat) (news:List Value) (hx:a.eval x=.slice (some ad) m c) (hl:news.length=m*size) (hnews:∀j u,news[j]?=some u->w.cell? (ad.add j)=some u) (h1:∀u∈news,u.oneCell'=true)
  (h63:n+m<=maxLen) (hbytes:(n+m)*bytes<=140737488355328) (hbase:base<=w.heap.size)
  (h:∀v' w',w'.ownsRow base e size v' (n+m) (xs++news)->w.grownBy w' v.ownBlock->(∀g,v'.ownBlock=some g->v.ownBlock=some g\/g=w.heap.size)->wpList P ops Q rest (a.put o.dst v') w'):wpList P ops Q (o::rest) a w :=
 wpList_plain hgd fun K hK=>by
  obtain⟨v',w',hr,h2,h3,h4⟩:=Je2 (P:=P) w base t o.type e i z size bytes ht hi hz hsize hby hzs hsz v n xs hown ad m c news hl hnews h1 h63 hbytes hbase;unfold Oper.wp execOp;simp only[ho,resolve,invoke,builtin,Sem.run_bind,Sem.run_pure,Result.andThen_ok,List.map_toArray,List.map_cons,List.map_nil,hs,hx,hr];exact hK _ _ (h v' w' h2 h3 h4)
section
variable {α:Type} (enc:α->List Value) (k:Nat)
def fl(l:List α):List Value:=l.flatMap enc
theorem Jg5(a:α)(l:List α):fl enc (a::l)=enc a++fl enc l:=by unfold fl;rw[List.flatMap_cons]
theorem Jno(l m:List α):fl enc (l++m)=fl enc l++fl enc m:=by unfold fl;rw[List.flatMap_append]
theorem Jnp(a:α):fl enc [a]=enc a:=by rw[Jg5];show enc a++[]=_;rw[List.append_nil]
variable {enc} {k}
theorem Jnq(hk:∀a,(enc a).length=k)(l:List α):(fl enc l).length=l.length*k:=by
 induction l with
 | nil=>show 0=_;simp
 | cons a r ih=>rw[Jg5,Pq,hk,ih,List.length_cons,Nat.add_mul];omega
theorem Jbq(hk:∀a,(enc a).length=k){l:List α}{i:Nat}{a:α}(h:l[i]?=some a)(j:Nat)(hj:j<k):(fl enc l)[i*k+j]?=(enc a)[j]?:=by
 induction l generalizing i with
 | nil=>simp at h
 | cons b r ih =>
  rw[Jg5];cases i with
  | zero =>
   simp at h;subst h;rw[Nat.zero_mul,Nat.zero_add,List.getElem?_append_left (by rw[hk];exact hj)]
  | succ i =>
   simp at h;rw[List.getElem?_append_right Q4,hk,<-ih h];congr 1;rw[Nat.add_mul];omega
theorem J8z(hk:∀a,(enc a).length=k)(l:List α)(n:Nat):(fl enc l).take (n*k)=fl enc (l.take n):=by
 induction l generalizing n with
 | nil=>simp[fl]
 | cons a r ih =>
  cases n with
  | zero=>simp[fl]
  | succ n =>
   rw[Jg5,List.take_succ_cons,Jg5,List.take_append,hk];rw[List.take_of_length_le Q4,show(n+1)*k - k=n*k by rw[Nat.add_mul];omega,ih]
def OwnG(enc:α->List Value)(T:TypeId)(k:Nat)(w:World)(base:Nat)(v:Value)(l:List α):Prop:=w.ownsRow base T k v l.length (fl enc l)
def LstG(enc:α->List Value)(w:World)(v:Value)(l:List α):Prop:=∃A c,v=.slice A l.length c/\l.length<=c/\(A=none->c=0)/\(0<l.length->∃b o,A=some ⟨b,o,none⟩/\b<w.heap.size/\∀(j:Nat) x,(fl enc l)[j]?=some x->w.cell? ⟨b,o+j,none⟩=some x)
variable {T:TypeId}
theorem OwnG.nil(enc:α->List Value)(T:TypeId)(k:Nat)(w:World)(base:Nat):OwnG enc T k w base (.slice none 0 0) []:=World.ownsRow_nil _ _ _ _
theorem LstG.nil(enc:α->List Value)(w:World):LstG enc w (.slice none 0 0) []:=⟨none,0,rfl,Nat.le_refl _,fun _=>rfl,fun h=>absurd h (Nat.lt_irrefl _)⟩
variable {w w':World} {v:Value} {base n:Nat} {xs:List Value}
theorem Jb8(h:w.ownsRow base T k v n xs):∃A c,v=.slice A n c/\n<=c/\(A=none->c=0)/\(0<n->∃g,A=some ⟨g,0,none⟩/\base<=g/\g<w.heap.size/\∀j u,xs[j]?=some u->w.cell? ⟨g,0+j,none⟩=some u):=by
 rcases h.2 with⟨rfl,rfl⟩ | ⟨g,cap,cur,rfl,hb,hg,hn,_,_,ht⟩
 ·exact⟨none,0,rfl,Nat.le_refl _,fun _=>rfl,fun h=>absurd h (Nat.lt_irrefl _)⟩
 ·refine⟨some ⟨g,0,none⟩,cap,rfl,hn,(fun h=>Qi),fun _=>⟨g,rfl,hb,?_,?_⟩⟩
  ·rcases Nat.lt_or_ge g w.heap.size with h | h
   ·exact h
   ·rw[Array.getElem?_eq_none h] at hg;cases hg
  ·intro j u hu
   rw[Nat.zero_add,cell_of_row w g j cur T (0,0) hg];rw[<-ht,List.getElem?_take] at hu;split at hu
   ·rw[<-hu];simp
   ·cases hu
theorem OwnG.lst{l:List α}(h:OwnG enc T k w base v l):LstG enc w v l:=by
 obtain⟨A,c,hv,hc,hn,hx⟩:=Jb8 h;refine⟨A,c,hv,hc,hn,fun h0=>?_⟩;obtain⟨g,hA,_,hg,hcell⟩:=hx h0;exact⟨g,0,hA,hg,hcell⟩
theorem LstG.below{l:List α}(h:LstG enc w v l)(hb:Po w w'):LstG enc w' v l:=by
 obtain⟨A,c,hv,hc,hn,hx⟩:=h;refine⟨A,c,hv,hc,hn,fun h0=>?_⟩;exact Qa
theorem Jfe(h:w.ownsRow base T k v n xs)(hb:Po w w'):w'.ownsRow base T k v n xs:=by
 refine⟨h.1,?_⟩;rcases h.2 with h0 | ⟨g,cap,cur,hv,hbg,hg,hr⟩
 ·exact Or.inl h0
 ·have hlt:g<w.heap.size:=by
   rcases Nat.lt_or_ge g w.heap.size with h | h
   ·exact h
   ·rw[Array.getElem?_eq_none h] at hg;cases hg
  exact Or.inr ⟨g,cap,cur,hv,hbg,(hb.block g hlt).trans hg,hr⟩
theorem OwnG.below{l:List α}(h:OwnG enc T k w base v l)(hb:Po w w'):OwnG enc T k w' base v l:=Jfe h hb
theorem OwnG.down{base':Nat}{l:List α}(h:OwnG enc T k w base v l)(hb:base'<=base):OwnG enc T k w base' v l:=by
 refine⟨h.1,?_⟩;rcases h.2 with h0 | ⟨g,cap,cur,hv,hbg,hr⟩
 ·exact Or.inl h0
 ·exact Or.inr ⟨g,cap,cur,hv,Nat.le_trans hb hbg,hr⟩
theorem Ju2(h:w.ownsRow base T k v n xs)(hg:w.grownBy w' v.ownBlock)(hb:base<=w.heap.size):Below base w w' :=
 (Below.refl _ _).grown hg hb fun j hj=>(h.lt j hj).1
theorem J29(hk:∀a,(enc a).length=k)(hone:∀a,∀u∈enc a,u.oneCell'=true)(k0:0<k){ST:TypeId}{z:Value}{bytes:Nat}(hu:prog.underlying ST=some (.slice T))(hinfo:(prog.info? T).map (fun i=>(i.zero,i.size,i.bytes))=some (some z,k,bytes))(hz0:z.cells.size=k)(hb64:bytes<=64)
  (w:World) {ops:Array Oper} {rest:List Oper} {o:Oper} {a:Act} {Q:Exit->Act->World->Prop} (hgd:o.guard=none) (s x:Operand)
  (ho:o.op=.call { callee:=.builtin .append,args:=#[s,x],argTypes:=#[ST,ST] }) (base:Nat) (v:Value) (l:List α) (m:α) (hs:a.eval s=v) (hown:OwnG enc T k w base v l)
  (b:Nat) (cells:Array Value) (hbk:w.heap[b]?=some (.cells cells T (0,0))) (hc:cells.toList=enc m) (hx:a.eval x=.slice (some ⟨b,0,none⟩) 1 1) (hb:base<=w.heap.size)
  (hl:l.length+1<=1099511627776) (h:∀v' w',OwnG enc T k w' base v' (l++[m])->Below base w w'->w.grownBy w' v.ownBlock->(∀g,v'.ownBlock=some g->v.ownBlock=some g\/g=w.heap.size)->wpList prog ops Q rest (a.put o.dst v') w'):wpList prog ops Q (o::rest) a w:=by
 obtain⟨i,hi,hz,hsz,hby⟩:=info_parts hinfo;refine Jdp w hgd s x ST ho base T i z k bytes hu hi hz hsz hby hz0 k0 v l.length (fl enc l) hs hown ⟨b,0,none⟩ 1 1 (enc m) hx (by rw[hk,Nat.one_mul]) ?_ (hone m) Kr (Nat.le_trans (Nat.mul_le_mul_left _ hb64) Ka) hb ?_
 ·intro j u hu
  have hadd:(⟨b,0,none⟩:Addr).add j=⟨b,j,none⟩:=Ks;rw[hadd,cell_of_row w b j cells _ _ hbk,<-hu,<-hc];simp
 ·intro v' w' h1 h2 h3
  refine h v' w' ?_ (Ju2 hown h2 hb) h2 h3;unfold OwnG;rw[Pq,Jno,Jnp];exact h1
end
theorem Jbz{n:Int}(h:(Lit.int .i64 n).wf=true):n<=9223372036854775807:=by
 unfold Lit.wf at h;rw[Bool.and_eq_true,decide_eq_true_eq,decide_eq_true_eq] at h;exact h.2
theorem Jb0{n:Int}(h:(Lit.int .i64 n).wf=true):-9223372036854775808<=n:=by
 unfold Lit.wf at h;rw[Bool.and_eq_true,decide_eq_true_eq,decide_eq_true_eq] at h;exact h.1
open Go.ChangeShapes Go.WideShapes
theorem Jxf:laidOutB prog=true:=Kl
section
variable {α:Type} {enc:α->List Value} {k:Nat}
theorem J80(hk:∀a,(enc a).length=k)(l:List α)(n:Nat):(fl enc l).drop (n*k)=fl enc (l.drop n):=by
 induction l generalizing n with
 | nil=>simp[fl]
 | cons a r ih =>
  cases n with
  | zero=>simp
  | succ n =>
   rw[Jg5,List.drop_succ_cons,<-ih,List.drop_append,List.drop_of_length_le Q4,hk,show(n+1)*k - k=n*k by rw[Nat.add_mul];omega];rfl
theorem LstG.part(hk:∀a,(enc a).length=k){w:World}{A:Option Addr}{c:Nat}{l:List α}(h:LstG enc w (.slice A l.length c) l)(i j m:Nat)(hi:i<=j)(hj:j<=l.length)(hm:j<=m)(hmc:m<=c):
  LstG enc w (sliced A i j m k) ((l.drop i).take (j - i)):=by
 obtain⟨A',c',hv,hc,hn,hx⟩:=h;cases hv;have hl:((l.drop i).take (j - i)).length=j - i:=by rw[List.length_take,List.length_drop];omega
 refine⟨if m=i then A else A.map (·.add (i*k)),m - i,by unfold sliced;rw[hl],Ka,fun h0=>?_,fun h0=>?_⟩
 ·by_cases e:m=i
  ·omega
  ·rw[if_neg e] at h0
   cases A with
   | none=>have:=hn rfl;omega
   | some a=>cases h0
 ·rw[hl] at h0
  obtain⟨b,o,rfl,hb,hcell⟩:=hx Ka;have hadd:(⟨b,o,none⟩:Addr).add (i*k)=⟨b,o+i*k,none⟩:=Ks;refine⟨b,o+i*k,by rw[if_neg Ka];simp only[Option.map_some,hadd],hb,fun t x ht=>?_⟩;rw[<-J8z hk,<-J80 hk,List.getElem?_take] at ht;split at ht
  ·rw[List.getElem?_drop] at ht
   rw[Nat.add_assoc];exact hcell _ x ht
  ·cases ht
variable {T:TypeId}
end
open Go.RowKit Go.Maps
abbrev Dm:=DataW Unit
theorem Jg6:Keyed prog 9:=string_keyed underlying9
theorem J3a(w:World):(zeroValue 3).run prog w=.ok (.int .i64 0) w:=Kl
theorem Jgc(w:World):(zeroValue 4).run prog w=.ok (.bool false) w:=Kl
theorem Jj7(s:ByteArray)(h:s.size<=4611686018427387904):keyOf prog 9 (.string s)=some (.string s.data.toList):=Go.WideMaps.keyOf_string_mk underlying9 Kr
variable {w:World}
theorem Jnr{w':World}(hb:Po w w'):w.grownBy w' none:=⟨hb.os,hb.tape,hb.output,hb.size,fun k hk _=>hb.block k hk⟩
def MapB(w:World)(b:Nat)(ls:List (List UInt8)):Prop:=∃D:Dm,w.ownsMap prog 9 (plainElem prog 4) b ls.length D/\IsMap D/\(∀x,has D (.string x)=decide (x∈ls))/\∀x z,x∈ls->D.atKey (.string x) z=.lit (.bool true)
theorem MapB.made(w:World):MapB (w.alloc (.map #[] 0)) w.heap.size []:=⟨.map [],World.ownsMap_made _ _ _ _,isMap_empty,fun x=>Qw,fun x z h=>Qv⟩
theorem MapB.below{w':World}{b:Nat}{ls:List (List UInt8)}(h:MapB w b ls)(hb:Po w w'):MapB w' b ls:=by
 obtain⟨D,h1,h2⟩:=h;exact⟨D,h1.kept (Jnr hb) Ke,h2⟩
theorem Jfp{v:Value}{z:Dm×List MemPlace}(h:plainElem prog 4 v=some z):∃x,v=.bool x/\z=(.lit (.bool x),[]):=by
 unfold plainElem at h;rw[underlying4] at h;cases v <;> simp at h
 exact⟨_,rfl,h.symm⟩
theorem MapB.look{b:Nat}{ls:List (List UInt8)}(h:MapB w b ls)(s:ByteArray)(x:List UInt8)(hx:s.data.toList=x)(hs:s.size<=4611686018427387904):
  (Instr.lookup 191 (.map (some b)) (.string s) false).run prog w=.ok (.bool (decide (x∈ls))) w:=by
 subst hx;obtain⟨D,h1,h2,h3,h4⟩:=h;obtain⟨v,ps,hrun,hv⟩:=h1.lookup Jg6 underlying191 (Jgc w) (plainElem_bool underlying4 false) (Jj7 s hs);obtain⟨c,rfl,hc⟩:=Jfp hv;have hc:=congrArg Prod.fst hc;rw[hrun];have:c=decide (s.data.toList∈ls):=by
  by_cases hm:s.data.toList∈ls
  ·rw[h4 _ _ hm] at hc
   exact K9
  ·rw[atKey_of_not_has (by rw[h3];exact Pj hm)] at hc
   exact K9
 rw[this]
theorem Jgd(w:World){ops:Array Oper}{rest:List Oper}{o:Oper}{a:Act}{Q:Exit->Act->World->Prop}(hgd:o.guard=none)(m x v:Operand)(ho:o.op=Op.mapUpdate 191 m x v)
  (b:Nat) (ls:List (List UInt8)) (hm:a.eval m=.map (some b)) (hown:MapB w b ls) (s:ByteArray) (y:List UInt8) (hy:s.data.toList=y) (hs:s.size<=4611686018427387904) (hx:a.eval x=.string s) (hv:a.eval v=.bool true)
  (hl:ls.length<1099511627776) (h:∀w',MapB w' b (ls++[y])->w.grownBy w' (some b)->wpList prog ops Q rest (a.put o.dst undef) w'):wpList prog ops Q (o::rest) a w:=by
 subst hy;obtain⟨D,h1,h2,h3,h4⟩:=hown;refine wpList_mapUpdate_own w hgd m x v 191 ho 9 4 Jg6 underlying191 _ b ls.length D hm h1 Kr _ _ _ hx hv (Jj7 s hs) _ [] (plainElem_bool underlying4 true) ?_;intro w' g1 g2;refine h w' ⟨_,Qu,h2.put _ _,fun x=>?_,fun x z hi=>?_⟩ g2
 ·by_cases hx:x=s.data.toList
  ·subst hx
   exact Qh
  ·rw[has_put_other Qs,h3]
   simp[hx]
 ·by_cases hx:x=s.data.toList
  ·subst hx
   exact Qt
  ·rw[atKey_put_other Qs]
   exact h4 x z Qr
def lttI(n:Int):Bool:=decide ((65<=n/\n<=90)\/(97<=n/\n<=122))
def digI(n:Int):Bool:=decide (48<=n/\n<=57)
def sgnI(n:Int):Bool:=decide (n=45\/n=95\/n=46)
theorem Jlq(c:UInt8):idB c=(lttI c.toNat || digI c.toNat || sgnI c.toNat):=by
 rw[Bool.eq_iff_iff];unfold idB lttI digI sgnI;simp only[Bool.or_eq_true,decide_eq_true_iff];omega
theorem Jix(n:Int):n<=44\/n=45\/n=46\/n=47\/(48<=n/\n<=57)\/(58<=n/\n<=64)\/(65<=n/\n<=90)\/(91<=n/\n<=94)\/n=95\/n=96\/(97<=n/\n<=122)\/123<=n:=Ka
theorem Ju3(n:Int)(w:World):Pb 259 #[.int .u8 n] w (.bool (lttI n)):=by
 have hw:n<=64\/(65<=n/\n<=90)\/(91<=n/\n<=96)\/(97<=n/\n<=122)\/123<=n:=Ka;rcases hw with h | h | h | h | h
 ·have R:Hid (lttI n=false):=K8
  have g0:decide ((65:Int)<=n)=false:=Kb;have g1:n<=90:=Ka;have g2:decide ((97:Int)<=n)=false:=Kb;have g3:n<=122:=Ka;exact K7
 ·have R:Hid (lttI n=true):=K8
  have g0:(65:Int)<=n:=Ka;have g1:n<=90:=Ka;have g2:decide ((97:Int)<=n)=false:=Kb;have g3:n<=122:=Ka;exact K7
 ·have R:Hid (lttI n=false):=K8
  have g0:(65:Int)<=n:=Ka;have g1:decide (n<=90)=false:=Kb;have g2:decide ((97:Int)<=n)=false:=Kb;have g3:n<=122:=Ka;exact K7
 ·have R:Hid (lttI n=true):=K8
  have g0:(65:Int)<=n:=Ka;have g1:decide (n<=90)=false:=Kb;have g2:(97:Int)<=n:=Ka;have g3:n<=122:=Ka;exact K7
 ·have R:Hid (lttI n=false):=K8
  have g0:(65:Int)<=n:=Ka;have g1:decide (n<=90)=false:=Kb;have g2:(97:Int)<=n:=Ka;have g3:decide (n<=122)=false:=Kb;exact K7
theorem Jxg(n:Int)(w:World):Pb 260 #[.int .u8 n] w (.bool (digI n)):=by
 have hw:n<=47\/(48<=n/\n<=57)\/58<=n:=Ka;rcases hw with h | h | h
 ·have R:Hid (digI n=false):=Qq
  have g0:decide ((48:Int)<=n)=false:=Kb;have g1:n<=57:=Ka;exact Qp
 ·have R:Hid (digI n=true):=Qq
  have g0:(48:Int)<=n:=Ka;have g1:n<=57:=Ka;exact Qp
 ·have R:Hid (digI n=false):=Qq
  have g0:(48:Int)<=n:=Ka;have g1:decide (n<=57)=false:=Kb;exact Qp
theorem J3b(n:Int)(w:World):Pb 261 #[.int .u8 n] w (.bool (sgnI n)):=by
 by_cases h:n=45\/n=95\/n=46
 ·have R:Hid (sgnI n=true):=by show _=_;unfold sgnI;simpa using h
  rcases h with rfl | rfl | rfl
  all_goals
   go_enter func261,ntmps261;exact Kf
 ·have R:Hid (sgnI n=false):=by show _=_;unfold sgnI;simpa using h
  have q1:(n==45)=false:=Jaa Ka;have q2:(n==95)=false:=Jaa Ka;have q3:(n==46)=false:=Jaa Ka;clear h;go_enter func261,ntmps261;exact Kf
theorem Jep(s:ByteArray)(h:s.size=0):Jak s.data.toList=false:=by
 unfold Jak;rw[Jau,h];rfl
theorem Jbo(s:ByteArray)(h:32<s.size):Jak s.data.toList=false:=by
 unfold Jak;rw[Jau,Pj (show ¬s.size<=32 by omega),Bool.and_false,Bool.false_and]
theorem Jge(s:ByteArray)(h1:1<=s.size)(h2:s.size<=32):Jak s.data.toList=s.data.toList.all idB:=by
 unfold Jak;rw[Jau,Pk h1,Pk h2,Bool.true_and,Bool.true_and]
theorem Jgf(s:ByteArray)(hs:s.size<=1099511627776)(w:World):Pb 193 #[.string s] w (.bool (Jak s.data.toList)):=by
 have hem:=Jca s;by_cases h0:s.size=0
 ·have e:=Jep s h0
  have he:s.toList.isEmpty=true:=Qg;clear hem h0;exact K6
 have he:s.toList.isEmpty=false:=Qg;by_cases h3:32<s.size
 ·have e:=Jbo s h3
  have g:(32:Int)<(s.size:Int):=Ka;clear hem h0 h3;exact K6
 have g:decide ((32:Int)<(s.size:Int))=false:=Kb;rw[Jge s Ka Ka];obtain⟨r,hr⟩:=Pi (s.data.toList.all idB);rw[hr];have HR:=Pe hr;clear hr;clear hem h0 h3;go_enter func193,ntmps193;go_wp2_with fail;go_loop [13] (fun i=>∃k:Nat,i=.int .i64 k/\k<=s.size/\Hid ((s.data.toList.take k).all idB=true)) (fun i=>s.size - (intOf i).toNat);case atStart=>exact⟨0,rfl,Nat.zero_le _,Pe rfl⟩
 case round =>
  clear he g;obtain⟨k,rfl,hk,ht⟩:=hrel;by_cases hlt:k<s.size
  ·obtain⟨c,hc⟩:=Jcq s k hlt
   have k1:=fun W=>Jby s k c hc k rfl W
   have hid:=Jlq c;generalize hn:(c.toNat:Int)=n at k1 hid;have A:=Pe (fun W=>Ju3 n W);have B:=Pe (fun W=>Jxg n W);have C:=Pe (fun W=>J3b n W);generalize lttI n=a at A hid;generalize digI n=b at B hid;generalize sgnI n=d at C hid;clear hn;have hways:(a=true)\/(a=false/\b=true)\/(a=false/\b=false/\d=true)\/(a=false/\b=false/\d=false):=by cases a <;> cases b <;> cases d <;> simp
   rcases hways with rfl | ⟨rfl,rfl⟩ | ⟨rfl,rfl,rfl⟩ | ⟨rfl,rfl,rfl⟩
   ·have T:=Pe (Ja3 idB _ k c hc ht.out (by rw[hid];rfl))
    clear hc hid ht B C;go_wp2_with fail;refine Pf (A.out _) ?_;go_wp2_with fail;go_round;case rel=>exact⟨k+1,Kj,Ka,T⟩
    case measure=>exact Q7
   ·have T:=Pe (Ja3 idB _ k c hc ht.out (by rw[hid];rfl))
    clear hc hid ht C;go_wp2_with fail;refine Pf (A.out _) ?_;go_wp2_with fail;refine Pf (B.out _) ?_;go_wp2_with fail;go_round;case rel=>exact⟨k+1,Kj,Ka,T⟩
    case measure=>exact Q7
   ·have T:=Pe (Ja3 idB _ k c hc ht.out (by rw[hid];rfl))
    clear hc hid ht;go_wp2_with fail;refine Pf (A.out _) ?_;go_wp2_with fail;refine Pf (B.out _) ?_;go_wp2_with fail;refine Pf (C.out _) ?_;go_wp2_with fail;go_round;case rel=>exact⟨k+1,Kj,Ka,T⟩
    case measure=>exact Q7
   ·have T:=Pe (Jbc (p:=idB) hc (by rw[hid];rfl))
    clear hc hid ht;go_wp2_with fail;refine Pf (A.out _) ?_;go_wp2_with fail;refine Pf (B.out _) ?_;go_wp2_with fail;refine Pf (C.out _) ?_;exact Kk
  ·have R:Hid (r=true):=by
    show _=_
    exact Kv
   have d:decide (k<s.size)=false:=Kg;clear hlt ht;exact Kf
theorem Jj8(s:ByteArray)(hs:s.size<=1099511627776)(w:World):Pb 158 #[.string s] w (.bool (Jak s.data.toList)):=by
 by_cases h0:s.size=0
 ·have e:=Jep s h0
  have he:((s.size:Int)==0)=true:=Jag Ka;have he2:(s.size==0)=true:=by rw[h0];rfl
  rw[e];clear e h0;go_enter func158,ntmps158;exact Kc
 have he:((s.size:Int)==0)=false:=Jaa Ka;have he2:(s.size==0)=false:=Qf;by_cases h3:32<s.size
 ·have e:=Jbo s h3
  have g:(32:Int)<(s.size:Int):=Ka;clear h0 h3;rw[e];go_enter func158,ntmps158;exact Kc
 have g:decide ((32:Int)<(s.size:Int))=false:=Kb;rw[Jge s Ka Ka];obtain⟨r,hr⟩:=Pi (s.data.toList.all idB);rw[hr];have HR:=Pe hr;clear hr;clear h0 h3;go_enter func158,ntmps158;go_wp2_with fail;go_loop [3] (fun i=>∃k:Nat,i=.int .i64 k/\k<=s.size/\Hid ((s.data.toList.take k).all idB=true)) (fun i=>s.size - (intOf i).toNat);case atStart=>exact⟨0,rfl,Nat.zero_le _,Pe rfl⟩
 case round =>
  clear he he2 g;obtain⟨k,rfl,hk,ht⟩:=hrel;by_cases hlt:k<s.size
  ·obtain⟨c,hc⟩:=Jcq s k hlt
   have k1:=fun W=>Jby s k c hc k rfl W
   have hid:=Jlq c;generalize hn:(c.toNat:Int)=n at k1 hid;clear hn;unfold lttI digI sgnI at hid;rcases Jix n with h | rfl | rfl | rfl | h | h | h | h | rfl | rfl | h | h
   ·have T:=Pe (Jbc (p:=idB) hc Kp)
    have g0:decide ((65:Int)<=n)=false:=Kb;have g1:n<=90:=Ka;have g2:decide ((97:Int)<=n)=false:=Kb;have g3:n<=122:=Ka;have g4:decide ((48:Int)<=n)=false:=Kb;have g5:n<=57:=Ka;exact Ko
   ·have T:=Pe (Ja3 idB _ k c hc ht.out Kw)
    clear hc hid ht;go_wp2_with fail;go_round;case rel=>exact⟨k+1,Kj,Ka,T⟩
    case measure=>exact Q7
   ·have T:=Pe (Ja3 idB _ k c hc ht.out Kw)
    clear hc hid ht;go_wp2_with fail;go_round;case rel=>exact⟨k+1,Kj,Ka,T⟩
    case measure=>exact Q7
   ·have T:=Pe (Jbc (p:=idB) hc Kw)
    exact Qe
   ·have T:=Pe (Ja3 idB _ k c hc ht.out Kp)
    have g0:decide ((65:Int)<=n)=false:=Kb;have g1:n<=90:=Ka;have g2:decide ((97:Int)<=n)=false:=Kb;have g3:n<=122:=Ka;have g4:(48:Int)<=n:=Ka;have g5:n<=57:=Ka;have q0:(n != 45)=true:=Jaf Ka;have q1:(n != 95)=true:=Jaf Ka;have q2:(n != 46)=true:=Jaf Ka;clear hc hid ht h;go_wp2_with fail;go_round;case rel=>exact⟨k+1,Kj,Ka,T⟩
    case measure=>exact Q7
   ·have T:=Pe (Jbc (p:=idB) hc Kp)
    have g0:decide ((65:Int)<=n)=false:=Kb;have g1:n<=90:=Ka;have g2:decide ((97:Int)<=n)=false:=Kb;have g3:n<=122:=Ka;have g4:(48:Int)<=n:=Ka;have g5:decide (n<=57)=false:=Kb;exact Ko
   ·have T:=Pe (Ja3 idB _ k c hc ht.out Kp)
    have g0:(65:Int)<=n:=Ka;have g1:n<=90:=Ka;have g2:decide ((97:Int)<=n)=false:=Kb;have g3:n<=122:=Ka;have g4:(48:Int)<=n:=Ka;have g5:decide (n<=57)=false:=Kb;have q0:(n != 45)=true:=Jaf Ka;have q1:(n != 95)=true:=Jaf Ka;have q2:(n != 46)=true:=Jaf Ka;clear hc hid ht h;go_wp2_with fail;go_round;case rel=>exact⟨k+1,Kj,Ka,T⟩
    case measure=>exact Q7
   ·have T:=Pe (Jbc (p:=idB) hc Kp)
    have g0:(65:Int)<=n:=Ka;have g1:decide (n<=90)=false:=Kb;have g2:decide ((97:Int)<=n)=false:=Kb;have g3:n<=122:=Ka;have g4:(48:Int)<=n:=Ka;have g5:decide (n<=57)=false:=Kb;exact Ko
   ·have T:=Pe (Ja3 idB _ k c hc ht.out Kw)
    clear hc hid ht;go_wp2_with fail;go_round;case rel=>exact⟨k+1,Kj,Ka,T⟩
    case measure=>exact Q7
   ·have T:=Pe (Jbc (p:=idB) hc Kw)
    exact Qe
   ·have T:=Pe (Ja3 idB _ k c hc ht.out Kp)
    have g0:(65:Int)<=n:=Ka;have g1:decide (n<=90)=false:=Kb;have g2:(97:Int)<=n:=Ka;have g3:n<=122:=Ka;have g4:(48:Int)<=n:=Ka;have g5:decide (n<=57)=false:=Kb;have q0:(n != 45)=true:=Jaf Ka;have q1:(n != 95)=true:=Jaf Ka;have q2:(n != 46)=true:=Jaf Ka;clear hc hid ht h;go_wp2_with fail;go_round;case rel=>exact⟨k+1,Kj,Ka,T⟩
    case measure=>exact Q7
   ·have T:=Pe (Jbc (p:=idB) hc Kp)
    have g0:(65:Int)<=n:=Ka;have g1:decide (n<=90)=false:=Kb;have g2:(97:Int)<=n:=Ka;have g3:decide (n<=122)=false:=Kb;have g4:(48:Int)<=n:=Ka;have g5:decide (n<=57)=false:=Kb;exact Ko
  ·have R:Hid (r=true):=by
    show _=_
    exact Kv
   have d:decide (k<s.size)=false:=Kg;clear hlt ht;exact Kf
theorem Ju4{a b:Int}(h:a=b):Ending.returned (.int .u64 a)=.returned (.int .u64 b):=Qc
theorem Jlr(k:Nat):(2:Int) ^ k=((2 ^ k:Nat):Int):=Ke
def lowN(i:Int):Nat:=2 ^ (min (max i 0) 64).toNat - 1
def Jgg(s t:Nat):Nat:=s &&& (18446744073709551615 - t)
def hasB(s:Nat)(i:Int):Bool:=decide (0<=i/\i<64)&&s.testBit i.toNat
theorem Jsf(i:Int):W64 (lowN i):=by
 unfold lowN;have h:2 ^ (min (max i 0) 64).toNat<=2 ^ 64:=Nat.pow_le_pow_right Kd Ka;have:=Nat.two_pow_pos (min (max i 0) 64).toNat;unfold W64;omega
theorem J81(s t:Nat):Jgg s t<=s:=Nat.and_le_left
theorem Jxh(i:Int)(j:Nat)(hj:j<64):(lowN i).testBit j=decide ((j:Int)<i):=by
 unfold lowN;rw[Nat.testBit_two_pow_sub_one,Bool.eq_iff_iff,decide_eq_true_iff,decide_eq_true_iff];omega
theorem Jls(s t:Nat)(ht:W64 t)(j:Nat)(hj:j<64):(Jgg s t).testBit j=(s.testBit j&&!t.testBit j):=by
 unfold Jgg;rw[Nat.testBit_and,show 18446744073709551615 - t=2 ^ 64 - (t+1) by omega,Nat.testBit_two_pow_sub_succ (by unfold W64 at ht;omega)];simp[hj]
theorem Jxi{s t:Nat}(hs:W64 s):W64 (Jgg s t):=Nat.lt_of_le_of_lt (J81 s t) hs
theorem J82(s:Nat)(i:Int):decide (s &&& one i=0)=!hasB s i:=by
 unfold one hasB;split
 ·next h =>
  rw[nat_bit];have hb:=Jlm s i.toNat;have hp:=Nat.two_pow_pos i.toNat;cases ht:s.testBit i.toNat with
  | true =>
   rw[hb.2 ht,Nat.one_mul];simp[h]
  | false =>
   have h0:s / 2 ^ i.toNat % 2=0:=by
    rw[ht] at hb;simp at hb;omega
   rw[h0];simp
 ·next h=>simp[h]
theorem Jns(s t:Nat)(hs:W64 s)(ht:W64 t)(w:World):Pb 304 #[.int .u64 (s:Int),.int .u64 (t:Int)] w (.int .u64 ((Jgg s t:Nat):Int)):=by
 have e:=u64_andNot_nat s t hs ht;change _=((Jgg s t:Nat):Int) at e;go_enter func304,ntmps304;exact Kc
theorem Jc5(s t:Nat)(hs:W64 s)(ht:W64 t)(w:World):Pb 226 #[.int .u64 (s:Int),.int .u64 (t:Int)] w (.bool (decide (Jgg s t=0))):=by
 have M:=Pe (fun W=>Jns s t hs ht W);generalize Jgg s t=r at M |-;go_enter func226,ntmps226;go_wp2_with fail;refine Pf (M.out _) ?_;go_wp2_with fail;go_ret;exact⟨Jac (by rw[Bool.eq_iff_iff];simp),rfl⟩
theorem Jj9(i:Int)(w:World):Pb 295 #[.int .i64 i] w (.int .u64 ((one i:Nat):Int)):=by
 by_cases h1:i<0
 ·have H:=Pe (show one i=0 by unfold one;rw[if_neg Ka])
  go_enter func295,ntmps295;exact Kz
 ·have h1':decide (i<0)=false:=Pj h1
  by_cases h2:64<=i
  ·have H:=Pe (show one i=0 by unfold one;rw[if_neg Ka])
   clear h1;go_enter func295,ntmps295;exact Kz
  ·have h2':decide (64<=i)=false:=Pj h2
   have H:=Pe (show IntKind.u64.wrap (2 ^ i.toNat)=((one i:Nat):Int) by
    have hp:2 ^ i.toNat<18446744073709551616:=Jia Ka;unfold one;rw[if_pos Ka,IntKind.wrap_u64,Jlr];exact Int.emod_eq_of_lt (Int.natCast_nonneg _) Ka)
   go_enter func295,ntmps295;go_wp2_with fail;go_ret;exact⟨Ju4 H.out,rfl⟩
theorem Jnt(i:Int)(w:World):Pb 357 #[.int .i64 i] w (.int .u64 ((lowN i:Nat):Int)):=by
 by_cases h1:i<0
 ·have H:=Pe (show lowN i=0 by unfold lowN;rw[show(min (max i 0) 64).toNat=0 by omega])
  go_enter func357,ntmps357;exact Kz
 ·have h1':decide (i<0)=false:=Pj h1
  by_cases h2:64<=i
  ·have H:=Pe (show lowN i=18446744073709551615 by unfold lowN;rw[show(min (max i 0) 64).toNat=64 by omega])
   go_enter func357,ntmps357;exact Kz
  ·have h2':decide (64<=i)=false:=Pj h2
   have H:=Pe (show IntKind.u64.wrap (IntKind.u64.wrap (2 ^ i.toNat) - 1)=((lowN i:Nat):Int) by
    have hp:2 ^ i.toNat<18446744073709551616:=Jia Ka;have h0:=Nat.two_pow_pos i.toNat;unfold lowN;rw[show(min (max i 0) 64).toNat=i.toNat by omega,IntKind.wrap_u64,IntKind.wrap_u64,Jlr];generalize 2 ^ i.toNat=p at hp h0;omega)
   go_enter func357,ntmps357;go_wp2_with fail;go_ret;exact⟨Ju4 H.out,rfl⟩
theorem J83(s:Nat)(hs:W64 s)(i:Int)(w:World):Pb 221 #[.int .u64 (s:Int),.int .i64 i] w (.bool (hasB s i)):=by
 have e:=bits_and_u64_nat s (one i) hs (J7a i);have M:=Pe (fun W=>Jj9 i W);have R:=Pe (J82 s i);generalize s &&& one i=r at e R;generalize one i=x at e M;go_enter func221,ntmps221;go_wp2_with fail;refine Pf (M.out _) ?_;go_wp2_with fail;go_ret;exact⟨Jac (by have:=R.out;rw[Bool.eq_iff_iff] at this |-;simp at this |-;rw[this];simp),rfl⟩
theorem Jsg(s:Nat)(hs:W64 s)(i:Int)(w:World):Pb 330 #[.int .u64 (s:Int),.int .i64 i] w (.int .u64 ((s ||| one i:Nat):Int)):=by
 have e:=bits_or_u64_nat s (one i) hs (J7a i);have M:=Pe (fun W=>Jj9 i W);generalize s ||| one i=r at e |-
 generalize one i=x at e M;go_enter func330,ntmps330;go_wp2_with fail;refine Pf (M.out _) ?_;exact Kc
theorem Jgh(i j:Int)(w:World):Pb 329 #[.int .i64 i,.int .i64 j] w (.int .u64 ((Jgg (lowN j) (lowN i):Nat):Int)):=by
 have A:=Pe (fun W=>Jnt j W);have B:=Pe (fun W=>Jnt i W);have M:=Pe (fun W=>Jns (lowN j) (lowN i) (Jsf j) (Jsf i) W);generalize Jgg (lowN j) (lowN i)=r at M |-;generalize lowN j=x at A M;generalize lowN i=y at B M;go_enter func329,ntmps329;go_wp2_with fail;refine Pf (A.out _) ?_;go_wp2_with fail;refine Pf (B.out _) ?_;go_wp2_with fail;refine Pf (M.out _) ?_;exact Kc
theorem Calls.below{P:Program}{f:FuncId}{args:Array Value}{x:Ending}(h:Calls P f args w fun e w'=>e=x/\∃m,w'=w.drewN m):Calls P f args w fun e w'=>e=x/\Po w w' :=
 h.mono fun _ _ ⟨he,m,hm⟩=>⟨he,hm ▸ Jab Pg m⟩
theorem Jar{wr:World}(h:∃n,wr=w.drewN n):Po w wr:=by
 obtain⟨n,rfl⟩:=h;exact Jab Pg n
theorem Jb4{wr:World}(h:Hid (∃n,wr=w.drewN n))(m:Nat):Hid (∃n,wr.drewN m=w.drewN n):=by
 obtain⟨n,rfl⟩:=h.out;exact Pe ⟨n+m,World.drewN_drewN _ _ _⟩
section
variable {κ α:Type}
def fbF(bad:List κ->α->Int)(key:α->κ)(seen:List κ)(k:Nat):List α->Int×Int
 | []=>(0,0)
 | x::r=>if bad seen x=0 then fbF bad key (seen++[key x]) (k+1) r else((k:Int),bad seen x)
variable {bad:List κ->α->Int} {key:α->κ}
variable {k:Nat} {q:Int×Int}
theorem Jeq{l:List α}{x:α}(h:l[k]?=some x):(l.take (k+1)).map key=(l.take k).map key++[key x]:=by
 rw[Jbx l k x h,List.map_append];rfl
theorem Jcd{l:List α}{x:α}(hr:q=fbF bad key ((l.take k).map key) k (l.drop k))(h:l[k]?=some x)(hb:bad ((l.take k).map key) x=0):q=fbF bad key ((l.take (k+1)).map key) (k+1) (l.drop (k+1)):=by
 rw[hr,Jbg l k x h,Jeq h];conv=>lhs;unfold fbF
 rw[if_pos hb]
theorem Jal{l:List α}{x:α}(hr:q=fbF bad key ((l.take k).map key) k (l.drop k))(h:l[k]?=some x){e:Int}(hb:bad ((l.take k).map key) x=e)(he:e≠0):q=((k:Int),e):=by
 rw[hr,Jbg l k x h];unfold fbF;rw[if_neg (by rw[hb];exact he),hb]
theorem Jce{l:List α}(hr:q=fbF bad key ((l.take k).map key) k (l.drop k))(h:l.length<=k):q=(0,0):=by
 exact Ky
theorem J3c{l:List α}{c:κ}:c∈l.map key↔∃(j:Nat) (x:α),l[j]?=some x/\key x=c:=by
 rw[List.mem_map];constructor
 ·rintro⟨x,hx,rfl⟩
  exact Qy
 ·rintro⟨j,x,hx,rfl⟩
  exact⟨x,List.mem_iff_getElem?.2 ⟨j,hx⟩,rfl⟩
theorem Jnu{l:List α}{c:κ}:c∈(l.take k).map key↔∃(j:Nat) (x:α),j<k/\l[j]?=some x/\key x=c:=by
 rw[J3c];constructor
 ·rintro⟨j,x,hx,h⟩
  rw[List.getElem?_take] at hx;split at hx
  ·next hj=>exact⟨j,x,hj,hx,h⟩
  ·cases hx
 ·rintro⟨j,x,hj,hx,h⟩
  exact⟨j,x,by rw[List.getElem?_take,if_pos hj];exact hx,h⟩
theorem Jdk{l:List α}{c:κ}{j:Nat}{x:α}(hj:j<k)(hx:l[j]?=some x)(h:key x=c):c∈(l.take k).map key:=Jnu.2 ⟨j,x,hj,hx,h⟩
theorem Jcy{l:List α}{c:κ}(h:∀(j:Nat) (x:α),j<k->l[j]?=some x->key x≠c):c ∉ (l.take k).map key:=fun hm=>by
 obtain⟨j,x,hj,hx,hc⟩:=Jnu.1 hm;exact h j x hj hx hc
end
section
variable {α:Type}
def fdF(p:α->Bool)(k:Nat):List α->Int
 | []=>-1
 | x::r=>if p x then(k:Int) else fdF p (k+1) r
def fdT(p:α->Bool)(l:List α):Int:=fdF p 0 l
variable {p:α->Bool}
variable {q:Int} {k:Nat}
theorem Jka{l:List α}{x:α}(hr:q=fdF p k (l.drop k))(h:l[k]?=some x)(hp:p x=true):q=(k:Int):=by
 rw[hr,Jbg l k x h];unfold fdF;rw[if_pos hp]
theorem Jg7{l:List α}{x:α}(hr:q=fdF p k (l.drop k))(h:l[k]?=some x)(hp:p x=false):q=fdF p (k+1) (l.drop (k+1)):=by
 rw[hr,Jbg l k x h];conv=>lhs;unfold fdF
 rw[if_neg (by rw[hp];simp)]
theorem Jkb{l:List α}(hr:q=fdF p k (l.drop k))(h:l.length<=k):q=-1:=by
 exact Ky
theorem Jnv(p:α->Bool):∀(l:List α) (k:Nat),fdF p k l=-1\/((k:Int)<=fdF p k l/\fdF p k l<((k+l.length:Nat):Int))
 | [],_=>.inl rfl
 | x::r,k=>by
  unfold fdF;split
  ·exact .inr ⟨Int.le_refl _,Kb⟩
  ·rcases Jnv p r (k+1) with h | ⟨h1,h2⟩
   ·exact .inl h
   ·exact .inr ⟨Ka,Ku⟩
theorem Jlt(p:α->Bool)(l:List α):fdT p l=-1\/(0<=fdT p l/\fdT p l<(l.length:Int)):=by
 have:=Jnv p l 0;rw[Nat.zero_add] at this;exact this
theorem Jlu(p:α->Bool):∀(l:List α) (k:Nat),fdF p k l≠-1->∃(j:Nat) (x:α),l[j]?=some x/\p x=true/\fdF p k l=((k+j:Nat):Int)
 | [],_,h=>absurd rfl h
 | y::r,k,h=>by
  unfold fdF at h |-;by_cases hp:p y=true
  ·rw[if_pos hp]
   exact⟨0,y,rfl,hp,rfl⟩
  ·rw[if_neg hp] at h |-
   obtain⟨j,x,h1,h2,h3⟩:=Jlu p r (k+1) h;exact⟨j+1,x,h1,h2,by rw[h3];congr 1;omega⟩
theorem J7c{p:α->Bool}{l:List α}(h:fdT p l≠-1):∃(j:Nat) (x:α),l[j]?=some x/\p x=true/\fdT p l=(j:Int):=by
 obtain⟨j,x,h1,h2,h3⟩:=Jlu p l 0 h;exact⟨j,x,h1,h2,by rw[Nat.zero_add] at h3;exact h3⟩
end
end
end Go.Proofs.YtpifdbphmnifdaaGreatDoor
