/-
  Facts. Condition: each theorem's own.
-/
import Derived.Lib.AtoiAllCases
import Derived.WalkMore
import Derived.Lib.IndexLaws
import Derived.Test.YtpifdbphmnifdaaGreatDoorYF11
set_option maxRecDepth 100000
set_option maxHeartbeats 8000000
section
variable {p:Prop}
theorem Wf(h:p:=by simp only[Exit.jump];go_ret;exact⟨Jcv (by rw[<-L.out]),Jgt _ _⟩):p:=h
theorem Wg(h:p:=by go_ret2;exact⟨rfl,b1⟩):p:=h
theorem Wh(h:p:=by simp <;> omega):p:=h
theorem Wi(h:p:=by exact⟨N / 10,19,[cod N],_,_,_,_,_,_,_,_,_,_,_,_,_,_,_,_,_,_,rfl,rfl,rfl,Ka,Ka,P⟩):p:=h
theorem Wj(h:p:=by have:=hy.out;omega):p:=h
theorem Wk(h:p:=by rw[beq_eq_false_iff_ne];rintro rfl;exact h Ke):p:=h
end
open Go.Proofs.Tryz
namespace Go.Proofs.YtpifdbphmnifdaaGreatDoor
namespace S3
open Go
def nat(l:List UInt8):Bool:=l==[48] || (!l.isEmpty&&l.head? != some 48&&digs l)
def body(s:List UInt8):List UInt8:=Lib.trimPrefix s [45]
def neg(s:List UInt8):Bool:=s.head?==some 45
def sgn(s:List UInt8):Int:=if neg s then -(valN (body s):Int) else(valN (body s):Int)
def formed(s:List UInt8):Bool:=nat (body s)&&!(s==[45,48])
def fits(v:Int):Bool:=decide (-9223372036854775808<=v/\v<=9223372036854775807)
def numR(s:List UInt8):Int×Int:=if formed s then(if fits (sgn s) then(sgn s,0) else(0,2)) else(0,3)
theorem fits_iff(v:Int):fits v=true↔-9223372036854775808<=v/\v<=9223372036854775807:=by unfold fits;exact decide_eq_true_iff
variable {l s b:List UInt8} {w:World}
theorem J0w(h:formed s=true)(k:fits (sgn s)=true):numR s=(sgn s,0):=by unfold numR;rw[if_pos h,if_pos k]
theorem Jk6(h:formed s=true)(k:fits (sgn s)=false):numR s=(0,2):=by unfold numR;rw[if_pos h,if_neg (by simp[k])]
theorem Jrp(h:formed s=false):numR s=(0,3):=by unfold numR;rw[if_neg X7]
theorem Juf(l:List UInt8):body (45::l)=l:=by simp[body,Lib.trimPrefix,Lib.hasPrefix]
theorem Jmo(s:List UInt8)(h:neg s=false):body s=s:=by
 cases s with
 | nil=>rfl
 | cons c l =>
  have hc:c≠45:=by simpa [neg] using h
  simp[body,Lib.trimPrefix,Lib.hasPrefix,Ne.symm hc]
theorem Jpn(s:List UInt8)(h:neg s=true):s=45::body s:=by
 cases s with
 | nil=>simp[neg] at h
 | cons c l =>
  have hc:c=45:=by simpa [neg] using h
  subst hc;rw[Juf]
theorem Jpo(h:nat l=true):l=[48]\/(∃c r,l=c::r/\c≠48/\digs l=true):=by
 unfold nat at h;rw[Bool.or_eq_true] at h;rcases h with h | h
 ·exact Or.inl Kt
 ·cases l with
  | nil=>simp at h
  | cons c r =>
   simp at h;exact Or.inr ⟨c,r,rfl,by simpa using h.1,by simpa using h.2⟩
theorem Jug(h:nat l=true):digs l=true:=by
 rcases Jpo h with rfl | ⟨c,r,rfl,_,hd⟩
 ·decide
 ·exact hd
theorem J8h(h:nat l=true):l≠[]:=by
 rcases Jpo h with rfl | ⟨c,r,rfl,_,hd⟩ <;> simp
theorem Jmp(h:nat l=true):∃c r,l=c::r/\48<=c.toNat/\c.toNat<=57:=by
 have hd:=Jug h;cases l with
 | nil=>exact absurd rfl (J8h h)
 | cons c r =>
  have:dig c=true:=by simp[digs] at hd;exact hd.1
  exact⟨c,r,rfl,(Jcu c).1 this⟩
theorem J0x:∀(l:List UInt8) (a:Nat),a<=l.foldl (fun n c=>n*10+(c.toNat - 48)) a
 | [],a=>Nat.le_refl _
 | c::l,a=>by
  rw[List.foldl_cons];exact Nat.le_trans Ka (J0x l _)
theorem Jft:∀(l:List UInt8) (a:Nat),digs l=true->a<18446744073709551616 ->
  Lib.parseUint10 a l=if l.foldl (fun n c=>n*10+(c.toNat - 48)) a<18446744073709551616 then .ok (l.foldl (fun n c=>n*10+(c.toNat - 48)) a) else .range
 | [],a,_,ha=>by simp[Lib.parseUint10,ha]
 | c::l,a,h,ha=>by
  have hl:dig c=true/\digs l=true:=by simpa [digs] using h
  have hc:=(Jcu c).1 hl.1;rw[Lib.parseUint10,if_pos hc,List.foldl_cons];have hm:=J0x l (a*10+(c.toNat - 48));by_cases h1:1844674407370955162<=a
  ·rw[if_pos h1,if_neg Ka]
  ·rw[if_neg h1]
   by_cases h2:18446744073709551616<=a*10+(c.toNat - 48)
   ·rw[if_pos h2,if_neg Ka]
   ·rw[if_neg h2]
    exact Jft l _ hl.2 Ka
theorem Jgr(l:List UInt8)(h:nat l=true):Lib.parseMag l=if valN l<18446744073709551616 then .ok (valN l) else .range:=by
 unfold Lib.parseMag;rw[if_neg (J8h h),Jft l 0 (Jug h) Kd];rfl
theorem Jjf(s:List UInt8)(h:formed s=true):Lib.atoiAll s=if fits (sgn s) then .ok (sgn s) else .range:=by
 have hn:nat (body s)=true:=by unfold formed at h;rw[Bool.and_eq_true] at h;exact h.1
 unfold sgn fits;by_cases hg:neg s=true
 ·rw[if_pos hg]
  have e:=Jpn s hg;rw[e,Lib.atoiAll_minus,Juf,Jgr _ hn];generalize valN (body s)=v;by_cases h1:v<18446744073709551616
  ·rw[if_pos h1]
   unfold Lib.signed;simp only[];by_cases h2:9223372036854775808<v
   ·rw[if_pos h2,if_neg Kb]
   ·rw[if_neg h2,if_pos Kb]
  ·rw[if_neg h1,if_neg Kb]
   rfl
 ·have hb:=Jmo s (by simpa using hg)
  rw[if_neg hg];rw[hb] at hn |-;obtain⟨c,r,rfl,h1,h2⟩:=Jmp hn;rw[Lib.atoiAll_plain c r Ka Ka,Jgr _ hn];generalize valN (c::r)=v;by_cases h1:v<18446744073709551616
  ·rw[if_pos h1]
   unfold Lib.signless;simp only[];by_cases h2:9223372036854775808<=v
   ·rw[if_pos h2,if_neg Kb]
   ·rw[if_neg h2,if_pos Kb]
  ·rw[if_neg h1,if_neg Kb]
   rfl
theorem Jjg(u:Nat)(h:¬u<10):Lib.decDigits u=Lib.decDigits (u / 10)++[UInt8.ofNat (48+u % 10)]:=by rw[Lib.decDigits,dif_neg h]
theorem Qaw(u:Nat):digs (Lib.decDigits u)=true:=by
 induction u using Nat.strongRecOn with
 | _ u ih =>
  by_cases h:u<10
  ·rw[Lib.decDigits_one h]
   unfold digs;simp only[List.all_cons,List.all_nil,Bool.and_true];exact Jnm _ h
  ·rw[Jjg u h]
   have h1:=ih (u / 10) Ka;unfold digs at *;rw[List.all_append,h1];simp only[List.all_cons,List.all_nil,Bool.and_true,Bool.true_and];exact Jnm _ Ka
theorem Qax(u:Nat)(h:0<u):∃c r,Lib.decDigits u=c::r/\c≠48:=by
 induction u using Nat.strongRecOn with
 | _ u ih =>
  by_cases hs:u<10
  ·rw[Lib.decDigits_one hs]
   refine⟨_,_,rfl,fun hc=>?_⟩;have:=congrArg UInt8.toNat hc;rw[ofNat_toNat u hs] at this;have e:(48:UInt8).toNat=48:=rfl;omega
  ·rw[Jjg u hs]
   obtain⟨c,r,e,hc⟩:=ih (u / 10) Ka Ka;rw[e];exact⟨c,_,rfl,hc⟩
theorem Qdy(u:Nat):nat (Lib.decDigits u)=true:=by
 by_cases h:u=0
 ·subst h;rw[Lib.decDigits_one Kd];decide
 ·obtain⟨c,r,e,hc⟩:=Qax u Ka
  have hd:=Qaw u;rw[e] at hd |-;unfold nat;rw[hd];simp[hc]
theorem J0y(u k:Nat)(hk:1<=k)(h:u<10 ^ k):(Lib.decDigits u).length<=k:=by
 induction k generalizing u with
 | zero=>omega
 | succ k ih =>
  by_cases hs:u<10
  ·rw[Lib.decDigits_one hs];simp
  ·rw[Jjg u hs,Pq]
   have hk0:k≠0:=by intro e;subst e;simp at h;omega
   have:=ih (u / 10) Ka (by rw[Nat.pow_succ] at h;omega);exact Kb
theorem Juh(n:Int)(h:n<0):Lib.itoa n=45::Lib.decDigits n.natAbs:=by unfold Lib.itoa;rw[if_pos h]
theorem Jmq(n:Int)(h:0<=n):Lib.itoa n=Lib.decDigits n.toNat:=by unfold Lib.itoa;rw[if_neg Ka]
open Go.RowKit
def Good(w:World):Prop:=∃tp p,w.var? prog "strconv.ErrRange"=some #[.iface tp p]
theorem gRange:prog.globalNamed "strconv.ErrRange"=some 8:=Kl
theorem var_size{n:String}{g:Nat}{cs:Array Value}(hg:prog.globalNamed n=some g)(h:w.var? prog n=some cs):g<w.heap.size:=by
 unfold World.var? at h;simp only[hg,Option.bind_some] at h;by_cases hs:g<w.heap.size
 ·exact hs
 ·rw[Array.getElem?_eq_none Ka] at h
  cases h
theorem Good.below{w':World}(h:Good w)(b:Po w w'):Good w':=by
 obtain⟨tp,p,hv⟩:=h;exact⟨tp,p,var?_below b gRange (var_size gRange hv) hv⟩
abbrev rng(w:World)(lo hi:Int):World:=(w.alloc (.cells #[.int .i64 lo] 3)).alloc (.cells #[.int .i64 hi] 3)
theorem Jpp(w:World)(lo hi:Int):Po w (rng w lo hi):=((Below.refl _ _).alloc Ph _).alloc Ke _
theorem Jui{W:World}(hb:Po W w)(lo hi:Int):Po W (rng w lo hi):=hb.trans ((Jpp w lo hi).mono hb.size)
theorem Jf2(lo hi:Int)(w:World):
  Calls prog 303 #[.int .i64 lo,.int .i64 hi] w fun e w'=>e=.returned (.func (.func 345) #[] #[.pointer (some ⟨w.heap.size,0,none⟩),.pointer (some ⟨w.heap.size+1,0,none⟩)])/\w'=rng w lo hi:=by
 have hmf:∀(fn:Fn) (first cap:Array Value) (w:World),(Instr.makeFunc fn first cap).run prog w=.ok (.func fn first cap) w:=fun _ _ _ _=>rfl
 go_enter func303,ntmps303;go_wp2;exact Yt
theorem Jk7(n lo hi:Int)(h0:lo<=n)(h1:n<=hi)(w:World):
  Calls prog 345 #[.int .i64 n,.pointer (some ⟨w.heap.size,0,none⟩),.pointer (some ⟨w.heap.size+1,0,none⟩)] (rng w lo hi) fun e w'=>e=.returned (.bool true)/\rng w lo hi=w':=by
 have d0:decide (lo<=n)=true:=by simpa using h0
 have d1:decide (n<=hi)=true:=by simpa using h1
 go_enter func345,ntmps345;go_wp2;exact Yt
theorem J0z(n lo hi:Int)(h:n<lo\/hi<n)(w:World):
  Calls prog 345 #[.int .i64 n,.pointer (some ⟨w.heap.size,0,none⟩),.pointer (some ⟨w.heap.size+1,0,none⟩)] (rng w lo hi) fun e w'=>e=.returned (.bool false)/\rng w lo hi=w':=by
 by_cases h0:n<lo
 ·have d0:decide (lo<=n)=false:=Kb
  go_enter func345,ntmps345;go_wp2;exact Yt
 ·have d0:decide (lo<=n)=true:=Kb
  have d1:decide (n<=hi)=false:=Kb;go_enter func345,ntmps345;go_wp2;exact Yt
theorem allDigits_yes(s:ByteArray)(hs:s.size<=70000)(hd:digs s.data.toList=true)(w:World):
  Pb 327 #[.string s] w (.bool true):=by
 have HD:=Pe hd;clear hd;go_enter func327,ntmps327;go_wp2_with fail;go_loop [6] (fun i=>∃k:Nat,k<=s.size/\i=.int .i64 k) (fun i=>s.size - (intOf i).toNat);case atStart=>exact⟨0,Ka,rfl⟩
 case round =>
  obtain⟨k,hk,rfl⟩:=hrel;by_cases hlt:k<s.size
  ·have kk:=Je7 s k hlt
   have hc:=Jll s k hlt HD.out;go_wp2_with fail;go_round;case rel=>exact⟨k+1,Ka,Kj⟩
   case measure=>exact Q7
  ·go_wp2_with fail
   exact Yt
theorem allDigits_no(s:ByteArray)(hs:s.size<=70000)(hd:digs s.data.toList=false)(w:World):
  Pb 327 #[.string s] w (.bool false):=by
 have HD:=Pe hd;clear hd;go_enter func327,ntmps327;go_wp2_with fail;go_loop [6] (fun i=>∃k:Nat,k<=s.size/\i=.int .i64 k/\Hid (digs (s.data.toList.take k)=true)) (fun i=>s.size - (intOf i).toNat);case atStart=>exact⟨0,Ka,rfl,Pe rfl⟩
 case round =>
  obtain⟨k,hk,rfl,ht⟩:=hrel;by_cases hlt:k<s.size
  ·have kk:=Je7 s k hlt
   by_cases hc:48<=s[k].toNat/\s[k].toNat<=57
   ·have hst:=Pe (Jnl s k hlt ht.out hc)
    go_wp2_with fail;go_round;case rel=>exact⟨k+1,Ka,Kj,hst⟩
    case measure=>exact Q7
   ·by_cases h1:s[k].toNat<48
    ·go_wp2_with fail
     exact Yt
    ·have h2:57<s[k].toNat:=Ka
     exact Kc
  ·have hf:=Jhy s k hlt ht.out
   rw[HD.out] at hf;cases hf
theorem Jmr(s:ByteArray)(hs:s.size<=70000)(w:World):Pb 327 #[.string s] w (.bool (digs s.data.toList)):=by
 cases h:digs s.data.toList with
 | true=>exact allDigits_yes s hs h w
 | false=>exact allDigits_no s hs h w
theorem Qdz(s:ByteArray)(l:List UInt8)(h:s.data.toList=l):s=str l:=by
 apply ByteArray.ext
 rw[<-h]
theorem Qay(l m:List UInt8)(h:l≠m):((str l).toList==m)=false:=by rw[ByteArray.toList_mk,beq_eq_false_iff_ne];exact h
theorem Qd0(l:List UInt8)(h:l≠[]):(str l).toList.isEmpty=false:=by
 rw[ByteArray.toList_mk];cases l with
 | nil=>exact absurd rfl h
 | cons _ _=>rfl
theorem Jk8(w:World):Pb 314 #[.string (str [48])] w (.bool true):=by
 go_enter func314,ntmps314;exact Kc
theorem Jrq(w:World):Pb 314 #[.string (str [])] w (.bool false):=by
 go_enter func314,ntmps314;exact Kc
theorem Jpq(s:ByteArray)(h1:(s.toList==[48])=false)(h2:s.toList.isEmpty=false)(h0:0<s.size)(h3:((s[0].toNat:Int) != 48)=false)(w:World):Pb 314 #[.string s] w (.bool false):=by
 have k0:∀W,(Instr.index 9 (.string s) (.int .i64 0)).run prog W=.ok (.int .u8 s[0].toNat) W:=Je7 s 0 h0;go_enter func314,ntmps314;exact Kc
theorem Jpr(s:ByteArray)(hs:s.size<=70000)(h1:(s.toList==[48])=false)(h2:s.toList.isEmpty=false)(h0:0<s.size)(h3:((s[0].toNat:Int) != 48)=true)(w:World):Pb 314 #[.string s] w (.bool (digs s.data.toList)):=by
 have k0:∀W,(Instr.index 9 (.string s) (.int .i64 0)).run prog W=.ok (.int .u8 s[0].toNat) W:=Je7 s 0 h0;cases hd:digs s.data.toList with
 | true =>
  have C:=Pe (fun w=>allDigits_yes s hs hd w);clear hd;go_enter func314,ntmps314;go_wp2_with (go_at_call 327;refine Pf (C.out _) ?_);exact Yt
 | false =>
  have C:=Pe (fun w=>allDigits_no s hs hd w);clear hd;go_enter func314,ntmps314;go_wp2_with (go_at_call 327;refine Pf (C.out _) ?_);exact Yt
theorem Jey(l:List UInt8)(hs:l.length<=70000)(w:World):Pb 314 #[.string (str l)] w (.bool (nat l)):=by
 by_cases h1:l=[48]
 ·subst h1;exact Jk8 w
 ·cases l with
  | nil=>exact Jrq w
  | cons c r =>
   have hz:=Jai (c::r);have a1:=Qay (c::r) [48] h1;have a2:=Qd0 (c::r) Ke;have a0:0<(str (c::r)).size:=by rw[hz];simp
   have e:(str (c::r))[0]=c:=rfl;by_cases hc:c=48
   ·subst hc
    have:=Jpq (str (48::r)) a1 a2 a0 (by rw[e];rfl) w;rw[show nat (48::r)=false by simpa [nat] using h1];exact this
   ·have:=Jpr (str (c::r)) Ka a1 a2 a0 (by
     rw[e];refine Jaf fun h=>hc (UInt8.toNat_inj.1 ?_)
     have e48:(48:UInt8).toNat=48:=rfl;omega) w
    rw[show nat (c::r)=digs (c::r) by
     have:(c::r==[48])=false:=by simpa using h1
     unfold nat;rw[this];simp[hc]]
    exact this
theorem Jed(k:Nat)(hk:k<10)(w:World):Pb 148 #[.int .i64 k] w (.string (str [UInt8.ofNat (48+k)])):=by
 match k,hk with
 | 0,_ | 1,_ | 2,_ | 3,_ | 4,_ | 5,_ | 6,_ | 7,_ | 8,_ | 9,_ =>
  go_enter func148,ntmps148;exact Kc
def pre(k:Nat):List UInt8:=if k=0 then[] else Lib.decDigits k
def cod(k:Nat):UInt8:=UInt8.ofNat (48+k % 10)
theorem Jms(k:Nat)(h:0<k):pre k=pre (k / 10)++[cod k]:=by
 unfold pre cod;rw[if_neg Ka];by_cases hs:k<10
 ·rw[if_pos Ka,Lib.decDigits_one hs,show k % 10=k by omega];rfl
 ·rw[if_neg Ka,Jjg k hs]
theorem J46(N:Nat)(h:N<=9223372036854775808):(Lib.decDigits N).length<=19:=J0y N 19 Kd (Nat.lt_of_le_of_lt h Kd)
theorem J47(y:Int)(k:Nat)(h:y=-(k:Int)):wrap64 (-y.tmod 10)=((k % 10:Nat):Int):=by
 rw[h,Int.neg_tmod,Int.neg_neg,Int.tmod_eq_emod_of_nonneg Ka];exact Xc
theorem J48(y:Int)(k:Nat)(h:y=-(k:Int)):y.tdiv 10=-((k / 10:Nat):Int):=by
 rw[h,Int.neg_tdiv,Int.tdiv_eq_ediv_of_nonneg Ka];omega
theorem Jrr(n:Int)(N:Nat)(hn:n=-(N:Int))(h0:n<0)(h1:-9223372036854775808<=n)(w:World):Pb 59 #[.int .i64 n] w (.string (str (45::Lib.decDigits N))):=by
 have HN:=Pe hn;have H19:=Pe (J46 N Ka);clear hn;go_enter func59,ntmps59;go_wp2_with fail;go_loop [0,3] (fun x s=>∃(y:Int) (k:Nat) (l:List UInt8),x=.int .i64 y/\s=.string (str l)/\-9223372036854775808<=y/\y<=0/\Hid (y=-(k:Int))/\l.length<=20/\Hid (pre k++l=Lib.decDigits N)) (fun x _=>(-(intOf x)).toNat);case atStart=>exact⟨n,N,[],rfl,rfl,Ka,Ka,HN,Ke,Pe (by have:=HN.out;unfold pre;rw[if_neg Ka];simp)⟩
 case round =>
  obtain⟨y,k,l,rfl,rfl,y0,y1,hy,hl,he⟩:=hrel;have hz:=Jai l;by_cases hlt:y<0
  ·have D:Hid (∀w:World,Pb 148 #[.int .i64 (wrap64 (-y.tmod 10))] w (.string (str [cod k]))):=by
    refine Pe fun w=>?_
    rw[J47 y k hy.out];exact Jed (k % 10) Ka w
   have hz1:=Jai [cod k];have Y:=Pe (J48 y k hy.out);have P:=Pe (Jms k Wj);go_wp2_with (go_at_call 148;refine Pf (D.out _) ?_);go_round
   case rel =>
    refine⟨_,k / 10,cod k::l,rfl,by rw[Jas];rfl,?_,?_,Y,?_,Pe ?_⟩
    ·have:=hy.out;rw[Y.out];omega
    ·rw[Y.out];omega
    ·have:=congrArg List.length he.out
     have h19:=H19.out;rw[P.out] at this;simp at this |-;omega
    ·rw[<-he.out,P.out];simp
   case measure=>have:=hy.out;have:=Y.out;exact Q7
  ·go_wp2_with fail
   go_ret;refine⟨Jcv ?_,rfl⟩;have e0:k=0:=Wj;have:=he.out;rw[e0] at this;rw[Jas,<-this];rfl
theorem Jrs(n:Int)(N:Nat)(hn:n=(N:Int))(h0:0<=n)(h1:n<=9223372036854775807)(w:World):Pb 59 #[.int .i64 n] w (.string (str (Lib.decDigits N))):=by
 have HN:=Pe hn;have H19:=Pe (J46 N Ka);have D0:Hid (∀w:World,Pb 148 #[.int .i64 (n % 10)] w (.string (str [cod N]))):=by
  refine Pe fun w=>?_
  rw[hn,show(N:Int) % 10=((N % 10:Nat):Int) by omega];exact Jed (N % 10) Ka w
 clear hn;go_enter func59,ntmps59;go_wp2_with (go_at_call 148;refine Pf (D0.out _) ?_);go_loop [0,4] (fun x s=>∃(y:Int) (k:Nat) (l:List UInt8),x=.int .i64 y/\s=.string (str l)/\0<=y/\y<=9223372036854775807/\Hid (y=(k:Int))/\l.length<=20/\Hid (pre (k / 10)++l=Lib.decDigits N)) (fun x _=>(intOf x).toNat)
 case atStart =>
  refine⟨n,N,[cod N],rfl,rfl,Ka,Ka,HN,Ke,Pe ?_⟩;by_cases hz:N=0
  ·subst hz
   rw[Lib.decDigits_one Kd];rfl
  ·rw[<-Jms N Ka]
   unfold pre;rw[if_neg hz]
 case round =>
  obtain⟨y,k,l,rfl,rfl,y0,y1,hy,hl,he⟩:=hrel;have hz:=Jai l;by_cases hlt:9<y
  ·have D:Hid (∀w:World,Pb 148 #[.int .i64 (y / 10 % 10)] w (.string (str [cod (k / 10)]))):=by
    refine Pe fun w=>?_
    rw[hy.out,show(k:Int) / 10 % 10=((k / 10 % 10:Nat):Int) by omega];exact Jed (k / 10 % 10) Ka w
   have hz1:=Jai [cod (k / 10)];have P:=Pe (Jms (k / 10) Wj);go_wp2_with (go_at_call 148;refine Pf (D.out _) ?_);go_round
   case rel =>
    refine⟨_,k / 10,cod (k / 10)::l,rfl,by rw[Jas];rfl,Ka,Ka,Pe Wj,?_,Pe ?_⟩
    ·have:=congrArg List.length he.out
     have h19:=H19.out;rw[P.out] at this;simp at this |-;omega
    ·rw[<-he.out,P.out];simp
   case measure=>have:=hy.out;exact Q7
  ·have hle:y<=9:=Ka
   go_wp2_with fail;go_ret;refine⟨Jcv ?_,rfl⟩;have:=he.out;rw[show k / 10=0 by have:=hy.out;omega] at this;exact congrArg str this
theorem rformat_any(n:Int)(h0:-9223372036854775808<=n)(h1:n<=9223372036854775807)(w:World):Pb 59 #[.int .i64 n] w (.string (str (Lib.itoa n))):=by
 by_cases h:n<0
 ·rw[Juh n h]
  exact Jrr n n.natAbs Ka h h0 w
 ·rw[Jmq n Ka]
  exact Jrs n n.toNat Ka Ka h1 w
def buf(l:List UInt8):Array Value:=(List.replicate (20 - l.length) (Value.int .u8 0)++l.map fun c=>Value.int .u8 c.toNat).toArray
theorem Jk9(l:List UInt8)(g:Nat)(h:g+1+l.length=20):(buf l)[g]?=some (.int .u8 0):=by
 unfold buf;simp only[List.getElem?_toArray];rw[List.getElem?_append_left Kb,List.getElem?_replicate,if_pos Ka]
theorem Jhq(l:List UInt8)(g:Nat)(h:g+1+l.length=20)(c:UInt8)(v:Int)(hv:v=(c.toNat:Int)):(buf l).setIfInBounds g (.int .u8 v)=buf (c::l):=by
 subst hv;apply Array.ext_getElem?;intro i;rw[Array.getElem?_setIfInBounds];unfold buf;have e:20 - l.length=g+1:=Ka;have e2:20 - (c::l).length=g:=Kb;rw[e,e2];simp only[List.getElem?_toArray,List.map_cons,List.size_toArray];by_cases hi:g=i
 ·subst hi
  rw[if_pos rfl,if_pos Kb,List.getElem?_append_right Ke];simp
 ·rw[if_neg hi]
  by_cases hlt:i<g
  ·rw[List.getElem?_append_left Kb,List.getElem?_append_left Kb]
   simp[List.getElem?_replicate,hlt];omega
  ·obtain⟨j,rfl⟩:∃j,i=g+1+j:=⟨i - (g+1),Ka⟩
   rw[List.getElem?_append_right Ke,List.getElem?_append_right Kb];simp;rw[show g+1+j - g=j+1 by omega];simp
theorem J49(l:List UInt8)(g i:Nat)(h:g+l.length=20)(hi:i<l.length):(buf l)[g+i]?=some (.int .u8 ((l.map fun c=>(c.toNat:Int)).getD i 0)):=by
 unfold buf;simp only[List.getElem?_toArray];rw[List.getElem?_append_right Kb];simp;rw[show g+i - (20 - l.length)=i by omega];simp[List.getElem?_eq_getElem hi]
theorem Jgs(b g m:Nat)(h:g+m=20)(hm:0<m)(W:World):(Instr.sliceAt 224 (.pointer (some ⟨b,0,none⟩)) (some (.int .i64 g)) none none).run prog W=.ok (.slice (some ⟨b,g,none⟩) m m) W:=by
 have ha:prog.arrayLen 224=20:=Kl;rw[run_sliceAt_array_l W 224 ⟨b,0,none⟩ Kl .i64 g Ka (by rw[ha];omega)];obtain rfl:m=20 - g:=Ka;have he:prog.elem 224=5:=Kl;rw[ha,he];simp[slicedAt,go_sem,Addr.add];rw[if_neg Ka];split
 ·next h0=>rw[h0]
 ·rfl
theorem Jil(l:List UInt8)(g m:Nat)(h:g+m=20)(hm:m=l.length)(w:World):
  (convert 155 9 (.slice (some ⟨w.heap.size,g,none⟩) m m)).run prog (w.alloc (.cells (buf l) 224))=.ok (.string (str l)) (w.alloc (.cells (buf l) 224)):=by
 subst hm;rw[run_convert_bytes_arg (P:=prog) _ 155 5 underlying155 underlying5 w.heap.size g l.length l.length (l.map fun c=>(c.toNat:Int)) Ke (by
  intro i hi;rw[World.cell?_alloc_at _ _ _ _ rfl];exact J49 l g i h hi) 9 underlying9]
 congr 2
 simp[strOfNums,Function.comp_def]
theorem Jgt(w:World)(l:List UInt8):Po w (w.alloc (.cells (buf l) 224)):=(Below.refl _ _).alloc Ph _
def J(n:Int)(N:Nat)(w:World)(a':Act)(w':World):Prop:=∃(r f:Nat) (l:List UInt8) (u6 u7 u8 u9 u10 u11 u12 u13 u14 u15 u16 u17 u18 u19 u20 u21 u22 u23:Value),w'=w.alloc (.cells (buf l) 224)/\a'={ tmps:=#[.int .i64 n,undef,.string ⟨#[]⟩,.int .u64 r,.pointer (some ⟨w.heap.size,0,none⟩),.int .i64 f,u6,u7,u8,u9,u10,u11,u12,u13,u14,u15,u16,u17,u18,u19,u20,u21,u22,u23,undef,undef,undef,undef,undef,undef,undef,undef,undef],defers:=[] }/\f+l.length=20/\0<r/\r<=9223372036854775808/\Hid (Lib.decDigits r++l=Lib.decDigits N)
theorem Jim(r N:Nat)(l:List UInt8)(h:0<r / 10)(he:Lib.decDigits r++l=Lib.decDigits N):Lib.decDigits (r / 10)++cod r::l=Lib.decDigits N:=by
 rw[<-he,Jjg r Ka];simp[cod]
theorem Jin(r N:Nat)(l:List UInt8)(h:r / 10=0)(he:Lib.decDigits r++l=Lib.decDigits N):cod r::l=Lib.decDigits N:=by
 rw[<-he,Lib.decDigits_one Ka];unfold cod;rw[show r % 10=r by omega];rfl
theorem room(r N:Nat)(l:List UInt8)(h19:(Lib.decDigits N).length<=19)(he:Lib.decDigits r++l=Lib.decDigits N):l.length<=18:=by
 have h1:=congrArg List.length he;obtain⟨c,q,e,_⟩:=Jmp (Qdy r);rw[e] at h1;simp at h1;omega
theorem Qaz(n:Int)(N:Nat)(hn:n=-(N:Int))(h0:n<0)(h1:-9223372036854775808<=n):IntKind.u64.wrap (-IntKind.u64.wrap n)=(N:Int):=by
 simp[IntKind.wrap,IntKind.signed,IntKind.bits];omega
theorem Jmt(r:Nat):(48+(r:Int) % 10)=((cod r).toNat:Int):=by
 unfold cod;rw[ofNat_toNat _ Ka];omega
theorem Qd1:(#[.int .u8 0,.int .u8 0,.int .u8 0,.int .u8 0,.int .u8 0,.int .u8 0,.int .u8 0,.int .u8 0,.int .u8 0,.int .u8 0,.int .u8 0,.int .u8 0,.int .u8 0,.int .u8 0,.int .u8 0,.int .u8 0,.int .u8 0,.int .u8 0,.int .u8 0,.int .u8 0]:Array Value)=buf []:=rfl
theorem Jv3(n:Int)(N:Nat)(hn:n=(N:Int))(h0:0<=n)(h1:n<=9223372036854775807)(w:World):Pc 135 #[.int .i64 n] w (.string (str (Lib.decDigits N))):=by
 have HN:=Pe hn;have H19:=Pe (J46 N Ka);have d0:decide ((N:Int)<0)=false:=Ke;subst hn;go_enter func135,ntmps135;go_wp2;refine wp_scope_jumps 0 (J N N w) (fun a' _=>(intOf (a'.tmps.getD 3 undef)).toNat) rfl ?_ ?_
 ·have E:=Jhq [] 19 rfl (cod N) (48+(N:Int) % 10) (Jmt N)
  have k:=Jk9 [] 19 rfl;go_wp2;rw[Qd1];by_cases hr:0<(N:Int) / 10
  ·have P:=Pe (Jim N N [] Ka Ke)
   go_step3
   go_wp2
   go_step3
   refine⟨rfl,?_⟩;exact Wi
  ·have hr0:(N:Int) / 10=0:=Ka
   have L:=Pe (Jin N N [] (by have:=HN.out;omega) Ke);have S:=fun W=>Jgs w.heap.size 19 1 Kd Kd W
   have C:=Jil (cod N::[]) 19 1 Kd Ke w;clear hr0;go_step3;go_wp2
   exact Wf
 ·rintro a' w' ⟨r,f,l,u6,u7,u8,u9,u10,u11,u12,u13,u14,u15,u16,u17,u18,u19,u20,u21,u22,u23,rfl,rfl,hf,r0,r1,he⟩
  have hle:=room r N l H19.out he.out;obtain⟨g,rfl⟩:∃g,f=g+1:=⟨f - 1,Ka⟩;have k:=Jk9 l g hf;have E:=Jhq l g hf (cod r) (48+(r:Int) % 10) (Jmt r);by_cases hr:0<(r:Int) / 10
  ·have P:=Pe (Jim r N l Ka he.out)
   go_wp2
   go_step3
   refine⟨rfl,⟨r / 10,g,cod r::l,_,_,_,_,_,_,_,_,_,_,_,_,_,_,_,_,_,_,rfl,rfl,Wh,Ka,Ka,P⟩,?_⟩;exact Q7
  ·have hr0:r / 10=0:=Ka
   obtain⟨m,hm⟩:∃m,m=l.length+1:=⟨_,rfl⟩;have L:=Pe (Jin r N l Ka he.out);have S:=fun W=>Jgs w.heap.size g m Ka Ka W
   have C:=Jil (cod r::l) g m Ka Wh w;clear hr0 hm;go_wp2;exact Wf
theorem Jv4(n:Int)(N:Nat)(hn:n=-(N:Int))(h0:n<0)(h1:-9223372036854775808<=n)(w:World):Pc 135 #[.int .i64 n] w (.string (str (45::Lib.decDigits N))):=by
 have HN:=Pe hn;have H19:=Pe (J46 N Ka);have d0:decide (n<0)=true:=Kb;have U:IntKind.u64.wrap (-IntKind.u64.wrap n)=(N:Int):=Qaz n N hn h0 h1;have N1:N<=9223372036854775808:=Ka;have N0:0<N:=Ka;clear hn;go_enter func135,ntmps135;go_wp2;refine wp_scope_jumps 0 (J n N w) (fun a' _=>(intOf (a'.tmps.getD 3 undef)).toNat) rfl ?_ ?_
 ·have E:=Jhq [] 19 rfl (cod N) (48+(N:Int) % 10) (Jmt N)
  have k:=Jk9 [] 19 rfl;go_wp2;rw[Qd1];by_cases hr:0<(N:Int) / 10
  ·have P:=Pe (Jim N N [] Ka Ke)
   go_step3
   go_wp2
   go_step3
   refine⟨rfl,?_⟩;exact Wi
  ·have hr0:(N:Int) / 10=0:=Ka
   have L:=Pe (Jin N N [] (by have:=HN.out;omega) Ke);have k2:=Jk9 (cod N::[]) 18 Ke;have E2:=Jhq (cod N::[]) 18 Ke 45 45 rfl;have S:=fun W=>Jgs w.heap.size 18 2 Kd Kd W
   have C:=Jil (45::cod N::[]) 18 2 Kd Ke w;clear hr0;go_step3;go_wp2
   exact Wf
 ·rintro a' w' ⟨r,f,l,u6,u7,u8,u9,u10,u11,u12,u13,u14,u15,u16,u17,u18,u19,u20,u21,u22,u23,rfl,rfl,hf,r0,r1,he⟩
  have hle:=room r N l H19.out he.out;obtain⟨g,rfl⟩:∃g,f=g+1:=⟨f - 1,Ka⟩;have k:=Jk9 l g hf;have E:=Jhq l g hf (cod r) (48+(r:Int) % 10) (Jmt r);by_cases hr:0<(r:Int) / 10
  ·have P:=Pe (Jim r N l Ka he.out)
   go_wp2
   go_step3
   refine⟨rfl,⟨r / 10,g,cod r::l,_,_,_,_,_,_,_,_,_,_,_,_,_,_,_,_,_,_,rfl,rfl,Wh,Ka,Ka,P⟩,?_⟩;exact Q7
  ·have hr0:r / 10=0:=Ka
   obtain⟨h,rfl⟩:∃h,g=h+1:=⟨g - 1,Ka⟩;obtain⟨m,hm⟩:∃m,m=l.length+2:=⟨_,rfl⟩;have L:=Pe (Jin r N l Ka he.out);have k2:=Jk9 (cod r::l) h Wh;have E2:=Jhq (cod r::l) h Wh 45 45 rfl;have S:=fun W=>Jgs w.heap.size h m Ka Ka W
   have C:=Jil (45::cod r::l) h m Ka Wh w;clear hr0 hm;go_wp2;exact Wf
theorem format_any(n:Int)(h0:-9223372036854775808<=n)(h1:n<=9223372036854775807)(w:World):Pc 135 #[.int .i64 n] w (.string (str (Lib.itoa n))):=by
 by_cases h:n<0
 ·rw[Juh n h]
  exact Jv4 n n.natAbs Ka h h0 w
 ·rw[Jmq n Ka]
  exact Jv3 n n.toNat Ka Ka h1 w
theorem Jrt{w':World}(h:w'=w\/∃t,w'=Lib.bytesWorld w 5 t):Po w w':=by
 rcases h with rfl | ⟨t,rfl⟩
 ·exact Pg
 ·exact Lib.bytesWorld_below _ _ _
theorem Qa0(l:List UInt8)(hs:l.length<=70000)(h:formed l=true)(k:fits (sgn l)=true)(w:World):
  Pc 316 #[.string (str l)] w (.tuple #[.int .i64 (sgn l),.nilIface]):=by
 have hz:=Jai l;refine(Tryz.strconv_Atoi_ok (str l) Ka (sgn l) (by rw[show(str l).data.toList=l from rfl,Jjf l h,if_pos k]) w).mono ?_;rintro e w' ⟨rfl,h⟩;exact⟨rfl,Jrt h⟩
def Qd2(w:World)(e:Ending)(w':World):Prop:=∃v a,e=.returned (.tuple #[.int .i64 v,.iface 301 (.pointer (some a))])/\Po w w'
theorem Jv5(l:List UInt8)(hs:l.length<=70000)(h:formed l=true)(k:fits (sgn l)=false)(w:World)(hg:Good w):
  Calls prog 316 #[.string (str l)] w (Qd2 w):=by
 have hz:=Jai l;obtain⟨tp,p,hv⟩:=hg;refine(Tryz.strconv_Atoi_range_var (str l) Ka (by rw[show(str l).data.toList=l from rfl,Jjf l h,if_neg (by simp[k])]) tp p w hv).mono ?_;rintro e w' ⟨N,rfl,_,_,b⟩;exact⟨_,_,rfl,b⟩
theorem Jio(l:List UInt8)(w:World):Calls prog 315 #[.string (str l),.string (str [45])] w fun e w'=>e=.returned (.string (str (body l)))/\w=w' :=
 (Tryz.strings_TrimPrefix (str l) (str [45]) w).mono fun _ _ ⟨he,hw⟩=>⟨he,hw.symm⟩
theorem Jmu(l:List UInt8):(body l).length<=l.length:=by
 cases h:neg l with
 | true =>
  have e:=Jpn l h;have:=congrArg List.length e;exact Q6
 | false=>rw[Jmo l h];omega
theorem J00(l:List UInt8)(hs:l.length<=70000)(h:nat (body l)=false)(w:World):Pb 250 #[.string (str l)] w (.tuple #[.int .i64 0,.int .i64 3]):=by
 have T:=Pe (fun w=>Jio l w);have N:=Pe (fun w=>Jey (body l) (Nat.le_trans (Jmu l) hs) w);rw[h] at N;clear h;go_enter func250,ntmps250;go_wp2_with (first | (go_at_call 315;refine Pf (T.out _) ?_) | (go_at_call 314;refine Pf (N.out _) ?_));exact Yv
theorem Jv6(w:World):Pb 250 #[.string (str [45,48])] w (.tuple #[.int .i64 0,.int .i64 3]):=by
 have T:=Pe (fun w=>Jio [45,48] w);rw[show body [45,48]=[48] from rfl] at T;have N:=Pe (fun w=>Jk8 w);go_enter func250,ntmps250;go_wp2_with (first | (go_at_call 315;refine Pf (T.out _) ?_) | (go_at_call 314;refine Pf (N.out _) ?_));exact Yv
theorem J5a(l:List UInt8)(hs:l.length<=70000)(h:nat (body l)=true)(h2:l≠[45,48])(hf:formed l=true)(k:fits (sgn l)=true)(w:World):Pc 250 #[.string (str l)] w (.tuple #[.int .i64 (sgn l),.int .i64 0]):=by
 have T:=Pe (fun w=>Jio l w);have N:=Pe (fun w=>Jey (body l) (Nat.le_trans (Jmu l) hs) w);rw[h] at N;have A:=Pe (fun w=>Qa0 l hs hf k w);have q:=Qay l [45,48] h2;generalize hL:sgn l=v at A |-;generalize str l=s at *;clear h hf k h2 hL hs;go_enter func250,ntmps250;go_wp2_with (first | (go_at_call 315;refine Pf (T.out _) ?_) | (go_at_call 314;refine Pf (N.out _) ?_) | (go_at_call 316;refine(A.out _).mono ?_;rintro e w1 ⟨rfl,b1⟩));exact Wg
theorem Jru(l:List UInt8)(hs:l.length<=70000)(h:nat (body l)=true)(h2:l≠[45,48])(hf:formed l=true)(k:fits (sgn l)=false)(w:World)(hg:Good w):Pc 250 #[.string (str l)] w (.tuple #[.int .i64 0,.int .i64 2]):=by
 have T:=Pe (fun w=>Jio l w);have N:=Pe (fun w=>Jey (body l) (Nat.le_trans (Jmu l) hs) w);rw[h] at N;have A:=Pe (Jv5 l hs hf k w hg);have q:=Qay l [45,48] h2;generalize str l=s at *;clear h hf k h2 hs;go_enter func250,ntmps250;go_wp2_with (first | (go_at_call 315;refine Pf (T.out _) ?_) | (go_at_call 314;refine Pf (N.out _) ?_) | (go_at_call 316;refine A.out.mono ?_;rintro e w1 ⟨v,a,rfl,b1⟩));exact Wg
theorem Jps(h:formed l=true):nat (body l)=true/\l≠[45,48]:=by
 unfold formed at h;rw[Bool.and_eq_true] at h;exact⟨h.1,by simpa using h.2⟩
theorem parse_any(l:List UInt8)(hs:l.length<=70000)(w:World)(hg:Good w):Pc 250 #[.string (str l)] w (.tuple #[.int .i64 ((numR l).1),.int .i64 ((numR l).2)]):=by
 cases hf:formed l with
 | false =>
  rw[Jrp hf];cases hn:nat (body l) with
  | false=>exact Jqk (J00 l hs hn w)
  | true =>
   have:l=[45,48]:=by unfold formed at hf;rw[hn] at hf;simpa using hf
   subst this;exact Jqk (Jv6 w)
 | true =>
  obtain⟨h1,h2⟩:=Jps hf;cases k:fits (sgn l) with
  | true=>rw[J0w hf k];exact J5a l hs h1 h2 hf k w
  | false=>rw[Jk6 hf k];exact Jru l hs h1 h2 hf k w hg
def rngR(l:List UInt8)(lo hi:Int):Int×Int:=if(numR l).2=0 then(if lo<=(numR l).1/\(numR l).1<=hi then((numR l).1,0) else(0,2)) else(0,(numR l).2)
theorem J5b(l:List UInt8):(numR l).2=0\/(numR l).2=2\/(numR l).2=3:=by
 unfold numR;split
 ·split
  ·exact Or.inl rfl
  ·exact Or.inr (Or.inl rfl)
 ·exact Or.inr (Or.inr rfl)
theorem Jv7(l:List UInt8)(lo hi n c:Int)(w:World)(C:∀w:World,Good w->Pc 250 #[.string (str l)] w (.tuple #[.int .i64 n,.int .i64 c]))(hc:(c != 0)=true)(hg:Good w):Pc 328 #[.string (str l),.int .i64 lo,.int .i64 hi] w (.tuple #[.int .i64 0,.int .i64 c]):=by
 have P:=Pe (C w hg);clear C;generalize str l=s at *;go_enter func328,ntmps328;go_wp2_with (go_at_call 250;refine P.out.mono ?_;rintro e w1 ⟨rfl,b1⟩);exact Wg
theorem J01(l:List UInt8)(lo hi n:Int)(w:World)(C:∀w:World,Good w->Pc 250 #[.string (str l)] w (.tuple #[.int .i64 n,.int .i64 0]))(h0:lo<=n)(h1:n<=hi)(hg:Good w):Pc 328 #[.string (str l),.int .i64 lo,.int .i64 hi] w (.tuple #[.int .i64 n,.int .i64 0]):=by
 have P:=Pe (C w hg);clear C;generalize str l=s at *;go_enter func328,ntmps328;go_wp2_with (go_at_call 250;refine P.out.mono ?_;rintro e w1 ⟨rfl,b1⟩);refine(Jf2 _ _ _).mono ?_;rintro e w' ⟨rfl,rfl⟩;go_wp2_with fail;refine Pf (Jk7 _ _ _ h0 h1 _) ?_;go_wp2_with fail;go_ret2;exact⟨rfl,Jui b1 _ _⟩
theorem Jv8(l:List UInt8)(lo hi n:Int)(w:World)(C:∀w:World,Good w->Pc 250 #[.string (str l)] w (.tuple #[.int .i64 n,.int .i64 0]))(h:n<lo\/hi<n)(hg:Good w):Pc 328 #[.string (str l),.int .i64 lo,.int .i64 hi] w (.tuple #[.int .i64 0,.int .i64 2]):=by
 have P:=Pe (C w hg);have H:=Pe h;clear C h;generalize str l=s at *;go_enter func328,ntmps328;go_wp2_with (go_at_call 250;refine P.out.mono ?_;rintro e w1 ⟨rfl,b1⟩);refine(Jf2 _ _ _).mono ?_;rintro e w' ⟨rfl,rfl⟩;go_wp2_with fail;refine Pf (J0z _ _ _ H.out _) ?_;go_wp2_with fail;go_ret2;exact⟨rfl,Jui b1 _ _⟩
theorem Jv9(l:List UInt8)(hs:l.length<=70000)(lo hi:Int)(w:World)(hg:Good w):Pc 328 #[.string (str l),.int .i64 lo,.int .i64 hi] w (.tuple #[.int .i64 ((rngR l lo hi).1),.int .i64 ((rngR l lo hi).2)]):=by
 have C:=fun w hg=>parse_any l hs w hg
 have hb:=J5b l;unfold rngR;generalize numR l=r at C hb |-;obtain⟨n,c⟩:=r;by_cases h0:c=0
 ·subst h0
  rw[if_pos rfl];by_cases h1:lo<=n/\n<=hi
  ·rw[if_pos h1];exact J01 l lo hi n w C h1.1 h1.2 hg
  ·rw[if_neg h1];exact Jv8 l lo hi n w C Ka hg
 ·rw[if_neg h0]
  exact Jv7 l lo hi n c w C (Jaf h0) hg
theorem J5c(s:ByteArray)(k:Nat)(hk:k<=s.size)(h:¬k<s.size):s.data.toList.take k=s.data.toList:=List.take_of_length_le Kb
def Jee(c:UInt8):Bool:=c != 46
def bef(l:List UInt8):List UInt8:=l.takeWhile Jee
def beh(l:List UInt8):List UInt8:=(l.dropWhile Jee).drop 1
def Jfu(l:List UInt8):Bool:=nat (bef l)&&((beh l).length==2&&digs (beh l))
def worth(l:List UInt8):Nat:=valN (bef l)*100+valN (beh l)
def Jdt(l:List UInt8):Int×Int:=if Jfu l then(if worth l<=1000000 then((worth l:Int),0) else(0,2)) else(0,3)
def Jef(c:Nat):List UInt8:=Lib.decDigits (c / 100)++46::two ((c % 100:Nat):Int)
theorem bef_at(l:List UInt8)(pos:Nat)(h:(l.take pos).all Jee=true)(hc:l[pos]?=some 46):bef l=l.take pos/\beh l=l.drop (pos+1):=by
 have e:l=l.take pos++46::l.drop (pos+1):=by
  have hp:pos<l.length:=(Pm hc).1;have h1:l.drop pos=46::l.drop (pos+1):=by
   rw[List.drop_eq_getElem_cons hp];rw[List.getElem?_eq_getElem hp] at hc;rw[Pp hc]
  rw[<-h1,List.take_append_drop]
 rw[List.all_eq_true] at h;unfold bef beh;constructor
 ·conv=>lhs;rw[e]
  rw[List.takeWhile_append_of_pos h];simp[Jee]
 ·conv=>lhs;rw[e]
  rw[List.dropWhile_append_of_pos h];simp[Jee]
theorem J5d(l:List UInt8)(h:l.all Jee=true):bef l=l/\beh l=[]:=by
 rw[List.all_eq_true] at h;unfold bef beh;have h1:=List.takeWhile_append_of_pos (l₂:=[]) h;have h2:=List.dropWhile_append_of_pos (l₂:=[]) h;rw[List.append_nil] at h1 h2;exact⟨by rw[h1];simp,by rw[h2];rfl⟩
theorem Jpt(h:Jfu l=true):nat (bef l)=true/\(beh l).length=2/\digs (beh l)=true:=by
 unfold Jfu at h;rw[Bool.and_eq_true,Bool.and_eq_true] at h;exact⟨h.1,by simpa using h.2.1,h.2.2⟩
theorem Qa1(h:Jfu l=true):∃a b,beh l=[a,b]/\dig a=true/\dig b=true:=by
 obtain⟨_,h2,h3⟩:=Jpt h;match hb:beh l,h2 with
 | [a,b],_ =>
  rw[hb] at h3;simp[digs] at h3;exact⟨a,b,rfl,h3.1,h3.2⟩
theorem Jpu(c:Nat):str (Lib.decDigits (c / 100))++str [46]++str [cod (c % 100 / 10)]++str [cod (c % 10)]=str (Jef c):=by
 rw[Jas,Jas,Jas];unfold Jef two cod;rw[show(48+c % 100 / 10 % 10)=48+((c % 100:Nat):Int).toNat / 10 by omega,show(48+c % 10 % 10)=48+((c % 100:Nat):Int).toNat % 10 by omega];simp
theorem Jmv(c:Nat)(x:Int)(hx:x=(c:Int)):Lib.itoa x=Lib.decDigits c:=by
 rw[Jmq x Ka,hx];rfl
theorem Jla(c:Nat)(x:Int)(hx:x=(c:Int))(h:c<10):Lib.itoa x=[cod c]:=by
 rw[Jmv c x hx,Lib.decDigits_one h];unfold cod;rw[show c % 10=c by omega]
theorem fprice_yes(n:Int)(c:Nat)(hn:n=(c:Int))(h:n<=1000000)(w:World):Pc 225 #[.int .i64 n] w (.tuple #[.string (str (Jef c)),.int .i64 0]):=by
 have h0:0<=n:=Ka;have A:=Pe (fun w=>format_any (n / 100) Ka Ka w);have B:=Pe (fun w=>format_any (n % 100 / 10) Ka Ka w);have C:=Pe (fun w=>format_any (n % 10) Ka Ka w);rw[Jmv (c / 100) _ Ka] at A;rw[Jla (c % 100 / 10) _ Ka Ka] at B;rw[Jla (c % 10) _ Ka Ka] at C;have hl:=J0y (c / 100) 5 Kd Ka;have hl1:=Jai (Lib.decDigits (c / 100));have E:=Pe (Jpu c);clear hn;go_enter func225,ntmps225;go_wp2_with fail;refine(Jf2 _ _ _).mono ?_;rintro e w' ⟨rfl,rfl⟩;go_wp2_with fail;refine Pf (Jk7 _ _ _ Ka Ka _) ?_;go_wp2_with fail
 (with_reducible refine(rel (W:=w) (A.out _) (Jpp _ _ _)).mono ?_)
 rintro e w1 ⟨rfl,b1⟩;go_wp2_with fail
 (with_reducible refine(rel (W:=w) (B.out _) b1).mono ?_)
 rintro e w2 ⟨rfl,b2⟩;go_wp2_with fail
 (with_reducible refine(rel (W:=w) (C.out _) b2).mono ?_)
 rintro e w3 ⟨rfl,b3⟩;go_wp2_with fail;go_ret2;exact⟨Je8 E.out,b3⟩
theorem rfprice_yes(n:Int)(c:Nat)(hn:n=(c:Int))(h:n<=1000000)(w:World):Pb 152 #[.int .i64 n] w (.tuple #[.string (str (Jef c)),.int .i64 0]):=by
 have h0:0<=n:=Ka;have A:=Pe (fun w=>rformat_any (n / 100) Ka Ka w);have B:=Pe (fun w=>Jed (c % 100 / 10) Ka w);have C:=Pe (fun w=>Jed (c % 10) Ka w);rw[Jmv (c / 100) _ Ka] at A;rw[show((c % 100 / 10:Nat):Int)=n / 10 % 10 by omega,show UInt8.ofNat (48+c % 100 / 10)=cod (c % 100 / 10) by unfold cod;rw[show c % 100 / 10 % 10=c % 100 / 10 by omega]] at B;rw[show((c % 10:Nat):Int)=n % 10 by omega,show UInt8.ofNat (48+c % 10)=cod (c % 10) by unfold cod;rw[show c % 10 % 10=c % 10 by omega]] at C;have hl:=J0y (c / 100) 5 Kd Ka;have hl1:=Jai (Lib.decDigits (c / 100));have E:=Pe (Jpu c);clear hn;go_enter func152,ntmps152;go_wp2_with fail;refine Pf (A.out _) ?_;go_wp2_with fail;refine Pf (B.out _) ?_;go_wp2_with fail;refine Pf (C.out _) ?_;go_wp2_with fail;go_ret2;exact⟨Je8 E.out,rfl⟩
theorem Jpv(w:World)(s:ByteArray)(pos:Nat)(h:pos<s.size)(ha:s[pos].toNat<128)(ty:TypeId):(Instr.next (.pointer (some ⟨w.heap.size,0,none⟩)) true ty).run prog (w.iter s pos)=.ok (.tuple #[.bool true,.int .i64 pos,.int .i32 s[pos].toNat]) (w.iter s (pos+1)):=run_next_ascii w s pos ty h ha
theorem J8i{a b c d:ByteArray}(h:a=c)(k:b=d):Ending.returned (.tuple #[.string a,.string b])=.returned (.tuple #[.string c,.string d]):=Qm
theorem Qa2(l:List UInt8)(hs:l.length<=70000)(w:World):Pc 326 #[.string (str l)] w (.tuple #[.string (str (bef l)),.string (str (beh l))]):=by
 have hz:=Jai l;have hs':(str l).size<=70000:=Ka;have HL:=Pe (show(str l).data.toList=l from rfl);have K1:=Pe (fun(pos:Nat) (hp:pos<=l.length) W=>Jw9 l pos hp _ rfl pos rfl W);have K2:=Pe (fun(pos:Nat) (hp:pos+1<=l.length) W=>Jxa l (pos+1) hp _ rfl ((pos:Int)+1) Ka W);have HZ:=Pe hz;clear hz;generalize hL:str l=s at *;clear hL;go_enter func326,ntmps326;go_wp2;go_loopw [] (fun w'=>∃pos:Nat,w'=w.iter s pos/\pos<=s.size/\Hid ((s.data.toList.take pos).all Jee=true)) (fun w'=>s.size - w'.iterPos w.heap.size)
 case atStart=>exact⟨0,rfl,Nat.zero_le _,Pe rfl⟩
 case round =>
  obtain⟨pos,rfl,hle,ht⟩:=hrel;by_cases hp:pos<s.size
  ·by_cases ha:s[pos].toNat<128
   ·have hnx:=Jpv w s pos hp ha
    by_cases hc:s[pos].toNat=46
    ·have hB:bef l=l.take pos/\beh l=l.drop (pos+1):=by
      have h1:=ht.out;rw[HL.out] at h1;refine bef_at l pos h1 ?_;have:=Jd4 s pos hp;rw[HL.out] at this;rw[this,show s[pos]=46 from UInt8.toNat_inj.1 hc]
     have k1:=K1.out pos (by have:=HZ.out;omega);have k2:=K2.out pos (by have:=HZ.out;omega);have q:((s[pos].toNat:Int)==46)=true:=Jag Ka;have HB:=Pe hB;clear hB hc ht;go_wp2;go_quiet (fail)
     go_wp2
     go_ret2;exact⟨J8i (by rw[HB.out.1]) (by rw[HB.out.2]),Jab (Ja5 _ _ _) _⟩
    ·have q:((s[pos].toNat:Int)==46)=false:=Jaa Ka
     have hst:Hid ((s.data.toList.take (pos+1)).all Jee=true):=Pe (by
      rw[Jf7 s pos hp,List.all_append,ht.out];simp[Jee];intro e;rw[e] at hc;exact hc rfl)
     go_wp2
     go_roundw
     case rel=>exact⟨pos+1,rfl,Ka,hst⟩
     case measure=>exact Kb
   ·have hh:=decode_high s pos hp Ka
    have hi:=J0v s pos hp;have hst:Hid ((s.data.toList.take (pos+(Utf8.decode s pos).2)).all Jee=true):=Pe (Jpm Jee (fun c hc=>by
     unfold Jee;rw[bne_iff_ne];intro e;subst e;simp at hc) s pos hp Ka ht.out)
    have q:(((Utf8.decode s pos).1:Int)==46)=false:=Jaa Ka;have hnx:∀ty,(Instr.next (.pointer (some ⟨w.heap.size,0,none⟩)) true ty).run prog (w.iter s pos)=_:=fun ty=>run_next_any w s pos ty hp
    go_wp2
    go_roundw
    case rel=>exact⟨pos+(Utf8.decode s pos).2,rfl,hi,hst⟩
    case measure=>exact Kb
  ·have hnx:∀ty,(Instr.next (.pointer (some ⟨w.heap.size,0,none⟩)) true ty).run prog (w.iter s pos)=_:=fun ty=>run_next_end w s pos ty hp
   have hB:=J5d l (by
    have h1:=ht.out;rwa [J5c s pos hle hp,HL.out] at h1)
   have E:s=str l:=Qdz s l HL.out;have HB:=Pe hB;have HE:=Pe E;clear hB ht E;go_wp2;go_ret2;exact⟨J8i (by rw[HB.out.1,HE.out]) (by rw[HB.out.2]),Ja5 _ _ _⟩
theorem Qd3(s s1 s2:ByteArray)(C:Hid (∀w:World,Pc 326 #[.string s] w (.tuple #[.string s1,.string s2])))(N:Hid (∀w:World,Pb 314 #[.string s1] w (.bool false)))(w:World):Pc 256 #[.string s] w (.tuple #[.int .i64 0,.int .i64 3]):=by
 go_enter func256,ntmps256;go_wp2_with (first | (go_at_call 326;refine(C.out _).mono ?_;rintro e w1 ⟨rfl,b1⟩) | (go_at_call 314;refine Pf (N.out _) ?_));exact Wg
theorem Qd4(s s1 s2:ByteArray)(C:Hid (∀w:World,Pc 326 #[.string s] w (.tuple #[.string s1,.string s2])))(N:Hid (∀w:World,Pb 314 #[.string s1] w (.bool true)))(h:((s2.size:Int) != 2)=true)(w:World):Pc 256 #[.string s] w (.tuple #[.int .i64 0,.int .i64 3]):=by
 go_enter func256,ntmps256;go_wp2_with (first | (go_at_call 326;refine(C.out _).mono ?_;rintro e w1 ⟨rfl,b1⟩) | (go_at_call 314;refine Pf (N.out _) ?_));exact Wg
theorem Qa3(s s1 s2:ByteArray)(C:Hid (∀w:World,Pc 326 #[.string s] w (.tuple #[.string s1,.string s2])))(N:Hid (∀w:World,Pb 314 #[.string s1] w (.bool true)))(h:((s2.size:Int) != 2)=false)(D:Hid (∀w:World,Pb 327 #[.string s2] w (.bool false)))(w:World):Pc 256 #[.string s] w (.tuple #[.int .i64 0,.int .i64 3]):=by
 go_enter func256,ntmps256;go_wp2_with (first | (go_at_call 326;refine(C.out _).mono ?_;rintro e w1 ⟨rfl,b1⟩) | (go_at_call 314;refine Pf (N.out _) ?_) | (go_at_call 327;refine Pf (D.out _) ?_));exact Wg
theorem Qd5(s s1 s2:ByteArray)(C:Hid (∀w:World,Pc 326 #[.string s] w (.tuple #[.string s1,.string s2])))(N:Hid (∀w:World,Pb 314 #[.string s1] w (.bool true)))(h:((s2.size:Int) != 2)=false)(D:Hid (∀w:World,Pb 327 #[.string s2] w (.bool true)))(R:Hid (∀w:World,Good w->Pc 328 #[.string s1,.int .i64 0,.int .i64 10000] w (.tuple #[.int .i64 0,.int .i64 2])))(w:World)(hg:Good w):Pc 256 #[.string s] w (.tuple #[.int .i64 0,.int .i64 2]):=by
 go_enter func256,ntmps256;go_wp2_with (first | (go_at_call 326;refine(C.out _).mono ?_;rintro e w1 ⟨rfl,b1⟩) | (go_at_call 314;refine Pf (N.out _) ?_) | (go_at_call 327;refine Pf (D.out _) ?_) | (go_at_call 328;refine(rel (W:=w) (R.out _ (hg.below b1)) b1).mono ?_;rintro e w2 ⟨rfl,b2⟩));go_ret2;exact⟨rfl,b2⟩
theorem Qd6(s s1 s2:ByteArray)(C:Hid (∀w:World,Pc 326 #[.string s] w (.tuple #[.string s1,.string s2])))(N:Hid (∀w:World,Pb 314 #[.string s1] w (.bool true)))(h:((s2.size:Int) != 2)=false)(D:Hid (∀w:World,Pb 327 #[.string s2] w (.bool true)))(u:Int)(u0:0<=u)(u1:u<=10000)(R:Hid (∀w:World,Good w->Pc 328 #[.string s1,.int .i64 0,.int .i64 10000] w (.tuple #[.int .i64 u,.int .i64 0])))(a b:UInt8)(a0:48<=a.toNat)(a1:a.toNat<=57)(b0:48<=b.toNat)(b1:b.toNat<=57)
  (ka:∀W,(Instr.index 9 (.string s2) (.int .i64 0)).run prog W=.ok (.int .u8 a.toNat) W) (kb:∀W,(Instr.index 9 (.string s2) (.int .i64 1)).run prog W=.ok (.int .u8 b.toNat) W)
  (n c:Int) (hr:(if u*100+((a.toNat:Int) - 48)*10+((b.toNat:Int) - 48)<=1000000 then(u*100+((a.toNat:Int) - 48)*10+((b.toNat:Int) - 48),(0:Int)) else(0,2))=(n,c)) (w:World) (hg:Good w):Pc 256 #[.string s] w (.tuple #[.int .i64 n,.int .i64 c]):=by
 by_cases hp:u*100+((a.toNat:Int) - 48)*10+((b.toNat:Int) - 48)<=1000000
 ·rw[if_pos hp] at hr
  obtain⟨rfl,rfl⟩:=Prod.mk.inj hr;clear hr;go_enter func256,ntmps256;go_wp2_with (first | (go_at_call 326;refine(C.out _).mono ?_;rintro e w1 ⟨rfl,b1⟩) | (go_at_call 314;refine Pf (N.out _) ?_) | (go_at_call 327;refine Pf (D.out _) ?_) | (go_at_call 328;refine(rel (W:=w) (R.out _ (hg.below b1)) b1).mono ?_;rintro e w2 ⟨rfl,b2⟩));go_quiet (fail)
  go_wp2_with fail;go_ret2;exact⟨rfl,Jab b2 _⟩
 ·rw[if_neg hp] at hr
  obtain⟨rfl,rfl⟩:=Prod.mk.inj hr;clear hr;have hq:1000000<u*100+((a.toNat:Int) - 48)*10+((b.toNat:Int) - 48):=Ka;clear hp;go_enter func256,ntmps256;go_wp2_with (first | (go_at_call 326;refine(C.out _).mono ?_;rintro e w1 ⟨rfl,b1⟩) | (go_at_call 314;refine Pf (N.out _) ?_) | (go_at_call 327;refine Pf (D.out _) ?_) | (go_at_call 328;refine(rel (W:=w) (R.out _ (hg.below b1)) b1).mono ?_;rintro e w2 ⟨rfl,b2⟩));go_quiet (fail)
  go_wp2_with fail;go_ret2;exact⟨rfl,Jab b2 _⟩
theorem Qa4(l:List UInt8):(bef l).length<=l.length:=by
 unfold bef;exact(List.takeWhile_sublist _).length_le
theorem Qa5(l:List UInt8):(beh l).length<=l.length:=by
 unfold beh;have:=(List.dropWhile_sublist (l:=l) Jee).length_le;exact Kb
theorem Jwa(h:nat b=true):formed b=true/\sgn b=(valN b:Int):=by
 obtain⟨c,r,rfl,h1,h2⟩:=Jmp h;have hc:c≠45:=by intro e;subst e;simp at h1
 have hg:neg (c::r)=false:=by simp[neg,hc]
 have hb:=Jmo (c::r) hg;unfold formed sgn;rw[hb,h,if_neg (by simp[hg])];exact⟨by simp[hc],rfl⟩
theorem Qa6(h:nat b=true):numR b=if valN b<=9223372036854775807 then((valN b:Int),0) else(0,2):=by
 obtain⟨h1,h2⟩:=Jwa h;by_cases hv:valN b<=9223372036854775807
 ·rw[if_pos hv,J0w h1 (by rw[h2,fits_iff];omega),h2]
 ·rw[if_neg hv,Jk6 h1 (by rw[h2];simp[fits];omega)]
theorem Qa7(h:nat b=true):rngR b 0 10000=if valN b<=10000 then((valN b:Int),0) else(0,2):=by
 unfold rngR;rw[Qa6 h];by_cases hv:valN b<=9223372036854775807
 ·rw[if_pos hv]
  simp only[if_true];by_cases h2:valN b<=10000
  ·rw[if_pos h2,if_pos Ka]
  ·rw[if_neg h2,if_neg Ka]
 ·rw[if_neg hv,if_neg Kd,if_neg Ka]
theorem J02(l:List UInt8)(a b:UInt8)(hb:beh l=[a,b])(da:dig a=true)(db:dig b=true):(worth l:Int)=(valN (bef l):Int)*100+((a.toNat:Int) - 48)*10+((b.toNat:Int) - 48):=by
 have h1:=(Jcu a).1 da;have h2:=(Jcu b).1 db;unfold worth;rw[hb,J24];omega
theorem J5e(l:List UInt8)(h:Jfu l=true)(a b:UInt8)(hb:beh l=[a,b])(da:dig a=true)(db:dig b=true):
  (if(valN (bef l):Int)*100+((a.toNat:Int) - 48)*10+((b.toNat:Int) - 48)<=1000000 then((valN (bef l):Int)*100+((a.toNat:Int) - 48)*10+((b.toNat:Int) - 48),(0:Int)) else(0,2))=((Jdt l).1,(Jdt l).2):=by
 have e:=J02 l a b hb da db;unfold Jdt;rw[if_pos h,<-e];by_cases hw:worth l<=1000000
 ·rw[if_pos hw,if_pos Ka]
 ·rw[if_neg hw,if_neg Ka]
theorem pprice_any(l:List UInt8)(hs:l.length<=69000)(w:World)(hg:Good w):Pc 256 #[.string (str l)] w (.tuple #[.int .i64 ((Jdt l).1),.int .i64 ((Jdt l).2)]):=by
 have h1:=Qa4 l;have h2:=Qa5 l;have C:=Pe (fun w=>Qa2 l Ka w);have N:=Pe (fun w=>Jey (bef l) Ka w);have D:=Pe (fun w=>Jmr (str (beh l)) Qb w);rw[show(str (beh l)).data.toList=beh l from rfl] at D;have R:=Pe (fun w hg=>Jv9 (bef l) Ka 0 10000 w hg);have hz:=Jai (beh l);cases hn:nat (bef l) with
 | false =>
  rw[hn] at N;have e:Jdt l=(0,3):=by unfold Jdt Jfu;rw[hn];rfl
  rw[e];exact Qd3 _ _ _ C N w
 | true =>
  rw[hn] at N;by_cases hl:(beh l).length=2
  ·have q:(((str (beh l)).size:Int) != 2)=false:=Jap Ka
   cases hd:digs (beh l) with
   | false =>
    rw[hd] at D;have e:Jdt l=(0,3):=by unfold Jdt Jfu;rw[hd];simp
    rw[e];exact Qa3 _ _ _ C N q D w
   | true =>
    rw[hd] at D;have hp:Jfu l=true:=by unfold Jfu;rw[hn,hd];simp[hl]
    obtain⟨a,b,hb,da,db⟩:=Qa1 hp;have e:=J5e l hp a b hb da db;rw[Qa7 hn] at R;by_cases hv:valN (bef l)<=10000
    ·rw[if_pos hv] at R
     have d1:=(Jcu a).1 da;have d2:=(Jcu b).1 db;exact Qd6 _ _ _ C N q D (valN (bef l):Int) Ka Ka R a b d1.1 d1.2 d2.1 d2.2 (fun W=>Jw8 (beh l) 0 a (by rw[hb];rfl) 0 rfl W) (fun W=>Jw8 (beh l) 1 b (by rw[hb];rfl) 1 rfl W) _ _ e w hg
    ·rw[if_neg hv] at R
     have hw:¬worth l<=1000000:=by unfold worth;omega
     have e:Jdt l=(0,2):=by unfold Jdt;rw[if_pos hp,if_neg hw]
     rw[e];exact Qd5 _ _ _ C N q D R w hg
  ·have q:(((str (beh l)).size:Int) != 2)=true:=Jaf Ka
   have e:Jdt l=(0,3):=by unfold Jdt Jfu;rw[show((beh l).length==2)=false by simpa using hl];simp
   rw[e];exact Qd4 _ _ _ C N q w
end S3
section
open Go.RowKit
open S2 (bef Jh6 Jmk bef_end dayR dText)
open S3 (numR Jdt Jef)
def monD:Nat->Nat->Nat
 | 0,_=>0
 | k+1,d=>if bef k<=d then k else monD k d
theorem J03(d k:Nat)(h:d<bef k):Jh6 (monD k d) d/\monD k d<k:=by
 induction k with
 | zero=>rw[Jmk] at h;omega
 | succ k ih =>
  have e:monD (k+1) d=if bef k<=d then k else monD k d:=rfl
  rw[e];by_cases hk:bef k<=d
  ·rw[if_pos hk];exact⟨⟨hk,h⟩,Ka⟩
  ·rw[if_neg hk]
   obtain⟨a,b⟩:=ih Ka;exact⟨a,Ka⟩
def fmR:Fm where
 num:=numR
 prc:=fun s=>Jdt s
 tim:=Jvp
 dur:=durR
 day:=dayR
 mds:=fun s=>ansR (prsR s)
 numT:=Lib.itoa
 prcT:=fun n=>Jef n.toNat
 timT:=Jfg
 durT:=Jb2
 dayT:=fun n=>dText (monD 1200 n.toNat) n.toNat
 mdsT:=fun n=>textR n.toNat
theorem Jjh(c:UInt8)(post:List UInt8):∀pre:List UInt8,c ∉ pre->Lib.indexByte (pre++c::post) c=pre.length
 | [],_=>by simp[Lib.indexByte]
 | b::l,h=>by
  have hb:(b==c)=false:=Wk;have hl:c ∉ l:=fun hx=>h (by simp[hx])
  have ih:=Jjh c post l hl;have hn:(((l.length:Nat):Int)==-1)=false:=Vr;simp[Lib.indexByte,hb,ih,hn]
theorem Jhr(c:UInt8):∀l:List UInt8,c ∉ l->Lib.indexByte l c=-1
 | [],_=>rfl
 | b::l,h=>by
  have hb:(b==c)=false:=Wk;have hl:c ∉ l:=fun hx=>h (by simp[hx])
  have ih:=Jhr c l hl;simp[Lib.indexByte,hb,ih]
theorem Jrv(pre post:List UInt8)(c:UInt8):(str (pre++c::post)).extract 0 pre.length=str pre:=by
 rw[Lib.extract_eq];simp
theorem Jpw(pre post:List UInt8)(c:UInt8):(str (pre++c::post)).extract (pre.length+1) (str (pre++c::post)).size=str post:=by
 rw[Lib.extract_eq];have:(str (pre++c::post)).size=pre.length+post.length+1:=by show(pre++c::post).toArray.size=_;simp;omega
 rw[this];simp
theorem Qa8{a b a' b':ByteArray}{t:Bool}(h:a=a')(k:b=b'):Ending.returned (.tuple #[.string a,.string b,.bool t])=.returned (.tuple #[.string a',.string b',.bool t]):=Qm
theorem J04(c:UInt8)(l:List UInt8)(h:c ∉ l)(w:World):
  Pc 311 #[.string (str l),.string ⟨#[c]⟩] w (.tuple #[.string (str l),.string (str []),.bool false]):=by
 have hc:=Tryz.stringslite_Index_one (str l) c;have hi:Lib.indexByte (str l).data.toList c=-1:=Jhr c l h;rw[hi] at hc;have HC:=Pe hc;clear hc hi h;go_enter func311,ntmps311;go_wp2_with (go_at_call 216;refine(HC.out _).mono ?_;rintro e w' ⟨rfl,rfl⟩);go_ret3
 exact Js
theorem J5f(c:UInt8)(pre post:List UInt8)(h:c ∉ pre)(hl:(pre++c::post).length<=9223372036854775807)(w:World):
  Pc 311 #[.string (str (pre++c::post)),.string ⟨#[c]⟩] w (.tuple #[.string (str pre),.string (str post),.bool true]):=by
 have hc:=Tryz.stringslite_Index_one (str (pre++c::post)) c;have hi:Lib.indexByte (str (pre++c::post)).data.toList c=pre.length:=Jjh c post pre h;rw[hi] at hc;have HC:=Pe hc;have e1:=Jrv pre post c;have e2:=Jpw pre post c;obtain⟨s,hs⟩:∃s,s=str (pre++c::post):=⟨_,rfl⟩;have hz:s.size=pre.length+post.length+1:=by rw[hs];show(pre++c::post).toArray.size=_;simp;omega
 have hz2:s.size<=9223372036854775807:=by rw[hz];simp at hl;omega
 rw[<-hs] at e1 e2 HC |-;clear hc hi h hs hl;obtain⟨n,hn⟩:∃n:Nat,n=pre.length:=⟨_,rfl⟩;rw[<-hn] at e1 e2 HC hz;have c1:(0:Int)<=↑n:=Ka;have c2:(↑n:Int)<=↑s.size:=Ka;have c3:(0:Int)<=↑n+1:=Ka;have c4:(↑n+1:Int)<=↑s.size:=Ka;have c5:IntKind.i64.wrap (↑n+1)=↑n+1:=IntWalk.i64_in _ Ka;clear hn hz;have E1:=Pe e1;have E2:=Pe e2;clear e1 e2;go_enter func311,ntmps311;go_wp2_with (go_at_call 216;refine(HC.out _).mono ?_;rintro e w' ⟨rfl,rfl⟩);go_region
 go_wp2
 go_ret3
 exact⟨Qa8 E1.out E2.out,(Below.refl _ _).drew⟩
theorem Jez(c:UInt8)(l:List UInt8)(h:c ∉ l)(w:World):
  Pc 245 #[.string (str l),.string ⟨#[c]⟩] w (.tuple #[.string (str l),.string (str []),.bool false]):=by
 have HC:=Pe (J04 c l h);clear h;go_enter func245,ntmps245;go_wp2_with fail;refine(HC.out _).mono ?_;rintro e w1 ⟨rfl,b1⟩;go_wp2_with fail;go_ret3;exact⟨rfl,b1⟩
theorem Jmw(c:UInt8)(pre post:List UInt8)(h:c ∉ pre)(hl:(pre++c::post).length<=9223372036854775807)(w:World):
  Pc 245 #[.string (str (pre++c::post)),.string ⟨#[c]⟩] w (.tuple #[.string (str pre),.string (str post),.bool true]):=by
 have HC:=Pe (J5f c pre post h hl);clear h hl;generalize pre++c::post=l at HC |-;go_enter func245,ntmps245;go_wp2_with fail;refine(HC.out _).mono ?_;rintro e w1 ⟨rfl,b1⟩;go_wp2_with fail;go_ret3;exact⟨rfl,b1⟩
theorem Jlb(c:UInt8)(l:List UInt8)(h:(l++[c]).length<=9223372036854775807)(w:World):
  Pb 39 #[.string (str (l++[c])),.string ⟨#[c]⟩] w (.tuple #[.string (str l),.bool true]):=by
 have hc:=Tryz.strings_CutSuffix (str (l++[c])) ⟨#[c]⟩ w h;have h1:Lib.hasSuffix (str (l++[c])).data.toList (⟨#[c]⟩:ByteArray).data.toList=true:=by
  show List.isSuffixOf [c] (l++[c])=true
  rw[List.isSuffixOf_iff_suffix];exact List.suffix_append _ _
 have h2:Lib.trimSuffix (str (l++[c])).data.toList (⟨#[c]⟩:ByteArray).data.toList=l:=by
  unfold Lib.trimSuffix;rw[h1,if_pos rfl];simp
 rw[h1,h2] at hc;exact hc.mono fun _ _ ⟨he,hw⟩=>⟨he,hw.symm⟩
theorem Jji(c:UInt8)(l:List UInt8)(hn:List.isSuffixOf [c] l=false)(h:l.length<=9223372036854775807)(w:World):
  Pb 39 #[.string (str l),.string ⟨#[c]⟩] w (.tuple #[.string (str l),.bool false]):=by
 have hc:=Tryz.strings_CutSuffix (str l) ⟨#[c]⟩ w h;have h1:Lib.hasSuffix (str l).data.toList (⟨#[c]⟩:ByteArray).data.toList=false:=hn;have h2:Lib.trimSuffix (str l).data.toList (⟨#[c]⟩:ByteArray).data.toList=l:=by
  unfold Lib.trimSuffix;rw[h1];rfl
 rw[h1,h2] at hc;exact hc.mono fun _ _ ⟨he,hw⟩=>⟨he,hw.symm⟩
end
end Go.Proofs.YtpifdbphmnifdaaGreatDoor
