/-
  Facts. Condition: each theorem's own.
-/
import Derived.Lib.AtoiAllCases
import Derived.WalkMore
import Derived.Test.YtpifdbphmnifdaaGreatDoorYC12
set_option maxRecDepth 100000
set_option maxHeartbeats 8000000
section
variable {p:Prop}
theorem Wh (h:p:=by simp only [Exit.jump];go_ret;exact⟨Je9 (by rw [←L.out]),Jgq _ _⟩):p:=h
theorem Wi (h:p:=by go_ret2;exact⟨rfl,b1⟩):p:=h
theorem Wj (h:p:=by simp <;> omega):p:=h
theorem Wk (h:p:=by exact⟨N / 10,19,[cod N],_,_,_,_,_,_,_,_,_,_,_,_,_,_,_,_,_,_,rfl,rfl,rfl,Kd,Kd,P⟩):p:=h
theorem Wl (h:p:=by rw [cell_of_row _ _ _ _ _ _ h.box];simpa using hv):p:=h
end
open Go.Proofs.Tryz
namespace Go.Proofs.YtpifdbphmnifdaaGreatDoor
namespace S3
open Go
def nat (l:List UInt8):Bool:=l==[48] || (!l.isEmpty&&l.head? != some 48&&digs l)
def body (s:List UInt8):List UInt8:=Lib.trimPrefix s [45]
def neg (s:List UInt8):Bool:=s.head?==some 45
def sgn (s:List UInt8):Int:=if neg s then -(valN (body s):Int) else (valN (body s):Int)
def formed (s:List UInt8):Bool:=nat (body s)&&!(s==[45,48])
def fits (v:Int):Bool:=decide (-9223372036854775808≤v∧v≤9223372036854775807)
def numR (s:List UInt8):Int×Int:=if formed s then (if fits (sgn s) then (sgn s,0) else (0,2)) else (0,3)
theorem fits_iff (v:Int):fits v=true↔-9223372036854775808≤v∧v≤9223372036854775807:=by unfold fits;exact decide_eq_true_iff
theorem Jqz {s:List UInt8} (h:formed s=true) (k:fits (sgn s)=true):numR s=(sgn s,0):=by unfold numR;rw [if_pos h,if_pos k]
theorem Jk4 {s:List UInt8} (h:formed s=true) (k:fits (sgn s)=false):numR s=(0,2):=by unfold numR;rw [if_pos h,if_neg (by simp [k])]
theorem Jq0 {s:List UInt8} (h:formed s=false):numR s=(0,3):=by unfold numR;rw [if_neg X5]
theorem Jic (l:List UInt8):body (45::l)=l:=by simp [body,Lib.trimPrefix,Lib.hasPrefix]
theorem Jgm (s:List UInt8) (h:neg s=false):body s=s:=by
 cases s with
 | nil=>rfl
 | cons c l =>
  have hc:c≠45:=by simpa [neg] using h
  simp [body,Lib.trimPrefix,Lib.hasPrefix,Ne.symm hc]
theorem Jo3 (s:List UInt8) (h:neg s=true):s=45::body s:=by
 cases s with
 | nil=>simp [neg] at h
 | cons c l =>
  have hc:c=45:=by simpa [neg] using h
  subst hc;rw [Jic]
theorem Jo4 {l:List UInt8} (h:nat l=true):l=[48]∨(∃c r,l=c::r∧c≠48∧digs l=true):=by
 unfold nat at h;rw [Bool.or_eq_true] at h;rcases h with h | h
 ·exact Or.inl Kt
 ·cases l with
  | nil=>simp at h
  | cons c r =>
   simp at h;exact Or.inr ⟨c,r,rfl,by simpa using h.1,by simpa using h.2⟩
theorem Jtx {l:List UInt8} (h:nat l=true):digs l=true:=by
 rcases Jo4 h with rfl | ⟨c,r,rfl,_,hd⟩
 ·decide
 ·exact hd
theorem J7r {l:List UInt8} (h:nat l=true):l≠[]:=by
 rcases Jo4 h with rfl | ⟨c,r,rfl,_,hd⟩ <;> simp
theorem Jid {l:List UInt8} (h:nat l=true):∃c r,l=c::r∧48≤c.toNat∧c.toNat≤57:=by
 have hd:=Jtx h;cases l with
 | nil=>exact absurd rfl (J7r h)
 | cons c r =>
  have:dig c=true:=by simp [digs] at hd;exact hd.1
  exact⟨c,r,rfl,(Jcj c).1 this⟩
theorem Jz9:∀(l:List UInt8) (a:Nat),a≤l.foldl (fun n c=>n*10+(c.toNat - 48)) a
 | [],a=>Nat.le_refl _
 | c::l,a=>by
  rw [List.foldl_cons];exact Nat.le_trans Kd (Jz9 l _)
theorem Jfp:∀(l:List UInt8) (a:Nat),digs l=true→a<18446744073709551616 →
  Lib.parseUint10 a l=if l.foldl (fun n c=>n*10+(c.toNat - 48)) a<18446744073709551616 then .ok (l.foldl (fun n c=>n*10+(c.toNat - 48)) a) else .range
 | [],a,_,ha=>by simp [Lib.parseUint10,ha]
 | c::l,a,h,ha=>by
  have hl:dig c=true∧digs l=true:=by simpa [digs] using h
  have hc:=(Jcj c).1 hl.1;rw [Lib.parseUint10,if_pos hc,List.foldl_cons];have hm:=Jz9 l (a*10+(c.toNat - 48));by_cases h1:1844674407370955162≤a
  ·rw [if_pos h1,if_neg Kd]
  ·rw [if_neg h1]
   by_cases h2:18446744073709551616≤a*10+(c.toNat - 48)
   ·rw [if_pos h2,if_neg Kd]
   ·rw [if_neg h2]
    exact Jfp l _ hl.2 Kd
theorem Jgn (l:List UInt8) (h:nat l=true):Lib.parseMag l=if valN l<18446744073709551616 then .ok (valN l) else .range:=by
 unfold Lib.parseMag;rw [if_neg (J7r h),Jfp l 0 (Jtx h) Kl];rfl
theorem Jje (s:List UInt8) (h:formed s=true):Lib.atoiAll s=if fits (sgn s) then .ok (sgn s) else .range:=by
 have hn:nat (body s)=true:=by unfold formed at h;rw [Bool.and_eq_true] at h;exact h.1
 unfold sgn fits;by_cases hg:neg s=true
 ·rw [if_pos hg]
  have e:=Jo3 s hg;rw [e,Lib.atoiAll_minus,Jic,Jgn _ hn];generalize valN (body s)=v;by_cases h1:v<18446744073709551616
  ·rw [if_pos h1]
   unfold Lib.signed;simp only [];by_cases h2:9223372036854775808<v
   ·rw [if_pos h2,if_neg Ke]
   ·rw [if_neg h2,if_pos Ke]
  ·rw [if_neg h1,if_neg Ke]
   rfl
 ·have hb:=Jgm s (by simpa using hg)
  rw [if_neg hg];rw [hb] at hn ⊢;obtain⟨c,r,rfl,h1,h2⟩:=Jid hn;rw [Lib.atoiAll_plain c r Kd Kd,Jgn _ hn];generalize valN (c::r)=v;by_cases h1:v<18446744073709551616
  ·rw [if_pos h1]
   unfold Lib.signless;simp only [];by_cases h2:9223372036854775808≤v
   ·rw [if_pos h2,if_neg Ke]
   ·rw [if_neg h2,if_pos Ke]
  ·rw [if_neg h1,if_neg Ke]
   rfl
theorem Jjf (u:Nat) (h:¬u<10):Lib.decDigits u=Lib.decDigits (u / 10)++[UInt8.ofNat (48+u % 10)]:=by rw [Lib.decDigits,dif_neg h]
theorem J0a (u:Nat):digs (Lib.decDigits u)=true:=by
 induction u using Nat.strongRecOn with
 | _ u ih =>
  by_cases h:u<10
  ·rw [Lib.decDigits_one h]
   unfold digs;simp only [List.all_cons,List.all_nil,Bool.and_true];exact Jda _ h
  ·rw [Jjf u h]
   have h1:=ih (u / 10) Kd;unfold digs at *;rw [List.all_append,h1];simp only [List.all_cons,List.all_nil,Bool.and_true,Bool.true_and];exact Jda _ Kd
theorem J0b (u:Nat):valN (Lib.decDigits u)=u:=by
 induction u using Nat.strongRecOn with
 | _ u ih =>
  by_cases h:u<10
  ·rw [Lib.decDigits_one h]
   show 0*10+((UInt8.ofNat (48+u)).toNat - 48)=u
   rw [ofNat_toNat u h];omega
  ·rw [Jjf u h,Jil,ih (u / 10) Kd,ofNat_toNat _ Kd]
   omega
theorem J0c (u:Nat) (h:0<u):∃c r,Lib.decDigits u=c::r∧c≠48:=by
 induction u using Nat.strongRecOn with
 | _ u ih =>
  by_cases hs:u<10
  ·rw [Lib.decDigits_one hs]
   refine⟨_,_,rfl,fun hc=>?_⟩;have:=congrArg UInt8.toNat hc;rw [ofNat_toNat u hs] at this;have e:(48:UInt8).toNat=48:=rfl;omega
  ·rw [Jjf u hs]
   obtain⟨c,r,e,hc⟩:=ih (u / 10) Kd Kd;rw [e];exact⟨c,_,rfl,hc⟩
theorem Jo5 (u:Nat):nat (Lib.decDigits u)=true:=by
 by_cases h:u=0
 ·subst h;rw [Lib.decDigits_one Kl];decide
 ·obtain⟨c,r,e,hc⟩:=J0c u Kd
  have hd:=J0a u;rw [e] at hd ⊢;unfold nat;rw [hd];simp [hc]
theorem J7s (u k:Nat) (hk:1≤k) (h:u<10 ^ k):(Lib.decDigits u).length≤k:=by
 induction k generalizing u with
 | zero=>omega
 | succ k ih =>
  by_cases hs:u<10
  ·rw [Lib.decDigits_one hs];simp
  ·rw [Jjf u hs,Pp]
   have hk0:k≠0:=by intro e;subst e;simp at h;omega
   have:=ih (u / 10) Kd (by rw [Nat.pow_succ] at h;omega);exact Ke
theorem Jmh (n:Int) (h:n<0):Lib.itoa n=45::Lib.decDigits n.natAbs:=by unfold Lib.itoa;rw [if_pos h]
theorem Jgo (n:Int) (h:0≤n):Lib.itoa n=Lib.decDigits n.toNat:=by unfold Lib.itoa;rw [if_neg Kd]
theorem Jty (n:Int) (h:0≤n):neg (Lib.itoa n)=false:=by
 rw [Jgo n h];obtain⟨c,r,e,h1,_⟩:=Jid (Jo5 n.toNat);rw [e];simp [neg];intro hc;subst hc;simp at h1
theorem Jtz (n:Int):sgn (Lib.itoa n)=n:=by
 unfold sgn;by_cases h:n<0
 ·rw [Jmh n h,Jic,J0b]
  rw [if_pos (by simp [neg])];omega
 ·have hg:=Jty n Kd
  rw [if_neg (by simp [hg]),Jgm _ hg,Jgo n Kd,J0b];omega
theorem Jq1 (n:Int):formed (Lib.itoa n)=true:=by
 unfold formed;rw [Bool.and_eq_true];by_cases h:n<0
 ·rw [Jmh n h,Jic]
  refine⟨Jo5 _,?_⟩;obtain⟨c,r,e,hc⟩:=J0c n.natAbs Kd;rw [e];simp [hc]
 ·have hg:=Jty n Kd
  rw [Jgm _ hg];refine⟨by rw [Jgo n Kd];exact Jo5 _,?_⟩;cases hl:Lib.itoa n with
  | nil=>rfl
  | cons c r =>
   rw [hl] at hg;have hc:c≠45:=by simpa [neg] using hg
   simp [hc]
theorem Jo6 (n:Int) (h0:-9223372036854775808≤n) (h1:n≤9223372036854775807):numR (Lib.itoa n)=(n,0):=by
 rw [Jqz (Jq1 n) (by rw [Jtz];exact (fits_iff n).2 ⟨h0,h1⟩),Jtz]
open Go.RowKit
def Good (w:World):Prop:=∃tp p,w.var? prog "strconv.ErrRange"=some #[.iface tp p]
theorem gRange:prog.globalNamed "strconv.ErrRange"=some 8:=Kk
theorem var_size {w:World} {n:String} {g:Nat} {cs:Array Value} (hg:prog.globalNamed n=some g) (h:w.var? prog n=some cs):g<w.heap.size:=by
 unfold World.var? at h;simp only [hg,Option.bind_some] at h;by_cases hs:g<w.heap.size
 ·exact hs
 ·rw [Array.getElem?_eq_none Kd] at h
  cases h
theorem Good.below {w w':World} (h:Good w) (b:Pn w w'):Good w':=by
 obtain⟨tp,p,hv⟩:=h;exact⟨tp,p,var?_below b gRange (var_size gRange hv) hv⟩
abbrev rng (w:World) (lo hi:Int):World:=(w.alloc (.cells #[.int .i64 lo] 3)).alloc (.cells #[.int .i64 hi] 3)
theorem Jo7 (w:World) (lo hi:Int):Pn w (rng w lo hi):=((Below.refl _ _).alloc Ph _).alloc Kj _
theorem Jt0 {W w:World} (hb:Pn W w) (lo hi:Int):Pn W (rng w lo hi):=hb.trans ((Jo7 w lo hi).mono hb.size)
theorem Jfv (lo hi:Int) (w:World) :
  Calls prog 303 #[.int .i64 lo,.int .i64 hi] w fun e w'=>e=.returned (.func (.func 345) #[] #[.pointer (some ⟨w.heap.size,0,none⟩),.pointer (some ⟨w.heap.size+1,0,none⟩)])∧w'=rng w lo hi:=by
 have hmf:∀(fn:Fn) (first cap:Array Value) (w:World),(Instr.makeFunc fn first cap).run prog w=.ok (.func fn first cap) w:=fun _ _ _ _=>rfl
 go_enter func303,ntmps303;go_wp2;exact Yy
theorem Jk5 (n lo hi:Int) (h0:lo≤n) (h1:n≤hi) (w:World) :
  Calls prog 345 #[.int .i64 n,.pointer (some ⟨w.heap.size,0,none⟩),.pointer (some ⟨w.heap.size+1,0,none⟩)] (rng w lo hi) fun e w'=>e=.returned (.bool true)∧rng w lo hi=w':=by
 have d0:decide (lo≤n)=true:=by simpa using h0
 have d1:decide (n≤hi)=true:=by simpa using h1
 go_enter func345,ntmps345;go_wp2;exact Yy
theorem J0d (n lo hi:Int) (h:n<lo∨hi<n) (w:World) :
  Calls prog 345 #[.int .i64 n,.pointer (some ⟨w.heap.size,0,none⟩),.pointer (some ⟨w.heap.size+1,0,none⟩)] (rng w lo hi) fun e w'=>e=.returned (.bool false)∧rng w lo hi=w':=by
 by_cases h0:n<lo
 ·have d0:decide (lo≤n)=false:=Ke
  go_enter func345,ntmps345;go_wp2;exact Yy
 ·have d0:decide (lo≤n)=true:=Ke
  have d1:decide (n≤hi)=false:=Ke;go_enter func345,ntmps345;go_wp2;exact Yy
theorem allDigits_yes (s:ByteArray) (hs:s.size≤70000) (hd:digs s.data.toList=true) (w:World) :
  Pb 327 #[.string s] w (.bool true):=by
 have HD:=Pe hd;clear hd;go_enter func327,ntmps327;go_wp2_with fail;go_loop [6] (fun i=>∃k:Nat,k≤s.size∧i=.int .i64 k) (fun i=>s.size - (intOf i).toNat);case atStart=>exact⟨0,Kd,rfl⟩
 case round =>
  obtain⟨k,hk,rfl⟩:=hrel;by_cases hlt:k<s.size
  ·have kk:=Je2 s k hlt
   have hc:=Jlh s k hlt HD.out;go_wp2_with fail;go_round;case rel=>exact⟨k+1,Kd,Kg⟩
   case measure=>exact Qz
  ·go_wp2_with fail
   exact Yy
theorem allDigits_no (s:ByteArray) (hs:s.size≤70000) (hd:digs s.data.toList=false) (w:World) :
  Pb 327 #[.string s] w (.bool false):=by
 have HD:=Pe hd;clear hd;go_enter func327,ntmps327;go_wp2_with fail;go_loop [6] (fun i=>∃k:Nat,k≤s.size∧i=.int .i64 k∧Hid (digs (s.data.toList.take k)=true)) (fun i=>s.size - (intOf i).toNat);case atStart=>exact⟨0,Kd,rfl,Pe rfl⟩
 case round =>
  obtain⟨k,hk,rfl,ht⟩:=hrel;by_cases hlt:k<s.size
  ·have kk:=Je2 s k hlt
   by_cases hc:48≤s[k].toNat∧s[k].toNat≤57
   ·have hst:=Pe (Jm7 s k hlt ht.out hc)
    go_wp2_with fail;go_round;case rel=>exact⟨k+1,Kd,Kg,hst⟩
    case measure=>exact Qz
   ·by_cases h1:s[k].toNat<48
    ·go_wp2_with fail
     exact Yy
    ·have h2:57<s[k].toNat:=Kd
     exact Ki
  ·have hf:=Jhr s k hlt ht.out
   rw [HD.out] at hf;cases hf
theorem Jmi (s:ByteArray) (hs:s.size≤70000) (w:World):Pb 327 #[.string s] w (.bool (digs s.data.toList)):=by
 cases h:digs s.data.toList with
 | true=>exact allDigits_yes s hs h w
 | false=>exact allDigits_no s hs h w
theorem Qdq (s:ByteArray) (l:List UInt8) (h:s.data.toList=l):s=str l:=by
 apply ByteArray.ext
 rw [←h]
theorem Qan (l m:List UInt8) (h:l≠m):((str l).toList==m)=false:=by rw [ByteArray.toList_mk,beq_eq_false_iff_ne];exact h
theorem Qdr (l:List UInt8) (h:l≠[]):(str l).toList.isEmpty=false:=by
 rw [ByteArray.toList_mk];cases l with
 | nil=>exact absurd rfl h
 | cons _ _=>rfl
theorem Jk6 (w:World):Pb 314 #[.string (str [48])] w (.bool true):=by
 go_enter func314,ntmps314;exact Ki
theorem Jq2 (w:World):Pb 314 #[.string (str [])] w (.bool false):=by
 go_enter func314,ntmps314;exact Ki
theorem Jo8 (s:ByteArray) (h1:(s.toList==[48])=false) (h2:s.toList.isEmpty=false) (h0:0<s.size) (h3:((s[0].toNat:Int) != 48)=false) (w:World):Pb 314 #[.string s] w (.bool false):=by
 have k0:∀W,(Instr.index 9 (.string s) (.int .i64 0)).run prog W=.ok (.int .u8 s[0].toNat) W:=Je2 s 0 h0;go_enter func314,ntmps314;exact Ki
theorem Jo9 (s:ByteArray) (hs:s.size≤70000) (h1:(s.toList==[48])=false) (h2:s.toList.isEmpty=false) (h0:0<s.size) (h3:((s[0].toNat:Int) != 48)=true) (w:World):Pb 314 #[.string s] w (.bool (digs s.data.toList)):=by
 have k0:∀W,(Instr.index 9 (.string s) (.int .i64 0)).run prog W=.ok (.int .u8 s[0].toNat) W:=Je2 s 0 h0;cases hd:digs s.data.toList with
 | true =>
  have C:=Pe (fun w=>allDigits_yes s hs hd w);clear hd;go_enter func314,ntmps314;go_wp2_with (go_at_call 327;refine Pf (C.out _) ?_);exact Yy
 | false =>
  have C:=Pe (fun w=>allDigits_no s hs hd w);clear hd;go_enter func314,ntmps314;go_wp2_with (go_at_call 327;refine Pf (C.out _) ?_);exact Yy
theorem Jeu (l:List UInt8) (hs:l.length≤70000) (w:World):Pb 314 #[.string (str l)] w (.bool (nat l)):=by
 by_cases h1:l=[48]
 ·subst h1;exact Jk6 w
 ·cases l with
  | nil=>exact Jq2 w
  | cons c r =>
   have hz:=Jao (c::r);have a1:=Qan (c::r) [48] h1;have a2:=Qdr (c::r) Kj;have a0:0<(str (c::r)).size:=by rw [hz];simp
   have e:(str (c::r))[0]=c:=rfl;by_cases hc:c=48
   ·subst hc
    have:=Jo8 (str (48::r)) a1 a2 a0 (by rw [e];rfl) w;rw [show nat (48::r)=false by simpa [nat] using h1];exact this
   ·have:=Jo9 (str (c::r)) Kd a1 a2 a0 (by
     rw [e];refine Jaf fun h=>hc (UInt8.toNat_inj.1 ?_)
     have e48:(48:UInt8).toNat=48:=rfl;omega) w
    rw [show nat (c::r)=digs (c::r) by
     have:(c::r==[48])=false:=by simpa using h1
     unfold nat;rw [this];simp [hc]]
    exact this
def cod (k:Nat):UInt8:=UInt8.ofNat (48+k % 10)
theorem Qds (N:Nat) (h:N≤9223372036854775808):(Lib.decDigits N).length≤19:=J7s N 19 Kl (Nat.lt_of_le_of_lt h Kl)
def buf (l:List UInt8):Array Value:=(List.replicate (20 - l.length) (Value.int .u8 0)++l.map fun c=>Value.int .u8 c.toNat).toArray
theorem Jk7 (l:List UInt8) (g:Nat) (h:g+1+l.length=20):(buf l)[g]?=some (.int .u8 0):=by
 unfold buf;simp only [List.getElem?_toArray];rw [List.getElem?_append_left Ke,List.getElem?_replicate,if_pos Kd]
theorem Jhl (l:List UInt8) (g:Nat) (h:g+1+l.length=20) (c:UInt8) (v:Int) (hv:v=(c.toNat:Int)):(buf l).setIfInBounds g (.int .u8 v)=buf (c::l):=by
 subst hv;apply Array.ext_getElem?;intro i;rw [Array.getElem?_setIfInBounds];unfold buf;have e:20 - l.length=g+1:=Kd;have e2:20 - (c::l).length=g:=Ke;rw [e,e2];simp only [List.getElem?_toArray,List.map_cons,List.size_toArray];by_cases hi:g=i
 ·subst hi
  rw [if_pos rfl,if_pos Ke,List.getElem?_append_right Kj];simp
 ·rw [if_neg hi]
  by_cases hlt:i<g
  ·rw [List.getElem?_append_left Ke,List.getElem?_append_left Ke]
   simp [List.getElem?_replicate,hlt];omega
  ·obtain⟨j,rfl⟩:∃j,i=g+1+j:=⟨i - (g+1),Kd⟩
   rw [List.getElem?_append_right Kj,List.getElem?_append_right Ke];simp;rw [show g+1+j - g=j+1 by omega];simp
theorem J4j (l:List UInt8) (g i:Nat) (h:g+l.length=20) (hi:i<l.length):(buf l)[g+i]?=some (.int .u8 ((l.map fun c=>(c.toNat:Int)).getD i 0)):=by
 unfold buf;simp only [List.getElem?_toArray];rw [List.getElem?_append_right Ke];simp;rw [show g+i - (20 - l.length)=i by omega];simp [List.getElem?_eq_getElem hi]
theorem Jgp (b g m:Nat) (h:g+m=20) (hm:0<m) (W:World):(Instr.sliceAt 224 (.pointer (some ⟨b,0,none⟩)) (some (.int .i64 g)) none none).run prog W=.ok (.slice (some ⟨b,g,none⟩) m m) W:=by
 have ha:prog.arrayLen 224=20:=Kk;rw [run_sliceAt_array_l W 224 ⟨b,0,none⟩ Kk .i64 g Kd (by rw [ha];omega)];obtain rfl:m=20 - g:=Kd;have he:prog.elem 224=5:=Kk;rw [ha,he];simp [slicedAt,go_sem,Addr.add];rw [if_neg Kd];split
 ·next h0=>rw [h0]
 ·rfl
theorem Jie (l:List UInt8) (g m:Nat) (h:g+m=20) (hm:m=l.length) (w:World) :
  (convert 155 9 (.slice (some ⟨w.heap.size,g,none⟩) m m)).run prog (w.alloc (.cells (buf l) 224))=.ok (.string (str l)) (w.alloc (.cells (buf l) 224)):=by
 subst hm;rw [run_convert_bytes_arg (P:=prog) _ 155 5 underlying155 underlying5 w.heap.size g l.length l.length (l.map fun c=>(c.toNat:Int)) Kj (by
  intro i hi;rw [World.cell?_alloc_at _ _ _ _ rfl];exact J4j l g i h hi) 9 underlying9]
 congr 2
 simp [strOfNums,Function.comp_def]
theorem Jgq (w:World) (l:List UInt8):Pn w (w.alloc (.cells (buf l) 224)):=(Below.refl _ _).alloc Ph _
def J (n:Int) (N:Nat) (w:World) (a':Act) (w':World):Prop:=∃(r f:Nat) (l:List UInt8) (u6 u7 u8 u9 u10 u11 u12 u13 u14 u15 u16 u17 u18 u19 u20 u21 u22 u23:Value),w'=w.alloc (.cells (buf l) 224)∧a'={ tmps:=#[.int .i64 n,undef,.string ⟨#[]⟩,.int .u64 r,.pointer (some ⟨w.heap.size,0,none⟩),.int .i64 f,u6,u7,u8,u9,u10,u11,u12,u13,u14,u15,u16,u17,u18,u19,u20,u21,u22,u23,undef,undef,undef,undef,undef,undef,undef,undef,undef],defers:=[] }∧f+l.length=20∧0<r∧r≤9223372036854775808∧Hid (Lib.decDigits r++l=Lib.decDigits N)
theorem Jif (r N:Nat) (l:List UInt8) (h:0<r / 10) (he:Lib.decDigits r++l=Lib.decDigits N):Lib.decDigits (r / 10)++cod r::l=Lib.decDigits N:=by
 rw [←he,Jjf r Kd];simp [cod]
theorem Jig (r N:Nat) (l:List UInt8) (h:r / 10=0) (he:Lib.decDigits r++l=Lib.decDigits N):cod r::l=Lib.decDigits N:=by
 rw [←he,Lib.decDigits_one Kd];unfold cod;rw [show r % 10=r by omega];rfl
theorem room (r N:Nat) (l:List UInt8) (h19:(Lib.decDigits N).length≤19) (he:Lib.decDigits r++l=Lib.decDigits N):l.length≤18:=by
 have h1:=congrArg List.length he;obtain⟨c,q,e,_⟩:=Jid (Jo5 r);rw [e] at h1;simp at h1;omega
theorem Qao (n:Int) (N:Nat) (hn:n=-(N:Int)) (h0:n<0) (h1:-9223372036854775808≤n):IntKind.u64.wrap (-IntKind.u64.wrap n)=(N:Int):=by
 simp [IntKind.wrap,IntKind.signed,IntKind.bits];omega
theorem Jmj (r:Nat):(48+(r:Int) % 10)=((cod r).toNat:Int):=by
 unfold cod;rw [ofNat_toNat _ Kd];omega
theorem Qdt:(#[.int .u8 0,.int .u8 0,.int .u8 0,.int .u8 0,.int .u8 0,.int .u8 0,.int .u8 0,.int .u8 0,.int .u8 0,.int .u8 0,.int .u8 0,.int .u8 0,.int .u8 0,.int .u8 0,.int .u8 0,.int .u8 0,.int .u8 0,.int .u8 0,.int .u8 0,.int .u8 0]:Array Value)=buf []:=rfl
theorem Jvo (n:Int) (N:Nat) (hn:n=(N:Int)) (h0:0≤n) (h1:n≤9223372036854775807) (w:World):Pc 135 #[.int .i64 n] w (.string (str (Lib.decDigits N))):=by
 have HN:=Pe hn;have H19:=Pe (Qds N Kd);have d0:decide ((N:Int)<0)=false:=Kj;subst hn;go_enter func135,ntmps135;go_wp2;refine wp_scope_jumps 0 (J N N w) (fun a' _=>(intOf (a'.tmps.getD 3 undef)).toNat) rfl ?_ ?_
 ·have E:=Jhl [] 19 rfl (cod N) (48+(N:Int) % 10) (Jmj N)
  have k:=Jk7 [] 19 rfl;go_wp2;rw [Qdt];by_cases hr:0<(N:Int) / 10
  ·have P:=Pe (Jif N N [] Kd Kj)
   go_step3
   go_wp2
   go_step3
   refine⟨rfl,?_⟩;exact Wk
  ·have hr0:(N:Int) / 10=0:=Kd
   have L:=Pe (Jig N N [] (by have:=HN.out;omega) Kj);have S:=fun W=>Jgp w.heap.size 19 1 Kl Kl W
   have C:=Jie (cod N::[]) 19 1 Kl Kj w;clear hr0;go_step3;go_wp2
   exact Wh
 ·rintro a' w' ⟨r,f,l,u6,u7,u8,u9,u10,u11,u12,u13,u14,u15,u16,u17,u18,u19,u20,u21,u22,u23,rfl,rfl,hf,r0,r1,he⟩
  have hle:=room r N l H19.out he.out;obtain⟨g,rfl⟩:∃g,f=g+1:=⟨f - 1,Kd⟩;have k:=Jk7 l g hf;have E:=Jhl l g hf (cod r) (48+(r:Int) % 10) (Jmj r);by_cases hr:0<(r:Int) / 10
  ·have P:=Pe (Jif r N l Kd he.out)
   go_wp2
   go_step3
   refine⟨rfl,⟨r / 10,g,cod r::l,_,_,_,_,_,_,_,_,_,_,_,_,_,_,_,_,_,_,rfl,rfl,Wj,Kd,Kd,P⟩,?_⟩;exact Qz
  ·have hr0:r / 10=0:=Kd
   obtain⟨m,hm⟩:∃m,m=l.length+1:=⟨_,rfl⟩;have L:=Pe (Jig r N l Kd he.out);have S:=fun W=>Jgp w.heap.size g m Kd Kd W
   have C:=Jie (cod r::l) g m Kd Wj w;clear hr0 hm;go_wp2;exact Wh
theorem Jvp (n:Int) (N:Nat) (hn:n=-(N:Int)) (h0:n<0) (h1:-9223372036854775808≤n) (w:World):Pc 135 #[.int .i64 n] w (.string (str (45::Lib.decDigits N))):=by
 have HN:=Pe hn;have H19:=Pe (Qds N Kd);have d0:decide (n<0)=true:=Ke;have U:IntKind.u64.wrap (-IntKind.u64.wrap n)=(N:Int):=Qao n N hn h0 h1;have N1:N≤9223372036854775808:=Kd;have N0:0<N:=Kd;clear hn;go_enter func135,ntmps135;go_wp2;refine wp_scope_jumps 0 (J n N w) (fun a' _=>(intOf (a'.tmps.getD 3 undef)).toNat) rfl ?_ ?_
 ·have E:=Jhl [] 19 rfl (cod N) (48+(N:Int) % 10) (Jmj N)
  have k:=Jk7 [] 19 rfl;go_wp2;rw [Qdt];by_cases hr:0<(N:Int) / 10
  ·have P:=Pe (Jif N N [] Kd Kj)
   go_step3
   go_wp2
   go_step3
   refine⟨rfl,?_⟩;exact Wk
  ·have hr0:(N:Int) / 10=0:=Kd
   have L:=Pe (Jig N N [] (by have:=HN.out;omega) Kj);have k2:=Jk7 (cod N::[]) 18 Kj;have E2:=Jhl (cod N::[]) 18 Kj 45 45 rfl;have S:=fun W=>Jgp w.heap.size 18 2 Kl Kl W
   have C:=Jie (45::cod N::[]) 18 2 Kl Kj w;clear hr0;go_step3;go_wp2
   exact Wh
 ·rintro a' w' ⟨r,f,l,u6,u7,u8,u9,u10,u11,u12,u13,u14,u15,u16,u17,u18,u19,u20,u21,u22,u23,rfl,rfl,hf,r0,r1,he⟩
  have hle:=room r N l H19.out he.out;obtain⟨g,rfl⟩:∃g,f=g+1:=⟨f - 1,Kd⟩;have k:=Jk7 l g hf;have E:=Jhl l g hf (cod r) (48+(r:Int) % 10) (Jmj r);by_cases hr:0<(r:Int) / 10
  ·have P:=Pe (Jif r N l Kd he.out)
   go_wp2
   go_step3
   refine⟨rfl,⟨r / 10,g,cod r::l,_,_,_,_,_,_,_,_,_,_,_,_,_,_,_,_,_,_,rfl,rfl,Wj,Kd,Kd,P⟩,?_⟩;exact Qz
  ·have hr0:r / 10=0:=Kd
   obtain⟨h,rfl⟩:∃h,g=h+1:=⟨g - 1,Kd⟩;obtain⟨m,hm⟩:∃m,m=l.length+2:=⟨_,rfl⟩;have L:=Pe (Jig r N l Kd he.out);have k2:=Jk7 (cod r::l) h Wj;have E2:=Jhl (cod r::l) h Wj 45 45 rfl;have S:=fun W=>Jgp w.heap.size h m Kd Kd W
   have C:=Jie (45::cod r::l) h m Kd Wj w;clear hr0 hm;go_wp2;exact Wh
theorem format_any (n:Int) (h0:-9223372036854775808≤n) (h1:n≤9223372036854775807) (w:World):Pc 135 #[.int .i64 n] w (.string (str (Lib.itoa n))):=by
 by_cases h:n<0
 ·rw [Jmh n h]
  exact Jvp n n.natAbs Kd h h0 w
 ·rw [Jgo n Kd]
  exact Jvo n n.toNat Kd Kd h1 w
theorem Jq3 {w w':World} (h:w'=w∨∃t,w'=Lib.bytesWorld w 5 t):Pn w w':=by
 rcases h with rfl | ⟨t,rfl⟩
 ·exact Pg
 ·exact Lib.bytesWorld_below _ _ _
theorem Qap (l:List UInt8) (hs:l.length≤70000) (h:formed l=true) (k:fits (sgn l)=true) (w:World) :
  Pc 316 #[.string (str l)] w (.tuple #[.int .i64 (sgn l),.nilIface]):=by
 have hz:=Jao l;refine (Tryz.strconv_Atoi_ok (str l) Kd (sgn l) (by rw [show (str l).data.toList=l from rfl,Jje l h,if_pos k]) w).mono ?_;rintro e w' ⟨rfl,h⟩;exact⟨rfl,Jq3 h⟩
def Qdu (w:World) (e:Ending) (w':World):Prop:=∃v a,e=.returned (.tuple #[.int .i64 v,.iface 301 (.pointer (some a))])∧Pn w w'
theorem Jvq (l:List UInt8) (hs:l.length≤70000) (h:formed l=true) (k:fits (sgn l)=false) (w:World) (hg:Good w) :
  Calls prog 316 #[.string (str l)] w (Qdu w):=by
 have hz:=Jao l;obtain⟨tp,p,hv⟩:=hg;refine (Tryz.strconv_Atoi_range_var (str l) Kd (by rw [show (str l).data.toList=l from rfl,Jje l h,if_neg (by simp [k])]) tp p w hv).mono ?_;rintro e w' ⟨N,rfl,_,_,b⟩;exact⟨_,_,rfl,b⟩
theorem Jih (l:List UInt8) (w:World):Calls prog 315 #[.string (str l),.string (str [45])] w fun e w'=>e=.returned (.string (str (body l)))∧w=w' :=
 (Tryz.strings_TrimPrefix (str l) (str [45]) w).mono fun _ _ ⟨he,hw⟩=>⟨he,hw.symm⟩
theorem Jmk (l:List UInt8):(body l).length≤l.length:=by
 cases h:neg l with
 | true =>
  have e:=Jo3 l h;have:=congrArg List.length e;exact Qy
 | false=>rw [Jgm l h];omega
theorem J0e (l:List UInt8) (hs:l.length≤70000) (h:nat (body l)=false) (w:World):Pb 250 #[.string (str l)] w (.tuple #[.int .i64 0,.int .i64 3]):=by
 have T:=Pe (fun w=>Jih l w);have N:=Pe (fun w=>Jeu (body l) (Nat.le_trans (Jmk l) hs) w);rw [h] at N;clear h;go_enter func250,ntmps250;go_wp2_with (first | (go_at_call 315;refine Pf (T.out _) ?_) | (go_at_call 314;refine Pf (N.out _) ?_));exact Y2
theorem Jvr (w:World):Pb 250 #[.string (str [45,48])] w (.tuple #[.int .i64 0,.int .i64 3]):=by
 have T:=Pe (fun w=>Jih [45,48] w);rw [show body [45,48]=[48] from rfl] at T;have N:=Pe (fun w=>Jk6 w);go_enter func250,ntmps250;go_wp2_with (first | (go_at_call 315;refine Pf (T.out _) ?_) | (go_at_call 314;refine Pf (N.out _) ?_));exact Y2
theorem J4k (l:List UInt8) (hs:l.length≤70000) (h:nat (body l)=true) (h2:l≠[45,48]) (hf:formed l=true) (k:fits (sgn l)=true) (w:World):Pc 250 #[.string (str l)] w (.tuple #[.int .i64 (sgn l),.int .i64 0]):=by
 have T:=Pe (fun w=>Jih l w);have N:=Pe (fun w=>Jeu (body l) (Nat.le_trans (Jmk l) hs) w);rw [h] at N;have A:=Pe (fun w=>Qap l hs hf k w);have q:=Qan l [45,48] h2;generalize hL:sgn l=v at A ⊢;generalize str l=s at *;clear h hf k h2 hL hs;go_enter func250,ntmps250;go_wp2_with (first | (go_at_call 315;refine Pf (T.out _) ?_) | (go_at_call 314;refine Pf (N.out _) ?_) | (go_at_call 316;refine (A.out _).mono ?_;rintro e w1 ⟨rfl,b1⟩));exact Wi
theorem Jq4 (l:List UInt8) (hs:l.length≤70000) (h:nat (body l)=true) (h2:l≠[45,48]) (hf:formed l=true) (k:fits (sgn l)=false) (w:World) (hg:Good w):Pc 250 #[.string (str l)] w (.tuple #[.int .i64 0,.int .i64 2]):=by
 have T:=Pe (fun w=>Jih l w);have N:=Pe (fun w=>Jeu (body l) (Nat.le_trans (Jmk l) hs) w);rw [h] at N;have A:=Pe (Jvq l hs hf k w hg);have q:=Qan l [45,48] h2;generalize str l=s at *;clear h hf k h2 hs;go_enter func250,ntmps250;go_wp2_with (first | (go_at_call 315;refine Pf (T.out _) ?_) | (go_at_call 314;refine Pf (N.out _) ?_) | (go_at_call 316;refine A.out.mono ?_;rintro e w1 ⟨v,a,rfl,b1⟩));exact Wi
theorem Jpa {l:List UInt8} (h:formed l=true):nat (body l)=true∧l≠[45,48]:=by
 unfold formed at h;rw [Bool.and_eq_true] at h;exact⟨h.1,by simpa using h.2⟩
theorem parse_any (l:List UInt8) (hs:l.length≤70000) (w:World) (hg:Good w):Pc 250 #[.string (str l)] w (.tuple #[.int .i64 ((numR l).1),.int .i64 ((numR l).2)]):=by
 cases hf:formed l with
 | false =>
  rw [Jq0 hf];cases hn:nat (body l) with
  | false=>exact Jpx (J0e l hs hn w)
  | true =>
   have:l=[45,48]:=by unfold formed at hf;rw [hn] at hf;simpa using hf
   subst this;exact Jpx (Jvr w)
 | true =>
  obtain⟨h1,h2⟩:=Jpa hf;cases k:fits (sgn l) with
  | true=>rw [Jqz hf k];exact J4k l hs h1 h2 hf k w
  | false=>rw [Jk4 hf k];exact Jq4 l hs h1 h2 hf k w hg
def rngR (l:List UInt8) (lo hi:Int):Int×Int:=if (numR l).2=0 then (if lo≤(numR l).1∧(numR l).1≤hi then ((numR l).1,0) else (0,2)) else (0,(numR l).2)
theorem J4l (l:List UInt8):(numR l).2=0∨(numR l).2=2∨(numR l).2=3:=by
 unfold numR;split
 ·split
  ·exact Or.inl rfl
  ·exact Or.inr (Or.inl rfl)
 ·exact Or.inr (Or.inr rfl)
theorem Jvs (l:List UInt8) (lo hi n c:Int) (w:World) (C:∀w:World,Good w→Pc 250 #[.string (str l)] w (.tuple #[.int .i64 n,.int .i64 c])) (hc:(c != 0)=true) (hg:Good w):Pc 328 #[.string (str l),.int .i64 lo,.int .i64 hi] w (.tuple #[.int .i64 0,.int .i64 c]):=by
 have P:=Pe (C w hg);clear C;generalize str l=s at *;go_enter func328,ntmps328;go_wp2_with (go_at_call 250;refine P.out.mono ?_;rintro e w1 ⟨rfl,b1⟩);exact Wi
theorem J0f (l:List UInt8) (lo hi n:Int) (w:World) (C:∀w:World,Good w→Pc 250 #[.string (str l)] w (.tuple #[.int .i64 n,.int .i64 0])) (h0:lo≤n) (h1:n≤hi) (hg:Good w):Pc 328 #[.string (str l),.int .i64 lo,.int .i64 hi] w (.tuple #[.int .i64 n,.int .i64 0]):=by
 have P:=Pe (C w hg);clear C;generalize str l=s at *;go_enter func328,ntmps328;go_wp2_with (go_at_call 250;refine P.out.mono ?_;rintro e w1 ⟨rfl,b1⟩);refine (Jfv _ _ _).mono ?_;rintro e w' ⟨rfl,rfl⟩;go_wp2_with fail;refine Pf (Jk5 _ _ _ h0 h1 _) ?_;go_wp2_with fail;go_ret2;exact⟨rfl,Jt0 b1 _ _⟩
theorem Jvt (l:List UInt8) (lo hi n:Int) (w:World) (C:∀w:World,Good w→Pc 250 #[.string (str l)] w (.tuple #[.int .i64 n,.int .i64 0])) (h:n<lo∨hi<n) (hg:Good w):Pc 328 #[.string (str l),.int .i64 lo,.int .i64 hi] w (.tuple #[.int .i64 0,.int .i64 2]):=by
 have P:=Pe (C w hg);have H:=Pe h;clear C h;generalize str l=s at *;go_enter func328,ntmps328;go_wp2_with (go_at_call 250;refine P.out.mono ?_;rintro e w1 ⟨rfl,b1⟩);refine (Jfv _ _ _).mono ?_;rintro e w' ⟨rfl,rfl⟩;go_wp2_with fail;refine Pf (J0d _ _ _ H.out _) ?_;go_wp2_with fail;go_ret2;exact⟨rfl,Jt0 b1 _ _⟩
theorem Jvu (l:List UInt8) (hs:l.length≤70000) (lo hi:Int) (w:World) (hg:Good w):Pc 328 #[.string (str l),.int .i64 lo,.int .i64 hi] w (.tuple #[.int .i64 ((rngR l lo hi).1),.int .i64 ((rngR l lo hi).2)]):=by
 have C:=fun w hg=>parse_any l hs w hg
 have hb:=J4l l;unfold rngR;generalize numR l=r at C hb ⊢;obtain⟨n,c⟩:=r;by_cases h0:c=0
 ·subst h0
  rw [if_pos rfl];by_cases h1:lo≤n∧n≤hi
  ·rw [if_pos h1];exact J0f l lo hi n w C h1.1 h1.2 hg
  ·rw [if_neg h1];exact Jvt l lo hi n w C Kd hg
 ·rw [if_neg h0]
  exact Jvs l lo hi n c w C (Jaf h0) hg
theorem J4m (s:ByteArray) (k:Nat) (hk:k≤s.size) (h:¬k<s.size):s.data.toList.take k=s.data.toList:=List.take_of_length_le Ke
def Jdx (c:UInt8):Bool:=c != 46
def bef (l:List UInt8):List UInt8:=l.takeWhile Jdx
def beh (l:List UInt8):List UInt8:=(l.dropWhile Jdx).drop 1
def Jey (l:List UInt8):Bool:=nat (bef l)&&((beh l).length==2&&digs (beh l))
def worth (l:List UInt8):Nat:=valN (bef l)*100+valN (beh l)
def Jcw (l:List UInt8):Int×Int:=if Jey l then (if worth l≤1000000 then ((worth l:Int),0) else (0,2)) else (0,3)
def Jce (c:Nat):List UInt8:=Lib.decDigits (c / 100)++46::two ((c % 100:Nat):Int)
theorem bef_at (l:List UInt8) (pos:Nat) (h:(l.take pos).all Jdx=true) (hc:l[pos]?=some 46):bef l=l.take pos∧beh l=l.drop (pos+1):=by
 have e:l=l.take pos++46::l.drop (pos+1):=by
  have hp:pos<l.length:=(Pl hc).1;have h1:l.drop pos=46::l.drop (pos+1):=by
   rw [List.drop_eq_getElem_cons hp];rw [List.getElem?_eq_getElem hp] at hc;rw [Po hc]
  rw [←h1,List.take_append_drop]
 rw [List.all_eq_true] at h;unfold bef beh;constructor
 ·conv=>lhs;rw [e]
  rw [List.takeWhile_append_of_pos h];simp [Jdx]
 ·conv=>lhs;rw [e]
  rw [List.dropWhile_append_of_pos h];simp [Jdx]
theorem J4n (l:List UInt8) (h:l.all Jdx=true):bef l=l∧beh l=[]:=by
 rw [List.all_eq_true] at h;unfold bef beh;have h1:=List.takeWhile_append_of_pos (l₂:=[]) h;have h2:=List.dropWhile_append_of_pos (l₂:=[]) h;rw [List.append_nil] at h1 h2;exact⟨by rw [h1];simp,by rw [h2];rfl⟩
theorem Jq5 {l:List UInt8} (h:digs l=true):l.all Jdx=true:=by
 unfold digs at h;rw [List.all_eq_true] at *;intro c hc;have:=(Jcj c).1 (h c hc);unfold Jdx;rw [bne_iff_ne];intro e;subst e;simp at this
theorem J4o (a b:List UInt8) (h:digs a=true):bef (a++46::b)=a∧beh (a++46::b)=b:=by
 have h1:=Jq5 h;have:=bef_at (a++46::b) a.length (by rw [List.take_left'];exact h1;rfl) Kj;rw [List.take_left' rfl] at this;refine⟨this.1,this.2.trans ?_⟩;rw [List.drop_append];simp
theorem Jpb {l:List UInt8} (h:Jey l=true):nat (bef l)=true∧(beh l).length=2∧digs (beh l)=true:=by
 unfold Jey at h;rw [Bool.and_eq_true,Bool.and_eq_true] at h;exact⟨h.1,by simpa using h.2.1,h.2.2⟩
theorem Qaq {l:List UInt8} (h:Jey l=true):∃a b,beh l=[a,b]∧dig a=true∧dig b=true:=by
 obtain⟨_,h2,h3⟩:=Jpb h;match hb:beh l,h2 with
 | [a,b],_ =>
  rw [hb] at h3;simp [digs] at h3;exact⟨a,b,rfl,h3.1,h3.2⟩
theorem Jvv (c:Nat):Jey (Jce c)=true∧worth (Jce c)=c:=by
 obtain⟨e1,e2⟩:=J4o (Lib.decDigits (c / 100)) (two ((c % 100:Nat):Int)) (J0a _);have hd:=Jfz ((c % 100:Nat):Int) Kd;have hv:=Jdq ((c % 100:Nat):Int) Kd;unfold Jey worth Jce;rw [e1,e2,Jo5,hd,J0b,hv];refine⟨by simp [Jli],Kd⟩
theorem Jjg (c:Nat) (h:c≤1000000):Jcw (Jce c)=((c:Int),0):=by
 obtain⟨h1,h2⟩:=Jvv c;unfold Jcw;rw [if_pos h1,h2,if_pos h]
theorem J0g (c:Nat):str (Lib.decDigits (c / 100))++str [46]++str [cod (c % 100 / 10)]++str [cod (c % 10)]=str (Jce c):=by
 rw [Je3,Je3,Je3];unfold Jce two cod;rw [show (48+c % 100 / 10 % 10)=48+((c % 100:Nat):Int).toNat / 10 by omega,show (48+c % 10 % 10)=48+((c % 100:Nat):Int).toNat % 10 by omega];simp
theorem Jt1 (c:Nat) (x:Int) (hx:x=(c:Int)):Lib.itoa x=Lib.decDigits c:=by
 rw [Jgo x Kd,hx];rfl
theorem Jk8 (c:Nat) (x:Int) (hx:x=(c:Int)) (h:c<10):Lib.itoa x=[cod c]:=by
 rw [Jt1 c x hx,Lib.decDigits_one h];unfold cod;rw [show c % 10=c by omega]
theorem fprice_yes (n:Int) (c:Nat) (hn:n=(c:Int)) (h:n≤1000000) (w:World):Pc 225 #[.int .i64 n] w (.tuple #[.string (str (Jce c)),.int .i64 0]):=by
 have h0:0≤n:=Kd;have A:=Pe (fun w=>format_any (n / 100) Kd Kd w);have B:=Pe (fun w=>format_any (n % 100 / 10) Kd Kd w);have C:=Pe (fun w=>format_any (n % 10) Kd Kd w);rw [Jt1 (c / 100) _ Kd] at A;rw [Jk8 (c % 100 / 10) _ Kd Kd] at B;rw [Jk8 (c % 10) _ Kd Kd] at C;have hl:=J7s (c / 100) 5 Kl Kd;have hl1:=Jao (Lib.decDigits (c / 100));have E:=Pe (J0g c);clear hn;go_enter func225,ntmps225;go_wp2_with fail;refine (Jfv _ _ _).mono ?_;rintro e w' ⟨rfl,rfl⟩;go_wp2_with fail;refine Pf (Jk5 _ _ _ Kd Kd _) ?_;go_wp2_with fail
 (with_reducible refine (rel (W:=w) (A.out _) (Jo7 _ _ _)).mono ?_)
 rintro e w1 ⟨rfl,b1⟩;go_wp2_with fail
 (with_reducible refine (rel (W:=w) (B.out _) b1).mono ?_)
 rintro e w2 ⟨rfl,b2⟩;go_wp2_with fail
 (with_reducible refine (rel (W:=w) (C.out _) b2).mono ?_)
 rintro e w3 ⟨rfl,b3⟩;go_wp2_with fail;go_ret2;exact⟨Jwq E.out,b3⟩
theorem Jpc (w:World) (s:ByteArray) (pos:Nat) (h:pos<s.size) (ha:s[pos].toNat<128) (ty:TypeId):(Instr.next (.pointer (some ⟨w.heap.size,0,none⟩)) true ty).run prog (w.iter s pos)=.ok (.tuple #[.bool true,.int .i64 pos,.int .i32 s[pos].toNat]) (w.iter s (pos+1)):=run_next_ascii w s pos ty h ha
theorem J7t {a b c d:ByteArray} (h:a=c) (k:b=d):Ending.returned (.tuple #[.string a,.string b])=.returned (.tuple #[.string c,.string d]):=Qk
theorem Qar (l:List UInt8) (hs:l.length≤70000) (w:World):Pc 326 #[.string (str l)] w (.tuple #[.string (str (bef l)),.string (str (beh l))]):=by
 have hz:=Jao l;have hs':(str l).size≤70000:=Kd;have HL:=Pe (show (str l).data.toList=l from rfl);have K1:=Pe (fun (pos:Nat) (hp:pos≤l.length) W=>Jws l pos hp _ rfl pos rfl W);have K2:=Pe (fun (pos:Nat) (hp:pos+1≤l.length) W=>Jwt l (pos+1) hp _ rfl ((pos:Int)+1) Kd W);have HZ:=Pe hz;clear hz;generalize hL:str l=s at *;clear hL;go_enter func326,ntmps326;go_wp2;go_loopw [] (fun w'=>∃pos:Nat,w'=w.iter s pos∧pos≤s.size∧Hid ((s.data.toList.take pos).all Jdx=true)) (fun w'=>s.size - w'.iterPos w.heap.size)
 case atStart=>exact⟨0,rfl,Nat.zero_le _,Pe rfl⟩
 case round =>
  obtain⟨pos,rfl,hle,ht⟩:=hrel;by_cases hp:pos<s.size
  ·by_cases ha:s[pos].toNat<128
   ·have hnx:=Jpc w s pos hp ha
    by_cases hc:s[pos].toNat=46
    ·have hB:bef l=l.take pos∧beh l=l.drop (pos+1):=by
      have h1:=ht.out;rw [HL.out] at h1;refine bef_at l pos h1 ?_;have:=Jd8 s pos hp;rw [HL.out] at this;rw [this,show s[pos]=46 from UInt8.toNat_inj.1 hc]
     have k1:=K1.out pos (by have:=HZ.out;omega);have k2:=K2.out pos (by have:=HZ.out;omega);have q:((s[pos].toNat:Int)==46)=true:=Jai Kd;have HB:=Pe hB;clear hB hc ht;go_wp2;go_quiet (fail)
     go_wp2
     go_ret2;exact⟨J7t (by rw [HB.out.1]) (by rw [HB.out.2]),Jac (Ja6 _ _ _) _⟩
    ·have q:((s[pos].toNat:Int)==46)=false:=Jaa Kd
     have hst:Hid ((s.data.toList.take (pos+1)).all Jdx=true):=Pe (by
      rw [Jfy s pos hp,List.all_append,ht.out];simp [Jdx];intro e;rw [e] at hc;exact hc rfl)
     go_wp2
     go_roundw
     case rel=>exact⟨pos+1,rfl,Kd,hst⟩
     case measure=>exact Ke
   ·have hh:=decode_high s pos hp Kd
    have hi:=Jz8 s pos hp;have hst:Hid ((s.data.toList.take (pos+(Utf8.decode s pos).2)).all Jdx=true):=Pe (Jo2 Jdx (fun c hc=>by
     unfold Jdx;rw [bne_iff_ne];intro e;subst e;simp at hc) s pos hp Kd ht.out)
    have q:(((Utf8.decode s pos).1:Int)==46)=false:=Jaa Kd;have hnx:∀ty,(Instr.next (.pointer (some ⟨w.heap.size,0,none⟩)) true ty).run prog (w.iter s pos)=_:=fun ty=>run_next_any w s pos ty hp
    go_wp2
    go_roundw
    case rel=>exact⟨pos+(Utf8.decode s pos).2,rfl,hi,hst⟩
    case measure=>exact Ke
  ·have hnx:∀ty,(Instr.next (.pointer (some ⟨w.heap.size,0,none⟩)) true ty).run prog (w.iter s pos)=_:=fun ty=>run_next_end w s pos ty hp
   have hB:=J4n l (by
    have h1:=ht.out;rwa [J4m s pos hle hp,HL.out] at h1)
   have E:s=str l:=Qdq s l HL.out;have HB:=Pe hB;have HE:=Pe E;clear hB ht E;go_wp2;go_ret2;exact⟨J7t (by rw [HB.out.1,HE.out]) (by rw [HB.out.2]),Ja6 _ _ _⟩
theorem Qdv (s s1 s2:ByteArray) (C:Hid (∀w:World,Pc 326 #[.string s] w (.tuple #[.string s1,.string s2]))) (N:Hid (∀w:World,Pb 314 #[.string s1] w (.bool false))) (w:World):Pc 256 #[.string s] w (.tuple #[.int .i64 0,.int .i64 3]):=by
 go_enter func256,ntmps256;go_wp2_with (first | (go_at_call 326;refine (C.out _).mono ?_;rintro e w1 ⟨rfl,b1⟩) | (go_at_call 314;refine Pf (N.out _) ?_));exact Wi
theorem Qdw (s s1 s2:ByteArray) (C:Hid (∀w:World,Pc 326 #[.string s] w (.tuple #[.string s1,.string s2]))) (N:Hid (∀w:World,Pb 314 #[.string s1] w (.bool true))) (h:((s2.size:Int) != 2)=true) (w:World):Pc 256 #[.string s] w (.tuple #[.int .i64 0,.int .i64 3]):=by
 go_enter func256,ntmps256;go_wp2_with (first | (go_at_call 326;refine (C.out _).mono ?_;rintro e w1 ⟨rfl,b1⟩) | (go_at_call 314;refine Pf (N.out _) ?_));exact Wi
theorem Qas (s s1 s2:ByteArray) (C:Hid (∀w:World,Pc 326 #[.string s] w (.tuple #[.string s1,.string s2]))) (N:Hid (∀w:World,Pb 314 #[.string s1] w (.bool true))) (h:((s2.size:Int) != 2)=false) (D:Hid (∀w:World,Pb 327 #[.string s2] w (.bool false))) (w:World):Pc 256 #[.string s] w (.tuple #[.int .i64 0,.int .i64 3]):=by
 go_enter func256,ntmps256;go_wp2_with (first | (go_at_call 326;refine (C.out _).mono ?_;rintro e w1 ⟨rfl,b1⟩) | (go_at_call 314;refine Pf (N.out _) ?_) | (go_at_call 327;refine Pf (D.out _) ?_));exact Wi
theorem Qdx (s s1 s2:ByteArray) (C:Hid (∀w:World,Pc 326 #[.string s] w (.tuple #[.string s1,.string s2]))) (N:Hid (∀w:World,Pb 314 #[.string s1] w (.bool true))) (h:((s2.size:Int) != 2)=false) (D:Hid (∀w:World,Pb 327 #[.string s2] w (.bool true))) (R:Hid (∀w:World,Good w→Pc 328 #[.string s1,.int .i64 0,.int .i64 10000] w (.tuple #[.int .i64 0,.int .i64 2]))) (w:World) (hg:Good w):Pc 256 #[.string s] w (.tuple #[.int .i64 0,.int .i64 2]):=by
 go_enter func256,ntmps256;go_wp2_with (first | (go_at_call 326;refine (C.out _).mono ?_;rintro e w1 ⟨rfl,b1⟩) | (go_at_call 314;refine Pf (N.out _) ?_) | (go_at_call 327;refine Pf (D.out _) ?_) | (go_at_call 328;refine (rel (W:=w) (R.out _ (hg.below b1)) b1).mono ?_;rintro e w2 ⟨rfl,b2⟩));go_ret2;exact⟨rfl,b2⟩
theorem Qdy (s s1 s2:ByteArray) (C:Hid (∀w:World,Pc 326 #[.string s] w (.tuple #[.string s1,.string s2]))) (N:Hid (∀w:World,Pb 314 #[.string s1] w (.bool true))) (h:((s2.size:Int) != 2)=false) (D:Hid (∀w:World,Pb 327 #[.string s2] w (.bool true))) (u:Int) (u0:0≤u) (u1:u≤10000) (R:Hid (∀w:World,Good w→Pc 328 #[.string s1,.int .i64 0,.int .i64 10000] w (.tuple #[.int .i64 u,.int .i64 0]))) (a b:UInt8) (a0:48≤a.toNat) (a1:a.toNat≤57) (b0:48≤b.toNat) (b1:b.toNat≤57)
  (ka:∀W,(Instr.index 9 (.string s2) (.int .i64 0)).run prog W=.ok (.int .u8 a.toNat) W) (kb:∀W,(Instr.index 9 (.string s2) (.int .i64 1)).run prog W=.ok (.int .u8 b.toNat) W)
  (n c:Int) (hr:(if u*100+((a.toNat:Int) - 48)*10+((b.toNat:Int) - 48)≤1000000 then (u*100+((a.toNat:Int) - 48)*10+((b.toNat:Int) - 48),(0:Int)) else (0,2))=(n,c)) (w:World) (hg:Good w):Pc 256 #[.string s] w (.tuple #[.int .i64 n,.int .i64 c]):=by
 by_cases hp:u*100+((a.toNat:Int) - 48)*10+((b.toNat:Int) - 48)≤1000000
 ·rw [if_pos hp] at hr
  obtain⟨rfl,rfl⟩:=Prod.mk.inj hr;clear hr;go_enter func256,ntmps256;go_wp2_with (first | (go_at_call 326;refine (C.out _).mono ?_;rintro e w1 ⟨rfl,b1⟩) | (go_at_call 314;refine Pf (N.out _) ?_) | (go_at_call 327;refine Pf (D.out _) ?_) | (go_at_call 328;refine (rel (W:=w) (R.out _ (hg.below b1)) b1).mono ?_;rintro e w2 ⟨rfl,b2⟩));go_quiet (fail)
  go_wp2_with fail;go_ret2;exact⟨rfl,Jac b2 _⟩
 ·rw [if_neg hp] at hr
  obtain⟨rfl,rfl⟩:=Prod.mk.inj hr;clear hr;have hq:1000000<u*100+((a.toNat:Int) - 48)*10+((b.toNat:Int) - 48):=Kd;clear hp;go_enter func256,ntmps256;go_wp2_with (first | (go_at_call 326;refine (C.out _).mono ?_;rintro e w1 ⟨rfl,b1⟩) | (go_at_call 314;refine Pf (N.out _) ?_) | (go_at_call 327;refine Pf (D.out _) ?_) | (go_at_call 328;refine (rel (W:=w) (R.out _ (hg.below b1)) b1).mono ?_;rintro e w2 ⟨rfl,b2⟩));go_quiet (fail)
  go_wp2_with fail;go_ret2;exact⟨rfl,Jac b2 _⟩
theorem Qat (l:List UInt8):(bef l).length≤l.length:=by
 unfold bef;exact (List.takeWhile_sublist _).length_le
theorem Qau (l:List UInt8):(beh l).length≤l.length:=by
 unfold beh;have:=(List.dropWhile_sublist (l:=l) Jdx).length_le;exact Ke
theorem Jvw {b:List UInt8} (h:nat b=true):formed b=true∧sgn b=(valN b:Int):=by
 obtain⟨c,r,rfl,h1,h2⟩:=Jid h;have hc:c≠45:=by intro e;subst e;simp at h1
 have hg:neg (c::r)=false:=by simp [neg,hc]
 have hb:=Jgm (c::r) hg;unfold formed sgn;rw [hb,h,if_neg (by simp [hg])];exact⟨by simp [hc],rfl⟩
theorem Qav {b:List UInt8} (h:nat b=true):numR b=if valN b≤9223372036854775807 then ((valN b:Int),0) else (0,2):=by
 obtain⟨h1,h2⟩:=Jvw h;by_cases hv:valN b≤9223372036854775807
 ·rw [if_pos hv,Jqz h1 (by rw [h2,fits_iff];omega),h2]
 ·rw [if_neg hv,Jk4 h1 (by rw [h2];simp [fits];omega)]
theorem Qaw {b:List UInt8} (h:nat b=true):rngR b 0 10000=if valN b≤10000 then ((valN b:Int),0) else (0,2):=by
 unfold rngR;rw [Qav h];by_cases hv:valN b≤9223372036854775807
 ·rw [if_pos hv]
  simp only [if_true];by_cases h2:valN b≤10000
  ·rw [if_pos h2,if_pos Kd]
  ·rw [if_neg h2,if_neg Kd]
 ·rw [if_neg hv,if_neg Kl,if_neg Kd]
theorem J0h (l:List UInt8) (a b:UInt8) (hb:beh l=[a,b]) (da:dig a=true) (db:dig b=true):(worth l:Int)=(valN (bef l):Int)*100+((a.toNat:Int) - 48)*10+((b.toNat:Int) - 48):=by
 have h1:=(Jcj a).1 da;have h2:=(Jcj b).1 db;unfold worth;rw [hb,J2d];omega
theorem J4p (l:List UInt8) (h:Jey l=true) (a b:UInt8) (hb:beh l=[a,b]) (da:dig a=true) (db:dig b=true) :
  (if (valN (bef l):Int)*100+((a.toNat:Int) - 48)*10+((b.toNat:Int) - 48)≤1000000 then ((valN (bef l):Int)*100+((a.toNat:Int) - 48)*10+((b.toNat:Int) - 48),(0:Int)) else (0,2))=((Jcw l).1,(Jcw l).2):=by
 have e:=J0h l a b hb da db;unfold Jcw;rw [if_pos h,←e];by_cases hw:worth l≤1000000
 ·rw [if_pos hw,if_pos Kd]
 ·rw [if_neg hw,if_neg Kd]
theorem pprice_any (l:List UInt8) (hs:l.length≤69000) (w:World) (hg:Good w):Pc 256 #[.string (str l)] w (.tuple #[.int .i64 ((Jcw l).1),.int .i64 ((Jcw l).2)]):=by
 have h1:=Qat l;have h2:=Qau l;have C:=Pe (fun w=>Qar l Kd w);have N:=Pe (fun w=>Jeu (bef l) Kd w);have D:=Pe (fun w=>Jmi (str (beh l)) K8 w);rw [show (str (beh l)).data.toList=beh l from rfl] at D;have R:=Pe (fun w hg=>Jvu (bef l) Kd 0 10000 w hg);have hz:=Jao (beh l);cases hn:nat (bef l) with
 | false =>
  rw [hn] at N;have e:Jcw l=(0,3):=by unfold Jcw Jey;rw [hn];rfl
  rw [e];exact Qdv _ _ _ C N w
 | true =>
  rw [hn] at N;by_cases hl:(beh l).length=2
  ·have q:(((str (beh l)).size:Int) != 2)=false:=Jal Kd
   cases hd:digs (beh l) with
   | false =>
    rw [hd] at D;have e:Jcw l=(0,3):=by unfold Jcw Jey;rw [hd];simp
    rw [e];exact Qas _ _ _ C N q D w
   | true =>
    rw [hd] at D;have hp:Jey l=true:=by unfold Jey;rw [hn,hd];simp [hl]
    obtain⟨a,b,hb,da,db⟩:=Qaq hp;have e:=J4p l hp a b hb da db;rw [Qaw hn] at R;by_cases hv:valN (bef l)≤10000
    ·rw [if_pos hv] at R
     have d1:=(Jcj a).1 da;have d2:=(Jcj b).1 db;exact Qdy _ _ _ C N q D (valN (bef l):Int) Kd Kd R a b d1.1 d1.2 d2.1 d2.2 (fun W=>Jwr (beh l) 0 a (by rw [hb];rfl) 0 rfl W) (fun W=>Jwr (beh l) 1 b (by rw [hb];rfl) 1 rfl W) _ _ e w hg
    ·rw [if_neg hv] at R
     have hw:¬worth l≤1000000:=by unfold worth;omega
     have e:Jcw l=(0,2):=by unfold Jcw;rw [if_pos hp,if_neg hw]
     rw [e];exact Qdx _ _ _ C N q D R w hg
  ·have q:(((str (beh l)).size:Int) != 2)=true:=Jaf Kd
   have e:Jcw l=(0,3):=by unfold Jcw Jey;rw [show ((beh l).length==2)=false by simpa using hl];simp
   rw [e];exact Qdw _ _ _ C N q w
end S3
section
open Go.RowKit
open S2 (bef Jjc Jtq bef_end dayR dText Jox)
open S3 (numR Jo6 Jcw Jce Jjg)
def monD:Nat→Nat→Nat
 | 0,_=>0
 | k+1,d=>if bef k≤d then k else monD k d
theorem J0i (d k:Nat) (h:d<bef k):Jjc (monD k d) d∧monD k d<k:=by
 induction k with
 | zero=>rw [Jtq] at h;omega
 | succ k ih =>
  have e:monD (k+1) d=if bef k≤d then k else monD k d:=rfl
  rw [e];by_cases hk:bef k≤d
  ·rw [if_pos hk];exact⟨⟨hk,h⟩,Kd⟩
  ·rw [if_neg hk]
   obtain⟨a,b⟩:=ih Kd;exact⟨a,Kd⟩
def fmR:Fm where
 num:=numR
 prc:=fun s=>Jcw s
 tim:=Joq
 dur:=durR
 day:=dayR
 mds:=fun s=>ansR (prsR s)
 numT:=Lib.itoa
 prcT:=fun n=>Jce n.toNat
 timT:=Jdl
 durT:=Jb5
 dayT:=fun n=>dText (monD 1200 n.toNat) n.toNat
 mdsT:=fun n=>textR n.toNat
theorem Qdz:FmOk fmR where
 num:=fun n h0 h1=>Jo6 n h0 h1
 prc:=fun n h0 h1=>by
  have:=Jjg n.toNat Kd;show Jcw (Jce n.toNat)=_
  rw [this,Int.toNat_of_nonneg h0]
 tim:=fun n h0 h1=>Jvc n h0 h1
 dur:=fun n h0 h1=>Jzs n h0 Kd
 day:=fun n h0 h1=>by
  obtain⟨a,b⟩:=J0i n.toNat 1200 (by rw [bef_end];omega);show dayR (dText _ _)=_
  rw [Jox _ _ b a,Int.toNat_of_nonneg h0]
 mds:=fun n h0 h1=>by
  have:=Jw3 n.toNat Kd;show ansR (prsR (textR n.toNat))=_
  rw [this,Jiu,Int.toNat_of_nonneg h0]
open Go
def exB:Bs:=[115,116,111,112,44,65,44,48,44,121,101,115,44,48,10,115,116,111,112,44,66,44,49,44,110,111,44,49,50,48,10,114,111,117,116,101,44,82,44,98,117,115,44,110,111,10,99,97,108,101,110,100,97,114,44,67,44,49,49,49,49,49,48,48,44,50,48,50,53,45,48,49,45,48,49,44,50,48,50,53,45,49,50,45,51,49,10,116,114,105,112,44,84,44,82,44,67,44,121,101,115,10,99,97,108,108,44,65,44,48,56,58,48,48,58,48,48,44,48,56,58,48,48,58,48,48,44,98,111,97,114,100,10,99,97,108,108,44,66,44,48,56,58,51,48,58,48,48,44,48,56,58,51,49,58,48,48,44,97,108,105,103,104,116,10,112,97,116,104,44,65,44,66,44,49,48,109,48,48,115,44,110,111,10,112,114,111,100,117,99,116,44,115,105,110,103,108,101,44,50,46,53,48,44,49,44,49,54,44,48,115,44,98,117,115,43,116,114,97,109,10]
def ex2:Bs:=[115,116,111,112,44,65,44,48,44,121,101,115,44,48,10,115,116,111,112,44,66,44,49,44,110,111,44,49,50,48,10,99,97,108,101,110,100,97,114,44,67,44,49,49,49,49,49,48,48,44,50,48,50,53,45,48,49,45,48,49,44,50,48,50,53,45,49,50,45,51,49,10,116,114,105,112,44,84,44,82,44,67,44,121,101,115,10]
def ex3:Bs:=[115,116,111,112,44,65,44,48,44,121,101,115,44,48,10,115,116,111,112,44,65,44,49,44,110,111,44,49,50,48,10]
def ex4:Bs:=[35,32,110,111,32,115,116,111,112,115,10,10,99,97,108,108,44,65,44,48,56,58,48,48,58,48,48,44,48,56,58,48,48,58,48,48,44,98,111,97,114,100,10]
def ex5:Bs:=[115,116,111,112,44,65,44,48,44,121,101,115,44,48]
def exU (v:Value):Tt:=⟨[([65],0,true,0),([66],1,false,120)],[([82],0,false)],[([67],fun i=>decide ([49,49,49,49,49,48,48][i]?=some (49:UInt8)),9132,9496)],[],[([84],0,0,true,v,[(0,28800,28800,true,false),(1,30600,30660,false,true)])],[],[],[],[(0,1,600,false)],[([115,105,110,103,108,101],250,1,16,0,3)],0,0,0⟩
theorem J4q:Jcm fmR exB=(exU (.slice none 0 0),0,0):=Kk
theorem Qd0:(Jcm fmR ex2).2=(4,9):=Kk
theorem J4r:(Jcm fmR ex3).2=(2,6):=Kk
theorem Qax:(Jcm fmR ex4).2=(3,8):=Kk
theorem Qay:(Jcm fmR ex5).2=(0,4):=Kk
theorem J0j:feedF fmR (exU (.slice none 0 0))=(exB,0):=Kk
theorem Qd1 {U:Tt} (h:CopT (exU (.slice none 0 0)) U):∃v,U=exU v:=by
 obtain⟨st,ro,ca,ex,tr,fr,th,gu,pa,pr,di,wi,cp⟩:=U;obtain⟨h0,h1,h2,h3,h4,h5,h6,h7,h8,h9,h10,h11,h12⟩:=h;dsimp only at h0 h1 h2 h3 h4 h5 h6 h7 h8 h9 h10 h11 h12;match tr,h4 with
 | [],h4=>simp [exU] at h4
 | [(a,b,c,d,v,l)],h4 =>
  have h4:[noV (a,b,c,d,v,l)]=[(([84],0,0,true,[(0,28800,28800,true,false),(1,30600,30660,false,true)]):List UInt8×Int×Int×Bool×List Cl)]:=h4;simp only [noV,List.cons.injEq,and_true,Prod.mk.injEq] at h4;obtain⟨rfl,rfl,rfl,rfl,rfl⟩:=h4;subst h0 h1 h2 h3 h5 h6 h7 h8 h9 h10 h11 h12;exact⟨v,rfl⟩
 | x::y::r,h4=>simp [exU] at h4
theorem Jvx (v:Value):feedF fmR (exU v)=(exB,0):=by
 rw [←J0j];exact CopT.feedF fmR (T:=exU (.slice none 0 0)) ⟨rfl,rfl,rfl,rfl,rfl,rfl,rfl,rfl,rfl,rfl,rfl,rfl,rfl⟩
structure Rw where
 T:TypeId
 k:Nat
 v:Value
 n:Nat
 xs:List Value
def Rw.At (base:Nat) (W:World) (r:Rw):Prop:=W.ownsRow base r.T r.k r.v r.n r.xs
section
variable {w0 W W':World} {F:Nat} {T:TypeId} {vs:List Value} {rs:List Rw}
theorem Jq6 (h:W.grownBy W' none):Pn W W':=⟨h.os,h.tape,h.output,h.size,fun k hk=>h.block k hk Kj⟩
theorem Jbs (h:Pn W W') (row:Option Nat):W.grownBy W' row:=⟨h.os,h.tape,h.output,h.size,fun k hk _=>h.block k hk⟩
theorem Jc8 {w0 W W':World} {row:Option Nat} (hb:Pn w0 W) (h:W.grownBy W' row) (hr:∀g,row=some g→w0.heap.size≤g):Pn w0 W' :=
 hb.trans ⟨h.os,h.tape,h.output,h.size,fun k hk=>h.block k (Pr hk hb.size) (fun e=>by have:=hr k e.symm;omega)⟩
theorem Jbp (W:World) (F i:Nat) (u:Value):W.grownBy (W.setCell ⟨F,i,none⟩ u) (some F) :=
 ⟨rfl,rfl,rfl,Kj,fun k _ hne=>RowKit.Below.heap_setCell _ _ _ k (fun e=>hne (by rw [e]))⟩
end
theorem Jca {α:Type} {enc:α→List Value} {k:Nat} {T ST:TypeId} {z:Value} {bytes:Nat} (hk:∀a,(enc a).length=k) (k0:0<k) (hu:prog.underlying ST=some (.slice T)) (hinfo:(prog.info? T).map (fun i=>(i.zero,i.size,i.bytes))=some (some z,k,bytes)) (hz0:z.cells.size=k) (hb64:bytes≤64)
  (w:World) (ty:TypeId) (base:Nat) (v:Value) (l:List α) (m:α) (hone:∀u∈enc m,u.oneCell'=true) (hown:OwnG enc T k w base v l) (b:Nat) (cells:Array Value) (hbk:w.heap[b]?=some (.cells cells T (0,0))) (hc:cells.toList=enc m) (hb:base≤w.heap.size) (hl:l.length+1≤1099511627776) :
  ∃v' w',(Builtin.append_ #[ST,ST] ty #[v,.slice (some ⟨b,0,none⟩) 1 1]).run prog w=.ok v' w'∧OwnG enc T k w' base v' (l++[m])∧w.grownBy w' v.ownBlock∧(∀g,v'.ownBlock=some g→v.ownBlock=some g∨w.heap.size≤g):=by
 obtain⟨i,hi,hz,hsz,hby⟩:=info_parts hinfo;obtain⟨v',w',hr,h2,h3,h4⟩:=Jew (P:=prog) w base ST ty T i z k bytes hu hi hz hsz hby hz0 k0 v l.length (fl enc l) hown ⟨b,0,none⟩ 1 1 (enc m) (by rw [hk,Nat.one_mul]) (fun j u hu=>by
  have hadd:(⟨b,0,none⟩:Addr).add j=⟨b,j,none⟩:=Ks;rw [hadd,cell_of_row w b j cells _ _ hbk,←hu,←hc];simp) hone Kr (Nat.le_trans (Nat.mul_le_mul_left _ hb64) Kd) hb
 refine⟨v',w',hr,?_,h3,fun g hg=>(h4 g hg).imp id (fun e=>Kd)⟩;have e:fl enc (l++[m])=fl enc l++enc m:=by rw [Jm9,Jna]
 unfold OwnG;rw [Pp,e];exact h2
structure Tng where
 own:Option Nat
 A:World→Prop
structure Tng.At (base:Nat) (W:World) (t:Tng):Prop where
 holds:t.A W
 lt:∀g,t.own=some g→base≤g∧g<W.heap.size
 kept:∀W1 W2 row,t.A W1→W1.grownBy W2 row→(t.own=none∨t.own≠row)→t.A W2
def tRow (base:Nat) (r:Rw):Tng:=⟨r.v.ownBlock,fun W=>r.At base W⟩
def tBlk (b:Nat) (P:World→Prop):Tng:=⟨some b,P⟩
theorem tRow.at {base:Nat} {W:World} {r:Rw} (h:r.At base W):(tRow base r).At base W:=⟨h,fun g hg=>World.ownsRow.lt h g hg,fun _ _ _ h1 hg hn=>World.ownsRow.kept h1 hg hn⟩
theorem tBlk.at {base b:Nat} {P:World→Prop} {W:World} (h:P W) (h0:base≤b) (h1:b<W.heap.size) (hk:∀W1 W2 row,P W1→W1.grownBy W2 row→some b≠row→P W2):(tBlk b P).At base W :=
 ⟨h,fun g hg=>by cases hg;exact⟨h0,h1⟩,fun W1 W2 row q hg hn=>hk W1 W2 row q hg (hn.elim (fun e=>by cases e) id)⟩
theorem Tng.At.on {base:Nat} {W W':World} {t:Tng} (h:t.At base W) {row:Option Nat} (g:W.grownBy W' row) (hn:t.own=none∨t.own≠row):t.At base W' :=
 ⟨h.kept _ _ _ h.holds g hn,fun k hk=>⟨(h.lt k hk).1,Pr (h.lt k hk).2 g.size⟩,h.kept⟩
def Aprt (a b:Tng):Prop:=∀g,a.own=some g→b.own≠some g
theorem Aprt.symm {a b:Tng} (h:Aprt a b):Aprt b a:=fun g hb ha=>h g ha hb
structure Gst (w0:World) (F:Nat) (T:TypeId) (vs:List Value) (ts:List Tng) (W:World):Prop where
 box:W.heap[F]?=some (.cells vs.toArray T (0,0))
 low:w0.heap.size≤F
 own:∀(i:Nat) (t:Tng),ts[i]?=some t→t.At w0.heap.size W
 off:∀(i:Nat) (t:Tng),ts[i]?=some t→t.own≠some F
 apart:∀(i j:Nat) (a b:Tng),i≠j→ts[i]?=some a→ts[j]?=some b→Aprt a b
 base:Pn w0 W
section
variable {w0 W W':World} {F:Nat} {T:TypeId} {vs vs':List Value} {ts:List Tng}
theorem Gst.lt (h:Gst w0 F T vs ts W):F<W.heap.size:=(Pm h.box).1
theorem Gst.cell (h:Gst w0 F T vs ts W) {i:Nat} {v:Value} (hv:vs[i]?=some v):W.cell? ⟨F,i,none⟩=some v∧W.frozen? ⟨F,i,none⟩=false :=
 ⟨Wl,frozen_of_row _ _ _ _ _ h.box⟩
theorem Gst.row (h:Gst w0 F T vs ts W) {i:Nat} {r:Rw} (hi:ts[i]?=some (tRow w0.heap.size r)):r.At w0.heap.size W:=(h.own i _ hi).holds
theorem Gst.blk (h:Gst w0 F T vs ts W) {i b:Nat} {P:World→Prop} (hi:ts[i]?=some (tBlk b P)):P W∧w0.heap.size≤b∧b<W.heap.size∧b≠F :=
 ⟨(h.own i _ hi).holds,((h.own i _ hi).lt b rfl).1,((h.own i _ hi).lt b rfl).2,fun e=>h.off i _ hi (by rw [←e];rfl)⟩
theorem Gst.on (h:Gst w0 F T vs ts W) (b:Pn W W'):Gst w0 F T vs ts W' :=
 ⟨(b.block _ h.lt).trans h.box,h.low,fun i t ht=>(h.own i t ht).on (Jbs b none) (by cases t.own <;> simp),h.off,h.apart,h.base.trans (b.mono h.base.size)⟩
theorem Gst.up (h:Gst w0 F T vs ts W) (g:W.grownBy W' (some F)) (hb:W'.heap[F]?=some (.cells vs'.toArray T (0,0))):Gst w0 F T vs' ts W' :=
 ⟨hb,h.low,fun i t ht=>(h.own i t ht).on g (.inr (h.off i t ht)),h.off,h.apart,Jc8 h.base g (fun k e=>by cases e;exact h.low)⟩
theorem Gst.put (h:Gst w0 F T vs ts W) (i:Nat) (u:Value):Gst w0 F T (vs.set i u) ts (W.setCell ⟨F,i,none⟩ u) :=
 h.up (Jbp W F i u) (by rw [heap_setCell_same _ _ _ _ _ _ h.box,List.setIfInBounds_toArray])
theorem Gst.turn (h:Gst w0 F T vs ts W) {i:Nat} {t t':Tng} (hi:ts[i]?=some t) (g:W.grownBy W' t.own) (ho:t'.At w0.heap.size W') (hw:∀k,t'.own=some k→t.own=some k∨W.heap.size≤k):Gst w0 F T vs (ts.set i t') W':=by
 have keep:∀j a,i≠j→ts[j]?=some a→a.At w0.heap.size W':=fun j a hj ha=>(h.own j a ha).on g (by
  cases hv:a.own with
  | none=>exact .inl rfl
  | some k=>exact .inr (fun e=>h.apart i j t a hj hi ha k (e.symm) hv))
 have new:∀j a k,i≠j→ts[j]?=some a→t'.own=some k→a.own≠some k:=fun j a k hj ha hk e=>by
  rcases hw k hk with hr | hr
  ·exact h.apart i j t a hj hi ha k hr e
  ·have:=((h.own j a ha).lt k e).2
   omega
 refine⟨(g.block F h.lt (fun e=>h.off i t hi e.symm)).trans h.box,h.low,fun j a ha=>?_,fun j a ha e=>?_,fun j m a b hjm ha hb=>?_,Jc8 h.base g (fun k e=>((h.own i t hi).lt k e).1)⟩
 ·rw [List.getElem?_set] at ha
  split at ha
  ·next e =>
   split at ha
   ·cases ha;exact ho
   ·cases ha
  ·next e=>exact keep j a e ha
 ·rw [List.getElem?_set] at ha
  split at ha
  ·next e' =>
   split at ha
   ·cases ha
    rcases hw F e with hr | hr
    ·exact h.off i t hi hr
    ·have:=h.lt;omega
   ·cases ha
  ·exact h.off j a ha e
 ·rw [List.getElem?_set] at ha hb
  split at ha
  ·next e =>
   split at ha
   ·cases ha
    rw [if_neg (fun q=>hjm (e.symm.trans q))] at hb;exact fun k hk=>new m b k (fun q=>hjm (e.symm.trans q)) hb hk
   ·cases ha
  ·next e =>
   split at hb
   ·next e2 =>
    split at hb
    ·cases hb
     exact (show Aprt t' a from fun k hk=>new j a k e ha hk).symm
    ·cases hb
   ·exact h.apart j m a b hjm ha hb
theorem Gst.more (h:Gst w0 F T vs ts W) {t:Tng} (b:W.grownBy W' none) (ho:t.At w0.heap.size W') (hw:∀k,t.own=some k→W.heap.size≤k):Gst w0 F T vs (ts++[t]) W':=by
 have key:∀(j:Nat) (a:Tng),(ts++[t])[j]?=some a→ts[j]?=some a∨(j=ts.length∧a=t):=by
  intro j a ha;rw [List.getElem?_append] at ha;split at ha
  ·exact .inl ha
  ·next hlt =>
   right
   rw [List.getElem?_singleton] at ha;split at ha
   ·next e=>cases ha;exact⟨Kd,rfl⟩
   ·cases ha
 have bb:Pn W W':=Jq6 b;have h':=h.on bb;refine⟨h'.box,h.low,fun j a ha=>?_,fun j a ha e=>?_,fun j m a c hjm ha hc=>?_,h'.base⟩
 ·rcases key j a ha with h1 | ⟨-,rfl⟩
  ·exact h'.own j a h1
  ·exact ho
 ·rcases key j a ha with h1 | ⟨-,rfl⟩
  ·exact h.off j a h1 e
  ·have:=hw F e;have:=h.lt;omega
 ·rcases key j a ha with h1 | ⟨e1,rfl⟩
  ·rcases key m c hc with h2 | ⟨-,rfl⟩
   ·exact h.apart j m a c hjm h1 h2
   ·exact fun k e1 e2=>by have:=hw k e2;have:=((h.own j a h1).lt k e1).2;omega
  ·rcases key m c hc with h2 | ⟨e2,-⟩
   ·exact fun k e1 e2=>by have:=hw k e1;have:=((h.own m c h2).lt k e2).2;omega
   ·omega
end
end
end Go.Proofs.YtpifdbphmnifdaaGreatDoor
