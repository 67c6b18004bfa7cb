/-
  Facts of the proof. Condition: each theorem's own.
-/
import Derived.Lib.AtoiAllCases
import Derived.WalkMore
import Derived.Test.YtpifdbphmnifdaaGreatDoorYI12
set_option maxRecDepth 100000
set_option maxHeartbeats 8000000
open Go.Proofs.Tryz
namespace Go.Proofs.YtpifdbphmnifdaaGreatDoor
namespace S3
open Go
def nat (l:List UInt8):Bool:=l==[48] || (!l.isEmpty&&l.head? != some 48&&digs l)
def body (s:List UInt8):List UInt8:=Lib.trimPrefix s [45]
def neg (s:List UInt8):Bool:=s.head?==some 45
def sgn (s:List UInt8):Int:=if neg s then -(valN (body s):Int) else (valN (body s):Int)
def formed (s:List UInt8):Bool:=nat (body s)&&!(s==[45,48])
def fits (v:Int):Bool:=decide (-9223372036854775808≤v∧v≤9223372036854775807)
def numR (s:List UInt8):Int×Int:=if formed s then (if fits (sgn s) then (sgn s,0) else (0,2)) else (0,3)
theorem fits_iff (v:Int):fits v=true↔-9223372036854775808≤v∧v≤9223372036854775807:=by unfold fits;exact decide_eq_true_iff
theorem Jws {s:List UInt8} (h:formed s=true) (k:fits (sgn s)=true):numR s=(sgn s,0):=by unfold numR;rw [if_pos h,if_pos k]
theorem Jix {s:List UInt8} (h:formed s=true) (k:fits (sgn s)=false):numR s=(0,2):=by unfold numR;rw [if_pos h,if_neg (by simp [k])]
theorem Jny {s:List UInt8} (h:formed s=false):numR s=(0,3):=by unfold numR;rw [if_neg (by simp [h])]
theorem Jqa (l:List UInt8):body (45::l)=l:=by simp [body,Lib.trimPrefix,Lib.hasPrefix]
theorem Jj0 (s:List UInt8) (h:neg s=false):body s=s:=by
 cases s with
 | nil=>rfl
 | cons c l =>
  have hc:c≠45:=by simpa [neg] using h
  simp [body,Lib.trimPrefix,Lib.hasPrefix,Ne.symm hc]
theorem Jl5 (s:List UInt8) (h:neg s=true):s=45::body s:=by
 cases s with
 | nil=>simp [neg] at h
 | cons c l =>
  have hc:c=45:=by simpa [neg] using h
  subst hc;rw [Jqa]
theorem Jl6 {l:List UInt8} (h:nat l=true):l=[48]∨(∃c r,l=c::r∧c≠48∧digs l=true):=by
 unfold nat at h;rw [Bool.or_eq_true] at h;rcases h with h | h
 ·exact Or.inl (by simpa using h)
 ·cases l with
  | nil=>simp at h
  | cons c r =>
   simp at h;exact Or.inr ⟨c,r,rfl,by simpa using h.1,by simpa using h.2⟩
theorem Jqb {l:List UInt8} (h:nat l=true):digs l=true:=by
 rcases Jl6 h with rfl | ⟨c,r,rfl,_,hd⟩
 ·decide
 ·exact hd
theorem J32 {l:List UInt8} (h:nat l=true):l≠[]:=by
 rcases Jl6 h with rfl | ⟨c,r,rfl,_,hd⟩ <;> simp
theorem Jj1 {l:List UInt8} (h:nat l=true):∃c r,l=c::r∧48≤c.toNat∧c.toNat≤57:=by
 have hd:=Jqb h;cases l with
 | nil=>exact absurd rfl (J32 h)
 | cons c r =>
  have:dig c=true:=by simp [digs] at hd;exact hd.1
  exact⟨c,r,rfl,(Jcd c).1 this⟩
theorem Jwt:∀(l:List UInt8) (a:Nat),a≤l.foldl (fun n c=>n*10+(c.toNat - 48)) a
 | [],a=>Nat.le_refl _
 | c::l,a=>by
  rw [List.foldl_cons];exact Nat.le_trans (by omega) (Jwt l _)
theorem Jet:∀(l:List UInt8) (a:Nat),digs l=true→a<18446744073709551616 →
  Lib.parseUint10 a l=if l.foldl (fun n c=>n*10+(c.toNat - 48)) a<18446744073709551616 then .ok (l.foldl (fun n c=>n*10+(c.toNat - 48)) a) else .range
 | [],a,_,ha=>by simp [Lib.parseUint10,ha]
 | c::l,a,h,ha=>by
  have hl:dig c=true∧digs l=true:=by simpa [digs] using h
  have hc:=(Jcd c).1 hl.1;rw [Lib.parseUint10,if_pos hc,List.foldl_cons];have hm:=Jwt l (a*10+(c.toNat - 48));by_cases h1:1844674407370955162≤a
  ·rw [if_pos h1,if_neg (by omega)]
  ·rw [if_neg h1]
   by_cases h2:18446744073709551616≤a*10+(c.toNat - 48)
   ·rw [if_pos h2,if_neg (by omega)]
   ·rw [if_neg h2]
    exact Jet l _ hl.2 (by omega)
theorem Jfk (l:List UInt8) (h:nat l=true):Lib.parseMag l=if valN l<18446744073709551616 then .ok (valN l) else .range:=by
 unfold Lib.parseMag;rw [if_neg (J32 h),Jet l 0 (Jqb h) (by decide)];rfl
theorem Jhr (s:List UInt8) (h:formed s=true):Lib.atoiAll s=if fits (sgn s) then .ok (sgn s) else .range:=by
 have hn:nat (body s)=true:=by unfold formed at h;rw [Bool.and_eq_true] at h;exact h.1
 unfold sgn fits;by_cases hg:neg s=true
 ·rw [if_pos hg]
  have e:=Jl5 s hg;rw [e,Lib.atoiAll_minus,Jqa,Jfk _ hn];generalize valN (body s)=v;by_cases h1:v<18446744073709551616
  ·rw [if_pos h1]
   unfold Lib.signed;simp only [];by_cases h2:9223372036854775808<v
   ·rw [if_pos h2,if_neg (by simp;omega)]
   ·rw [if_neg h2,if_pos (by simp;omega)]
  ·rw [if_neg h1,if_neg (by simp;omega)]
   rfl
 ·have hb:=Jj0 s (by simpa using hg)
  rw [if_neg hg];rw [hb] at hn ⊢;obtain⟨c,r,rfl,h1,h2⟩:=Jj1 hn;rw [Lib.atoiAll_plain c r (by omega) (by omega),Jfk _ hn];generalize valN (c::r)=v;by_cases h1:v<18446744073709551616
  ·rw [if_pos h1]
   unfold Lib.signless;simp only [];by_cases h2:9223372036854775808≤v
   ·rw [if_pos h2,if_neg (by simp;omega)]
   ·rw [if_neg h2,if_pos (by simp;omega)]
  ·rw [if_neg h1,if_neg (by simp;omega)]
   rfl
theorem Jj2 (u:Nat) (h:¬u<10):Lib.decDigits u=Lib.decDigits (u / 10)++[UInt8.ofNat (48+u % 10)]:=by rw [Lib.decDigits,dif_neg h]
theorem J69 (u:Nat):digs (Lib.decDigits u)=true:=by
 induction u using Nat.strongRecOn with
 | _ u ih =>
  by_cases h:u<10
  ·rw [Lib.decDigits_one h]
   unfold digs;simp only [List.all_cons,List.all_nil,Bool.and_true];exact Jkv _ h
  ·rw [Jj2 u h]
   have h1:=ih (u / 10) (by omega);unfold digs at *;rw [List.all_append,h1];simp only [List.all_cons,List.all_nil,Bool.and_true,Bool.true_and];exact Jkv _ (by omega)
theorem J7a (u:Nat) (h:0<u):∃c r,Lib.decDigits u=c::r∧c≠48:=by
 induction u using Nat.strongRecOn with
 | _ u ih =>
  by_cases hs:u<10
  ·rw [Lib.decDigits_one hs]
   refine⟨_,_,rfl,fun hc=>?_⟩;have:=congrArg UInt8.toNat hc;rw [ofNat_toNat u hs] at this;have e:(48:UInt8).toNat=48:=rfl;omega
  ·rw [Jj2 u hs]
   obtain⟨c,r,e,hc⟩:=ih (u / 10) (by omega) (by omega);rw [e];exact⟨c,_,rfl,hc⟩
theorem J99 (u:Nat):nat (Lib.decDigits u)=true:=by
 by_cases h:u=0
 ·subst h;rw [Lib.decDigits_one (by decide)];decide
 ·obtain⟨c,r,e,hc⟩:=J7a u (by omega)
  have hd:=J69 u;rw [e] at hd ⊢;unfold nat;rw [hd];simp [hc]
theorem J33 (u k:Nat) (hk:1≤k) (h:u<10 ^ k):(Lib.decDigits u).length≤k:=by
 induction k generalizing u with
 | zero=>omega
 | succ k ih =>
  by_cases hs:u<10
  ·rw [Lib.decDigits_one hs];simp
  ·rw [Jj2 u hs,List.length_append]
   have hk0:k≠0:=by intro e;subst e;simp at h;omega
   have:=ih (u / 10) (by omega) (by rw [Nat.pow_succ] at h;omega);simp;omega
theorem J1a (n:Int) (h:n<0):Lib.itoa n=45::Lib.decDigits n.natAbs:=by unfold Lib.itoa;rw [if_pos h]
theorem Jqc (n:Int) (h:0≤n):Lib.itoa n=Lib.decDigits n.toNat:=by unfold Lib.itoa;rw [if_neg (by omega)]
open Go.RowKit
def Good (w:World):Prop:=∃tp p,w.var? prog "strconv.ErrRange"=some #[.iface tp p]
theorem gRange:prog.globalNamed "strconv.ErrRange"=some 8:=by kernel_rfl
theorem var_size {w:World} {n:String} {g:Nat} {cs:Array Value} (hg:prog.globalNamed n=some g) (h:w.var? prog n=some cs):g<w.heap.size:=by
 unfold World.var? at h;simp only [hg,Option.bind_some] at h;by_cases hs:g<w.heap.size
 ·exact hs
 ·rw [Array.getElem?_eq_none (by omega)] at h
  cases h
theorem Good.below {w w':World} (h:Good w) (b:Below w.heap.size w w'):Good w':=by
 obtain⟨tp,p,hv⟩:=h;exact⟨tp,p,var?_below b gRange (var_size gRange hv) hv⟩
abbrev rng (w:World) (lo hi:Int):World:=(w.alloc (.cells #[.int .i64 lo] 3)).alloc (.cells #[.int .i64 hi] 3)
theorem Jl7 (w:World) (lo hi:Int):Below w.heap.size w (rng w lo hi):=((Below.refl _ _).alloc (Nat.le_refl _) _).alloc (by simp) _
theorem Jqd {W w:World} (hb:Below W.heap.size W w) (lo hi:Int):Below W.heap.size W (rng w lo hi):=hb.trans ((Jl7 w lo hi).mono hb.size)
theorem Jez (lo hi:Int) (w:World) :
  Calls prog 303 #[.int .i64 lo,.int .i64 hi] w fun e w'=>e=.returned (.func (.func 345) #[] #[.pointer (some ⟨w.heap.size,0,none⟩),.pointer (some ⟨w.heap.size+1,0,none⟩)])∧w'=rng w lo hi:=by
 have hmf:∀(fn:Fn) (first cap:Array Value) (w:World),(Instr.makeFunc fn first cap).run prog w=.ok (.func fn first cap) w:=fun _ _ _ _=>rfl
 go_enter func303,ntmps303
 go_wp2
 go_ret;exact⟨rfl,rfl⟩
theorem Jiy (n lo hi:Int) (h0:lo≤n) (h1:n≤hi) (w:World) :
  Calls prog 345 #[.int .i64 n,.pointer (some ⟨w.heap.size,0,none⟩),.pointer (some ⟨w.heap.size+1,0,none⟩)] (rng w lo hi) fun e w'=>e=.returned (.bool true)∧rng w lo hi=w':=by
 have d0:decide (lo≤n)=true:=by simpa using h0
 have d1:decide (n≤hi)=true:=by simpa using h1
 go_enter func345,ntmps345
 go_wp2
 go_ret;exact⟨rfl,rfl⟩
theorem Jwu (n lo hi:Int) (h:n<lo∨hi<n) (w:World) :
  Calls prog 345 #[.int .i64 n,.pointer (some ⟨w.heap.size,0,none⟩),.pointer (some ⟨w.heap.size+1,0,none⟩)] (rng w lo hi) fun e w'=>e=.returned (.bool false)∧rng w lo hi=w':=by
 by_cases h0:n<lo
 ·have d0:decide (lo≤n)=false:=by simp;omega
  go_enter func345,ntmps345
  go_wp2
  go_ret;exact⟨rfl,rfl⟩
 ·have d0:decide (lo≤n)=true:=by simp;omega
  have d1:decide (n≤hi)=false:=by simp;omega
  go_enter func345,ntmps345
  go_wp2
  go_ret;exact⟨rfl,rfl⟩
theorem allDigits_yes (s:ByteArray) (hs:s.size≤70000) (hd:digs s.data.toList=true) (w:World) :
  Calls prog 327 #[.string s] w fun e w'=>e=.returned (.bool true)∧w=w':=by
 have HD:=Lib.hid hd;clear hd;go_enter func327,ntmps327
 go_wp2_with fail
 go_loop [6] (fun i=>∃k:Nat,k≤s.size∧i=.int .i64 k) (fun i=>s.size - (intOf i).toNat)
 case atStart=>exact⟨0,by omega,rfl⟩
 case round =>
  obtain⟨k,hk,rfl⟩:=hrel;by_cases hlt:k<s.size
  ·have kk:=Jd9 s k hlt
   have hc:=Jjb s k hlt HD.out;go_wp2_with fail
   go_round
   case rel=>exact⟨k+1,by omega,by go_num⟩
   case measure=>simp [intOf];omega
  ·go_wp2_with fail
   go_ret;exact⟨rfl,rfl⟩
theorem allDigits_no (s:ByteArray) (hs:s.size≤70000) (hd:digs s.data.toList=false) (w:World) :
  Calls prog 327 #[.string s] w fun e w'=>e=.returned (.bool false)∧w=w':=by
 have HD:=Lib.hid hd;clear hd;go_enter func327,ntmps327
 go_wp2_with fail
 go_loop [6] (fun i=>∃k:Nat,k≤s.size∧i=.int .i64 k∧Hid (digs (s.data.toList.take k)=true)) (fun i=>s.size - (intOf i).toNat)
 case atStart=>exact⟨0,by omega,rfl,Lib.hid rfl⟩
 case round =>
  obtain⟨k,hk,rfl,ht⟩:=hrel;by_cases hlt:k<s.size
  ·have kk:=Jd9 s k hlt
   by_cases hc:48≤s[k].toNat∧s[k].toNat≤57
   ·have hst:=Lib.hid (Jku s k hlt ht.out hc)
    go_wp2_with fail
    go_round
    case rel=>exact⟨k+1,by omega,by go_num,hst⟩
    case measure=>simp [intOf];omega
   ·by_cases h1:s[k].toNat<48
    ·go_wp2_with fail
     go_ret;exact⟨rfl,rfl⟩
    ·have h2:57<s[k].toNat:=by omega
     go_wp2_with fail
     go_ret;exact⟨rfl,rfl⟩
  ·have hf:=Jgk s k hlt ht.out
   rw [HD.out] at hf;cases hf
theorem Jj3 (s:ByteArray) (hs:s.size≤70000) (w:World):Calls prog 327 #[.string s] w fun e w'=>e=.returned (.bool (digs s.data.toList))∧w=w':=by
 cases h:digs s.data.toList with
 | true=>exact allDigits_yes s hs h w
 | false=>exact allDigits_no s hs h w
theorem Qaa (s:ByteArray) (l:List UInt8) (h:s.data.toList=l):s=str l:=by
 apply ByteArray.ext
 rw [←h]
theorem J7b (l m:List UInt8) (h:l≠m):((str l).toList==m)=false:=by rw [ByteArray.toList_mk,beq_eq_false_iff_ne];exact h
theorem Qab (l:List UInt8) (h:l≠[]):(str l).toList.isEmpty=false:=by
 rw [ByteArray.toList_mk];cases l with
 | nil=>exact absurd rfl h
 | cons _ _=>rfl
theorem Jiz (w:World):Calls prog 314 #[.string (str [48])] w fun e w'=>e=.returned (.bool true)∧w=w':=by
 go_enter func314,ntmps314
 go_wp2_with fail
 go_ret;exact⟨rfl,rfl⟩
theorem Jnz (w:World):Calls prog 314 #[.string (str [])] w fun e w'=>e=.returned (.bool false)∧w=w':=by
 go_enter func314,ntmps314
 go_wp2_with fail
 go_ret;exact⟨rfl,rfl⟩
theorem Jl8 (s:ByteArray) (h1:(s.toList==[48])=false) (h2:s.toList.isEmpty=false) (h0:0<s.size) (h3:((s[0].toNat:Int) != 48)=false) (w:World):Calls prog 314 #[.string s] w fun e w'=>e=.returned (.bool false)∧w=w':=by
 have k0:∀W,(Instr.index 9 (.string s) (.int .i64 0)).run prog W=.ok (.int .u8 s[0].toNat) W:=Jd9 s 0 h0;go_enter func314,ntmps314
 go_wp2_with fail
 go_ret;exact⟨rfl,rfl⟩
theorem Jl9 (s:ByteArray) (hs:s.size≤70000) (h1:(s.toList==[48])=false) (h2:s.toList.isEmpty=false) (h0:0<s.size) (h3:((s[0].toNat:Int) != 48)=true) (w:World):Calls prog 314 #[.string s] w fun e w'=>e=.returned (.bool (digs s.data.toList))∧w=w':=by
 have k0:∀W,(Instr.index 9 (.string s) (.int .i64 0)).run prog W=.ok (.int .u8 s[0].toNat) W:=Jd9 s 0 h0;cases hd:digs s.data.toList with
 | true =>
  have C:=Lib.hid (fun w=>allDigits_yes s hs hd w);clear hd;go_enter func314,ntmps314
  go_wp2_with (go_at_call 327;refine (C.out _).mono ?_;rintro e w' ⟨rfl,rfl⟩)
  go_ret;exact⟨rfl,rfl⟩
 | false =>
  have C:=Lib.hid (fun w=>allDigits_no s hs hd w);clear hd;go_enter func314,ntmps314
  go_wp2_with (go_at_call 327;refine (C.out _).mono ?_;rintro e w' ⟨rfl,rfl⟩)
  go_ret;exact⟨rfl,rfl⟩
theorem Jd6 (l:List UInt8) (hs:l.length≤70000) (w:World):Calls prog 314 #[.string (str l)] w fun e w'=>e=.returned (.bool (nat l))∧w=w':=by
 by_cases h1:l=[48]
 ·subst h1;exact Jiz w
 ·cases l with
  | nil=>exact Jnz w
  | cons c r =>
   have hz:=Jaf (c::r);have a1:=J7b (c::r) [48] h1;have a2:=Qab (c::r) (by simp);have a0:0<(str (c::r)).size:=by rw [hz];simp
   have e:(str (c::r))[0]=c:=rfl;by_cases hc:c=48
   ·subst hc
    have:=Jl8 (str (48::r)) a1 a2 a0 (by rw [e];rfl) w;rw [show nat (48::r)=false by simpa [nat] using h1];exact this
   ·have:=Jl9 (str (c::r)) (by omega) a1 a2 a0 (by
     rw [e];refine Jae fun h=>hc (UInt8.toNat_inj.1 ?_)
     have e48:(48:UInt8).toNat=48:=rfl;omega) w
    rw [show nat (c::r)=digs (c::r) by
     have:(c::r==[48])=false:=by simpa using h1
     unfold nat;rw [this];simp [hc]]
    exact this
def cod (k:Nat):UInt8:=UInt8.ofNat (48+k % 10)
theorem Qac (N:Nat) (h:N≤9223372036854775808):(Lib.decDigits N).length≤19:=J33 N 19 (by decide) (Nat.lt_of_le_of_lt h (by decide))
def buf (l:List UInt8):Array Value:=(List.replicate (20 - l.length) (Value.int .u8 0)++l.map fun c=>Value.int .u8 c.toNat).toArray
theorem Ji0 (l:List UInt8) (g:Nat) (h:g+1+l.length=20):(buf l)[g]?=some (.int .u8 0):=by
 unfold buf;simp only [List.getElem?_toArray];rw [List.getElem?_append_left (by simp;omega),List.getElem?_replicate,if_pos (by omega)]
theorem Jgc (l:List UInt8) (g:Nat) (h:g+1+l.length=20) (c:UInt8) (v:Int) (hv:v=(c.toNat:Int)):(buf l).setIfInBounds g (.int .u8 v)=buf (c::l):=by
 subst hv;apply Array.ext_getElem?
 intro i;rw [Array.getElem?_setIfInBounds];unfold buf;have e:20 - l.length=g+1:=by omega
 have e2:20 - (c::l).length=g:=by simp;omega
 rw [e,e2];simp only [List.getElem?_toArray,List.map_cons,List.size_toArray];by_cases hi:g=i
 ·subst hi
  rw [if_pos rfl,if_pos (by simp;omega),List.getElem?_append_right (by simp)];simp
 ·rw [if_neg hi]
  by_cases hlt:i<g
  ·rw [List.getElem?_append_left (by simp;omega),List.getElem?_append_left (by simp;omega)]
   simp [List.getElem?_replicate,hlt];omega
  ·obtain⟨j,rfl⟩:∃j,i=g+1+j:=⟨i - (g+1),by omega⟩
   rw [List.getElem?_append_right (by simp),List.getElem?_append_right (by simp;omega)];simp;rw [show g+1+j - g=j+1 by omega];simp
theorem J1b (l:List UInt8) (g i:Nat) (h:g+l.length=20) (hi:i<l.length):(buf l)[g+i]?=some (.int .u8 ((l.map fun c=>(c.toNat:Int)).getD i 0)):=by
 unfold buf;simp only [List.getElem?_toArray];rw [List.getElem?_append_right (by simp;omega)];simp;rw [show g+i - (20 - l.length)=i by omega];simp [List.getElem?_eq_getElem hi]
theorem Jfl (b g m:Nat) (h:g+m=20) (hm:0<m) (W:World):(Instr.sliceAt 224 (.pointer (some ⟨b,0,none⟩)) (some (.int .i64 g)) none none).run prog W=.ok (.slice (some ⟨b,g,none⟩) m m) W:=by
 have ha:prog.arrayLen 224=20:=by kernel_rfl
 rw [run_sliceAt_array_l W 224 ⟨b,0,none⟩ (by kernel_rfl) .i64 g (by omega) (by rw [ha];omega)];obtain rfl:m=20 - g:=by omega
 have he:prog.elem 224=5:=by kernel_rfl
 rw [ha,he];simp [slicedAt,go_sem,Addr.add];rw [if_neg (by omega)];split
 ·next h0=>rw [h0]
 ·rfl
theorem Jg4 (l:List UInt8) (g m:Nat) (h:g+m=20) (hm:m=l.length) (w:World) :
  (convert 155 9 (.slice (some ⟨w.heap.size,g,none⟩) m m)).run prog (w.alloc (.cells (buf l) 224))=.ok (.string (str l)) (w.alloc (.cells (buf l) 224)):=by
 subst hm;rw [run_convert_bytes_arg (P:=prog) _ 155 5 underlying155 underlying5 w.heap.size g l.length l.length (l.map fun c=>(c.toNat:Int)) (by simp) (by
  intro i hi;rw [World.cell?_alloc_at _ _ _ _ rfl];exact J1b l g i h hi) 9 underlying9]
 congr 2
 simp [strOfNums,Function.comp_def]
theorem Jfm (w:World) (l:List UInt8):Below w.heap.size w (w.alloc (.cells (buf l) 224)):=(Below.refl _ _).alloc (Nat.le_refl _) _
def J (n:Int) (N:Nat) (w:World) (a':Act) (w':World):Prop:=∃(r f:Nat) (l:List UInt8) (u6 u7 u8 u9 u10 u11 u12 u13 u14 u15 u16 u17 u18 u19 u20 u21 u22 u23:Value),w'=w.alloc (.cells (buf l) 224)∧a'={ tmps:=#[.int .i64 n,undef,.string ⟨#[]⟩,.int .u64 r,.pointer (some ⟨w.heap.size,0,none⟩),.int .i64 f,u6,u7,u8,u9,u10,u11,u12,u13,u14,u15,u16,u17,u18,u19,u20,u21,u22,u23,undef,undef,undef,undef,undef,undef,undef,undef,undef],defers:=[] }∧f+l.length=20∧0<r∧r≤9223372036854775808∧Hid (Lib.decDigits r++l=Lib.decDigits N)
theorem Jg5 (r N:Nat) (l:List UInt8) (h:0<r / 10) (he:Lib.decDigits r++l=Lib.decDigits N):Lib.decDigits (r / 10)++cod r::l=Lib.decDigits N:=by
 rw [←he,Jj2 r (by omega)];simp [cod]
theorem Jg6 (r N:Nat) (l:List UInt8) (h:r / 10=0) (he:Lib.decDigits r++l=Lib.decDigits N):cod r::l=Lib.decDigits N:=by
 rw [←he,Lib.decDigits_one (by omega)];unfold cod;rw [show r % 10=r by omega];rfl
theorem room (r N:Nat) (l:List UInt8) (h19:(Lib.decDigits N).length≤19) (he:Lib.decDigits r++l=Lib.decDigits N):l.length≤18:=by
 have h1:=congrArg List.length he;obtain⟨c,q,e,_⟩:=Jj1 (J99 r);rw [e] at h1;simp at h1;omega
theorem J7c (n:Int) (N:Nat) (hn:n=-(N:Int)) (h0:n<0) (h1:-9223372036854775808≤n):IntKind.u64.wrap (-IntKind.u64.wrap n)=(N:Int):=by
 simp [IntKind.wrap,IntKind.signed,IntKind.bits];omega
theorem Jj4 (r:Nat):(48+(r:Int) % 10)=((cod r).toNat:Int):=by
 unfold cod;rw [ofNat_toNat _ (by omega)];omega
theorem Qad:(#[.int .u8 0,.int .u8 0,.int .u8 0,.int .u8 0,.int .u8 0,.int .u8 0,.int .u8 0,.int .u8 0,.int .u8 0,.int .u8 0,.int .u8 0,.int .u8 0,.int .u8 0,.int .u8 0,.int .u8 0,.int .u8 0,.int .u8 0,.int .u8 0,.int .u8 0,.int .u8 0]:Array Value)=buf []:=rfl
theorem Jsg (n:Int) (N:Nat) (hn:n=(N:Int)) (h0:0≤n) (h1:n≤9223372036854775807) (w:World):Calls prog 135 #[.int .i64 n] w fun e w'=>e=.returned (.string (str (Lib.decDigits N)))∧Below w.heap.size w w':=by
 have HN:=Lib.hid hn;have H19:=Lib.hid (Qac N (by omega));have d0:decide ((N:Int)<0)=false:=by simp
 subst hn;go_enter func135,ntmps135
 go_wp2
 refine wp_scope_jumps 0 (J N N w) (fun a' _=>(intOf (a'.tmps.getD 3 undef)).toNat) rfl ?_ ?_
 ·have E:=Jgc [] 19 rfl (cod N) (48+(N:Int) % 10) (Jj4 N)
  have k:=Ji0 [] 19 rfl;go_wp2
  rw [Qad];by_cases hr:0<(N:Int) / 10
  ·have P:=Lib.hid (Jg5 N N [] (by omega) (by simp))
   go_step3
   go_wp2
   go_step3
   refine⟨rfl,?_⟩;exact⟨N / 10,19,[cod N],_,_,_,_,_,_,_,_,_,_,_,_,_,_,_,_,_,_,rfl,rfl,rfl,by omega,by omega,P⟩
  ·have hr0:(N:Int) / 10=0:=by omega
   have L:=Lib.hid (Jg6 N N [] (by have:=HN.out;omega) (by simp));have S:=fun W=>Jfl w.heap.size 19 1 (by decide) (by decide) W
   have C:=Jg4 (cod N::[]) 19 1 (by decide) (by simp) w;clear hr0;go_step3
   go_wp2
   simp only [Exit.jump];go_ret;exact⟨Jeh (by rw [←L.out]),Jfm _ _⟩
 ·rintro a' w' ⟨r,f,l,u6,u7,u8,u9,u10,u11,u12,u13,u14,u15,u16,u17,u18,u19,u20,u21,u22,u23,rfl,rfl,hf,r0,r1,he⟩
  have hle:=room r N l H19.out he.out;obtain⟨g,rfl⟩:∃g,f=g+1:=⟨f - 1,by omega⟩;have k:=Ji0 l g hf;have E:=Jgc l g hf (cod r) (48+(r:Int) % 10) (Jj4 r);by_cases hr:0<(r:Int) / 10
  ·have P:=Lib.hid (Jg5 r N l (by omega) he.out)
   go_wp2
   go_step3
   refine⟨rfl,⟨r / 10,g,cod r::l,_,_,_,_,_,_,_,_,_,_,_,_,_,_,_,_,_,_,rfl,rfl,by simp <;> omega,by omega,by omega,P⟩,?_⟩;simp [intOf];omega
  ·have hr0:r / 10=0:=by omega
   obtain⟨m,hm⟩:∃m,m=l.length+1:=⟨_,rfl⟩;have L:=Lib.hid (Jg6 r N l (by omega) he.out);have S:=fun W=>Jfl w.heap.size g m (by omega) (by omega) W
   have C:=Jg4 (cod r::l) g m (by omega) (by simp <;> omega) w;clear hr0 hm;go_wp2
   simp only [Exit.jump];go_ret;exact⟨Jeh (by rw [←L.out]),Jfm _ _⟩
theorem Jsh (n:Int) (N:Nat) (hn:n=-(N:Int)) (h0:n<0) (h1:-9223372036854775808≤n) (w:World):Calls prog 135 #[.int .i64 n] w fun e w'=>e=.returned (.string (str (45::Lib.decDigits N)))∧Below w.heap.size w w':=by
 have HN:=Lib.hid hn;have H19:=Lib.hid (Qac N (by omega));have d0:decide (n<0)=true:=by simp;omega
 have U:IntKind.u64.wrap (-IntKind.u64.wrap n)=(N:Int):=J7c n N hn h0 h1;have N1:N≤9223372036854775808:=by omega
 have N0:0<N:=by omega
 clear hn;go_enter func135,ntmps135
 go_wp2
 refine wp_scope_jumps 0 (J n N w) (fun a' _=>(intOf (a'.tmps.getD 3 undef)).toNat) rfl ?_ ?_
 ·have E:=Jgc [] 19 rfl (cod N) (48+(N:Int) % 10) (Jj4 N)
  have k:=Ji0 [] 19 rfl;go_wp2
  rw [Qad];by_cases hr:0<(N:Int) / 10
  ·have P:=Lib.hid (Jg5 N N [] (by omega) (by simp))
   go_step3
   go_wp2
   go_step3
   refine⟨rfl,?_⟩;exact⟨N / 10,19,[cod N],_,_,_,_,_,_,_,_,_,_,_,_,_,_,_,_,_,_,rfl,rfl,rfl,by omega,by omega,P⟩
  ·have hr0:(N:Int) / 10=0:=by omega
   have L:=Lib.hid (Jg6 N N [] (by have:=HN.out;omega) (by simp));have k2:=Ji0 (cod N::[]) 18 (by simp);have E2:=Jgc (cod N::[]) 18 (by simp) 45 45 rfl;have S:=fun W=>Jfl w.heap.size 18 2 (by decide) (by decide) W
   have C:=Jg4 (45::cod N::[]) 18 2 (by decide) (by simp) w;clear hr0;go_step3
   go_wp2
   simp only [Exit.jump];go_ret;exact⟨Jeh (by rw [←L.out]),Jfm _ _⟩
 ·rintro a' w' ⟨r,f,l,u6,u7,u8,u9,u10,u11,u12,u13,u14,u15,u16,u17,u18,u19,u20,u21,u22,u23,rfl,rfl,hf,r0,r1,he⟩
  have hle:=room r N l H19.out he.out;obtain⟨g,rfl⟩:∃g,f=g+1:=⟨f - 1,by omega⟩;have k:=Ji0 l g hf;have E:=Jgc l g hf (cod r) (48+(r:Int) % 10) (Jj4 r);by_cases hr:0<(r:Int) / 10
  ·have P:=Lib.hid (Jg5 r N l (by omega) he.out)
   go_wp2
   go_step3
   refine⟨rfl,⟨r / 10,g,cod r::l,_,_,_,_,_,_,_,_,_,_,_,_,_,_,_,_,_,_,rfl,rfl,by simp <;> omega,by omega,by omega,P⟩,?_⟩;simp [intOf];omega
  ·have hr0:r / 10=0:=by omega
   obtain⟨h,rfl⟩:∃h,g=h+1:=⟨g - 1,by omega⟩;obtain⟨m,hm⟩:∃m,m=l.length+2:=⟨_,rfl⟩;have L:=Lib.hid (Jg6 r N l (by omega) he.out);have k2:=Ji0 (cod r::l) h (by simp <;> omega);have E2:=Jgc (cod r::l) h (by simp <;> omega) 45 45 rfl;have S:=fun W=>Jfl w.heap.size h m (by omega) (by omega) W
   have C:=Jg4 (45::cod r::l) h m (by omega) (by simp <;> omega) w;clear hr0 hm;go_wp2
   simp only [Exit.jump];go_ret;exact⟨Jeh (by rw [←L.out]),Jfm _ _⟩
theorem format_any (n:Int) (h0:-9223372036854775808≤n) (h1:n≤9223372036854775807) (w:World):Calls prog 135 #[.int .i64 n] w fun e w'=>e=.returned (.string (str (Lib.itoa n)))∧Below w.heap.size w w':=by
 by_cases h:n<0
 ·rw [J1a n h]
  exact Jsh n n.natAbs (by omega) h h0 w
 ·rw [Jqc n (by omega)]
  exact Jsg n n.toNat (by omega) (by omega) h1 w
theorem Jn0 {w w':World} (h:w'=w∨∃t,w'=Lib.bytesWorld w 5 t):Below w.heap.size w w':=by
 rcases h with rfl | ⟨t,rfl⟩
 ·exact Below.refl _ _
 ·exact Lib.bytesWorld_below _ _ _
theorem J7d (l:List UInt8) (hs:l.length≤70000) (h:formed l=true) (k:fits (sgn l)=true) (w:World) :
  Calls prog 316 #[.string (str l)] w fun e w'=>e=.returned (.tuple #[.int .i64 (sgn l),.nilIface])∧Below w.heap.size w w':=by
 have hz:=Jaf l;refine (Tryz.strconv_Atoi_ok (str l) (by omega) (sgn l) (by rw [show (str l).data.toList=l from rfl,Jhr l h,if_pos k]) w).mono ?_;rintro e w' ⟨rfl,h⟩;exact⟨rfl,Jn0 h⟩
def Qae (w:World) (e:Ending) (w':World):Prop:=∃v a,e=.returned (.tuple #[.int .i64 v,.iface 301 (.pointer (some a))])∧Below w.heap.size w w'
theorem Jsi (l:List UInt8) (hs:l.length≤70000) (h:formed l=true) (k:fits (sgn l)=false) (w:World) (hg:Good w) :
  Calls prog 316 #[.string (str l)] w (Qae w):=by
 have hz:=Jaf l;obtain⟨tp,p,hv⟩:=hg;refine (Tryz.strconv_Atoi_range_var (str l) (by omega) (by rw [show (str l).data.toList=l from rfl,Jhr l h,if_neg (by simp [k])]) tp p w hv).mono ?_;rintro e w' ⟨N,rfl,_,_,b⟩;exact⟨_,_,rfl,b⟩
theorem Jg7 (l:List UInt8) (w:World):Calls prog 315 #[.string (str l),.string (str [45])] w fun e w'=>e=.returned (.string (str (body l)))∧w=w' :=
 (Tryz.strings_TrimPrefix (str l) (str [45]) w).mono fun _ _ ⟨he,hw⟩=>⟨he,hw.symm⟩
theorem Jj5 (l:List UInt8):(body l).length≤l.length:=by
 cases h:neg l with
 | true =>
  have e:=Jl5 l h;have:=congrArg List.length e;simp at this;omega
 | false=>rw [Jj0 l h];omega
theorem Jwv (l:List UInt8) (hs:l.length≤70000) (h:nat (body l)=false) (w:World):Calls prog 250 #[.string (str l)] w fun e w'=>e=.returned (.tuple #[.int .i64 0,.int .i64 3])∧w=w':=by
 have T:=Lib.hid (fun w=>Jg7 l w);have N:=Lib.hid (fun w=>Jd6 (body l) (Nat.le_trans (Jj5 l) hs) w);rw [h] at N;clear h;go_enter func250,ntmps250
 go_wp2_with (first | (go_at_call 315;refine (T.out _).mono ?_;rintro e w' ⟨rfl,rfl⟩) | (go_at_call 314;refine (N.out _).mono ?_;rintro e w' ⟨rfl,rfl⟩))
 go_ret2;exact⟨rfl,rfl⟩
theorem Jsj (w:World):Calls prog 250 #[.string (str [45,48])] w fun e w'=>e=.returned (.tuple #[.int .i64 0,.int .i64 3])∧w=w':=by
 have T:=Lib.hid (fun w=>Jg7 [45,48] w);rw [show body [45,48]=[48] from rfl] at T;have N:=Lib.hid (fun w=>Jiz w);go_enter func250,ntmps250
 go_wp2_with (first | (go_at_call 315;refine (T.out _).mono ?_;rintro e w' ⟨rfl,rfl⟩) | (go_at_call 314;refine (N.out _).mono ?_;rintro e w' ⟨rfl,rfl⟩))
 go_ret2;exact⟨rfl,rfl⟩
theorem J1c (l:List UInt8) (hs:l.length≤70000) (h:nat (body l)=true) (h2:l≠[45,48]) (hf:formed l=true) (k:fits (sgn l)=true) (w:World):Calls prog 250 #[.string (str l)] w fun e w'=>e=.returned (.tuple #[.int .i64 (sgn l),.int .i64 0])∧Below w.heap.size w w':=by
 have T:=Lib.hid (fun w=>Jg7 l w);have N:=Lib.hid (fun w=>Jd6 (body l) (Nat.le_trans (Jj5 l) hs) w);rw [h] at N;have A:=Lib.hid (fun w=>J7d l hs hf k w);have q:=J7b l [45,48] h2;generalize hL:sgn l=v at A ⊢;generalize str l=s at *;clear h hf k h2 hL hs;go_enter func250,ntmps250
 go_wp2_with (first | (go_at_call 315;refine (T.out _).mono ?_;rintro e w' ⟨rfl,rfl⟩) | (go_at_call 314;refine (N.out _).mono ?_;rintro e w' ⟨rfl,rfl⟩) | (go_at_call 316;refine (A.out _).mono ?_;rintro e w1 ⟨rfl,b1⟩))
 go_ret2;exact⟨rfl,b1⟩
theorem Jn1 (l:List UInt8) (hs:l.length≤70000) (h:nat (body l)=true) (h2:l≠[45,48]) (hf:formed l=true) (k:fits (sgn l)=false) (w:World) (hg:Good w):Calls prog 250 #[.string (str l)] w fun e w'=>e=.returned (.tuple #[.int .i64 0,.int .i64 2])∧Below w.heap.size w w':=by
 have T:=Lib.hid (fun w=>Jg7 l w);have N:=Lib.hid (fun w=>Jd6 (body l) (Nat.le_trans (Jj5 l) hs) w);rw [h] at N;have A:=Lib.hid (Jsi l hs hf k w hg);have q:=J7b l [45,48] h2;generalize str l=s at *;clear h hf k h2 hs;go_enter func250,ntmps250
 go_wp2_with (first | (go_at_call 315;refine (T.out _).mono ?_;rintro e w' ⟨rfl,rfl⟩) | (go_at_call 314;refine (N.out _).mono ?_;rintro e w' ⟨rfl,rfl⟩) | (go_at_call 316;refine A.out.mono ?_;rintro e w1 ⟨v,a,rfl,b1⟩))
 go_ret2;exact⟨rfl,b1⟩
theorem Jma {l:List UInt8} (h:formed l=true):nat (body l)=true∧l≠[45,48]:=by
 unfold formed at h;rw [Bool.and_eq_true] at h;exact⟨h.1,by simpa using h.2⟩
theorem parse_any (l:List UInt8) (hs:l.length≤70000) (w:World) (hg:Good w):Calls prog 250 #[.string (str l)] w fun e w'=>e=.returned (.tuple #[.int .i64 ((numR l).1),.int .i64 ((numR l).2)])∧Below w.heap.size w w':=by
 cases hf:formed l with
 | false =>
  rw [Jny hf];cases hn:nat (body l) with
  | false=>exact Jm0 (Jwv l hs hn w)
  | true =>
   have:l=[45,48]:=by unfold formed at hf;rw [hn] at hf;simpa using hf
   subst this;exact Jm0 (Jsj w)
 | true =>
  obtain⟨h1,h2⟩:=Jma hf;cases k:fits (sgn l) with
  | true=>rw [Jws hf k];exact J1c l hs h1 h2 hf k w
  | false=>rw [Jix hf k];exact Jn1 l hs h1 h2 hf k w hg
def rngR (l:List UInt8) (lo hi:Int):Int×Int:=if (numR l).2=0 then (if lo≤(numR l).1∧(numR l).1≤hi then ((numR l).1,0) else (0,2)) else (0,(numR l).2)
theorem J1d (l:List UInt8):(numR l).2=0∨(numR l).2=2∨(numR l).2=3:=by
 unfold numR;split
 ·split
  ·exact Or.inl rfl
  ·exact Or.inr (Or.inl rfl)
 ·exact Or.inr (Or.inr rfl)
theorem Jsk (l:List UInt8) (lo hi n c:Int) (w:World) (C:∀w:World,Good w→Calls prog 250 #[.string (str l)] w fun e w'=>e=.returned (.tuple #[.int .i64 n,.int .i64 c])∧Below w.heap.size w w') (hc:(c != 0)=true) (hg:Good w):Calls prog 328 #[.string (str l),.int .i64 lo,.int .i64 hi] w fun e w'=>e=.returned (.tuple #[.int .i64 0,.int .i64 c])∧Below w.heap.size w w':=by
 have P:=Lib.hid (C w hg);clear C;generalize str l=s at *;go_enter func328,ntmps328
 go_wp2_with (go_at_call 250;refine P.out.mono ?_;rintro e w1 ⟨rfl,b1⟩)
 go_ret2;exact⟨rfl,b1⟩
theorem Jww (l:List UInt8) (lo hi n:Int) (w:World) (C:∀w:World,Good w→Calls prog 250 #[.string (str l)] w fun e w'=>e=.returned (.tuple #[.int .i64 n,.int .i64 0])∧Below w.heap.size w w') (h0:lo≤n) (h1:n≤hi) (hg:Good w):Calls prog 328 #[.string (str l),.int .i64 lo,.int .i64 hi] w fun e w'=>e=.returned (.tuple #[.int .i64 n,.int .i64 0])∧Below w.heap.size w w':=by
 have P:=Lib.hid (C w hg);clear C;generalize str l=s at *;go_enter func328,ntmps328
 go_wp2_with (go_at_call 250;refine P.out.mono ?_;rintro e w1 ⟨rfl,b1⟩)
 refine (Jez _ _ _).mono ?_;rintro e w' ⟨rfl,rfl⟩;go_wp2_with fail
 refine (Jiy _ _ _ h0 h1 _).mono ?_;rintro e w' ⟨rfl,rfl⟩;go_wp2_with fail
 go_ret2;exact⟨rfl,Jqd b1 _ _⟩
theorem Jsl (l:List UInt8) (lo hi n:Int) (w:World) (C:∀w:World,Good w→Calls prog 250 #[.string (str l)] w fun e w'=>e=.returned (.tuple #[.int .i64 n,.int .i64 0])∧Below w.heap.size w w') (h:n<lo∨hi<n) (hg:Good w):Calls prog 328 #[.string (str l),.int .i64 lo,.int .i64 hi] w fun e w'=>e=.returned (.tuple #[.int .i64 0,.int .i64 2])∧Below w.heap.size w w':=by
 have P:=Lib.hid (C w hg);have H:=Lib.hid h;clear C h;generalize str l=s at *;go_enter func328,ntmps328
 go_wp2_with (go_at_call 250;refine P.out.mono ?_;rintro e w1 ⟨rfl,b1⟩)
 refine (Jez _ _ _).mono ?_;rintro e w' ⟨rfl,rfl⟩;go_wp2_with fail
 refine (Jwu _ _ _ H.out _).mono ?_;rintro e w' ⟨rfl,rfl⟩;go_wp2_with fail
 go_ret2;exact⟨rfl,Jqd b1 _ _⟩
theorem Jsm (l:List UInt8) (hs:l.length≤70000) (lo hi:Int) (w:World) (hg:Good w):Calls prog 328 #[.string (str l),.int .i64 lo,.int .i64 hi] w fun e w'=>e=.returned (.tuple #[.int .i64 ((rngR l lo hi).1),.int .i64 ((rngR l lo hi).2)])∧Below w.heap.size w w':=by
 have C:=fun w hg=>parse_any l hs w hg
 have hb:=J1d l;unfold rngR;generalize numR l=r at C hb ⊢;obtain⟨n,c⟩:=r;by_cases h0:c=0
 ·subst h0
  rw [if_pos rfl];by_cases h1:lo≤n∧n≤hi
  ·rw [if_pos h1];exact Jww l lo hi n w C h1.1 h1.2 hg
  ·rw [if_neg h1];exact Jsl l lo hi n w C (by omega) hg
 ·rw [if_neg h0]
  exact Jsk l lo hi n c w C (Jae h0) hg
theorem J1e (s:ByteArray) (k:Nat) (hk:k≤s.size) (h:¬k<s.size):s.data.toList.take k=s.data.toList:=List.take_of_length_le (by simp;omega)
def Jdq (c:UInt8):Bool:=c != 46
def bef (l:List UInt8):List UInt8:=l.takeWhile Jdq
def beh (l:List UInt8):List UInt8:=(l.dropWhile Jdq).drop 1
def Jeu (l:List UInt8):Bool:=nat (bef l)&&((beh l).length==2&&digs (beh l))
def worth (l:List UInt8):Nat:=valN (bef l)*100+valN (beh l)
def Jc3 (l:List UInt8):Int×Int:=if Jeu l then (if worth l≤1000000 then ((worth l:Int),0) else (0,2)) else (0,3)
def Jef (c:Nat):List UInt8:=Lib.decDigits (c / 100)++46::two ((c % 100:Nat):Int)
theorem bef_at (l:List UInt8) (pos:Nat) (h:(l.take pos).all Jdq=true) (hc:l[pos]?=some 46):bef l=l.take pos∧beh l=l.drop (pos+1):=by
 have e:l=l.take pos++46::l.drop (pos+1):=by
  have hp:pos<l.length:=(List.getElem?_eq_some_iff.1 hc).1;have h1:l.drop pos=46::l.drop (pos+1):=by
   rw [List.drop_eq_getElem_cons hp];rw [List.getElem?_eq_getElem hp] at hc;rw [Option.some.inj hc]
  rw [←h1,List.take_append_drop]
 rw [List.all_eq_true] at h;unfold bef beh;constructor
 ·conv=>lhs;rw [e]
  rw [List.takeWhile_append_of_pos h];simp [Jdq]
 ·conv=>lhs;rw [e]
  rw [List.dropWhile_append_of_pos h];simp [Jdq]
theorem J1f (l:List UInt8) (h:l.all Jdq=true):bef l=l∧beh l=[]:=by
 rw [List.all_eq_true] at h;unfold bef beh;have h1:=List.takeWhile_append_of_pos (l₂:=[]) h;have h2:=List.dropWhile_append_of_pos (l₂:=[]) h;rw [List.append_nil] at h1 h2;exact⟨by rw [h1];simp,by rw [h2];rfl⟩
theorem Jmb {l:List UInt8} (h:Jeu l=true):nat (bef l)=true∧(beh l).length=2∧digs (beh l)=true:=by
 unfold Jeu at h;rw [Bool.and_eq_true,Bool.and_eq_true] at h;exact⟨h.1,by simpa using h.2.1,h.2.2⟩
theorem J7e {l:List UInt8} (h:Jeu l=true):∃a b,beh l=[a,b]∧dig a=true∧dig b=true:=by
 obtain⟨_,h2,h3⟩:=Jmb h;match hb:beh l,h2 with
 | [a,b],_ =>
  rw [hb] at h3;simp [digs] at h3;exact⟨a,b,rfl,h3.1,h3.2⟩
theorem Jwx (c:Nat):str (Lib.decDigits (c / 100))++str [46]++str [cod (c % 100 / 10)]++str [cod (c % 10)]=str (Jef c):=by
 rw [Jcz,Jcz,Jcz];unfold Jef two cod;rw [show (48+c % 100 / 10 % 10)=48+((c % 100:Nat):Int).toNat / 10 by omega,show (48+c % 10 % 10)=48+((c % 100:Nat):Int).toNat % 10 by omega];simp
theorem Jqe (c:Nat) (x:Int) (hx:x=(c:Int)):Lib.itoa x=Lib.decDigits c:=by
 rw [Jqc x (by omega),hx];rfl
theorem Ji1 (c:Nat) (x:Int) (hx:x=(c:Int)) (h:c<10):Lib.itoa x=[cod c]:=by
 rw [Jqe c x hx,Lib.decDigits_one h];unfold cod;rw [show c % 10=c by omega]
theorem fprice_yes (n:Int) (c:Nat) (hn:n=(c:Int)) (h:n≤1000000) (w:World):Calls prog 225 #[.int .i64 n] w fun e w'=>e=.returned (.tuple #[.string (str (Jef c)),.int .i64 0])∧Below w.heap.size w w':=by
 have h0:0≤n:=by omega
 have A:=Lib.hid (fun w=>format_any (n / 100) (by omega) (by omega) w);have B:=Lib.hid (fun w=>format_any (n % 100 / 10) (by omega) (by omega) w);have C:=Lib.hid (fun w=>format_any (n % 10) (by omega) (by omega) w);rw [Jqe (c / 100) _ (by omega)] at A;rw [Ji1 (c % 100 / 10) _ (by omega) (by omega)] at B;rw [Ji1 (c % 10) _ (by omega) (by omega)] at C;have hl:=J33 (c / 100) 5 (by decide) (by omega);have hl1:=Jaf (Lib.decDigits (c / 100));have E:=Lib.hid (Jwx c);clear hn;go_enter func225,ntmps225
 go_wp2_with fail
 refine (Jez _ _ _).mono ?_;rintro e w' ⟨rfl,rfl⟩;go_wp2_with fail
 refine (Jiy _ _ _ (by omega) (by omega) _).mono ?_;rintro e w' ⟨rfl,rfl⟩;go_wp2_with fail
 (with_reducible refine (rel (W:=w) (A.out _) (Jl7 _ _ _)).mono ?_)
 rintro e w1 ⟨rfl,b1⟩;go_wp2_with fail
 (with_reducible refine (rel (W:=w) (B.out _) b1).mono ?_)
 rintro e w2 ⟨rfl,b2⟩;go_wp2_with fail
 (with_reducible refine (rel (W:=w) (C.out _) b2).mono ?_)
 rintro e w3 ⟨rfl,b3⟩;go_wp2_with fail
 go_ret2;exact⟨Jtg E.out,b3⟩
theorem Jmc (w:World) (s:ByteArray) (pos:Nat) (h:pos<s.size) (ha:s[pos].toNat<128) (ty:TypeId):(Instr.next (.pointer (some ⟨w.heap.size,0,none⟩)) true ty).run prog (w.iter s pos)=.ok (.tuple #[.bool true,.int .i64 pos,.int .i32 s[pos].toNat]) (w.iter s (pos+1)):=run_next_ascii w s pos ty h ha
theorem J34 {a b c d:ByteArray} (h:a=c) (k:b=d):Ending.returned (.tuple #[.string a,.string b])=.returned (.tuple #[.string c,.string d]):=by rw [h,k]
theorem J7f (l:List UInt8) (hs:l.length≤70000) (w:World):Calls prog 326 #[.string (str l)] w fun e w'=>e=.returned (.tuple #[.string (str (bef l)),.string (str (beh l))])∧Below w.heap.size w w':=by
 have hz:=Jaf l;have hs':(str l).size≤70000:=by omega
 have HL:=Lib.hid (show (str l).data.toList=l from rfl);have K1:=Lib.hid (fun (pos:Nat) (hp:pos≤l.length) W=>Jti l pos hp _ rfl pos rfl W);have K2:=Lib.hid (fun (pos:Nat) (hp:pos+1≤l.length) W=>Jtj l (pos+1) hp _ rfl ((pos:Int)+1) (by omega) W);have HZ:=Lib.hid hz;clear hz;generalize hL:str l=s at *;clear hL;go_enter func326,ntmps326
 go_wp2
 go_loopw [] (fun w'=>∃pos:Nat,w'=w.iter s pos∧pos≤s.size∧Hid ((s.data.toList.take pos).all Jdq=true)) (fun w'=>s.size - w'.iterPos w.heap.size)
 case atStart=>exact⟨0,rfl,Nat.zero_le _,Lib.hid rfl⟩
 case round =>
  obtain⟨pos,rfl,hle,ht⟩:=hrel;by_cases hp:pos<s.size
  ·by_cases ha:s[pos].toNat<128
   ·have hnx:=Jmc w s pos hp ha
    by_cases hc:s[pos].toNat=46
    ·have hB:bef l=l.take pos∧beh l=l.drop (pos+1):=by
      have h1:=ht.out;rw [HL.out] at h1;refine bef_at l pos h1 ?_;have:=Jde s pos hp;rw [HL.out] at this;rw [this,show s[pos]=46 from UInt8.toNat_inj.1 hc]
     have k1:=K1.out pos (by have:=HZ.out;omega);have k2:=K2.out pos (by have:=HZ.out;omega);have q:((s[pos].toNat:Int)==46)=true:=Jaq (by omega);have HB:=Lib.hid hB;clear hB hc ht;go_wp2
     go_quiet (fail)
     go_wp2
     go_ret2;exact⟨J34 (by rw [HB.out.1]) (by rw [HB.out.2]),Jaj (Jaz _ _ _) _⟩
    ·have q:((s[pos].toNat:Int)==46)=false:=Jac (by omega)
     have hst:Hid ((s.data.toList.take (pos+1)).all Jdq=true):=Lib.hid (by
      rw [Je1 s pos hp,List.all_append,ht.out];simp [Jdq];intro e;rw [e] at hc;exact hc rfl)
     go_wp2
     go_roundw
     case rel=>exact⟨pos+1,rfl,by omega,hst⟩
     case measure=>simp;omega
   ·have hh:=decode_high s pos hp (by omega)
    have hi:=Jwr s pos hp;have hst:Hid ((s.data.toList.take (pos+(Utf8.decode s pos).2)).all Jdq=true):=Lib.hid (Jl4 Jdq (fun c hc=>by
     unfold Jdq;rw [bne_iff_ne];intro e;subst e;simp at hc) s pos hp (by omega) ht.out)
    have q:(((Utf8.decode s pos).1:Int)==46)=false:=Jac (by omega);have hnx:∀ty,(Instr.next (.pointer (some ⟨w.heap.size,0,none⟩)) true ty).run prog (w.iter s pos)=_:=fun ty=>run_next_any w s pos ty hp
    go_wp2
    go_roundw
    case rel=>exact⟨pos+(Utf8.decode s pos).2,rfl,hi,hst⟩
    case measure=>simp;omega
  ·have hnx:∀ty,(Instr.next (.pointer (some ⟨w.heap.size,0,none⟩)) true ty).run prog (w.iter s pos)=_:=fun ty=>run_next_end w s pos ty hp
   have hB:=J1f l (by
    have h1:=ht.out;rwa [J1e s pos hle hp,HL.out] at h1)
   have E:s=str l:=Qaa s l HL.out;have HB:=Lib.hid hB;have HE:=Lib.hid E;clear hB ht E;go_wp2
   go_ret2;exact⟨J34 (by rw [HB.out.1,HE.out]) (by rw [HB.out.2]),Jaz _ _ _⟩
theorem Qaf (s s1 s2:ByteArray) (C:Hid (∀w:World,Calls prog 326 #[.string s] w fun e w'=>e=.returned (.tuple #[.string s1,.string s2])∧Below w.heap.size w w')) (N:Hid (∀w:World,Calls prog 314 #[.string s1] w fun e w'=>e=.returned (.bool false)∧w=w')) (w:World):Calls prog 256 #[.string s] w fun e w'=>e=.returned (.tuple #[.int .i64 0,.int .i64 3])∧Below w.heap.size w w':=by
 go_enter func256,ntmps256
 go_wp2_with (first | (go_at_call 326;refine (C.out _).mono ?_;rintro e w1 ⟨rfl,b1⟩) | (go_at_call 314;refine (N.out _).mono ?_;rintro e w' ⟨rfl,rfl⟩))
 go_ret2;exact⟨rfl,b1⟩
theorem Qag (s s1 s2:ByteArray) (C:Hid (∀w:World,Calls prog 326 #[.string s] w fun e w'=>e=.returned (.tuple #[.string s1,.string s2])∧Below w.heap.size w w')) (N:Hid (∀w:World,Calls prog 314 #[.string s1] w fun e w'=>e=.returned (.bool true)∧w=w')) (h:((s2.size:Int) != 2)=true) (w:World):Calls prog 256 #[.string s] w fun e w'=>e=.returned (.tuple #[.int .i64 0,.int .i64 3])∧Below w.heap.size w w':=by
 go_enter func256,ntmps256
 go_wp2_with (first | (go_at_call 326;refine (C.out _).mono ?_;rintro e w1 ⟨rfl,b1⟩) | (go_at_call 314;refine (N.out _).mono ?_;rintro e w' ⟨rfl,rfl⟩))
 go_ret2;exact⟨rfl,b1⟩
theorem J7g (s s1 s2:ByteArray) (C:Hid (∀w:World,Calls prog 326 #[.string s] w fun e w'=>e=.returned (.tuple #[.string s1,.string s2])∧Below w.heap.size w w')) (N:Hid (∀w:World,Calls prog 314 #[.string s1] w fun e w'=>e=.returned (.bool true)∧w=w')) (h:((s2.size:Int) != 2)=false) (D:Hid (∀w:World,Calls prog 327 #[.string s2] w fun e w'=>e=.returned (.bool false)∧w=w')) (w:World):Calls prog 256 #[.string s] w fun e w'=>e=.returned (.tuple #[.int .i64 0,.int .i64 3])∧Below w.heap.size w w':=by
 go_enter func256,ntmps256
 go_wp2_with (first | (go_at_call 326;refine (C.out _).mono ?_;rintro e w1 ⟨rfl,b1⟩) | (go_at_call 314;refine (N.out _).mono ?_;rintro e w' ⟨rfl,rfl⟩) | (go_at_call 327;refine (D.out _).mono ?_;rintro e w' ⟨rfl,rfl⟩))
 go_ret2;exact⟨rfl,b1⟩
theorem Qah (s s1 s2:ByteArray) (C:Hid (∀w:World,Calls prog 326 #[.string s] w fun e w'=>e=.returned (.tuple #[.string s1,.string s2])∧Below w.heap.size w w')) (N:Hid (∀w:World,Calls prog 314 #[.string s1] w fun e w'=>e=.returned (.bool true)∧w=w')) (h:((s2.size:Int) != 2)=false) (D:Hid (∀w:World,Calls prog 327 #[.string s2] w fun e w'=>e=.returned (.bool true)∧w=w')) (R:Hid (∀w:World,Good w→Calls prog 328 #[.string s1,.int .i64 0,.int .i64 10000] w fun e w'=>e=.returned (.tuple #[.int .i64 0,.int .i64 2])∧Below w.heap.size w w')) (w:World) (hg:Good w):Calls prog 256 #[.string s] w fun e w'=>e=.returned (.tuple #[.int .i64 0,.int .i64 2])∧Below w.heap.size w w':=by
 go_enter func256,ntmps256
 go_wp2_with (first | (go_at_call 326;refine (C.out _).mono ?_;rintro e w1 ⟨rfl,b1⟩) | (go_at_call 314;refine (N.out _).mono ?_;rintro e w' ⟨rfl,rfl⟩) | (go_at_call 327;refine (D.out _).mono ?_;rintro e w' ⟨rfl,rfl⟩) | (go_at_call 328;refine (rel (W:=w) (R.out _ (hg.below b1)) b1).mono ?_;rintro e w2 ⟨rfl,b2⟩))
 go_ret2;exact⟨rfl,b2⟩
theorem Qai (s s1 s2:ByteArray) (C:Hid (∀w:World,Calls prog 326 #[.string s] w fun e w'=>e=.returned (.tuple #[.string s1,.string s2])∧Below w.heap.size w w')) (N:Hid (∀w:World,Calls prog 314 #[.string s1] w fun e w'=>e=.returned (.bool true)∧w=w')) (h:((s2.size:Int) != 2)=false) (D:Hid (∀w:World,Calls prog 327 #[.string s2] w fun e w'=>e=.returned (.bool true)∧w=w')) (u:Int) (u0:0≤u) (u1:u≤10000) (R:Hid (∀w:World,Good w→Calls prog 328 #[.string s1,.int .i64 0,.int .i64 10000] w fun e w'=>e=.returned (.tuple #[.int .i64 u,.int .i64 0])∧Below w.heap.size w w')) (a b:UInt8) (a0:48≤a.toNat) (a1:a.toNat≤57) (b0:48≤b.toNat) (b1:b.toNat≤57)
  (ka:∀W,(Instr.index 9 (.string s2) (.int .i64 0)).run prog W=.ok (.int .u8 a.toNat) W) (kb:∀W,(Instr.index 9 (.string s2) (.int .i64 1)).run prog W=.ok (.int .u8 b.toNat) W)
  (n c:Int) (hr:(if u*100+((a.toNat:Int) - 48)*10+((b.toNat:Int) - 48)≤1000000 then (u*100+((a.toNat:Int) - 48)*10+((b.toNat:Int) - 48),(0:Int)) else (0,2))=(n,c)) (w:World) (hg:Good w):Calls prog 256 #[.string s] w fun e w'=>e=.returned (.tuple #[.int .i64 n,.int .i64 c])∧Below w.heap.size w w':=by
 by_cases hp:u*100+((a.toNat:Int) - 48)*10+((b.toNat:Int) - 48)≤1000000
 ·rw [if_pos hp] at hr
  obtain⟨rfl,rfl⟩:=Prod.mk.inj hr;clear hr;go_enter func256,ntmps256
  go_wp2_with (first | (go_at_call 326;refine (C.out _).mono ?_;rintro e w1 ⟨rfl,b1⟩) | (go_at_call 314;refine (N.out _).mono ?_;rintro e w' ⟨rfl,rfl⟩) | (go_at_call 327;refine (D.out _).mono ?_;rintro e w' ⟨rfl,rfl⟩) | (go_at_call 328;refine (rel (W:=w) (R.out _ (hg.below b1)) b1).mono ?_;rintro e w2 ⟨rfl,b2⟩))
  go_quiet (fail)
  go_wp2_with fail
  go_ret2;exact⟨rfl,Jaj b2 _⟩
 ·rw [if_neg hp] at hr
  obtain⟨rfl,rfl⟩:=Prod.mk.inj hr;clear hr;have hq:1000000<u*100+((a.toNat:Int) - 48)*10+((b.toNat:Int) - 48):=by omega
  clear hp;go_enter func256,ntmps256
  go_wp2_with (first | (go_at_call 326;refine (C.out _).mono ?_;rintro e w1 ⟨rfl,b1⟩) | (go_at_call 314;refine (N.out _).mono ?_;rintro e w' ⟨rfl,rfl⟩) | (go_at_call 327;refine (D.out _).mono ?_;rintro e w' ⟨rfl,rfl⟩) | (go_at_call 328;refine (rel (W:=w) (R.out _ (hg.below b1)) b1).mono ?_;rintro e w2 ⟨rfl,b2⟩))
  go_quiet (fail)
  go_wp2_with fail
  go_ret2;exact⟨rfl,Jaj b2 _⟩
theorem J7h (l:List UInt8):(bef l).length≤l.length:=by
 unfold bef;exact (List.takeWhile_sublist _).length_le
theorem J7i (l:List UInt8):(beh l).length≤l.length:=by
 unfold beh;have:=(List.dropWhile_sublist (l:=l) Jdq).length_le;simp;omega
theorem Jsn {b:List UInt8} (h:nat b=true):formed b=true∧sgn b=(valN b:Int):=by
 obtain⟨c,r,rfl,h1,h2⟩:=Jj1 h;have hc:c≠45:=by intro e;subst e;simp at h1
 have hg:neg (c::r)=false:=by simp [neg,hc]
 have hb:=Jj0 (c::r) hg;unfold formed sgn;rw [hb,h,if_neg (by simp [hg])];exact⟨by simp [hc],rfl⟩
theorem J7j {b:List UInt8} (h:nat b=true):numR b=if valN b≤9223372036854775807 then ((valN b:Int),0) else (0,2):=by
 obtain⟨h1,h2⟩:=Jsn h;by_cases hv:valN b≤9223372036854775807
 ·rw [if_pos hv,Jws h1 (by rw [h2,fits_iff];omega),h2]
 ·rw [if_neg hv,Jix h1 (by rw [h2];simp [fits];omega)]
theorem J7k {b:List UInt8} (h:nat b=true):rngR b 0 10000=if valN b≤10000 then ((valN b:Int),0) else (0,2):=by
 unfold rngR;rw [J7j h];by_cases hv:valN b≤9223372036854775807
 ·rw [if_pos hv]
  simp only [if_true];by_cases h2:valN b≤10000
  ·rw [if_pos h2,if_pos (by omega)]
  ·rw [if_neg h2,if_neg (by omega)]
 ·rw [if_neg hv,if_neg (by decide),if_neg (by omega)]
theorem Jwy (l:List UInt8) (a b:UInt8) (hb:beh l=[a,b]) (da:dig a=true) (db:dig b=true):(worth l:Int)=(valN (bef l):Int)*100+((a.toNat:Int) - 48)*10+((b.toNat:Int) - 48):=by
 have h1:=(Jcd a).1 da;have h2:=(Jcd b).1 db;unfold worth;rw [hb,Jy0];omega
theorem J1g (l:List UInt8) (h:Jeu l=true) (a b:UInt8) (hb:beh l=[a,b]) (da:dig a=true) (db:dig b=true) :
  (if (valN (bef l):Int)*100+((a.toNat:Int) - 48)*10+((b.toNat:Int) - 48)≤1000000 then ((valN (bef l):Int)*100+((a.toNat:Int) - 48)*10+((b.toNat:Int) - 48),(0:Int)) else (0,2))=((Jc3 l).1,(Jc3 l).2):=by
 have e:=Jwy l a b hb da db;unfold Jc3;rw [if_pos h,←e];by_cases hw:worth l≤1000000
 ·rw [if_pos hw,if_pos (by omega)]
 ·rw [if_neg hw,if_neg (by omega)]
theorem pprice_any (l:List UInt8) (hs:l.length≤69000) (w:World) (hg:Good w):Calls prog 256 #[.string (str l)] w fun e w'=>e=.returned (.tuple #[.int .i64 ((Jc3 l).1),.int .i64 ((Jc3 l).2)])∧Below w.heap.size w w':=by
 have h1:=J7h l;have h2:=J7i l;have C:=Lib.hid (fun w=>J7f l (by omega) w);have N:=Lib.hid (fun w=>Jd6 (bef l) (by omega) w);have D:=Lib.hid (fun w=>Jj3 (str (beh l)) (by rw [Jaf];omega) w);rw [show (str (beh l)).data.toList=beh l from rfl] at D;have R:=Lib.hid (fun w hg=>Jsm (bef l) (by omega) 0 10000 w hg);have hz:=Jaf (beh l);cases hn:nat (bef l) with
 | false =>
  rw [hn] at N;have e:Jc3 l=(0,3):=by unfold Jc3 Jeu;rw [hn];rfl
  rw [e];exact Qaf _ _ _ C N w
 | true =>
  rw [hn] at N;by_cases hl:(beh l).length=2
  ·have q:(((str (beh l)).size:Int) != 2)=false:=Jar (by omega)
   cases hd:digs (beh l) with
   | false =>
    rw [hd] at D;have e:Jc3 l=(0,3):=by unfold Jc3 Jeu;rw [hd];simp
    rw [e];exact J7g _ _ _ C N q D w
   | true =>
    rw [hd] at D;have hp:Jeu l=true:=by unfold Jeu;rw [hn,hd];simp [hl]
    obtain⟨a,b,hb,da,db⟩:=J7e hp;have e:=J1g l hp a b hb da db;rw [J7k hn] at R;by_cases hv:valN (bef l)≤10000
    ·rw [if_pos hv] at R
     have d1:=(Jcd a).1 da;have d2:=(Jcd b).1 db;exact Qai _ _ _ C N q D (valN (bef l):Int) (by omega) (by omega) R a b d1.1 d1.2 d2.1 d2.2 (fun W=>Jth (beh l) 0 a (by rw [hb];rfl) 0 rfl W) (fun W=>Jth (beh l) 1 b (by rw [hb];rfl) 1 rfl W) _ _ e w hg
    ·rw [if_neg hv] at R
     have hw:¬worth l≤1000000:=by unfold worth;omega
     have e:Jc3 l=(0,2):=by unfold Jc3;rw [if_pos hp,if_neg hw]
     rw [e];exact Qah _ _ _ C N q D R w hg
  ·have q:(((str (beh l)).size:Int) != 2)=true:=Jae (by omega)
   have e:Jc3 l=(0,3):=by unfold Jc3 Jeu;rw [show ((beh l).length==2)=false by simpa using hl];simp
   rw [e];exact Qag _ _ _ C N q w
end S3
section
open Go.RowKit
open S2 (bef Jjw Jp4 bef_end dayR dText)
open S3 (numR Jc3 Jef)
def monD:Nat→Nat→Nat
 | 0,_=>0
 | k+1,d=>if bef k≤d then k else monD k d
theorem J7l (d k:Nat) (h:d<bef k):Jjw (monD k d) d∧monD k d<k:=by
 induction k with
 | zero=>rw [Jp4] at h;omega
 | succ k ih =>
  have e:monD (k+1) d=if bef k≤d then k else monD k d:=rfl
  rw [e];by_cases hk:bef k≤d
  ·rw [if_pos hk];exact⟨⟨hk,h⟩,by omega⟩
  ·rw [if_neg hk]
   obtain⟨a,b⟩:=ih (by omega);exact⟨a,by omega⟩
def fmR:Fm where
 num:=numR
 prc:=fun s=>Jc3 s
 tim:=Jr4
 dur:=durR
 day:=dayR
 mds:=fun s=>ansR (prsR s)
 numT:=Lib.itoa
 prcT:=fun n=>Jef n.toNat
 timT:=Jg3
 durT:=Jdg
 dayT:=fun n=>dText (monD 1200 n.toNat) n.toNat
 mdsT:=fun n=>textR n.toNat
end
end Go.Proofs.YtpifdbphmnifdaaGreatDoor
