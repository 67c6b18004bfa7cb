/-
  Facts. Condition: each theorem's own.
-/
import Derived.Test.YtpifdbphmnifdaaGreatDoorYC4
set_option maxRecDepth 100000
set_option maxHeartbeats 8000000
section
variable {p:Prop}
theorem Jy (h:p:=by go_wp2_with fail;go_ret;exact⟨Jab R.out.symm,B7.out⟩):p:=h
theorem Jz (h:p:=by go_wp2_with fail;go_ret2;exact⟨ret_chk (by rw [R.out]) (by rw [R.out]),B7.out⟩):p:=h
theorem J5 (h:p:=by have hi:=(Pl hs).1;obtain⟨k,f,rfl,hb,hcell⟩:=hx Kd;exact⟨k,f,rfl,hb,hcell (i*4) _ (by rw [←Nat.add_zero (i*4),Jbr fe_len hs 0 Kd];rfl),(hcell (i*4+1) _ (by rw [Jbr fe_len hs 1 Kd];rfl):_),(hcell (i*4+2) _ (by rw [Jbr fe_len hs 2 Kd];rfl):_),(hcell (i*4+3) _ (by rw [Jbr fe_len hs 3 Kd];rfl):_)⟩):p:=h
theorem J6 (h:p:=by rw [List.length_take];omega):p:=h
theorem J7 (h:p:=by go_wp2_with fail;go_ret;exact⟨Jad Va,Jac (Jac B7.out _) _⟩):p:=h
theorem J8 (h:p:=by go_wp2_with fail;go_ret;exact⟨Jad R.out.symm,Jac B7.out _⟩):p:=h
theorem J9 (h:p:=by go_enter func161,ntmps161;exact Jy):p:=h
theorem Za (h:p:=by go_wp2_with fail;go_ret;exact⟨Jad (by rw [←HE.out,R.out]),Jac B7.out _⟩):p:=h
theorem Zb (h:p:=by go_enter func263,ntmps263;exact Jy):p:=h
theorem Zc (h:p:=by go_wp2_with fail;go_ret;exact⟨Jad Va,B7.out⟩):p:=h
theorem Zd (h:p:=by go_wp2_with fail;go_ret;exact⟨Jad R.out.symm,Jac (Jac B7.out _) _⟩):p:=h
theorem Ze (h:p:=by exact⟨(Below.refl _ _).alloc Ph _,h0,h1,h2,h3,Kj,c7⟩):p:=h
theorem Zf (h:p:=by simpa using hb):p:=h
theorem Zg (h:p:=by rintro e w8 ⟨rfl,b8⟩;have B8:Hid (Pn w w8):=HB.out.trans (b8.mono HB.out.size);clear b8 C HB;exact V9):p:=h
theorem Zh (h:p:=by rw [List.drop_zero,Nat.sub_zero] at this;exact this):p:=h
theorem Zi (h:p:=by rw [←HR.out];rfl):p:=h
theorem Zj (h:p:=by go_enter func262,ntmps262;exact Vd):p:=h
theorem Zk (h:p:=by go_enter func234,ntmps234;go_wp2_with fail;go_ret;exact⟨Jad Va,Pg⟩):p:=h
end
open Go.Proofs.Tryz
namespace Go.Proofs.YtpifdbphmnifdaaGreatDoor
namespace S17
open Go Go.RowKit
open Go.RowKit
theorem str_ne {id:List UInt8} {x:List UInt8} {s t:ByteArray} (hs:str x=s) (ht:str id=t) (h:x≠id):s≠t:=by
 intro e;apply h;have e2:str x=str id:=Vz;exact Vi
def idT (x:Tp):List UInt8:=x.1
def rkT (ro ca r k:Int):Prop:=(0≤r∧r<ro)∧0≤k∧k<ca
instance (ro ca r k:Int):Decidable (rkT ro ca r k):=by unfold rkT;infer_instance
def badT (st ro ca:Int) (seen:List (List UInt8)) (x:Tp):Int:=if Jaj x.1=false then 12 else if x.1∈seen then 6 else if rkT ro ca x.2.1 x.2.2.1 then (chkC st 0 172800 x.2.2.2.2.2).2 else 9
section
variable {st ro ca:Int} {seen:List (List UInt8)} {x:Tp}
theorem Jn0 (h:Jaj x.1=false):badT st ro ca seen x=12:=by unfold badT;rw [if_pos h]
theorem Jkg (h:Jaj x.1=true) (h2:x.1∈seen):badT st ro ca seen x=6:=by unfold badT;rw [if_neg Kw,if_pos h2]
theorem Jfc (h:Jaj x.1=true) (h2:x.1 ∉ seen) (h3:¬rkT ro ca x.2.1 x.2.2.1):badT st ro ca seen x=9:=by unfold badT;rw [if_neg Kw,if_neg h2,if_neg h3]
theorem Jkh (h:Jaj x.1=true) (h2:x.1 ∉ seen) (h3:rkT ro ca x.2.1 x.2.2.1):badT st ro ca seen x=(chkC st 0 172800 x.2.2.2.2.2).2:=by unfold badT;rw [if_neg Kw,if_neg h2,if_pos h3]
end
theorem valid_le {l:List UInt8} (h:Jaj l=true):l.length≤32:=((Jf1 l).1 h).1.2
def chkT (st ro ca:Int) (l:List Tp):Int×Int:=if 256<l.length then (0,5) else fbF (badT st ro ca) idT [] 0 l
theorem chkT_many {st ro ca:Int} {l:List Tp} (h:256<l.length):chkT st ro ca l=(0,5):=by unfold chkT;rw [if_pos h]
theorem chkT_start {st ro ca:Int} {l:List Tp} (h:l.length≤256):chkT st ro ca l=fbF (badT st ro ca) idT ((l.take 0).map idT) 0 (l.drop 0):=by unfold chkT;rw [if_neg Kd];rfl
def isT (id:List UInt8) (x:Tp):Bool:=decide (x.1=id)
theorem Jxv {id:List UInt8} {x:Tp} (h:x.1=id):isT id x=true:=Pk h
theorem Qcr {id:List UInt8} {x:Tp} (h:x.1≠id):isT id x=false:=Pj h
theorem Jse {α:Type} (p:α→Bool):∀(l:List α) (k:Nat),fdF p k l=-1→∀x∈l,p x=false
 | [],_,_,x,hx=>by cases hx
 | y::r,k,h,x,hx=>by
  unfold fdF at h;by_cases hp:p y=true
  ·rw [if_pos hp] at h
   omega
  ·rw [if_neg hp] at h
   rcases List.mem_cons.1 hx with rfl | hx
   ·exact Bool.eq_false_iff.2 hp
   ·exact Jse p r (k+1) h x hx
theorem Qcs {id:List UInt8} {l:List Tp} (h:0≤fdT (isT id) l):id∈l.map idT:=by
 obtain⟨j,x,h1,h2,_⟩:=J6k (p:=isT id) (l:=l) Kd;exact List.mem_map.2 ⟨x,List.mem_iff_getElem?.2 ⟨j,h1⟩,of_decide_eq_true h2⟩
theorem Qct {id:List UInt8} {l:List Tp} (h:¬0≤fdT (isT id) l):id ∉ l.map idT:=by
 rcases Jlo (isT id) l with h1 | h1
 ·intro hm
  obtain⟨x,hx,e⟩:=List.mem_map.1 hm;have:=Jse (isT id) l 0 h1 x hx;rw [Jxv e] at this;cases this
 ·omega
theorem Jp3 (v:Value) (l:List Cl) (hl:l.length≤9223372036854775807) (st lo hi s a d:Int) (o u:Bool) (hx:l[0]?=some (s,a,d,o,u)) (w:World) (h:LstC w v l):Pc 262 #[v,.int .i64 0,.int .i64 st,.int .i64 lo,.int .i64 hi] w (.int .i64 (badC st lo hi none (s,a,d,o,u))):=by
 obtain⟨A,c,rfl,-,-,-⟩:=id h;obtain⟨b,f,rfl,hb,r0,r1,r2,r3,r4⟩:=Ja3 h hx;obtain⟨w7,hw7⟩:=Pi (w.alloc (.cells #[.int .i64 s,.int .i64 a,.int .i64 d,.bool o,.bool u] 58 (0,0)));obtain⟨b7,p0,p1,p2,p3,p4,s7⟩:=Jkf hw7;rw [Nat.zero_mul,Nat.add_zero] at r0 r1 r2 r3 r4;have B7:=Pe b7;have gl:0<l.length:=(Pl hx).1;have gk:(0:Int)<(l.length:Int):=Kd;clear b7 hx h hb;by_cases h1:s<0
 ·have R:=Pe (Jd2 (st:=st) (lo:=lo) (hi:=hi) (p:=none) (x:=(s,a,d,o,u)) (.inl h1))
  exact Zj
 have d1:decide (s<0)=false:=Pj h1;by_cases h2:st≤s
 ·have R:=Pe (Jd2 (st:=st) (lo:=lo) (hi:=hi) (p:=none) (x:=(s,a,d,o,u)) (.inr h2))
  clear h1;exact Zj
 have d2:decide (st≤s)=false:=Pj h2;by_cases h4:a<lo
 ·have R:=Pe (Jbw (st:=st) (lo:=lo) (hi:=hi) (p:=none) (x:=(s,a,d,o,u)) h1 h2 Jd3 (.inl h4))
  clear h1 h2;go_enter func262,ntmps262;go_wp2_with fail;go_quiet (fail);exact J8
 have d4:decide (a<lo)=false:=Pj h4;by_cases h5:d<a
 ·have R:=Pe (Jbw (st:=st) (lo:=lo) (hi:=hi) (p:=none) (x:=(s,a,d,o,u)) h1 h2 Jd3 (.inr (.inl h5)))
  clear h1 h2 h4;go_enter func262,ntmps262;go_wp2_with fail;go_quiet (fail);exact J8
 have d5:decide (d<a)=false:=Pj h5;by_cases h6:hi<d
 ·have R:=Pe (Jbw (st:=st) (lo:=lo) (hi:=hi) (p:=none) (x:=(s,a,d,o,u)) h1 h2 Jd3 (.inr (.inr h6)))
  clear h1 h2 h4 h5;go_enter func262,ntmps262;go_wp2_with fail;go_quiet (fail);exact J8
 have d6:decide (hi<d)=false:=Pj h6;have R:=Pe (badC_none (st:=st) (lo:=lo) (hi:=hi) (p:=none) (x:=(s,a,d,o,u)) h1 h2 Jd3 h4 h5 h6 Jsa);clear h1 h2 h4 h5 h6;go_enter func262,ntmps262;go_wp2_with fail;go_quiet (fail);go_wp2_with fail;go_quiet (fail);exact Zd
theorem Jp4 (v:Value) (l:List Cl) (hl:l.length≤9223372036854775807) (st lo hi s a d:Int) (o u:Bool) (n m:Nat) (hm:n=m+1) (hx:l[n]?=some (s,a,d,o,u)) (s1 a1 t1:Int) (o1 u1:Bool) (hy:l[m]?=some (s1,a1,t1,o1,u1)) (w:World) (h:LstC w v l):Pc 262 #[v,.int .i64 (n:Int),.int .i64 st,.int .i64 lo,.int .i64 hi] w (.int .i64 (badC st lo hi (some (s1,a1,t1,o1,u1)) (s,a,d,o,u))):=by
 obtain⟨A,c,rfl,-,-,-⟩:=id h;obtain⟨b,f,rfl,hb,r0,r1,r2,r3,r4⟩:=Ja3 h hx;obtain⟨w7,hw7⟩:=Pi (w.alloc (.cells #[.int .i64 s,.int .i64 a,.int .i64 d,.bool o,.bool u] 58 (0,0)));obtain⟨b7,p0,p1,p2,p3,p4,s7⟩:=Jkf hw7;obtain⟨b',f',hA,hb',q0,q1,q2,-,-⟩:=Ja3 (h.below b7) hy;cases hA;have B7:=Pe b7;have gl:n<l.length:=(Pl hx).1;have gk:(n:Int)<(l.length:Int):=Kd;have gm:(m:Int)<(l.length:Int):=Kd;have gn:(0:Int)<(n:Int):=Kd;have gn':0<n:=Kd;have gs:(n:Int) - 1=(m:Int):=Kd;clear b7 hx hy h hb hb' hm q1;by_cases h1:s<0
 ·have R:=Pe (Jd2 (st:=st) (lo:=lo) (hi:=hi) (p:=some (s1,a1,t1,o1,u1)) (x:=(s,a,d,o,u)) (.inl h1))
  exact Zj
 have d1:decide (s<0)=false:=Pj h1;by_cases h2:st≤s
 ·have R:=Pe (Jd2 (st:=st) (lo:=lo) (hi:=hi) (p:=some (s1,a1,t1,o1,u1)) (x:=(s,a,d,o,u)) (.inr h2))
  clear h1;exact Zj
 have d2:decide (st≤s)=false:=Pj h2;by_cases h3:s=s1
 ·have e3:=Jai h3
  have R:=Pe (Jny (st:=st) (lo:=lo) (hi:=hi) (p:=some (s1,a1,t1,o1,u1)) (x:=(s,a,d,o,u)) h1 h2 (Jxr h3));clear h1 h2 h3;go_enter func262,ntmps262;go_wp2_with fail;go_quiet (fail);exact J8
 have e3:=Jaa h3;by_cases h4:a<lo
 ·have R:=Pe (Jbw (st:=st) (lo:=lo) (hi:=hi) (p:=some (s1,a1,t1,o1,u1)) (x:=(s,a,d,o,u)) h1 h2 (Jfm h3) (.inl h4))
  clear h1 h2 h3;go_enter func262,ntmps262;go_wp2_with fail;go_quiet (fail);exact J8
 have d4:decide (a<lo)=false:=Pj h4;by_cases h5:d<a
 ·have R:=Pe (Jbw (st:=st) (lo:=lo) (hi:=hi) (p:=some (s1,a1,t1,o1,u1)) (x:=(s,a,d,o,u)) h1 h2 (Jfm h3) (.inr (.inl h5)))
  clear h1 h2 h3 h4;go_enter func262,ntmps262;go_wp2_with fail;go_quiet (fail);exact J8
 have d5:decide (d<a)=false:=Pj h5;by_cases h6:hi<d
 ·have R:=Pe (Jbw (st:=st) (lo:=lo) (hi:=hi) (p:=some (s1,a1,t1,o1,u1)) (x:=(s,a,d,o,u)) h1 h2 (Jfm h3) (.inr (.inr h6)))
  clear h1 h2 h3 h4 h5;go_enter func262,ntmps262;go_wp2_with fail;go_quiet (fail);exact J8
 have d6:decide (hi<d)=false:=Pj h6;by_cases h7:a<t1
 ·have R:=Pe (Jnz (st:=st) (lo:=lo) (hi:=hi) (p:=some (s1,a1,t1,o1,u1)) (x:=(s,a,d,o,u)) h1 h2 (Jfm h3) h4 h5 h6 (Jxs h7))
  clear h1 h2 h3 h4 h5 h6;go_enter func262,ntmps262;go_wp2_with fail;go_quiet (fail);go_wp2_with fail;go_quiet (fail);exact Zd
 have d7:decide (a<t1)=false:=Pj h7;have R:=Pe (badC_none (st:=st) (lo:=lo) (hi:=hi) (p:=some (s1,a1,t1,o1,u1)) (x:=(s,a,d,o,u)) h1 h2 (Jfm h3) h4 h5 h6 (J6s h7));clear h1 h2 h3 h4 h5 h6 h7;go_enter func262,ntmps262;go_wp2_with fail;go_quiet (fail);go_wp2_with fail;go_quiet (fail);exact Zd
theorem Jxw (v:Value) (l:List Cl) (hl:l.length≤9223372036854775807) (st lo hi s a d:Int) (o u:Bool) (n:Nat) (hx:l[n]?=some (s,a,d,o,u)) (w:World) (h:LstC w v l):Pc 262 #[v,.int .i64 (n:Int),.int .i64 st,.int .i64 lo,.int .i64 hi] w (.int .i64 (badC st lo hi (prvC l n) (s,a,d,o,u))):=by
 cases n with
 | zero=>exact Jp3 v l hl st lo hi s a d o u hx w h
 | succ m =>
  have hlt:=(Pl hx).1;obtain⟨⟨s1,a1,t1,o1,u1⟩,hy⟩:=Jah (show m<l.length by omega);have e:prvC l (m+1)=some (s1,a1,t1,o1,u1):=hy;rw [e];exact Jp4 v l hl st lo hi s a d o u (m+1) m rfl hx s1 a1 t1 o1 u1 hy w h
theorem kcheck_any (v:Value) (l:List Cl) (hl:l.length≤9223372036854775807) (st lo hi:Int) (w:World) (h:LstC w v l):Pc 195 #[v,.int .i64 st,.int .i64 lo,.int .i64 hi] w (.tuple #[.int .i64 ((chkC st lo hi l).1),.int .i64 ((chkC st lo hi l).2)]):=by
 have H:=Pe h;obtain⟨A,c,rfl,-,-,-⟩:=h;by_cases h2:l.length<2
 ·have R:=Pe (Jsb (st:=st) (lo:=lo) (hi:=hi) h2)
  have g:(l.length:Int)<2:=Kd;generalize chkC st lo hi l=q at R ⊢;clear h2;go_enter func195,ntmps195;exact Vc
 have g2:decide ((l.length:Int)<2)=false:=Q4;by_cases h32:32<l.length
 ·have R:=Pe (chkC_many (st:=st) (lo:=lo) (hi:=hi) h32)
  have g:(32:Int)<(l.length:Int):=Kd;generalize chkC st lo hi l=q at R ⊢;clear h32 h2;go_enter func195,ntmps195;exact Vc
 have g:decide ((32:Int)<(l.length:Int))=false:=Q4;have ST:=Pe (chkC_start (st:=st) (lo:=lo) (hi:=hi) h2 h32);obtain⟨q,hq⟩:=Pi (chkC st lo hi l);rw [hq];rw [hq] at ST;clear h32 hq h2;go_enter func195,ntmps195;go_wp2_with fail;go_loopw [22] (fun i wr=>∃k:Nat,i=.int .i64 k∧k≤l.length∧Hid (q=ckF st lo hi (prvC l k) k (l.drop k))∧Hid (Pn w wr)) (fun i _=>l.length - (intOf i).toNat);case atStart=>exact⟨0,rfl,Nat.zero_le _,ST,Pe Pg⟩
 case round =>
  clear g g2 ST;obtain⟨k,rfl,hk,hz,HB⟩:=hrel;by_cases hlt:k<l.length
  ·obtain⟨⟨s,a,d,o,u⟩,hx⟩:=Jah hlt
   have gk:(k:Int)<(l.length:Int):=Kd;have C:=Pe (Jxw _ l hl st lo hi s a d o u k hx wr (H.out.below HB.out));by_cases he:badC st lo hi (prvC l k) (s,a,d,o,u)=0
   ·have N:=Pe (Jp2 hz.out hx he)
    rw [he] at C;clear hx hz he;go_wp2_with fail;refine C.out.mono ?_;rintro e w8 ⟨rfl,b8⟩;have B8:Hid (Pn w w8):=HB.out.trans (b8.mono HB.out.size);clear b8 C HB;go_wp2_with fail;go_roundw;case rel=>exact⟨k+1,Kg,Kd,N,B8⟩
    case measure=>exact Qz
   ·have R:=Pe (Jcy hz.out hx rfl he)
    have ne:=Jaf he;generalize badC st lo hi (prvC l k) (s,a,d,o,u)=y at C R ne;clear hx hz he;go_wp2_with fail;refine C.out.mono ?_;exact Zg
  ·have R:=Pe (Jxt hz.out Kd)
   have d:decide (k<l.length)=false:=Kb;clear hz hlt;exact V7
theorem valid_all_any (s:ByteArray) (w:World):Pb 193 #[.string s] w (.bool (Jaj s.data.toList)):=by
 by_cases hs:s.size≤1099511627776
 ·exact Jf7 s hs w
 have e:=Jbn s Kd;have he:s.toList.isEmpty=false:=Vq;have g:(32:Int)<(s.size:Int):=Kd;exact Vp
theorem valid_small {s:ByteArray} {id:List UInt8} (hs:str id=s) (hv:Jaj id=true):s.size≤32:=by
 exact Vx
theorem Jp5 (i n:Int) (h:0≤i∧i<n) (w:World):Pb 194 #[.int .i64 i,.int .i64 n] w (.bool true):=by
 obtain⟨h0,h1⟩:=h;go_enter func194,ntmps194;exact Ki
theorem J6t (i n:Int) (h:¬(0≤i∧i<n)) (w:World):Pb 194 #[.int .i64 i,.int .i64 n] w (.bool false):=by
 by_cases h0:0≤i
 ·have d:decide (i<n)=false:=Pj (fun h1=>h ⟨h0,h1⟩)
  clear h;go_enter func194,ntmps194;exact Ki
 ·have d:decide (0≤i)=false:=Pj h0
  clear h h0;go_enter func194,ntmps194;exact Ki
theorem ktck_any (v:Value) (l:List Tp) (hl:l.length≤9223372036854775807) (st ro ca:Int) (w:World) (h:Jcp w v l):Pc 105 #[v,.int .i64 st,.int .i64 ro,.int .i64 ca] w (.tuple #[.int .i64 ((chkT st ro ca l).1),.int .i64 ((chkT st ro ca l).2)]):=by
 have H:=Pe h;obtain⟨⟨A,n,rfl,-,-,-⟩,-⟩:=h;by_cases hm:256<l.length
 ·have R:=Pe (chkT_many (st:=st) (ro:=ro) (ca:=ca) hm)
  have g:(256:Int)<(l.length:Int):=Kd;generalize chkT st ro ca l=q at R ⊢;clear hm;go_enter func105,ntmps105;exact Vc
 have g:decide ((256:Int)<(l.length:Int))=false:=Q4;have ST:=Pe (chkT_start (st:=st) (ro:=ro) (ca:=ca) (l:=l) Kd);have hm':l.length≤256:=Kd;have hmm:=@run_makeMap prog;obtain⟨q,hq⟩:=Pi (chkT st ro ca l);rw [hq];rw [hq] at ST;clear hm hq;go_enter func105,ntmps105;go_wp2_with fail;go_loopw [21] (fun i wr=>∃k:Nat,i=.int .i64 k∧k≤l.length∧Hid (q=fbF (badT st ro ca) idT ((l.take k).map idT) k (l.drop k))∧Hid (MapB wr w.heap.size ((l.take k).map idT))∧Hid (Pn w wr)) (fun i _=>l.length - (intOf i).toNat);case atStart=>exact⟨0,rfl,Nat.zero_le _,ST,Pe (MapB.made w),Pe ((Below.refl _ _).alloc Ph _)⟩
 case round =>
  clear g ST hmm;obtain⟨k,rfl,hk,hz,HM,HB⟩:=hrel;by_cases hlt:k<l.length
  ·obtain⟨⟨id,r,c,f,v,cl⟩,hx⟩:=Jah hlt
   obtain⟨nm,hnm⟩:=Pi (str id);obtain⟨b,o,B,m,rfl,rfl,hb,r0,r1,r2,r3,r4,lc,lcl,-⟩:=Jbl (H.out.below HB.out) hx hnm;obtain⟨w7,hw7⟩:=Pi (wr.alloc (.cells #[.string nm,.int .i64 r,.int .i64 c,.bool f,.slice B cl.length m] 56 (0,0)));obtain⟨b7,p0,p1,p2,p3,p4,s7⟩:=Jxu hw7;have gk:(k:Int)<(l.length:Int):=Kd;have hid:nm.data.toList=id:=Vt;have B7:Hid (Pn w w7):=HB.out.trans (b7.mono HB.out.size);have M7:=Pe (HM.out.below b7);have L7:=Pe (lc.below b7);have V:=Pe (fun W=>valid_all_any nm W);rw [hid] at V;clear b7 HM HB hb lc;cases hv:Jaj id with
   | false =>
    have R:=Pe (Jan hz.out hx (Jn0 (seen:=(l.take k).map idT) (x:=(id,r,c,f,.slice B cl.length m,cl)) hv) Kl);rw [hv] at V;clear hx hz hnm hid hv;go_wp2_with fail;refine Pf (V.out _) ?_;exact Jz
   | true =>
    rw [hv] at V;have lk:=M7.out.look nm id hid (by have:=valid_small hnm hv;omega);by_cases hd:id∈(l.take k).map idT
    ·have R:=Pe (Jan hz.out hx (Jkg (seen:=(l.take k).map idT) (x:=(id,r,c,f,.slice B cl.length m,cl)) hv hd) Kl)
     rw [Pk hd] at lk;clear hx hz hnm hid hv hd;go_wp2_with fail;refine Pf (V.out _) ?_;exact Jz
    rw [Pj hd] at lk;by_cases hr:0≤r∧r<ro
    ·by_cases hc:0≤c∧c<ca
     ·have X1:=Pe (fun W=>Jp5 r ro hr W)
      have X2:=Pe (fun W=>Jp5 c ca hc W);have CK:=Pe (kcheck_any (.slice B cl.length m) cl lcl st 0 172800 w7 L7.out);have BE:=Pe (Jkh (st:=st) (seen:=(l.take k).map idT) (x:=(id,r,c,f,.slice B cl.length m,cl)) hv hd ⟨hr,hc⟩);by_cases he:(chkC st 0 172800 cl).2=0
      ·have N:=Pe (Jb3 hz.out hx (BE.out.trans he))
       have T:=Pe (Jep (key:=idT) hx);have hil:((l.take k).map idT).length≤256:=Jp;have HD:Hid (nm.data.toList=id):=hid;have hsz:=valid_small hnm hv;rw [he] at CK;generalize (chkC st 0 172800 cl).1=y at CK;clear hx hz hnm hid hv hd hr hc he BE;go_wp2_with fail;refine Pf (V.out _) ?_;go_wp2_with fail;refine Pf (X1.out _) ?_;go_wp2_with fail;refine Pf (X2.out _) ?_;go_wp2_with fail;refine CK.out.mono ?_;rintro e w8 ⟨rfl,b8⟩;have q0:=(b8.cell (p:=⟨wr.heap.size,0,none⟩) s7).trans p0;have B8:Hid (Pn w w8):=B7.out.trans (b8.mono B7.out.size);have M8:=Pe (M7.out.below b8);clear b8 p0 p1 p2 p3 p4 B7 M7 CK V X1 X2 lk L7 r0 r1 r2 r3 r4 hw7;go_wp2_with (at_mapUpdate;refine Jf5 _ rfl _ _ _ rfl w.heap.size ((l.take k).map idT) rfl M8.out nm id HD.out Kd rfl rfl Kd ?_;intro w9 m9 g9;refine Hid.out ?_);have M:Hid (MapB w9 w.heap.size ((l.take (k+1)).map idT)):=by
        show MapB _ _ _
        rw [T.out];exact m9
       have B9:Hid (Pn w w9):=B8.out.grown g9 B8.out.size (fun j hj=>Vh);clear m9 g9 M8 B8;refine Pe ?_;go_wp2_with fail;go_roundw;case rel=>exact⟨k+1,Kg,Kd,N,M,B9⟩
       case measure=>exact Qz
      ·have R:=Pe (Jan hz.out hx BE.out he)
       have ne:=Jaf he;generalize (chkC st 0 172800 cl).1=y at CK;generalize (chkC st 0 172800 cl).2=z at CK R ne;clear hx hz hnm hid hv hd hr hc he BE;go_wp2_with fail;refine Pf (V.out _) ?_;go_wp2_with fail;refine Pf (X1.out _) ?_;go_wp2_with fail;refine Pf (X2.out _) ?_;go_wp2_with fail;refine CK.out.mono ?_;rintro e w8 ⟨rfl,b8⟩;have B8:Hid (Pn w w8):=B7.out.trans (b8.mono B7.out.size);clear b8 B7 CK;exact V9
     ·have R:=Pe (Jan hz.out hx (Jfc (seen:=(l.take k).map idT) (x:=(id,r,c,f,.slice B cl.length m,cl)) hv hd (fun h=>hc h.2)) Kl)
      have X1:=Pe (fun W=>Jp5 r ro hr W);have X2:=Pe (fun W=>J6t c ca hc W);clear hx hz hnm hid hv hd hr hc;go_wp2_with fail;refine Pf (V.out _) ?_;go_wp2_with fail;refine Pf (X1.out _) ?_;go_wp2_with fail;refine Pf (X2.out _) ?_;exact Jz
    ·have R:=Pe (Jan hz.out hx (Jfc (seen:=(l.take k).map idT) (x:=(id,r,c,f,.slice B cl.length m,cl)) hv hd (fun h=>hr h.1)) Kl)
     have X1:=Pe (fun W=>J6t r ro hr W);clear hx hz hnm hid hv hd hr;go_wp2_with fail;refine Pf (V.out _) ?_;go_wp2_with fail;refine Pf (X1.out _) ?_;exact Jz
  ·have R:=Pe (Jb4 hz.out Kd)
   have d:decide (k<l.length)=false:=Kb;clear hz hlt HM;exact V7
theorem rfind_any (v:Value) (l:List Tp) (hl:l.length≤1099511627776) (id:List UInt8) (t:ByteArray) (ht:str id=t) (w:World) (h:Jcp w v l):Pb 233 #[v,.string t] w (.int .i64 (fdT (isT id) l)):=by
 have H:=Pe h;have HT:=Pe ht;clear ht;obtain⟨⟨A,n,rfl,-,-,-⟩,-⟩:=h;obtain⟨q,hq⟩:=Pi (fdT (isT id) l);rw [hq];have HR:=Pe hq;clear hq;go_enter func233,ntmps233;go_wp2_with fail;go_loop [5] (fun i=>∃k:Nat,i=.int .i64 k∧k≤l.length∧Hid (q=fdF (isT id) k (l.drop k))) (fun i=>l.length - (intOf i).toNat);case atStart=>exact⟨0,rfl,Nat.zero_le _,Pe Zi⟩
 case round =>
  obtain⟨k,rfl,hk,hz⟩:=hrel;by_cases hlt:k<l.length
  ·obtain⟨⟨ix,r,c,f,v,cl⟩,hx⟩:=Jah hlt
   obtain⟨nm,hnm⟩:=Pi (str ix);obtain⟨b,o,B,m,rfl,rfl,hb,r0,r1,r2,r3,r4,-,-,-⟩:=Jbl H.out hx hnm;have gk:(k:Int)<(l.length:Int):=Kd;by_cases he:ix=id
   ·have g:=Jby (a:=nm) (b:=t) Vy
    have R:=Pe (Jj7 hz.out hx (Jxv he));clear hx hz hnm hb he hlt HR HT r1 r2 r3 r4;exact Vg
   ·have g:=Jb7 (a:=nm) (b:=t) (str_ne hnm HT.out he)
    have N:=Pe (Jg4 hz.out hx (Qcr he));clear hx hz hnm hb he r1 r2 r3 r4;go_wp2_with fail;go_round;case rel=>exact⟨k+1,Kg,Kd,N⟩
    case measure=>exact Qz
  ·have R:=Pe (Jj8 hz.out Kd)
   have d:decide (k<l.length)=false:=Kb;clear hz hlt HR HT;exact Vg
theorem rcalls_any (v:Value) (l:List Cl) (hl:l.length≤9223372036854775807) (st:Int) (w:World) (h:LstC w v l):Pc 234 #[v,.int .i64 st] w (.int .i64 ((chkC st 0 172800 l).2)):=by
 have H:=Pe h;obtain⟨A,c,rfl,-,-,-⟩:=h;by_cases h2:l.length<2
 ·have R:=Pe (Jsb (st:=st) (lo:=0) (hi:=172800) h2)
  have g:(l.length:Int)<2:=Kd;generalize chkC st 0 172800 l=q at R ⊢;clear h2;exact Zk
 have g2:decide ((l.length:Int)<2)=false:=Q4;by_cases h32:32<l.length
 ·have R:=Pe (chkC_many (st:=st) (lo:=0) (hi:=172800) h32)
  have g:(32:Int)<(l.length:Int):=Kd;generalize chkC st 0 172800 l=q at R ⊢;clear h32 h2;exact Zk
 have g:decide ((32:Int)<(l.length:Int))=false:=Q4;have ST:=Pe (chkC_start (st:=st) (lo:=0) (hi:=172800) h2 h32);obtain⟨q,hq⟩:=Pi (chkC st 0 172800 l);rw [hq];rw [hq] at ST;clear h32 hq h2;go_enter func234,ntmps234;go_wp2_with fail;go_loopw [5] (fun i wr=>∃k:Nat,i=.int .i64 k∧k≤l.length∧Hid (q=ckF st 0 172800 (prvC l k) k (l.drop k))∧Hid (Pn w wr)) (fun i _=>l.length - (intOf i).toNat);case atStart=>exact⟨0,rfl,Nat.zero_le _,ST,Pe Pg⟩
 case round =>
  clear g g2 ST;obtain⟨k,rfl,hk,hz,HB⟩:=hrel;by_cases hlt:k<l.length
  ·obtain⟨⟨s,a,d,o,u⟩,hx⟩:=Jah hlt
   obtain⟨b,f,rfl,hb,r0,r1,r2,r3,r4⟩:=Ja3 (H.out.below HB.out) hx;have gk:(k:Int)<(l.length:Int):=Kd;have B7:=Pe HB.out;clear hb;by_cases k0:k=0
   ·have hp:prvC l k=none:=by rw [k0];rfl
    have gn:decide ((0:Int)<(k:Int))=false:=Q4;have gn':decide (0<k)=false:=Q4;clear k0;by_cases h1:s<0
    ·have R:=Pe (Jcy (e:=9) hz.out hx (by rw [hp];exact Jd2 (st:=st) (lo:=0) (hi:=172800) (p:=none) (x:=(s,a,d,o,u)) (.inl h1)) Kl)
     clear hz hx hp HB;exact Zc
    have d1:decide (s<0)=false:=Pj h1;by_cases h2:st≤s
    ·have R:=Pe (Jcy (e:=9) hz.out hx (by rw [hp];exact Jd2 (st:=st) (lo:=0) (hi:=172800) (p:=none) (x:=(s,a,d,o,u)) (.inr h2)) Kl)
     clear hz hx hp HB h1;exact Zc
    have d2:decide (st≤s)=false:=Pj h2;by_cases h4:a<0
    ·have R:=Pe (Jcy (e:=10) hz.out hx (by rw [hp];exact Jbw (st:=st) (lo:=0) (hi:=172800) (p:=none) (x:=(s,a,d,o,u)) h1 h2 Jd3 (.inl h4)) Kl)
     clear hz hx hp HB h1 h2;go_wp2_with fail;go_quiet (fail);go_wp2_with fail;go_quiet (fail);exact J7
    have d4:decide (a<0)=false:=Pj h4;by_cases h5:d<a
    ·have R:=Pe (Jcy (e:=10) hz.out hx (by rw [hp];exact Jbw (st:=st) (lo:=0) (hi:=172800) (p:=none) (x:=(s,a,d,o,u)) h1 h2 Jd3 (.inr (.inl h5))) Kl)
     clear hz hx hp HB h1 h2 h4;go_wp2_with fail;go_quiet (fail);go_wp2_with fail;go_quiet (fail);exact J7
    have d5:decide (d<a)=false:=Pj h5;by_cases h6:(172800:Int)<d
    ·have R:=Pe (Jcy (e:=10) hz.out hx (by rw [hp];exact Jbw (st:=st) (lo:=0) (hi:=172800) (p:=none) (x:=(s,a,d,o,u)) h1 h2 Jd3 (.inr (.inr h6))) Kl)
     clear hz hx hp HB h1 h2 h4 h5;go_wp2_with fail;go_quiet (fail);go_wp2_with fail;go_quiet (fail);exact J7
    have d6:decide ((172800:Int)<d)=false:=Pj h6;have N:=Pe (Jp2 hz.out hx (by rw [hp];exact badC_none (st:=st) (lo:=0) (hi:=172800) (p:=none) (x:=(s,a,d,o,u)) h1 h2 Jd3 h4 h5 h6 Jsa));clear hz hx hp HB h1 h2 h4 h5 h6;go_wp2_with fail;go_quiet (fail);go_wp2_with fail;go_quiet (fail);go_wp2_with fail;go_roundw;case rel=>exact⟨k+1,Kg,Kd,N,Pe (Jac B7.out _)⟩
    case measure=>exact Qz
   ·obtain⟨m,hm⟩:∃m,k=m+1:=⟨k - 1,Kd⟩
    obtain⟨⟨s1,a1,t1,o1,u1⟩,hy⟩:=Jah (show m<l.length by omega);have hp:prvC l k=some (s1,a1,t1,o1,u1):=by rw [hm];exact hy
    obtain⟨b',f',hA,hb',q0,q1,q2,-,-⟩:=Ja3 (H.out.below B7.out) hy;cases hA;have gm:(m:Int)<(l.length:Int):=Kd;have gn:(0:Int)<(k:Int):=Kd;have gn':0<k:=Kd;have gs:(k:Int) - 1=(m:Int):=Kd;clear k0 hm hy hb';by_cases h1:s<0
    ·have R:=Pe (Jcy (e:=9) hz.out hx (by rw [hp];exact Jd2 (st:=st) (lo:=0) (hi:=172800) (p:=some (s1,a1,t1,o1,u1)) (x:=(s,a,d,o,u)) (.inl h1)) Kl)
     clear hz hx hp HB;exact Zc
    have d1:decide (s<0)=false:=Pj h1;by_cases h2:st≤s
    ·have R:=Pe (Jcy (e:=9) hz.out hx (by rw [hp];exact Jd2 (st:=st) (lo:=0) (hi:=172800) (p:=some (s1,a1,t1,o1,u1)) (x:=(s,a,d,o,u)) (.inr h2)) Kl)
     clear hz hx hp HB h1;exact Zc
    have d2:decide (st≤s)=false:=Pj h2;by_cases h3:s=s1
    ·have e3:=Jai h3
     have R:=Pe (Jcy (e:=13) hz.out hx (by rw [hp];exact Jny (st:=st) (lo:=0) (hi:=172800) (p:=some (s1,a1,t1,o1,u1)) (x:=(s,a,d,o,u)) h1 h2 (Jxr h3)) Kl);clear hz hx hp HB h1 h2 h3;go_wp2_with fail;go_quiet (fail);go_wp2_with fail;go_ret;exact⟨Jad Va,Jac B7.out _⟩
    have e3:=Jaa h3;by_cases h4:a<0
    ·have R:=Pe (Jcy (e:=10) hz.out hx (by rw [hp];exact Jbw (st:=st) (lo:=0) (hi:=172800) (p:=some (s1,a1,t1,o1,u1)) (x:=(s,a,d,o,u)) h1 h2 (Jfm h3) (.inl h4)) Kl)
     clear hz hx hp HB h1 h2 h3;go_wp2_with fail;go_quiet (fail);go_wp2_with fail;go_quiet (fail);exact J7
    have d4:decide (a<0)=false:=Pj h4;by_cases h5:d<a
    ·have R:=Pe (Jcy (e:=10) hz.out hx (by rw [hp];exact Jbw (st:=st) (lo:=0) (hi:=172800) (p:=some (s1,a1,t1,o1,u1)) (x:=(s,a,d,o,u)) h1 h2 (Jfm h3) (.inr (.inl h5))) Kl)
     clear hz hx hp HB h1 h2 h3 h4;go_wp2_with fail;go_quiet (fail);go_wp2_with fail;go_quiet (fail);exact J7
    have d5:decide (d<a)=false:=Pj h5;by_cases h6:(172800:Int)<d
    ·have R:=Pe (Jcy (e:=10) hz.out hx (by rw [hp];exact Jbw (st:=st) (lo:=0) (hi:=172800) (p:=some (s1,a1,t1,o1,u1)) (x:=(s,a,d,o,u)) h1 h2 (Jfm h3) (.inr (.inr h6))) Kl)
     clear hz hx hp HB h1 h2 h3 h4 h5;go_wp2_with fail;go_quiet (fail);go_wp2_with fail;go_quiet (fail);exact J7
    have d6:decide ((172800:Int)<d)=false:=Pj h6;by_cases h7:a<t1
    ·have R:=Pe (Jcy (e:=10) hz.out hx (by rw [hp];exact Jnz (st:=st) (lo:=0) (hi:=172800) (p:=some (s1,a1,t1,o1,u1)) (x:=(s,a,d,o,u)) h1 h2 (Jfm h3) h4 h5 h6 (Jxs h7)) Kl)
     clear hz hx hp HB h1 h2 h3 h4 h5 h6;go_wp2_with fail;go_quiet (fail);go_wp2_with fail;go_quiet (fail);exact J7
    have d7:decide (a<t1)=false:=Pj h7;have N:=Pe (Jp2 hz.out hx (by rw [hp];exact badC_none (st:=st) (lo:=0) (hi:=172800) (p:=some (s1,a1,t1,o1,u1)) (x:=(s,a,d,o,u)) h1 h2 (Jfm h3) h4 h5 h6 (J6s h7)));clear hz hx hp HB h1 h2 h3 h4 h5 h6 h7;go_wp2_with fail;go_quiet (fail);go_wp2_with fail;go_quiet (fail);go_wp2_with fail;go_roundw;case rel=>exact⟨k+1,Kg,Kd,N,Pe (Jac B7.out _)⟩
    case measure=>exact Qz
  ·have R:=Pe (Jxt hz.out Kd)
   have d:decide (k<l.length)=false:=Kb;clear hz hlt;go_wp2_with fail;go_ret;exact⟨Jad Va,HB.out⟩
theorem rvalid_all_any (s:ByteArray) (w:World):Pb 158 #[.string s] w (.bool (Jaj s.data.toList)):=by
 by_cases hs:s.size≤1099511627776
 ·exact Jj5 s hs w
 have e:=Jbn s Kd;have he:((s.size:Int)==0)=false:=Jaa Kd;have g:(32:Int)<(s.size:Int):=Kd;clear hs;rw [e];exact Qb
theorem J85:(prog.info? 56).map (fun i=>(i.zero,i.size,i.bytes))=some (some (.agg #[.string ByteArray.empty,.int .i64 0,.int .i64 0,.bool false,.slice none 0 0]),5,64):=Kk
theorem J86:∀w,(Go.sizeOf 56).run prog w=.ok 5 w:=fun w=>by
 obtain⟨i,hi,_,hsz,_⟩:=info_parts J85;simp [sizeOf,typeInfo,hi,hsz]
theorem Jsf:prog.elem 27=56:=by simp [Program.elem,underlying27]
theorem Jxx:prog.underlying 27=some (.slice (prog.elem 27)):=by rw [Jsf];exact underlying27
theorem J25 {w:World} {v:Value} {l:List Tp} (h:Jcp w v l) (j:Nat) (hj:j≤l.length) (_:l.length≤9223372036854775807) (e:Int) (he:e=j):∃x,(∀W,(Instr.slice 27 v none (some (.int .i64 e)) none).run prog W=.ok x W)∧Jcp w x (l.take j):=by
 subst he;obtain⟨H,ok⟩:=h;have H':=H;obtain⟨A,c,rfl,hc,-,-⟩:=H;refine⟨sliced A 0 j c 5,fun W=>?_,?_,fun x hx=>ok x (List.mem_of_mem_take hx)⟩
 ·rw [run_slice_h W 27 A l.length c Jxx .i64 j Kd Kd,Jsf,J86]
  rfl
 ·have:=LstG.part Je5 H' 0 j c (Nat.zero_le _) hj Kd Ph
  exact Zh
theorem rone_any (v:Value) (l:List Tp) (hl:l.length≤1099511627776) (k:Nat) (x:Tp) (hx:l[k]?=some x) (st ro ca:Int) (w:World) (h:Jcp w v l):Pc 160 #[v,.int .i64 (k:Int),.int .i64 st,.int .i64 ro,.int .i64 ca] w (.int .i64 (badT st ro ca ((l.take k).map idT) x)):=by
 obtain⟨id,r,c,f,v',cl⟩:=x;have hkl:=(Pl hx).1;have gk:(k:Int)<(l.length:Int):=Kd;have gk':(k:Int)≤(l.length:Int):=Kd;obtain⟨nm,hnm⟩:=Pi (str id);obtain⟨x1,run1,lst1⟩:=J25 h k Kd Kd (k:Int) rfl;obtain⟨⟨A,n,rfl,-,-,-⟩,-⟩:=_root_.id h;obtain⟨b,o,B,m,rfl,rfl,hb,r0,r1,r2,r3,r4,lc,lcl,-⟩:=Jbl h hx hnm;obtain⟨w7,hw7⟩:=Pi (w.alloc (.cells #[.string nm,.int .i64 r,.int .i64 c,.bool f,.slice B cl.length m] 56 (0,0)));obtain⟨b7,p0,p1,p2,p3,p4,s7⟩:=Jxu hw7;have hid:nm.data.toList=id:=Vt;have B7:=Pe b7;have L7:=Pe (lc.below b7);have V:=Pe (fun W=>rvalid_all_any nm W);rw [hid] at V;have P:Hid (∀n,Jcp (w7.drewN n) x1 (l.take k)):=fun n=>lst1.below (b7.trans (Jac Pg n |>.mono b7.size))
 have F:=Pe (fun W (hW:Jcp W x1 (l.take k))=>rfind_any x1 (l.take k) J6 id nm hnm W hW);have RC:=Pe (fun W (hW:LstC W (.slice B cl.length m) cl)=>rcalls_any (.slice B cl.length m) cl lcl st W hW);obtain⟨E,hE⟩:=Pi (badT st ro ca ((l.take k).map idT) (id,r,c,f,.slice B cl.length m,cl));rw [hE];have HE:=Pe hE;clear hE b7 hb lc hx h lst1 hnm hid;cases hv:Jaj id with
 | false =>
  have R:=Pe (Jn0 (st:=st) (ro:=ro) (ca:=ca) (seen:=(l.take k).map idT) (x:=(id,r,c,f,.slice B cl.length m,cl)) hv);rw [hv] at V;clear hv;go_enter func160,ntmps160;go_wp2_with fail;refine Pf (V.out _) ?_;go_wp2_with fail;go_ret;exact⟨Jad (by rw [←HE.out,R.out]),B7.out⟩
 | true =>
  rw [hv] at V;by_cases hf:0≤fdT (isT id) (l.take k)
  ·have R:=Pe (Jkg (st:=st) (ro:=ro) (ca:=ca) (x:=(id,r,c,f,.slice B cl.length m,cl)) hv (Qcs hf))
   generalize fdT (isT id) (l.take k)=z at F hf;clear hv;go_enter func160,ntmps160;go_wp2_with fail;refine Pf (V.out _) ?_;go_wp2_with fail;go_quiet ((go_at_call 233;with_reducible exact Calls.quiet_of_same ((F.out _ (P.out _)).mono fun _ _ ⟨a,b⟩=>⟨a,b.symm⟩)));exact Za
  have hn:=Qct hf;have df:decide (0≤fdT (isT id) (l.take k))=false:=Pj hf;generalize fdT (isT id) (l.take k)=z at F hf df;clear hf;by_cases h1:r<0
  ·have R:=Pe (Jfc (st:=st) (ro:=ro) (ca:=ca) (x:=(id,r,c,f,.slice B cl.length m,cl)) hv hn (fun h=>absurd (show 0≤r from h.1.1) Kd))
   clear hv hn;go_enter func160,ntmps160;go_wp2_with fail;refine Pf (V.out _) ?_;go_wp2_with fail;go_quiet ((go_at_call 233;with_reducible exact Calls.quiet_of_same ((F.out _ (P.out _)).mono fun _ _ ⟨a,b⟩=>⟨a,b.symm⟩)));exact Za
  have d1:decide (r<0)=false:=Pj h1;by_cases h2:ro≤r
  ·have R:=Pe (Jfc (st:=st) (ro:=ro) (ca:=ca) (x:=(id,r,c,f,.slice B cl.length m,cl)) hv hn (fun h=>absurd (show r<ro from h.1.2) Kd))
   clear hv hn;go_enter func160,ntmps160;go_wp2_with fail;refine Pf (V.out _) ?_;go_wp2_with fail;go_quiet ((go_at_call 233;with_reducible exact Calls.quiet_of_same ((F.out _ (P.out _)).mono fun _ _ ⟨a,b⟩=>⟨a,b.symm⟩)));exact Za
  have d2:decide (ro≤r)=false:=Pj h2;by_cases h3:c<0
  ·have R:=Pe (Jfc (st:=st) (ro:=ro) (ca:=ca) (x:=(id,r,c,f,.slice B cl.length m,cl)) hv hn (fun h=>absurd (show 0≤c from h.2.1) Kd))
   clear hv hn;go_enter func160,ntmps160;go_wp2_with fail;refine Pf (V.out _) ?_;go_wp2_with fail;go_quiet ((go_at_call 233;with_reducible exact Calls.quiet_of_same ((F.out _ (P.out _)).mono fun _ _ ⟨a,b⟩=>⟨a,b.symm⟩)));exact Za
  have d3:decide (c<0)=false:=Pj h3;by_cases h4:ca≤c
  ·have R:=Pe (Jfc (st:=st) (ro:=ro) (ca:=ca) (x:=(id,r,c,f,.slice B cl.length m,cl)) hv hn (fun h=>absurd (show c<ca from h.2.2) Kd))
   clear hv hn;go_enter func160,ntmps160;go_wp2_with fail;refine Pf (V.out _) ?_;go_wp2_with fail;go_quiet ((go_at_call 233;with_reducible exact Calls.quiet_of_same ((F.out _ (P.out _)).mono fun _ _ ⟨a,b⟩=>⟨a,b.symm⟩)));exact Za
  have d4:decide (ca≤c)=false:=Pj h4;have R:=Pe (Jkh (st:=st) (ro:=ro) (ca:=ca) (x:=(id,r,c,f,.slice B cl.length m,cl)) hv hn (show rkT ro ca r c from ⟨⟨Kd,Kd⟩,Kd,Kd⟩));clear hv hn h1 h2 h3 h4;go_enter func160,ntmps160;go_wp2_with fail;refine Pf (V.out _) ?_;go_wp2_with fail;go_quiet ((go_at_call 233;with_reducible exact Calls.quiet_of_same ((F.out _ (P.out _)).mono fun _ _ ⟨a,b⟩=>⟨a,b.symm⟩)));go_wp2_with fail;have B8:Hid (Pn w (w7.drewN nq)):=Jac B7.out _;refine (RC.out _ (L7.out.below (Jac Pg _))).mono ?_;rintro e w9 ⟨rfl,b9⟩;have B9:Hid (Pn w w9):=B8.out.trans (b9.mono B8.out.size);clear b9 B8;go_wp2_with fail;go_ret;exact⟨Jad (by rw [←HE.out,R.out]),B9.out⟩
theorem rtck_any (v:Value) (l:List Tp) (hl:l.length≤1099511627776) (st ro ca:Int) (w:World) (h:Jcp w v l):Pc 72 #[v,.int .i64 st,.int .i64 ro,.int .i64 ca] w (.tuple #[.int .i64 ((chkT st ro ca l).1),.int .i64 ((chkT st ro ca l).2)]):=by
 have H:=Pe h;obtain⟨⟨A,n,rfl,-,-,-⟩,-⟩:=h;by_cases hm:256<l.length
 ·have R:=Pe (chkT_many (st:=st) (ro:=ro) (ca:=ca) hm)
  have g:(256:Int)<(l.length:Int):=Kd;generalize chkT st ro ca l=q at R ⊢;clear hm;go_enter func72,ntmps72;exact Vc
 have g:decide ((256:Int)<(l.length:Int))=false:=Q4;have ST:=Pe (chkT_start (st:=st) (ro:=ro) (ca:=ca) (l:=l) Kd);obtain⟨q,hq⟩:=Pi (chkT st ro ca l);rw [hq];rw [hq] at ST;clear hm hq;go_enter func72,ntmps72;go_wp2_with fail;go_loopw [10] (fun i wr=>∃k:Nat,i=.int .i64 k∧k≤l.length∧Hid (q=fbF (badT st ro ca) idT ((l.take k).map idT) k (l.drop k))∧Hid (Pn w wr)) (fun i _=>l.length - (intOf i).toNat);case atStart=>exact⟨0,rfl,Nat.zero_le _,ST,Pe Pg⟩
 case round =>
  clear g ST;obtain⟨k,rfl,hk,hz,HB⟩:=hrel;by_cases hlt:k<l.length
  ·obtain⟨x,hx⟩:=Jah hlt
   have gk:(k:Int)<(l.length:Int):=Kd;have C:=Pe (rone_any _ l hl k x hx st ro ca wr (H.out.below HB.out));by_cases he:badT st ro ca ((l.take k).map idT) x=0
   ·have N:=Pe (Jb3 hz.out hx he)
    rw [he] at C;clear hx hz he;go_wp2_with fail;refine C.out.mono ?_;rintro e w8 ⟨rfl,b8⟩;have B8:Hid (Pn w w8):=HB.out.trans (b8.mono HB.out.size);clear b8 C HB;go_wp2_with fail;go_roundw;case rel=>exact⟨k+1,Kg,Kd,N,B8⟩
    case measure=>exact Qz
   ·have R:=Pe (Jan hz.out hx rfl he)
    have ne:=Jaf he;generalize badT st ro ca ((l.take k).map idT) x=y at C R ne;clear hx hz he;go_wp2_with fail;refine C.out.mono ?_;exact Zg
  ·have R:=Pe (Jb4 hz.out Kd)
   have d:decide (k<l.length)=false:=Kb;clear hz hlt;exact V7
end S17
section
open Go
def srtI (l:List Int):List Int:=l.mergeSort fun x y=>decide (x≤y)
theorem Jsg:srtI []=[]:=by simp [srtI]
theorem Jh6 (l:List Int):(srtI l).length=l.length:=(List.mergeSort_perm l _).length_eq
open Go Go.RowKit
abbrev Fq:=Int×Int×Int×Int
def sndF (f:Fq):Bool:=decide (0≤f.2.1∧f.2.1<f.2.2.1∧f.2.2.1≤172800∧1≤f.2.2.2∧f.2.2.2≤86400)
theorem Jcz {t a b e:Int}:sndF (t,a,b,e)=true↔(0≤a∧a<b∧b≤172800∧1≤e∧e≤86400):=by unfold sndF;exact decide_eq_true_iff
theorem Jex {t a b e:Int} (h:¬(0≤a∧a<b∧b≤172800∧1≤e∧e≤86400)):sndF (t,a,b,e)=false:=by unfold sndF;exact Pj h
def cntF (f:Fq):Nat:=((f.2.2.1 - f.2.1 - 1) / f.2.2.2+1).toNat
def nthF (f:Fq) (k:Nat):Int:=f.2.1+(k:Int)*f.2.2.2
def lstF (f:Fq):List Int:=(List.range (cntF f)).map (nthF f)
def stsF (f:Fq):List Int:=if sndF f then lstF f else []
theorem Jg7 {f:Fq} (h:sndF f=true):stsF f=lstF f:=by unfold stsF;rw [if_pos h]
theorem Jxy {f:Fq} (h:sndF f=false):stsF f=[]:=by unfold stsF;rw [if_neg Kw]
theorem Jix {f:Fq} (h:sndF f=true) (k:Nat):k<cntF f↔nthF f k<f.2.2.1:=by
 obtain⟨t,a,b,e⟩:=f;obtain⟨h1,h2,h3,h4,h5⟩:=Jcz.1 h;unfold cntF nthF;show k<((b - a - 1) / e+1).toNat↔a+(k:Int)*e<b
 have q0:0≤(b - a - 1) / e:=Int.ediv_nonneg Kd Kd;have q1:(k:Int)≤(b - a - 1) / e↔(k:Int)*e≤b - a - 1:=Int.le_ediv_iff_mul_le Kd;generalize (b - a - 1) / e=q at q0 q1 ⊢;generalize (k:Int)*e=m at q1 ⊢;omega
theorem Jgc (f:Fq):nthF f 0=f.2.1:=by unfold nthF;simp
theorem Jsh (f:Fq) (k:Nat):nthF f (k+1)=nthF f k+f.2.2.2:=by
 unfold nthF;rw [Int.natCast_add,Int.add_mul,Int.natCast_one,Int.one_mul];omega
theorem Qcu {f:Fq} (h:sndF f=true) {i k:Nat} (hik:i≤k):nthF f i≤nthF f k:=by
 obtain⟨t,a,b,e⟩:=f;obtain⟨h1,h2,h3,h4,h5⟩:=Jcz.1 h;unfold nthF;show a+(i:Int)*e≤a+(k:Int)*e
 have:=Int.mul_le_mul_of_nonneg_right (show (i:Int)≤(k:Int) by omega) (show 0≤e by omega);omega
theorem J87 {f:Fq} (h:sndF f=true) (k:Nat):f.2.1≤nthF f k:=by
 have:=Qcu h (Nat.zero_le k);rw [Jgc] at this;exact this
theorem Jlt {f:Fq} (h:sndF f=true):0<cntF f:=by
 rw [Jix h,Jgc];obtain⟨t,a,b,e⟩:=f;exact (Jcz.1 h).2.1
theorem Jki {f:Fq} (h:sndF f=true):cntF f≤172800:=by
 rcases Nat.lt_or_ge 172800 (cntF f) with h1 | h1
 ·exfalso
  have h2:=(Jix h 172800).1 h1;obtain⟨t,a,b,e⟩:=f;have h3:=Jcz.1 h;unfold nthF at h2;simp only at h2;omega
 ·exact h1
theorem Jg8 (f:Fq):(lstF f).length=cntF f:=by unfold lstF;rw [Pq,List.length_range]
theorem Qcv (f:Fq):(stsF f).length≤172800:=by
 cases h:sndF f with
 | false=>rw [Jxy h];simp
 | true=>rw [Jg7 h,Jg8];exact Jki h
theorem Jxz {f:Fq} {k:Nat} (h:k<cntF f):(lstF f)[k]?=some (nthF f k):=by
 unfold lstF;rw [List.getElem?_map,List.getElem?_range h];rfl
theorem Jsi {f:Fq} {k:Nat} (h:k<cntF f):(lstF f).take (k+1)=(lstF f).take k++[nthF f k]:=Jbv _ _ _ (Jxz h)
theorem Jx0 (f:Fq):(lstF f).take (cntF f)=lstF f:=List.take_of_length_le (by rw [Jg8];exact Nat.le_refl _)
theorem J88 {f:Fq} (k:Nat):(lstF f).take k <+: lstF f:=List.take_prefix _ _
def insF (t:Int) (l:List Fq):List Int:=(l.filter fun f=>decide (f.1=t)).flatMap stsF
theorem Jp6 (t:Int) (l m:List Fq):insF t (l++m)=insF t l++insF t m:=by unfold insF;rw [List.filter_append,List.flatMap_append]
theorem Jx1 {t:Int} {l:List Fq} {k:Nat} {f:Fq} (h:l[k]?=some f) (ht:f.1=t):insF t (l.take (k+1))=insF t (l.take k)++stsF f:=by
 have e:insF t [f]=stsF f:=by
  unfold insF;simp [ht]
 rw [Jbv l k f h,Jp6,e]
theorem J6u {t:Int} {l:List Fq} {k:Nat} {f:Fq} (h:l[k]?=some f) (ht:f.1≠t):insF t (l.take (k+1))=insF t (l.take k):=by
 rw [Jbv l k f h,Jp6];have:insF t [f]=[]:=by
  unfold insF;rw [List.filter_cons_of_neg (by rw [Pj ht];simp)];rfl
 rw [this,List.append_nil]
theorem Jsj (t:Int):∀l:List Fq,(insF t l).length≤l.length*172800
 | []=>Nat.zero_le _
 | f::r=>by
  have ih:=Jsj t r;have h1:=Qcv f;have e:insF t (f::r)=insF t [f]++insF t r:=Jp6 t [f] r;rw [e,Pp,List.length_cons];have h2:(insF t [f]).length≤(stsF f).length:=by
   unfold insF;rw [List.filter_cons];split
   ·simp
   ·simp
  omega
def repF (t:Int) (l:List Fq):Bool:=l.any fun f=>decide (f.1=t)
theorem J89 {t:Int} {l:List Fq} {k:Nat} {f:Fq} (h:l[k]?=some f) (ht:f.1=t):repF t l=true:=by
 unfold repF;rw [List.any_eq_true];exact⟨f,List.mem_iff_getElem?.2 ⟨k,h⟩,Pk ht⟩
theorem Qcw {t:Int} {l:List Fq} (h:∀(j:Nat) f,l[j]?=some f→f.1≠t):repF t l=false:=by
 unfold repF;rw [List.any_eq_false];intro f hf;obtain⟨j,hj⟩:=List.mem_iff_getElem?.1 hf;rw [decide_eq_true_iff];exact h j f hj
def dpF (l:List Cl):Int:=(l.head?.getD (0,0,0,false,false)).2.2.1
theorem Qcx {l:List Cl} {x:Cl} (h:l[0]?=some x):dpF l=x.2.2.1:=by
 unfold dpF;rw [List.head?_eq_getElem?,h];rfl
def inT (d st t:Int):Bool:=decide (0≤t - d+st∧t - d+st≤172800)
theorem J9a {d st t:Int}:inT d st t=true↔(0≤t - d+st∧t - d+st≤172800):=by unfold inT;exact decide_eq_true_iff
def fitX (d st:Int) (x:Cl):Bool:=inT d st x.2.1&&inT d st x.2.2.1
theorem Jsk {d st:Int} {x:Cl} (h:inT d st x.2.1=false):fitX d st x=false:=by unfold fitX;rw [h];rfl
theorem Jsl {d st:Int} {x:Cl} (h:inT d st x.2.2.1=false):fitX d st x=false:=by unfold fitX;rw [h,Bool.and_false]
theorem Jsm {d st:Int} {x:Cl} (h:inT d st x.2.1=true) (k:inT d st x.2.2.1=true):fitX d st x=true:=by unfold fitX;rw [h,k];rfl
def fitC (l:List Cl) (st:Int):Bool:=decide (0≤st∧st≤172800)&&l.all (fitX (dpF l) st)
theorem Jp7 {l:List Cl} {st:Int} (h:¬(0≤st∧st≤172800)):fitC l st=false:=by unfold fitC;rw [Pj h];rfl
theorem Jlu {l:List Cl} {st:Int} {k:Nat} {x:Cl} (h:l[k]?=some x) (hx:fitX (dpF l) st x=false):fitC l st=false:=by
 unfold fitC;rw [show l.all (fitX (dpF l) st)=false from ?_,Bool.and_false];rw [List.all_eq_false];exact⟨x,List.mem_iff_getElem?.2 ⟨k,h⟩,by rw [hx];simp⟩
theorem Jlv {l:List Cl} {st:Int} (h:0≤st∧st≤172800) (hx:∀(j:Nat) x,l[j]?=some x→fitX (dpF l) st x=true):fitC l st=true:=by
 unfold fitC;rw [Pk h,Bool.true_and,List.all_eq_true];intro x hm;obtain⟨j,hj⟩:=List.mem_iff_getElem?.1 hm;exact hx j x hj
def runX (d st:Int) (x:Cl):Cl:=(x.1,x.2.1 - d+st,x.2.2.1 - d+st,x.2.2.2.1,x.2.2.2.2)
def runC (l:List Cl) (st:Int):List Cl:=l.map (runX (dpF l) st)
theorem J26 {l:List Cl} {st:Int} {k:Nat} {x:Cl} (h:l[k]?=some x):(l.take (k+1)).map (runX (dpF l) st)=(l.take k).map (runX (dpF l) st)++[runX (dpF l) st x]:=by
 rw [Jbv l k x h,List.map_append];rfl
def ansC (l:List Cl) (st:Int):List Cl:=if fitC l st then runC l st else []
def errC (l:List Cl) (st:Int):Int:=if l.length=0 then 16 else if fitC l st then 0 else 10
theorem J6v {l:List Cl} {st:Int} (h:fitC l st=false):ansC l st=[]:=by unfold ansC;rw [if_neg Kw]
theorem J9b {l:List Cl} {st:Int} (h:fitC l st=true):ansC l st=runC l st:=by unfold ansC;rw [if_pos h]
theorem J9c {l:List Cl} (st:Int) (h:l.length=0):ansC l st=[]:=by
 obtain rfl:=List.length_eq_zero_iff.1 h;unfold ansC;split <;> rfl
theorem Jsn {l:List Cl} {st:Int} (h:l.length=0):errC l st=16:=by unfold errC;rw [if_pos h]
theorem Jx2 {l:List Cl} {st:Int} (h:l.length≠0) (hf:fitC l st=false):errC l st=10:=by unfold errC;rw [if_neg h,if_neg (by rw [hf];simp)]
theorem Jx3 {l:List Cl} {st:Int} (h:l.length≠0) (hf:fitC l st=true):errC l st=0:=by unfold errC;rw [if_neg h,if_pos hf]
def ovlF (f g:Fq):Bool:=decide (f.2.1<g.2.2.1)&&decide (g.2.1<f.2.2.1)
theorem Qcy {f g:Fq} (h:¬f.2.1<g.2.2.1):ovlF f g=false:=by unfold ovlF;rw [Pj h];rfl
theorem Qcz {f g:Fq} (h:¬g.2.1<f.2.2.1):ovlF f g=false:=by unfold ovlF;rw [Pj h,Bool.and_false]
theorem Jx4 {f g:Fq} (h:f.2.1<g.2.2.1) (k:g.2.1<f.2.2.1):ovlF f g=true:=by unfold ovlF;rw [Pk h,Pk k];rfl
def metF (f g:Fq):Bool:=decide (f.1=g.1)&&ovlF f g
theorem Jn1 {f g:Fq} (h:f.1≠g.1):metF f g=false:=by unfold metF;rw [Pj h];rfl
theorem Jh7 {f g:Fq} (h:f.1=g.1):metF f g=ovlF f g:=by unfold metF;rw [Pk h,Bool.true_and]
def hitF (seen:List Fq) (f:Fq):Bool:=seen.any (metF f)
theorem J27 {l:List Fq} {f g:Fq} {j:Nat} (h:l[j]?=some g):hitF (l.take (j+1)) f=(hitF (l.take j) f || metF f g):=by
 unfold hitF;rw [Jbv l j g h,List.any_append];simp
def endF (f:Fq):Int:=nthF f (cntF f - 1)
theorem J6w {f:Fq} (h:sndF f=true):(lstF f)[(lstF f).length - 1]?=some (endF f):=by
 rw [Jg8];exact Jxz (by have:=Jlt h;omega)
theorem Jso {f:Fq} (h:sndF f=true):(lstF f)[0]?=some f.2.1:=by
 rw [Jxz (Jlt h),Jgc]
def allF (l:List Cl) (f:Fq):Bool:=fitC l f.2.1&&fitC l (endF f)
def clsF (ts:List (List Cl)) (f:Fq):List Cl:=(ts[f.1.toNat]?).getD []
theorem J6x {ts:List (List Cl)} {f:Fq} {c:List Cl} {n:Nat} (hn:f.1=(n:Int)) (h:ts[n]?=some c):clsF ts f=c:=by
 unfold clsF;rw [hn,Int.toNat_natCast,h];rfl
def badF (ts:List (List Cl)) (seen:List Fq) (f:Fq):Int :=
 if f.1<0∨(ts.length:Int)≤f.1 then 9 else if sndF f=false∨allF (clsF ts f) f=false then 10 else if 256<(insF f.1 (seen++[f])).length then 17 else if hitF seen f then 8 else 0
section
variable {ts:List (List Cl)} {seen:List Fq} {f:Fq}
theorem Jh8 (h:f.1<0∨(ts.length:Int)≤f.1):badF ts seen f=9:=by unfold badF;rw [if_pos h]
theorem Jkj (h1:¬f.1<0) (h2:¬(ts.length:Int)≤f.1) (h:sndF f=false):badF ts seen f=10:=by unfold badF;rw [if_neg Kd,if_pos (.inl h)]
theorem Jn2 (h1:¬f.1<0) (h2:¬(ts.length:Int)≤f.1) (h:allF (clsF ts f) f=false):badF ts seen f=10:=by
 unfold badF;rw [if_neg Kd,if_pos (.inr h)]
theorem Jn3 (h1:¬f.1<0) (h2:¬(ts.length:Int)≤f.1) (h3:sndF f=true) (h4:allF (clsF ts f) f=true) (h:256<(insF f.1 (seen++[f])).length):badF ts seen f=17:=by
 unfold badF;rw [if_neg Kd,if_neg (by rw [h3,h4];simp),if_pos h]
theorem Jsp (h1:¬f.1<0) (h2:¬(ts.length:Int)≤f.1) (h3:sndF f=true) (h4:allF (clsF ts f) f=true) (h5:¬256<(insF f.1 (seen++[f])).length) (h:hitF seen f=true):badF ts seen f=8:=by
 unfold badF;rw [if_neg Kd,if_neg (by rw [h3,h4];simp),if_neg h5,if_pos h]
theorem Jn4 (h1:¬f.1<0) (h2:¬(ts.length:Int)≤f.1) (h3:sndF f=true) (h4:allF (clsF ts f) f=true) (h5:¬256<(insF f.1 (seen++[f])).length) (h:hitF seen f=false):badF ts seen f=0:=by
 unfold badF;rw [if_neg Kd,if_neg (by rw [h3,h4];simp),if_neg h5,if_neg Kw]
theorem Jx5 (h:badF ts seen f=0):(0≤f.1∧f.1<(ts.length:Int))∧sndF f=true∧allF (clsF ts f) f=true∧(insF f.1 (seen++[f])).length≤256∧hitF seen f=false:=by
 unfold badF at h;split at h
 ·omega
 split at h
 ·omega
 next h2 =>
  split at h
  ·omega
  split at h
  ·omega
  ·next h3 h4 =>
   rw [not_or,Bool.not_eq_false,Bool.not_eq_false] at h2;exact⟨Kd,h2.1,h2.2,Kd,Bool.eq_false_iff.2 h4⟩
end
def chkF (ts:List (List Cl)) (l:List Fq):Int×Int:=if 64<l.length then (0,5) else fbF (badF ts) (fun f=>f) [] 0 l
section
variable {ts:List (List Cl)} {l:List Fq} {q:Int×Int} {k:Nat} {f:Fq}
theorem Jn5 (h:64<l.length):chkF ts l=(0,5):=by unfold chkF;rw [if_pos h]
theorem Jkk (h:¬64<l.length):chkF ts l=fbF (badF ts) (fun f=>f) ((l.take 0).map fun f=>f) 0 (l.drop 0):=by unfold chkF;rw [if_neg h];rfl
theorem Jlw (l:List Fq):(l.map fun f=>f)=l:=List.map_id' l
theorem Jsq (hr:q=fbF (badF ts) (fun f=>f) ((l.take k).map fun f=>f) k (l.drop k)) (h:l[k]?=some f) {e:Int} (hb:badF ts (l.take k) f=e) (he:e≠0):q=((k:Int),e) :=
 Jan hr h (by rw [Jlw];exact hb) he
theorem Jsr (hr:q=fbF (badF ts) (fun f=>f) ((l.take k).map fun f=>f) k (l.drop k)) (h:l[k]?=some f) (hb:badF ts (l.take k) f=0):q=fbF (badF ts) (fun f=>f) ((l.take (k+1)).map fun f=>f) (k+1) (l.drop (k+1)) :=
 Jb3 hr h (by rw [Jlw];exact hb)
theorem Jss (hr:q=fbF (badF ts) (fun f=>f) ((l.take k).map fun f=>f) k (l.drop k)) (h:l.length≤k):q=(0,0):=Jb4 hr h
end
theorem Jx6 {κ α:Type} {bad:List κ→α→Int} {key:α→κ}:∀(l:List α) (seen:List κ) (k:Nat),(fbF bad key seen k l).2=0→∀(j:Nat) x,l[j]?=some x→bad (seen++(l.take j).map key) x=0
 | [],_,_,_,j,x,h=>Qt
 | y::r,seen,k,hz,j,x,h=>by
  unfold fbF at hz;by_cases hb:bad seen y=0
  ·rw [if_pos hb] at hz
   cases j with
   | zero =>
    simp at h;subst h;exact Zf
   | succ j =>
    rw [List.getElem?_cons_succ] at h;have:=Jx6 r (seen++[key y]) (k+1) hz j x h;rw [List.append_assoc] at this;exact this
  ·rw [if_neg hb] at hz
   exact absurd hz hb
section
variable {ts:List (List Cl)} {l:List Fq}
theorem J28 (h:(chkF ts l).2=0):∀(j:Nat) f,l[j]?=some f→badF ts (l.take j) f=0:=by
 unfold chkF at h;split at h
 ·cases h
 ·intro j f hf
  have:=Jx6 l [] 0 h j f hf;rw [List.nil_append,Jlw] at this;exact this
end
open Go.RowKit
def fe (x:Fq):List Value:=[.int .i64 x.1,.int .i64 x.2.1,.int .i64 x.2.2.1,.int .i64 x.2.2.2]
theorem fe_len (x:Fq):(fe x).length=4:=rfl
abbrev LstF:=@LstG Fq fe
theorem four_at {w:World} {A:Option Addr} {n c:Nat} {l:List Fq} (h:LstF w (.slice A n c) l) {i:Nat} {t a b v:Int} (hs:l[i]?=some (t,a,b,v)) :
  ∃k f,A=some ⟨k,f,none⟩∧k<w.heap.size∧w.cell? ⟨k,f+i*4,none⟩=some (.int .i64 t)∧w.cell? ⟨k,f+i*4+1,none⟩=some (.int .i64 a)∧w.cell? ⟨k,f+i*4+2,none⟩=some (.int .i64 b)∧w.cell? ⟨k,f+i*4+3,none⟩=some (.int .i64 v):=by
 obtain⟨A',c',hv,_,_,hx⟩:=h;cases hv;exact J5
abbrev boxF (t a b v:Int):Obj:=.cells #[.int .i64 t,.int .i64 a,.int .i64 b,.int .i64 v] 118 (0,0)
theorem Jbj {w:World} {k:Nat} {t a b v:Int} (h:w.heap[k]?=some (boxF t a b v)) :
  w.cell? ⟨k,0,none⟩=some (.int .i64 t)∧w.cell? ⟨k,1,none⟩=some (.int .i64 a)∧w.cell? ⟨k,2,none⟩=some (.int .i64 b)∧w.cell? ⟨k,3,none⟩=some (.int .i64 v) :=
 ⟨Jk,Jj,Jn,Jm⟩
theorem Jeb {w w7:World} {t a b v:Int} (h:w.alloc (boxF t a b v)=w7) :
  Pn w w7∧w7.cell? ⟨w.heap.size,0,none⟩=some (.int .i64 t)∧w7.cell? ⟨w.heap.size,1,none⟩=some (.int .i64 a)∧w7.cell? ⟨w.heap.size,2,none⟩=some (.int .i64 b)∧w7.cell? ⟨w.heap.size,3,none⟩=some (.int .i64 v)∧w.heap.size<w7.heap.size∧w7.heap[w.heap.size]?=some (boxF t a b v):=by
 subst h;have c7:=heap_alloc_new w (boxF t a b v);obtain⟨h0,h1,h2,h3⟩:=Jbj c7;exact Ze
abbrev fqV (t a b v:Int):Value:=.agg #[.int .i64 t,.int .i64 a,.int .i64 b,.int .i64 v]
theorem Jlx (t a b v:Int) (w:World):Pc 263 #[fqV t a b v] w (.bool (sndF (t,a,b,v))):=by
 obtain⟨w7,hw7⟩:=Pi (w.alloc (boxF t a b v));obtain⟨b7,p0,p1,p2,p3,s7,c7⟩:=Jeb hw7;have B7:=Pe b7;clear b7 c7 s7;by_cases n0:¬(0≤a)
 ·have h0:=n0
  clear n0;have g0:decide (0≤a)=false:=Pj h0;have R:=Pe (Jex (t:=t) (a:=a) (b:=b) (e:=v) Kd);clear h0;exact Zb
 have h0:=Ps n0;clear n0;by_cases n1:¬(a<b)
 ·have h1:=n1
  clear n1;have g1:decide (a<b)=false:=Pj h1;have R:=Pe (Jex (t:=t) (a:=a) (b:=b) (e:=v) Kd);clear h1;exact Zb
 have h1:=Ps n1;clear n1;by_cases n2:¬(b≤172800)
 ·have h2:=n2
  clear n2;have g2:decide (b≤172800)=false:=Pj h2;have R:=Pe (Jex (t:=t) (a:=a) (b:=b) (e:=v) Kd);clear h2;exact Zb
 have h2:=Ps n2;clear n2;by_cases n3:¬(1≤v)
 ·have h3:=n3
  clear n3;have g3:decide (1≤v)=false:=Pj h3;have R:=Pe (Jex (t:=t) (a:=a) (b:=b) (e:=v) Kd);clear h3;exact Zb
 have h3:=Ps n3;clear n3;by_cases n4:¬(v≤86400)
 ·have h4:=n4
  clear n4;have g4:decide (v≤86400)=false:=Pj h4;have R:=Pe (Jex (t:=t) (a:=a) (b:=b) (e:=v) Kd);clear h4;exact Zb
 have h4:=Ps n4;clear n4;have R:=Pe ((Jcz (t:=t) (a:=a) (b:=b) (e:=v)).2 ⟨h0,h1,h2,h3,h4⟩);exact Zb
theorem Jst (t a b v:Int) (w:World):Pc 161 #[fqV t a b v] w (.bool (sndF (t,a,b,v))):=by
 obtain⟨w7,hw7⟩:=Pi (w.alloc (boxF t a b v));obtain⟨b7,p0,p1,p2,p3,s7,c7⟩:=Jeb hw7;have B7:=Pe b7;clear b7 c7 s7;by_cases n0:¬(0≤a)
 ·have h0:=n0
  clear n0;have g0:decide (0≤a)=false:=Pj h0;have R:=Pe (Jex (t:=t) (a:=a) (b:=b) (e:=v) Kd);clear h0;exact J9
 have h0:=Ps n0;clear n0;by_cases n1:¬(a≤172800)
 ·have h1:=n1
  clear n1;have g1:decide (a≤172800)=false:=Pj h1;have R:=Pe (Jex (t:=t) (a:=a) (b:=b) (e:=v) Kd);clear h1;exact J9
 have h1:=Ps n1;clear n1;by_cases n2:¬(0≤b)
 ·have h2:=n2
  clear n2;have g2:decide (0≤b)=false:=Pj h2;have R:=Pe (Jex (t:=t) (a:=a) (b:=b) (e:=v) Kd);clear h2;exact J9
 have h2:=Ps n2;clear n2;by_cases n3:¬(b≤172800)
 ·have h3:=n3
  clear n3;have g3:decide (b≤172800)=false:=Pj h3;have R:=Pe (Jex (t:=t) (a:=a) (b:=b) (e:=v) Kd);clear h3;exact J9
 have h3:=Ps n3;clear n3;by_cases n4:¬(a<b)
 ·have h4:=n4
  clear n4;have g4:decide (a<b)=false:=Pj h4;have R:=Pe (Jex (t:=t) (a:=a) (b:=b) (e:=v) Kd);clear h4;exact J9
 have h4:=Ps n4;clear n4;by_cases n5:¬(1≤v)
 ·have h5:=n5
  clear n5;have g5:decide (1≤v)=false:=Pj h5;have R:=Pe (Jex (t:=t) (a:=a) (b:=b) (e:=v) Kd);clear h5;exact J9
 have h5:=Ps n5;clear n5;by_cases n6:¬(v≤86400)
 ·have h6:=n6
  clear n6;have g6:decide (v≤86400)=false:=Pj h6;have R:=Pe (Jex (t:=t) (a:=a) (b:=b) (e:=v) Kd);clear h6;exact J9
 have h6:=Ps n6;clear n6;have R:=Pe ((Jcz (t:=t) (a:=a) (b:=b) (e:=v)).2 ⟨h0,h4,h3,h5,h6⟩);exact J9
theorem J29 (t a b v t' a' b' v':Int) (w:World):Pc 269 #[fqV t a b v,fqV t' a' b' v'] w (.bool (ovlF (t,a,b,v) (t',a',b',v'))):=by
 obtain⟨w7,hw7,-,ra,rb,b7⟩:=Jcq w (boxF t a b v) (boxF t' a' b' v');obtain⟨p0,p1,p2,p3⟩:=Jbj ra;obtain⟨q0,q1,q2,q3⟩:=Jbj rb;have B7:=Pe b7;clear b7 ra rb;by_cases n0:¬a<b'
 ·have h0:=n0
  clear n0;have g0:decide (a<b')=false:=Pj h0;have R:=Pe (Qcy (f:=(t,a,b,v)) (g:=(t',a',b',v')) h0);clear h0;go_enter func269,ntmps269;exact Jy
 have h0:=Ps n0;clear n0;by_cases n1:¬a'<b
 ·have h1:=n1
  clear n1;have g1:decide (a'<b)=false:=Pj h1;have R:=Pe (Qcz (f:=(t,a,b,v)) (g:=(t',a',b',v')) h1);clear h1;go_enter func269,ntmps269;exact Jy
 have h1:=Ps n1;clear n1;have R:=Pe (Jx4 (f:=(t,a,b,v)) (g:=(t',a',b',v')) h0 h1);go_enter func269,ntmps269;exact Jy
theorem J3a {t a b v:Int} (h:sndF (t,a,b,v)=true):(b - a - 1).tdiv v+1=((cntF (t,a,b,v):Nat):Int):=by
 obtain⟨h1,h2,h3,h4,h5⟩:=Jcz.1 h;have q0:0≤(b - a - 1) / v:=Int.ediv_nonneg Kd Kd;unfold cntF;rw [Int.tdiv_eq_ediv_of_nonneg Kd];simp only;omega
theorem J3b (t a b v:Int) (h:sndF (t,a,b,v)=true) (w:World):Pc 163 #[fqV t a b v] w (.int .i64 ((cntF (t,a,b,v):Nat):Int)):=by
 obtain⟨w7,hw7⟩:=Pi (w.alloc (boxF t a b v));obtain⟨b7,p0,p1,p2,p3,s7,c7⟩:=Jeb hw7;have B7:=Pe b7;clear b7 c7 s7;obtain⟨h1,h2,h3,h4,h5⟩:=Jcz.1 h;have R:=Pe (J3a h);have L:=Pe (Jki h);clear h;have q0:0≤(b - a - 1).tdiv v:=by
  rw [Int.tdiv_eq_ediv_of_nonneg Kd];exact Int.ediv_nonneg Kd Kd
 have q1:(b - a - 1).tdiv v≤172800:=by have:=R.out;have:=L.out;omega
 have e0:v≠0:=Kd;go_enter func163,ntmps163;go_wp2_with fail;go_ret;exact⟨Jad (by first | exact R.out | (rw [←R.out];simp)),B7.out⟩
end
end Go.Proofs.YtpifdbphmnifdaaGreatDoor
