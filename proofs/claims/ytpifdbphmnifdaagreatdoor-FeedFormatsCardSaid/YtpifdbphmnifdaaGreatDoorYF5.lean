/-
  Facts. Condition: each theorem's own.
-/
import Derived.Test.YtpifdbphmnifdaaGreatDoorYF4
set_option maxRecDepth 100000
set_option maxHeartbeats 8000000
section
variable {p:Prop}
theorem J5(h:p:=by go_wp2_with fail;go_ret;exact⟨Jac R.out.symm,B7.out⟩):p:=h
theorem J6(h:p:=by go_wp2_with fail;go_ret2;exact⟨ret_chk (by rw[R.out]) (by rw[R.out]),B7.out⟩):p:=h
theorem J7(h:p:=by have hi:=(Pm hs).1;obtain⟨k,f,rfl,hb,hcell⟩:=hx Ka;exact⟨k,f,rfl,hb,hcell (i*4) _ (by rw[<-Nat.add_zero (i*4),Jbq fe_len hs 0 Ka];rfl),(hcell (i*4+1) _ (by rw[Jbq fe_len hs 1 Ka];rfl):_),(hcell (i*4+2) _ (by rw[Jbq fe_len hs 2 Ka];rfl):_),(hcell (i*4+3) _ (by rw[Jbq fe_len hs 3 Ka];rfl):_)⟩):p:=h
theorem J8(h:p:=by rw[List.length_take];omega):p:=h
theorem J9(h:p:=by go_wp2_with fail;go_ret;exact⟨Jad Va,Jab (Jab B7.out _) _⟩):p:=h
theorem Za(h:p:=by go_wp2_with fail;go_ret;exact⟨Jad R.out.symm,Jab B7.out _⟩):p:=h
theorem Zb(h:p:=by go_enter Tryz.func161,Tryz.ntmps161;exact J5):p:=h
theorem Zc(h:p:=by go_enter Tryz.func263,Tryz.ntmps263;exact J5):p:=h
theorem Zd(h:p:=by go_wp2_with fail;go_ret;exact⟨Jad (by rw[<-HE.out,R.out]),Jab B7.out _⟩):p:=h
theorem Ze(h:p:=by go_wp2_with fail;go_ret;exact⟨Jad Va,B7.out⟩):p:=h
theorem Zf(h:p:=by go_wp2_with fail;go_ret;exact⟨Jad R.out.symm,Jab (Jab B7.out _) _⟩):p:=h
theorem Zg(h:p:=by exact⟨(Below.refl _ _).alloc Ph _,h0,h1,h2,h3,Ke,c7⟩):p:=h
theorem Zh(h:p:=by simpa using hb):p:=h
theorem Zi(h:p:=by rintro e w8 ⟨rfl,b8⟩;have B8:Hid (Po w w8):=HB.out.trans (b8.mono HB.out.size);clear b8 C HB;exact V9):p:=h
theorem Zj(h:p:=by rw[List.drop_zero,Nat.sub_zero] at this;exact this):p:=h
theorem Zk(h:p:=by rw[<-HR.out];rfl):p:=h
theorem Zl(h:p:=by go_enter Tryz.func262,Tryz.ntmps262;exact Vd):p:=h
theorem Zm(h:p:=by go_enter Tryz.func269,Tryz.ntmps269;exact J5):p:=h
theorem Zn(h:p:=by go_enter Tryz.func234,Tryz.ntmps234;go_wp2_with fail;go_ret;exact⟨Jad Va,Pg⟩):p:=h
theorem Zo(h:p:=by go_enter Tryz.func194,Tryz.ntmps194;exact Kc):p:=h
end
namespace Go.Proofs.YtpifdbphmnifdaaGreatDoor.S17
open Go Go.RowKit
open Go.RowKit
theorem str_ne{id:List UInt8}{x:List UInt8}{s t:ByteArray}(hs:str x=s)(ht:str id=t)(h:x≠id):s≠t:=by
 intro e;apply h;have e2:str x=str id:=Vy;exact Vi
def idT(x:Tp):List UInt8:=x.1
def rkT(ro ca r k:Int):Prop:=(0<=r/\r<ro)/\0<=k/\k<ca
instance (ro ca r k:Int):Decidable (rkT ro ca r k):=by unfold rkT;infer_instance
def badT(st ro ca:Int)(seen:List (List UInt8))(x:Tp):Int:=if Jak x.1=false then 12 else if x.1∈seen then 6 else if rkT ro ca x.2.1 x.2.2.1 then(chkC st 0 172800 x.2.2.2.2.2).2 else 9
section
variable {st ro ca:Int} {seen:List (List UInt8)} {x:Tp}
theorem Joi(h:Jak x.1=false):badT st ro ca seen x=12:=by unfold badT;rw[if_pos h]
theorem Jkj(h:Jak x.1=true)(h2:x.1∈seen):badT st ro ca seen x=6:=by unfold badT;rw[if_neg Kx,if_pos h2]
theorem Jff(h:Jak x.1=true)(h2:x.1 ∉ seen)(h3:¬rkT ro ca x.2.1 x.2.2.1):badT st ro ca seen x=9:=by unfold badT;rw[if_neg Kx,if_neg h2,if_neg h3]
theorem Jkk(h:Jak x.1=true)(h2:x.1 ∉ seen)(h3:rkT ro ca x.2.1 x.2.2.1):badT st ro ca seen x=(chkC st 0 172800 x.2.2.2.2.2).2:=by unfold badT;rw[if_neg Kx,if_neg h2,if_pos h3]
end
variable {l:List Tp} {id:List UInt8}
theorem valid_le{l:List UInt8}(h:Jak l=true):l.length<=32:=((Jf9 l).1 h).1.2
def chkT(st ro ca:Int)(l:List Tp):Int×Int:=if 256<l.length then(0,5) else fbF (badT st ro ca) idT [] 0 l
theorem chkT_many{st ro ca:Int}(h:256<l.length):chkT st ro ca l=(0,5):=by unfold chkT;rw[if_pos h]
theorem chkT_start{st ro ca:Int}(h:l.length<=256):chkT st ro ca l=fbF (badT st ro ca) idT ((l.take 0).map idT) 0 (l.drop 0):=by unfold chkT;rw[if_neg Ka];rfl
def isT(id:List UInt8)(x:Tp):Bool:=decide (x.1=id)
theorem Jyi{x:Tp}(h:x.1=id):isT id x=true:=Pk h
theorem Qc3{x:Tp}(h:x.1≠id):isT id x=false:=Pj h
theorem Jsv{α:Type}(p:α->Bool):∀(l:List α) (k:Nat),fdF p k l=-1->∀x∈l,p x=false
 | [],_,_,x,hx=>by cases hx
 | y::r,k,h,x,hx=>by
  unfold fdF at h;by_cases hp:p y=true
  ·rw[if_pos hp] at h
   omega
  ·rw[if_neg hp] at h
   rcases List.mem_cons.1 hx with rfl | hx
   ·exact Bool.eq_false_iff.2 hp
   ·exact Jsv p r (k+1) h x hx
theorem Qc4(h:0<=fdT (isT id) l):id∈l.map idT:=by
 obtain⟨j,x,h1,h2,_⟩:=J7c (p:=isT id) (l:=l) Ka;exact List.mem_map.2 ⟨x,List.mem_iff_getElem?.2 ⟨j,h1⟩,of_decide_eq_true h2⟩
theorem Qc5(h:¬0<=fdT (isT id) l):id ∉ l.map idT:=by
 rcases Jlt (isT id) l with h1 | h1
 ·intro hm
  obtain⟨x,hx,e⟩:=List.mem_map.1 hm;have:=Jsv (isT id) l 0 h1 x hx;rw[Jyi e] at this;cases this
 ·omega
theorem Jqp(v:Value)(l:List Cl)(hl:l.length<=9223372036854775807)(st lo hi s a d:Int)(o u:Bool)(hx:l[0]?=some (s,a,d,o,u))(w:World)(h:LstC w v l):Calls Tryz.prog 262 #[v,.int .i64 0,.int .i64 st,.int .i64 lo,.int .i64 hi] w fun e w'=>e=.returned (.int .i64 (badC st lo hi none (s,a,d,o,u)))/\Po w w':=by
 obtain⟨A,c,rfl,-,-,-⟩:=id h;obtain⟨b,f,rfl,hb,r0,r1,r2,r3,r4⟩:=Ja6 h hx;obtain⟨w7,hw7⟩:=Pi (w.alloc (.cells #[.int .i64 s,.int .i64 a,.int .i64 d,.bool o,.bool u] 58 (0,0)));obtain⟨b7,p0,p1,p2,p3,p4,s7⟩:=Jki hw7;rw[Nat.zero_mul,Nat.add_zero] at r0 r1 r2 r3 r4;have B7:=Pe b7;have gl:0<l.length:=(Pm hx).1;have gk:(0:Int)<(l.length:Int):=Ka;clear b7 hx h hb;by_cases h1:s<0
 ·have R:=Pe (Jdy (st:=st) (lo:=lo) (hi:=hi) (p:=none) (x:=(s,a,d,o,u)) (.inl h1))
  exact Zl
 have d1:decide (s<0)=false:=Pj h1;by_cases h2:st<=s
 ·have R:=Pe (Jdy (st:=st) (lo:=lo) (hi:=hi) (p:=none) (x:=(s,a,d,o,u)) (.inr h2))
  clear h1;exact Zl
 have d2:decide (st<=s)=false:=Pj h2;by_cases h4:a<lo
 ·have R:=Pe (Jb6 (st:=st) (lo:=lo) (hi:=hi) (p:=none) (x:=(s,a,d,o,u)) h1 h2 Jdz (.inl h4))
  clear h1 h2;go_enter Tryz.func262,Tryz.ntmps262;go_wp2_with fail;go_quiet (fail);exact Za
 have d4:decide (a<lo)=false:=Pj h4;by_cases h5:d<a
 ·have R:=Pe (Jb6 (st:=st) (lo:=lo) (hi:=hi) (p:=none) (x:=(s,a,d,o,u)) h1 h2 Jdz (.inr (.inl h5)))
  clear h1 h2 h4;go_enter Tryz.func262,Tryz.ntmps262;go_wp2_with fail;go_quiet (fail);exact Za
 have d5:decide (d<a)=false:=Pj h5;by_cases h6:hi<d
 ·have R:=Pe (Jb6 (st:=st) (lo:=lo) (hi:=hi) (p:=none) (x:=(s,a,d,o,u)) h1 h2 Jdz (.inr (.inr h6)))
  clear h1 h2 h4 h5;go_enter Tryz.func262,Tryz.ntmps262;go_wp2_with fail;go_quiet (fail);exact Za
 have d6:decide (hi<d)=false:=Pj h6;have R:=Pe (badC_none (st:=st) (lo:=lo) (hi:=hi) (p:=none) (x:=(s,a,d,o,u)) h1 h2 Jdz h4 h5 h6 Jsr);clear h1 h2 h4 h5 h6;go_enter Tryz.func262,Tryz.ntmps262;go_wp2_with fail;go_quiet (fail);go_wp2_with fail;go_quiet (fail);exact Zf
theorem Jqq(v:Value)(l:List Cl)(hl:l.length<=9223372036854775807)(st lo hi s a d:Int)(o u:Bool)(n m:Nat)(hm:n=m+1)(hx:l[n]?=some (s,a,d,o,u))(s1 a1 t1:Int)(o1 u1:Bool)(hy:l[m]?=some (s1,a1,t1,o1,u1))(w:World)(h:LstC w v l):Calls Tryz.prog 262 #[v,.int .i64 (n:Int),.int .i64 st,.int .i64 lo,.int .i64 hi] w fun e w'=>e=.returned (.int .i64 (badC st lo hi (some (s1,a1,t1,o1,u1)) (s,a,d,o,u)))/\Po w w':=by
 obtain⟨A,c,rfl,-,-,-⟩:=id h;obtain⟨b,f,rfl,hb,r0,r1,r2,r3,r4⟩:=Ja6 h hx;obtain⟨w7,hw7⟩:=Pi (w.alloc (.cells #[.int .i64 s,.int .i64 a,.int .i64 d,.bool o,.bool u] 58 (0,0)));obtain⟨b7,p0,p1,p2,p3,p4,s7⟩:=Jki hw7;obtain⟨b',f',hA,hb',q0,q1,q2,-,-⟩:=Ja6 (h.below b7) hy;cases hA;have B7:=Pe b7;have gl:n<l.length:=(Pm hx).1;have gk:(n:Int)<(l.length:Int):=Ka;have gm:(m:Int)<(l.length:Int):=Ka;have gn:(0:Int)<(n:Int):=Ka;have gn':0<n:=Ka;have gs:(n:Int) - 1=(m:Int):=Ka;clear b7 hx hy h hb hb' hm q1;by_cases h1:s<0
 ·have R:=Pe (Jdy (st:=st) (lo:=lo) (hi:=hi) (p:=some (s1,a1,t1,o1,u1)) (x:=(s,a,d,o,u)) (.inl h1))
  exact Zl
 have d1:decide (s<0)=false:=Pj h1;by_cases h2:st<=s
 ·have R:=Pe (Jdy (st:=st) (lo:=lo) (hi:=hi) (p:=some (s1,a1,t1,o1,u1)) (x:=(s,a,d,o,u)) (.inr h2))
  clear h1;exact Zl
 have d2:decide (st<=s)=false:=Pj h2;by_cases h3:s=s1
 ·have e3:=Jag h3
  have R:=Pe (Jog (st:=st) (lo:=lo) (hi:=hi) (p:=some (s1,a1,t1,o1,u1)) (x:=(s,a,d,o,u)) h1 h2 (Jye h3));clear h1 h2 h3;go_enter Tryz.func262,Tryz.ntmps262;go_wp2_with fail;go_quiet (fail);exact Za
 have e3:=Jaa h3;by_cases h4:a<lo
 ·have R:=Pe (Jb6 (st:=st) (lo:=lo) (hi:=hi) (p:=some (s1,a1,t1,o1,u1)) (x:=(s,a,d,o,u)) h1 h2 (Jfq h3) (.inl h4))
  clear h1 h2 h3;go_enter Tryz.func262,Tryz.ntmps262;go_wp2_with fail;go_quiet (fail);exact Za
 have d4:decide (a<lo)=false:=Pj h4;by_cases h5:d<a
 ·have R:=Pe (Jb6 (st:=st) (lo:=lo) (hi:=hi) (p:=some (s1,a1,t1,o1,u1)) (x:=(s,a,d,o,u)) h1 h2 (Jfq h3) (.inr (.inl h5)))
  clear h1 h2 h3 h4;go_enter Tryz.func262,Tryz.ntmps262;go_wp2_with fail;go_quiet (fail);exact Za
 have d5:decide (d<a)=false:=Pj h5;by_cases h6:hi<d
 ·have R:=Pe (Jb6 (st:=st) (lo:=lo) (hi:=hi) (p:=some (s1,a1,t1,o1,u1)) (x:=(s,a,d,o,u)) h1 h2 (Jfq h3) (.inr (.inr h6)))
  clear h1 h2 h3 h4 h5;go_enter Tryz.func262,Tryz.ntmps262;go_wp2_with fail;go_quiet (fail);exact Za
 have d6:decide (hi<d)=false:=Pj h6;by_cases h7:a<t1
 ·have R:=Pe (Joh (st:=st) (lo:=lo) (hi:=hi) (p:=some (s1,a1,t1,o1,u1)) (x:=(s,a,d,o,u)) h1 h2 (Jfq h3) h4 h5 h6 (Jyf h7))
  clear h1 h2 h3 h4 h5 h6;go_enter Tryz.func262,Tryz.ntmps262;go_wp2_with fail;go_quiet (fail);go_wp2_with fail;go_quiet (fail);exact Zf
 have d7:decide (a<t1)=false:=Pj h7;have R:=Pe (badC_none (st:=st) (lo:=lo) (hi:=hi) (p:=some (s1,a1,t1,o1,u1)) (x:=(s,a,d,o,u)) h1 h2 (Jfq h3) h4 h5 h6 (J7i h7));clear h1 h2 h3 h4 h5 h6 h7;go_enter Tryz.func262,Tryz.ntmps262;go_wp2_with fail;go_quiet (fail);go_wp2_with fail;go_quiet (fail);exact Zf
theorem Jyj(v:Value)(l:List Cl)(hl:l.length<=9223372036854775807)(st lo hi s a d:Int)(o u:Bool)(n:Nat)(hx:l[n]?=some (s,a,d,o,u))(w:World)(h:LstC w v l):Calls Tryz.prog 262 #[v,.int .i64 (n:Int),.int .i64 st,.int .i64 lo,.int .i64 hi] w fun e w'=>e=.returned (.int .i64 (badC st lo hi (prvC l n) (s,a,d,o,u)))/\Po w w':=by
 cases n with
 | zero=>exact Jqp v l hl st lo hi s a d o u hx w h
 | succ m =>
  have hlt:=(Pm hx).1;obtain⟨⟨s1,a1,t1,o1,u1⟩,hy⟩:=Jah (show m<l.length by omega);have e:prvC l (m+1)=some (s1,a1,t1,o1,u1):=hy;rw[e];exact Jqq v l hl st lo hi s a d o u (m+1) m rfl hx s1 a1 t1 o1 u1 hy w h
theorem kcheck_any(v:Value)(l:List Cl)(hl:l.length<=9223372036854775807)(st lo hi:Int)(w:World)(h:LstC w v l):Calls Tryz.prog 195 #[v,.int .i64 st,.int .i64 lo,.int .i64 hi] w fun e w'=>e=.returned (.tuple #[.int .i64 ((chkC st lo hi l).1),.int .i64 ((chkC st lo hi l).2)])/\Po w w':=by
 have H:=Pe h;obtain⟨A,c,rfl,-,-,-⟩:=h;by_cases h2:l.length<2
 ·have R:=Pe (Jss (st:=st) (lo:=lo) (hi:=hi) h2)
  have g:(l.length:Int)<2:=Ka;generalize chkC st lo hi l=q at R |-;clear h2;go_enter Tryz.func195,Tryz.ntmps195;exact Vc
 have g2:decide ((l.length:Int)<2)=false:=Q8;by_cases h32:32<l.length
 ·have R:=Pe (chkC_many (st:=st) (lo:=lo) (hi:=hi) h32)
  have g:(32:Int)<(l.length:Int):=Ka;generalize chkC st lo hi l=q at R |-;clear h32 h2;go_enter Tryz.func195,Tryz.ntmps195;exact Vc
 have g:decide ((32:Int)<(l.length:Int))=false:=Q8;have ST:=Pe (chkC_start (st:=st) (lo:=lo) (hi:=hi) h2 h32);obtain⟨q,hq⟩:=Pi (chkC st lo hi l);rw[hq];rw[hq] at ST;clear h32 hq h2;go_enter Tryz.func195,Tryz.ntmps195;go_wp2_with fail;go_loopw [22] (fun i wr=>∃k:Nat,i=.int .i64 k/\k<=l.length/\Hid (q=ckF st lo hi (prvC l k) k (l.drop k))/\Hid (Po w wr)) (fun i _=>l.length - (intOf i).toNat);case atStart=>exact⟨0,rfl,Nat.zero_le _,ST,Pe Pg⟩
 case round =>
  clear g g2 ST;obtain⟨k,rfl,hk,hz,HB⟩:=hrel;by_cases hlt:k<l.length
  ·obtain⟨⟨s,a,d,o,u⟩,hx⟩:=Jah hlt
   have gk:(k:Int)<(l.length:Int):=Ka;have C:=Pe (Jyj _ l hl st lo hi s a d o u k hx wr (H.out.below HB.out));by_cases he:badC st lo hi (prvC l k) (s,a,d,o,u)=0
   ·have N:=Pe (Jqo hz.out hx he)
    rw[he] at C;clear hx hz he;go_wp2_with fail;refine C.out.mono ?_;rintro e w8 ⟨rfl,b8⟩;have B8:Hid (Po w w8):=HB.out.trans (b8.mono HB.out.size);clear b8 C HB;go_wp2_with fail;go_roundw;case rel=>exact⟨k+1,Kj,Ka,N,B8⟩
    case measure=>exact Q7
   ·have R:=Pe (Jc6 hz.out hx rfl he)
    have ne:=Jaf he;generalize badC st lo hi (prvC l k) (s,a,d,o,u)=y at C R ne;clear hx hz he;go_wp2_with fail;refine C.out.mono ?_;exact Zi
  ·have R:=Pe (Jyg hz.out Ka)
   have d:decide (k<l.length)=false:=Kg;clear hz hlt;exact V7
theorem valid_all_any(s:ByteArray)(w:World):Calls Tryz.prog 193 #[.string s] w fun e w'=>e=.returned (.bool (Jak s.data.toList))/\w=w':=by
 by_cases hs:s.size<=1099511627776
 ·exact Jgf s hs w
 have e:=Jbo s Ka;have he:s.toList.isEmpty=false:=Vn;have g:(32:Int)<(s.size:Int):=Ka;clear hs;rw[e];go_enter Tryz.func193,Tryz.ntmps193;exact Kc
theorem valid_small{s:ByteArray}(hs:str id=s)(hv:Jak id=true):s.size<=32:=by
 exact Vw
theorem Jqr(i n:Int)(h:0<=i/\i<n)(w:World):Calls Tryz.prog 194 #[.int .i64 i,.int .i64 n] w fun e w'=>e=.returned (.bool true)/\w=w':=by
 obtain⟨h0,h1⟩:=h;exact Zo
theorem J7j(i n:Int)(h:¬(0<=i/\i<n))(w:World):Calls Tryz.prog 194 #[.int .i64 i,.int .i64 n] w fun e w'=>e=.returned (.bool false)/\w=w':=by
 by_cases h0:0<=i
 ·have d:decide (i<n)=false:=Pj (fun h1=>h ⟨h0,h1⟩)
  clear h;exact Zo
 ·have d:decide (0<=i)=false:=Pj h0
  clear h h0;exact Zo
theorem ktck_any(v:Value)(l:List Tp)(hl:l.length<=9223372036854775807)(st ro ca:Int)(w:World)(h:Jcs w v l):Calls Tryz.prog 105 #[v,.int .i64 st,.int .i64 ro,.int .i64 ca] w fun e w'=>e=.returned (.tuple #[.int .i64 ((chkT st ro ca l).1),.int .i64 ((chkT st ro ca l).2)])/\Po w w':=by
 have H:=Pe h;obtain⟨⟨A,n,rfl,-,-,-⟩,-⟩:=h;by_cases hm:256<l.length
 ·have R:=Pe (chkT_many (st:=st) (ro:=ro) (ca:=ca) hm)
  have g:(256:Int)<(l.length:Int):=Ka;generalize chkT st ro ca l=q at R |-;clear hm;go_enter Tryz.func105,Tryz.ntmps105;exact Vc
 have g:decide ((256:Int)<(l.length:Int))=false:=Q8;have ST:=Pe (chkT_start (st:=st) (ro:=ro) (ca:=ca) (l:=l) Ka);have hm':l.length<=256:=Ka;have hmm:=@run_makeMap Tryz.prog;obtain⟨q,hq⟩:=Pi (chkT st ro ca l);rw[hq];rw[hq] at ST;clear hm hq;go_enter Tryz.func105,Tryz.ntmps105;go_wp2_with fail;go_loopw [21] (fun i wr=>∃k:Nat,i=.int .i64 k/\k<=l.length/\Hid (q=fbF (badT st ro ca) idT ((l.take k).map idT) k (l.drop k))/\Hid (MapB wr w.heap.size ((l.take k).map idT))/\Hid (Po w wr)) (fun i _=>l.length - (intOf i).toNat);case atStart=>exact⟨0,rfl,Nat.zero_le _,ST,Pe (MapB.made w),Pe ((Below.refl _ _).alloc Ph _)⟩
 case round =>
  clear g ST hmm;obtain⟨k,rfl,hk,hz,HM,HB⟩:=hrel;by_cases hlt:k<l.length
  ·obtain⟨⟨id,r,c,f,v,cl⟩,hx⟩:=Jah hlt
   obtain⟨nm,hnm⟩:=Pi (str id);obtain⟨b,o,B,m,rfl,rfl,hb,r0,r1,r2,r3,r4,lc,lcl,-⟩:=Ja7 (H.out.below HB.out) hx hnm;obtain⟨w7,hw7⟩:=Pi (wr.alloc (.cells #[.string nm,.int .i64 r,.int .i64 c,.bool f,.slice B cl.length m] 56 (0,0)));obtain⟨b7,p0,p1,p2,p3,p4,s7⟩:=Jyh hw7;have gk:(k:Int)<(l.length:Int):=Ka;have hid:nm.data.toList=id:=Vs;have B7:Hid (Po w w7):=HB.out.trans (b7.mono HB.out.size);have M7:=Pe (HM.out.below b7);have L7:=Pe (lc.below b7);have V:=Pe (fun W=>valid_all_any nm W);rw[hid] at V;clear b7 HM HB hb lc;cases hv:Jak id with
   | false =>
    have R:=Pe (Jal hz.out hx (Joi (seen:=(l.take k).map idT) (x:=(id,r,c,f,.slice B cl.length m,cl)) hv) Kd);rw[hv] at V;clear hx hz hnm hid hv;go_wp2_with fail;refine Pf (V.out _) ?_;exact J6
   | true =>
    rw[hv] at V;have lk:=M7.out.look nm id hid (by have:=valid_small hnm hv;omega);by_cases hd:id∈(l.take k).map idT
    ·have R:=Pe (Jal hz.out hx (Jkj (seen:=(l.take k).map idT) (x:=(id,r,c,f,.slice B cl.length m,cl)) hv hd) Kd)
     rw[Pk hd] at lk;clear hx hz hnm hid hv hd;go_wp2_with fail;refine Pf (V.out _) ?_;exact J6
    rw[Pj hd] at lk;by_cases hr:0<=r/\r<ro
    ·by_cases hc:0<=c/\c<ca
     ·have X1:=Pe (fun W=>Jqr r ro hr W)
      have X2:=Pe (fun W=>Jqr c ca hc W);have CK:=Pe (kcheck_any (.slice B cl.length m) cl lcl st 0 172800 w7 L7.out);have BE:=Pe (Jkk (st:=st) (seen:=(l.take k).map idT) (x:=(id,r,c,f,.slice B cl.length m,cl)) hv hd ⟨hr,hc⟩);by_cases he:(chkC st 0 172800 cl).2=0
      ·have N:=Pe (Jcd hz.out hx (BE.out.trans he))
       have T:=Pe (Jeq (key:=idT) hx);have hil:((l.take k).map idT).length<=256:=Jp;have HD:Hid (nm.data.toList=id):=hid;have hsz:=valid_small hnm hv;rw[he] at CK;generalize (chkC st 0 172800 cl).1=y at CK;clear hx hz hnm hid hv hd hr hc he BE;go_wp2_with fail;refine Pf (V.out _) ?_;go_wp2_with fail;refine Pf (X1.out _) ?_;go_wp2_with fail;refine Pf (X2.out _) ?_;go_wp2_with fail;refine CK.out.mono ?_;rintro e w8 ⟨rfl,b8⟩;have q0:=(b8.cell (p:=⟨wr.heap.size,0,none⟩) s7).trans p0;have B8:Hid (Po w w8):=B7.out.trans (b8.mono B7.out.size);have M8:=Pe (M7.out.below b8);clear b8 p0 p1 p2 p3 p4 B7 M7 CK V X1 X2 lk L7 r0 r1 r2 r3 r4 hw7;go_wp2_with (at_mapUpdate;refine Jgd _ rfl _ _ _ rfl w.heap.size ((l.take k).map idT) rfl M8.out nm id HD.out Ka rfl rfl Ka ?_;intro w9 m9 g9;refine Hid.out ?_);have M:Hid (MapB w9 w.heap.size ((l.take (k+1)).map idT)):=by
        show MapB _ _ _
        rw[T.out];exact m9
       have B9:Hid (Po w w9):=B8.out.grown g9 B8.out.size (fun j hj=>Vh);clear m9 g9 M8 B8;refine Pe ?_;go_wp2_with fail;go_roundw;case rel=>exact⟨k+1,Kj,Ka,N,M,B9⟩
       case measure=>exact Q7
      ·have R:=Pe (Jal hz.out hx BE.out he)
       have ne:=Jaf he;generalize (chkC st 0 172800 cl).1=y at CK;generalize (chkC st 0 172800 cl).2=z at CK R ne;clear hx hz hnm hid hv hd hr hc he BE;go_wp2_with fail;refine Pf (V.out _) ?_;go_wp2_with fail;refine Pf (X1.out _) ?_;go_wp2_with fail;refine Pf (X2.out _) ?_;go_wp2_with fail;refine CK.out.mono ?_;rintro e w8 ⟨rfl,b8⟩;have B8:Hid (Po w w8):=B7.out.trans (b8.mono B7.out.size);clear b8 B7 CK;exact V9
     ·have R:=Pe (Jal hz.out hx (Jff (seen:=(l.take k).map idT) (x:=(id,r,c,f,.slice B cl.length m,cl)) hv hd (fun h=>hc h.2)) Kd)
      have X1:=Pe (fun W=>Jqr r ro hr W);have X2:=Pe (fun W=>J7j c ca hc W);clear hx hz hnm hid hv hd hr hc;go_wp2_with fail;refine Pf (V.out _) ?_;go_wp2_with fail;refine Pf (X1.out _) ?_;go_wp2_with fail;refine Pf (X2.out _) ?_;exact J6
    ·have R:=Pe (Jal hz.out hx (Jff (seen:=(l.take k).map idT) (x:=(id,r,c,f,.slice B cl.length m,cl)) hv hd (fun h=>hr h.1)) Kd)
     have X1:=Pe (fun W=>J7j r ro hr W);clear hx hz hnm hid hv hd hr;go_wp2_with fail;refine Pf (V.out _) ?_;go_wp2_with fail;refine Pf (X1.out _) ?_;exact J6
  ·have R:=Pe (Jce hz.out Ka)
   have d:decide (k<l.length)=false:=Kg;clear hz hlt HM;exact V7
theorem rfind_any(v:Value)(l:List Tp)(hl:l.length<=1099511627776)(id:List UInt8)(t:ByteArray)(ht:str id=t)(w:World)(h:Jcs w v l):Calls Tryz.prog 233 #[v,.string t] w fun e w'=>e=.returned (.int .i64 (fdT (isT id) l))/\w=w':=by
 have H:=Pe h;have HT:=Pe ht;clear ht;obtain⟨⟨A,n,rfl,-,-,-⟩,-⟩:=h;obtain⟨q,hq⟩:=Pi (fdT (isT id) l);rw[hq];have HR:=Pe hq;clear hq;go_enter Tryz.func233,Tryz.ntmps233;go_wp2_with fail;go_loop [5] (fun i=>∃k:Nat,i=.int .i64 k/\k<=l.length/\Hid (q=fdF (isT id) k (l.drop k))) (fun i=>l.length - (intOf i).toNat);case atStart=>exact⟨0,rfl,Nat.zero_le _,Pe Zk⟩
 case round =>
  obtain⟨k,rfl,hk,hz⟩:=hrel;by_cases hlt:k<l.length
  ·obtain⟨⟨ix,r,c,f,v,cl⟩,hx⟩:=Jah hlt
   obtain⟨nm,hnm⟩:=Pi (str ix);obtain⟨b,o,B,m,rfl,rfl,hb,r0,r1,r2,r3,r4,-,-,-⟩:=Ja7 H.out hx hnm;have gk:(k:Int)<(l.length:Int):=Ka;by_cases he:ix=id
   ·have g:=Jcn (a:=nm) (b:=t) Vx
    have R:=Pe (Jka hz.out hx (Jyi he));clear hx hz hnm hb he hlt HR HT r1 r2 r3 r4;exact Vg
   ·have g:=Jcx (a:=nm) (b:=t) (str_ne hnm HT.out he)
    have N:=Pe (Jg7 hz.out hx (Qc3 he));clear hx hz hnm hb he r1 r2 r3 r4;go_wp2_with fail;go_round;case rel=>exact⟨k+1,Kj,Ka,N⟩
    case measure=>exact Q7
  ·have R:=Pe (Jkb hz.out Ka)
   have d:decide (k<l.length)=false:=Kg;clear hz hlt HR HT;exact Vg
theorem rcalls_any(v:Value)(l:List Cl)(hl:l.length<=9223372036854775807)(st:Int)(w:World)(h:LstC w v l):Calls Tryz.prog 234 #[v,.int .i64 st] w fun e w'=>e=.returned (.int .i64 ((chkC st 0 172800 l).2))/\Po w w':=by
 have H:=Pe h;obtain⟨A,c,rfl,-,-,-⟩:=h;by_cases h2:l.length<2
 ·have R:=Pe (Jss (st:=st) (lo:=0) (hi:=172800) h2)
  have g:(l.length:Int)<2:=Ka;generalize chkC st 0 172800 l=q at R |-;clear h2;exact Zn
 have g2:decide ((l.length:Int)<2)=false:=Q8;by_cases h32:32<l.length
 ·have R:=Pe (chkC_many (st:=st) (lo:=0) (hi:=172800) h32)
  have g:(32:Int)<(l.length:Int):=Ka;generalize chkC st 0 172800 l=q at R |-;clear h32 h2;exact Zn
 have g:decide ((32:Int)<(l.length:Int))=false:=Q8;have ST:=Pe (chkC_start (st:=st) (lo:=0) (hi:=172800) h2 h32);obtain⟨q,hq⟩:=Pi (chkC st 0 172800 l);rw[hq];rw[hq] at ST;clear h32 hq h2;go_enter Tryz.func234,Tryz.ntmps234;go_wp2_with fail;go_loopw [5] (fun i wr=>∃k:Nat,i=.int .i64 k/\k<=l.length/\Hid (q=ckF st 0 172800 (prvC l k) k (l.drop k))/\Hid (Po w wr)) (fun i _=>l.length - (intOf i).toNat);case atStart=>exact⟨0,rfl,Nat.zero_le _,ST,Pe Pg⟩
 case round =>
  clear g g2 ST;obtain⟨k,rfl,hk,hz,HB⟩:=hrel;by_cases hlt:k<l.length
  ·obtain⟨⟨s,a,d,o,u⟩,hx⟩:=Jah hlt
   obtain⟨b,f,rfl,hb,r0,r1,r2,r3,r4⟩:=Ja6 (H.out.below HB.out) hx;have gk:(k:Int)<(l.length:Int):=Ka;have B7:=Pe HB.out;clear hb;by_cases k0:k=0
   ·have hp:prvC l k=none:=by rw[k0];rfl
    have gn:decide ((0:Int)<(k:Int))=false:=Q8;have gn':decide (0<k)=false:=Q8;clear k0;by_cases h1:s<0
    ·have R:=Pe (Jc6 (e:=9) hz.out hx (by rw[hp];exact Jdy (st:=st) (lo:=0) (hi:=172800) (p:=none) (x:=(s,a,d,o,u)) (.inl h1)) Kd)
     clear hz hx hp HB;exact Ze
    have d1:decide (s<0)=false:=Pj h1;by_cases h2:st<=s
    ·have R:=Pe (Jc6 (e:=9) hz.out hx (by rw[hp];exact Jdy (st:=st) (lo:=0) (hi:=172800) (p:=none) (x:=(s,a,d,o,u)) (.inr h2)) Kd)
     clear hz hx hp HB h1;exact Ze
    have d2:decide (st<=s)=false:=Pj h2;by_cases h4:a<0
    ·have R:=Pe (Jc6 (e:=10) hz.out hx (by rw[hp];exact Jb6 (st:=st) (lo:=0) (hi:=172800) (p:=none) (x:=(s,a,d,o,u)) h1 h2 Jdz (.inl h4)) Kd)
     clear hz hx hp HB h1 h2;go_wp2_with fail;go_quiet (fail);go_wp2_with fail;go_quiet (fail);exact J9
    have d4:decide (a<0)=false:=Pj h4;by_cases h5:d<a
    ·have R:=Pe (Jc6 (e:=10) hz.out hx (by rw[hp];exact Jb6 (st:=st) (lo:=0) (hi:=172800) (p:=none) (x:=(s,a,d,o,u)) h1 h2 Jdz (.inr (.inl h5))) Kd)
     clear hz hx hp HB h1 h2 h4;go_wp2_with fail;go_quiet (fail);go_wp2_with fail;go_quiet (fail);exact J9
    have d5:decide (d<a)=false:=Pj h5;by_cases h6:(172800:Int)<d
    ·have R:=Pe (Jc6 (e:=10) hz.out hx (by rw[hp];exact Jb6 (st:=st) (lo:=0) (hi:=172800) (p:=none) (x:=(s,a,d,o,u)) h1 h2 Jdz (.inr (.inr h6))) Kd)
     clear hz hx hp HB h1 h2 h4 h5;go_wp2_with fail;go_quiet (fail);go_wp2_with fail;go_quiet (fail);exact J9
    have d6:decide ((172800:Int)<d)=false:=Pj h6;have N:=Pe (Jqo hz.out hx (by rw[hp];exact badC_none (st:=st) (lo:=0) (hi:=172800) (p:=none) (x:=(s,a,d,o,u)) h1 h2 Jdz h4 h5 h6 Jsr));clear hz hx hp HB h1 h2 h4 h5 h6;go_wp2_with fail;go_quiet (fail);go_wp2_with fail;go_quiet (fail);go_wp2_with fail;go_roundw;case rel=>exact⟨k+1,Kj,Ka,N,Pe (Jab B7.out _)⟩
    case measure=>exact Q7
   ·obtain⟨m,hm⟩:∃m,k=m+1:=⟨k - 1,Ka⟩
    obtain⟨⟨s1,a1,t1,o1,u1⟩,hy⟩:=Jah (show m<l.length by omega);have hp:prvC l k=some (s1,a1,t1,o1,u1):=by rw[hm];exact hy
    obtain⟨b',f',hA,hb',q0,q1,q2,-,-⟩:=Ja6 (H.out.below B7.out) hy;cases hA;have gm:(m:Int)<(l.length:Int):=Ka;have gn:(0:Int)<(k:Int):=Ka;have gn':0<k:=Ka;have gs:(k:Int) - 1=(m:Int):=Ka;clear k0 hm hy hb';by_cases h1:s<0
    ·have R:=Pe (Jc6 (e:=9) hz.out hx (by rw[hp];exact Jdy (st:=st) (lo:=0) (hi:=172800) (p:=some (s1,a1,t1,o1,u1)) (x:=(s,a,d,o,u)) (.inl h1)) Kd)
     clear hz hx hp HB;exact Ze
    have d1:decide (s<0)=false:=Pj h1;by_cases h2:st<=s
    ·have R:=Pe (Jc6 (e:=9) hz.out hx (by rw[hp];exact Jdy (st:=st) (lo:=0) (hi:=172800) (p:=some (s1,a1,t1,o1,u1)) (x:=(s,a,d,o,u)) (.inr h2)) Kd)
     clear hz hx hp HB h1;exact Ze
    have d2:decide (st<=s)=false:=Pj h2;by_cases h3:s=s1
    ·have e3:=Jag h3
     have R:=Pe (Jc6 (e:=13) hz.out hx (by rw[hp];exact Jog (st:=st) (lo:=0) (hi:=172800) (p:=some (s1,a1,t1,o1,u1)) (x:=(s,a,d,o,u)) h1 h2 (Jye h3)) Kd);clear hz hx hp HB h1 h2 h3;go_wp2_with fail;go_quiet (fail);go_wp2_with fail;go_ret;exact⟨Jad Va,Jab B7.out _⟩
    have e3:=Jaa h3;by_cases h4:a<0
    ·have R:=Pe (Jc6 (e:=10) hz.out hx (by rw[hp];exact Jb6 (st:=st) (lo:=0) (hi:=172800) (p:=some (s1,a1,t1,o1,u1)) (x:=(s,a,d,o,u)) h1 h2 (Jfq h3) (.inl h4)) Kd)
     clear hz hx hp HB h1 h2 h3;go_wp2_with fail;go_quiet (fail);go_wp2_with fail;go_quiet (fail);exact J9
    have d4:decide (a<0)=false:=Pj h4;by_cases h5:d<a
    ·have R:=Pe (Jc6 (e:=10) hz.out hx (by rw[hp];exact Jb6 (st:=st) (lo:=0) (hi:=172800) (p:=some (s1,a1,t1,o1,u1)) (x:=(s,a,d,o,u)) h1 h2 (Jfq h3) (.inr (.inl h5))) Kd)
     clear hz hx hp HB h1 h2 h3 h4;go_wp2_with fail;go_quiet (fail);go_wp2_with fail;go_quiet (fail);exact J9
    have d5:decide (d<a)=false:=Pj h5;by_cases h6:(172800:Int)<d
    ·have R:=Pe (Jc6 (e:=10) hz.out hx (by rw[hp];exact Jb6 (st:=st) (lo:=0) (hi:=172800) (p:=some (s1,a1,t1,o1,u1)) (x:=(s,a,d,o,u)) h1 h2 (Jfq h3) (.inr (.inr h6))) Kd)
     clear hz hx hp HB h1 h2 h3 h4 h5;go_wp2_with fail;go_quiet (fail);go_wp2_with fail;go_quiet (fail);exact J9
    have d6:decide ((172800:Int)<d)=false:=Pj h6;by_cases h7:a<t1
    ·have R:=Pe (Jc6 (e:=10) hz.out hx (by rw[hp];exact Joh (st:=st) (lo:=0) (hi:=172800) (p:=some (s1,a1,t1,o1,u1)) (x:=(s,a,d,o,u)) h1 h2 (Jfq h3) h4 h5 h6 (Jyf h7)) Kd)
     clear hz hx hp HB h1 h2 h3 h4 h5 h6;go_wp2_with fail;go_quiet (fail);go_wp2_with fail;go_quiet (fail);exact J9
    have d7:decide (a<t1)=false:=Pj h7;have N:=Pe (Jqo hz.out hx (by rw[hp];exact badC_none (st:=st) (lo:=0) (hi:=172800) (p:=some (s1,a1,t1,o1,u1)) (x:=(s,a,d,o,u)) h1 h2 (Jfq h3) h4 h5 h6 (J7i h7)));clear hz hx hp HB h1 h2 h3 h4 h5 h6 h7;go_wp2_with fail;go_quiet (fail);go_wp2_with fail;go_quiet (fail);go_wp2_with fail;go_roundw;case rel=>exact⟨k+1,Kj,Ka,N,Pe (Jab B7.out _)⟩
    case measure=>exact Q7
  ·have R:=Pe (Jyg hz.out Ka)
   have d:decide (k<l.length)=false:=Kg;clear hz hlt;go_wp2_with fail;go_ret;exact⟨Jad Va,HB.out⟩
theorem rvalid_all_any(s:ByteArray)(w:World):Calls Tryz.prog 158 #[.string s] w fun e w'=>e=.returned (.bool (Jak s.data.toList))/\w=w':=by
 by_cases hs:s.size<=1099511627776
 ·exact Jj8 s hs w
 have e:=Jbo s Ka;have he:((s.size:Int)==0)=false:=Jaa Ka;have g:(32:Int)<(s.size:Int):=Ka;clear hs;rw[e];go_enter Tryz.func158,Tryz.ntmps158;exact Kc
theorem J9j:(Tryz.prog.info? 56).map (fun i=>(i.zero,i.size,i.bytes))=some (some (.agg #[.string ByteArray.empty,.int .i64 0,.int .i64 0,.bool false,.slice none 0 0]),5,64):=Kl
theorem J9k:∀w,(Go.sizeOf 56).run Tryz.prog w=.ok 5 w:=fun w=>by
 obtain⟨i,hi,_,hsz,_⟩:=info_parts J9j;simp[sizeOf,typeInfo,hi,hsz]
theorem Jsw:Tryz.prog.elem 27=56:=by simp[Program.elem,Tryz.underlying27]
theorem Jyk:Tryz.prog.underlying 27=some (.slice (Tryz.prog.elem 27)):=by rw[Jsw];exact Tryz.underlying27
theorem J3w{w:World}{v:Value}(h:Jcs w v l)(j:Nat)(hj:j<=l.length)(_:l.length<=9223372036854775807)(e:Int)(he:e=j):∃x,(∀W,(Instr.slice 27 v none (some (.int .i64 e)) none).run Tryz.prog W=.ok x W)/\Jcs w x (l.take j):=by
 subst he;obtain⟨H,ok⟩:=h;have H':=H;obtain⟨A,c,rfl,hc,-,-⟩:=H;refine⟨sliced A 0 j c 5,fun W=>?_,?_,fun x hx=>ok x (List.mem_of_mem_take hx)⟩
 ·rw[run_slice_h W 27 A l.length c Jyk .i64 j Ka Ka,Jsw,J9k]
  rfl
 ·have:=LstG.part Je3 H' 0 j c (Nat.zero_le _) hj Ka Ph
  exact Zj
theorem rone_any(v:Value)(l:List Tp)(hl:l.length<=1099511627776)(k:Nat)(x:Tp)(hx:l[k]?=some x)(st ro ca:Int)(w:World)(h:Jcs w v l):Calls Tryz.prog 160 #[v,.int .i64 (k:Int),.int .i64 st,.int .i64 ro,.int .i64 ca] w fun e w'=>e=.returned (.int .i64 (badT st ro ca ((l.take k).map idT) x))/\Po w w':=by
 obtain⟨id,r,c,f,v',cl⟩:=x;have hkl:=(Pm hx).1;have gk:(k:Int)<(l.length:Int):=Ka;have gk':(k:Int)<=(l.length:Int):=Ka;obtain⟨nm,hnm⟩:=Pi (str id);obtain⟨x1,run1,lst1⟩:=J3w h k Ka Ka (k:Int) rfl;obtain⟨⟨A,n,rfl,-,-,-⟩,-⟩:=_root_.id h;obtain⟨b,o,B,m,rfl,rfl,hb,r0,r1,r2,r3,r4,lc,lcl,-⟩:=Ja7 h hx hnm;obtain⟨w7,hw7⟩:=Pi (w.alloc (.cells #[.string nm,.int .i64 r,.int .i64 c,.bool f,.slice B cl.length m] 56 (0,0)));obtain⟨b7,p0,p1,p2,p3,p4,s7⟩:=Jyh hw7;have hid:nm.data.toList=id:=Vs;have B7:=Pe b7;have L7:=Pe (lc.below b7);have V:=Pe (fun W=>rvalid_all_any nm W);rw[hid] at V;have P:Hid (∀n,Jcs (w7.drewN n) x1 (l.take k)):=fun n=>lst1.below (b7.trans (Jab Pg n |>.mono b7.size))
 have F:=Pe (fun W (hW:Jcs W x1 (l.take k))=>rfind_any x1 (l.take k) J8 id nm hnm W hW);have RC:=Pe (fun W (hW:LstC W (.slice B cl.length m) cl)=>rcalls_any (.slice B cl.length m) cl lcl st W hW);obtain⟨E,hE⟩:=Pi (badT st ro ca ((l.take k).map idT) (id,r,c,f,.slice B cl.length m,cl));rw[hE];have HE:=Pe hE;clear hE b7 hb lc hx h lst1 hnm hid;cases hv:Jak id with
 | false =>
  have R:=Pe (Joi (st:=st) (ro:=ro) (ca:=ca) (seen:=(l.take k).map idT) (x:=(id,r,c,f,.slice B cl.length m,cl)) hv);rw[hv] at V;clear hv;go_enter Tryz.func160,Tryz.ntmps160;go_wp2_with fail;refine Pf (V.out _) ?_;go_wp2_with fail;go_ret;exact⟨Jad (by rw[<-HE.out,R.out]),B7.out⟩
 | true =>
  rw[hv] at V;by_cases hf:0<=fdT (isT id) (l.take k)
  ·have R:=Pe (Jkj (st:=st) (ro:=ro) (ca:=ca) (x:=(id,r,c,f,.slice B cl.length m,cl)) hv (Qc4 hf))
   generalize fdT (isT id) (l.take k)=z at F hf;clear hv;go_enter Tryz.func160,Tryz.ntmps160;go_wp2_with fail;refine Pf (V.out _) ?_;go_wp2_with fail;go_quiet ((go_at_call 233;with_reducible exact Calls.quiet_of_same ((F.out _ (P.out _)).mono fun _ _ ⟨a,b⟩=>⟨a,b.symm⟩)));exact Zd
  have hn:=Qc5 hf;have df:decide (0<=fdT (isT id) (l.take k))=false:=Pj hf;generalize fdT (isT id) (l.take k)=z at F hf df;clear hf;by_cases h1:r<0
  ·have R:=Pe (Jff (st:=st) (ro:=ro) (ca:=ca) (x:=(id,r,c,f,.slice B cl.length m,cl)) hv hn (fun h=>absurd (show 0<=r from h.1.1) Ka))
   clear hv hn;go_enter Tryz.func160,Tryz.ntmps160;go_wp2_with fail;refine Pf (V.out _) ?_;go_wp2_with fail;go_quiet ((go_at_call 233;with_reducible exact Calls.quiet_of_same ((F.out _ (P.out _)).mono fun _ _ ⟨a,b⟩=>⟨a,b.symm⟩)));exact Zd
  have d1:decide (r<0)=false:=Pj h1;by_cases h2:ro<=r
  ·have R:=Pe (Jff (st:=st) (ro:=ro) (ca:=ca) (x:=(id,r,c,f,.slice B cl.length m,cl)) hv hn (fun h=>absurd (show r<ro from h.1.2) Ka))
   clear hv hn;go_enter Tryz.func160,Tryz.ntmps160;go_wp2_with fail;refine Pf (V.out _) ?_;go_wp2_with fail;go_quiet ((go_at_call 233;with_reducible exact Calls.quiet_of_same ((F.out _ (P.out _)).mono fun _ _ ⟨a,b⟩=>⟨a,b.symm⟩)));exact Zd
  have d2:decide (ro<=r)=false:=Pj h2;by_cases h3:c<0
  ·have R:=Pe (Jff (st:=st) (ro:=ro) (ca:=ca) (x:=(id,r,c,f,.slice B cl.length m,cl)) hv hn (fun h=>absurd (show 0<=c from h.2.1) Ka))
   clear hv hn;go_enter Tryz.func160,Tryz.ntmps160;go_wp2_with fail;refine Pf (V.out _) ?_;go_wp2_with fail;go_quiet ((go_at_call 233;with_reducible exact Calls.quiet_of_same ((F.out _ (P.out _)).mono fun _ _ ⟨a,b⟩=>⟨a,b.symm⟩)));exact Zd
  have d3:decide (c<0)=false:=Pj h3;by_cases h4:ca<=c
  ·have R:=Pe (Jff (st:=st) (ro:=ro) (ca:=ca) (x:=(id,r,c,f,.slice B cl.length m,cl)) hv hn (fun h=>absurd (show c<ca from h.2.2) Ka))
   clear hv hn;go_enter Tryz.func160,Tryz.ntmps160;go_wp2_with fail;refine Pf (V.out _) ?_;go_wp2_with fail;go_quiet ((go_at_call 233;with_reducible exact Calls.quiet_of_same ((F.out _ (P.out _)).mono fun _ _ ⟨a,b⟩=>⟨a,b.symm⟩)));exact Zd
  have d4:decide (ca<=c)=false:=Pj h4;have R:=Pe (Jkk (st:=st) (ro:=ro) (ca:=ca) (x:=(id,r,c,f,.slice B cl.length m,cl)) hv hn (show rkT ro ca r c from ⟨⟨Ka,Ka⟩,Ka,Ka⟩));clear hv hn h1 h2 h3 h4;go_enter Tryz.func160,Tryz.ntmps160;go_wp2_with fail;refine Pf (V.out _) ?_;go_wp2_with fail;go_quiet ((go_at_call 233;with_reducible exact Calls.quiet_of_same ((F.out _ (P.out _)).mono fun _ _ ⟨a,b⟩=>⟨a,b.symm⟩)));go_wp2_with fail;have B8:Hid (Po w (w7.drewN nq)):=Jab B7.out _;refine(RC.out _ (L7.out.below (Jab Pg _))).mono ?_;rintro e w9 ⟨rfl,b9⟩;have B9:Hid (Po w w9):=B8.out.trans (b9.mono B8.out.size);clear b9 B8;go_wp2_with fail;go_ret;exact⟨Jad (by rw[<-HE.out,R.out]),B9.out⟩
theorem rtck_any(v:Value)(l:List Tp)(hl:l.length<=1099511627776)(st ro ca:Int)(w:World)(h:Jcs w v l):Calls Tryz.prog 72 #[v,.int .i64 st,.int .i64 ro,.int .i64 ca] w fun e w'=>e=.returned (.tuple #[.int .i64 ((chkT st ro ca l).1),.int .i64 ((chkT st ro ca l).2)])/\Po w w':=by
 have H:=Pe h;obtain⟨⟨A,n,rfl,-,-,-⟩,-⟩:=h;by_cases hm:256<l.length
 ·have R:=Pe (chkT_many (st:=st) (ro:=ro) (ca:=ca) hm)
  have g:(256:Int)<(l.length:Int):=Ka;generalize chkT st ro ca l=q at R |-;clear hm;go_enter Tryz.func72,Tryz.ntmps72;exact Vc
 have g:decide ((256:Int)<(l.length:Int))=false:=Q8;have ST:=Pe (chkT_start (st:=st) (ro:=ro) (ca:=ca) (l:=l) Ka);obtain⟨q,hq⟩:=Pi (chkT st ro ca l);rw[hq];rw[hq] at ST;clear hm hq;go_enter Tryz.func72,Tryz.ntmps72;go_wp2_with fail;go_loopw [10] (fun i wr=>∃k:Nat,i=.int .i64 k/\k<=l.length/\Hid (q=fbF (badT st ro ca) idT ((l.take k).map idT) k (l.drop k))/\Hid (Po w wr)) (fun i _=>l.length - (intOf i).toNat);case atStart=>exact⟨0,rfl,Nat.zero_le _,ST,Pe Pg⟩
 case round =>
  clear g ST;obtain⟨k,rfl,hk,hz,HB⟩:=hrel;by_cases hlt:k<l.length
  ·obtain⟨x,hx⟩:=Jah hlt
   have gk:(k:Int)<(l.length:Int):=Ka;have C:=Pe (rone_any _ l hl k x hx st ro ca wr (H.out.below HB.out));by_cases he:badT st ro ca ((l.take k).map idT) x=0
   ·have N:=Pe (Jcd hz.out hx he)
    rw[he] at C;clear hx hz he;go_wp2_with fail;refine C.out.mono ?_;rintro e w8 ⟨rfl,b8⟩;have B8:Hid (Po w w8):=HB.out.trans (b8.mono HB.out.size);clear b8 C HB;go_wp2_with fail;go_roundw;case rel=>exact⟨k+1,Kj,Ka,N,B8⟩
    case measure=>exact Q7
   ·have R:=Pe (Jal hz.out hx rfl he)
    have ne:=Jaf he;generalize badT st ro ca ((l.take k).map idT) x=y at C R ne;clear hx hz he;go_wp2_with fail;refine C.out.mono ?_;exact Zi
  ·have R:=Pe (Jce hz.out Ka)
   have d:decide (k<l.length)=false:=Kg;clear hz hlt;exact V7
end Go.Proofs.YtpifdbphmnifdaaGreatDoor.S17
namespace Go.Proofs
open Go.Shelf
def Tryz.lays189_ren:Go.Shelf.Ren:=⟨fun | 189=>334 | 125=>361 | 257=>360 | 128=>380 | 129=>381 | 294=>371 | 295=>372 | 296=>373 | 297=>374 | 298=>375 | 299=>376 | 216=>377 | 300=>378 | 301=>379 | 328=>389 | 329=>390 | 330=>391 | 331=>392 | 332=>393 | 215=>394 | 343=>401 | n=>n,fun | 28=>84 | 3=>3 | 46=>223 | 0=>0 | 51=>280 | 53=>225 | 4=>4 | 183=>306 | 182=>305 | 131=>248 | 5=>5 | 9=>9 | 218=>321 | 222=>325 | 228=>333 | 229=>94 | n=>n,fun | n=>n⟩
theorem Tryz.lays189:Go.Proofs.Lays.n189 Tryz.prog Tryz.lays189_ren:={
 mixed:=Kl
 f125:=Tryz.func361.trans (congrArg some Kl)
 f128:=Tryz.func380.trans (congrArg some Kl)
 f129:=Tryz.func381.trans (congrArg some Kl)
 f189:=Tryz.func334.trans (congrArg some Kl)
 f215:=Tryz.func394.trans (congrArg some Kl)
 f216:=Tryz.func377.trans (congrArg some Kl)
 f257:=Tryz.func360.trans (congrArg some Kl)
 f294:=Tryz.func371.trans (congrArg some Kl)
 f295:=Tryz.func372.trans (congrArg some Kl)
 f296:=Tryz.func373.trans (congrArg some Kl)
 f297:=Tryz.func374.trans (congrArg some Kl)
 f298:=Tryz.func375.trans (congrArg some Kl)
 f299:=Tryz.func376.trans (congrArg some Kl)
 f300:=Tryz.func378.trans (congrArg some Kl)
 f301:=Tryz.func379.trans (congrArg some Kl)
 f328:=Tryz.func389.trans (congrArg some Kl)
 f329:=Tryz.func390.trans (congrArg some Kl)
 f330:=Tryz.func391.trans (congrArg some Kl)
 f331:=Tryz.func392.trans (congrArg some Kl)
 f332:=Tryz.func393.trans (congrArg some Kl)
 f343:=Tryz.func401.trans (congrArg some Kl)
 t0:=Tryz.underlying0
 a0:=Tryz.isAgg0
 z0:=Tryz.sizeOf0
 v0:=Tryz.zeroValue0
 t3:=Tryz.underlying3
 a3:=Tryz.isAgg3
 z3:=Tryz.sizeOf3
 v3:=Tryz.zeroValue3
 t4:=Tryz.underlying4
 a4:=Tryz.isAgg4
 z4:=Tryz.sizeOf4
 v4:=Tryz.zeroValue4
 t5:=Tryz.underlying5
 a5:=Tryz.isAgg5
 z5:=Tryz.sizeOf5
 v5:=Tryz.zeroValue5
 t9:=Tryz.underlying9
 a9:=Tryz.isAgg9
 z9:=Tryz.sizeOf9
 v9:=Tryz.zeroValue9
 t28:=Tryz.underlying84
 a28:=Tryz.isAgg84
 z28:=Tryz.sizeOf84
 v28:=Tryz.zeroValue84
 t46:=Tryz.underlying223
 a46:=Tryz.isAgg223
 z46:=Tryz.sizeOf223
 v46:=Tryz.zeroValue223
 t51:=Tryz.underlying280
 a51:=Tryz.isAgg280
 z51:=Tryz.sizeOf280
 v51:=Tryz.zeroValue280
 t53:=Tryz.underlying225
 a53:=Tryz.isAgg225
 z53:=Tryz.sizeOf225
 v53:=Tryz.zeroValue225
 t131:=Tryz.underlying248
 a131:=Tryz.isAgg248
 z131:=Tryz.sizeOf248
 v131:=Tryz.zeroValue248
 t182:=Tryz.underlying305
 a182:=Tryz.isAgg305
 z182:=Tryz.sizeOf305
 v182:=Tryz.zeroValue305
 t183:=Tryz.underlying306
 a183:=Tryz.isAgg306
 z183:=Tryz.sizeOf306
 v183:=Tryz.zeroValue306
 t218:=Tryz.underlying321
 a218:=Tryz.isAgg321
 z218:=Tryz.sizeOf321
 v218:=Tryz.zeroValue321
 t222:=Tryz.underlying325
 a222:=Tryz.isAgg325
 z222:=Tryz.sizeOf325
 v222:=Tryz.zeroValue325
 t228:=Tryz.underlying333
 a228:=Tryz.isAgg333
 z228:=Tryz.sizeOf333
 v228:=Tryz.zeroValue333
 t229:=Tryz.underlying94
 a229:=Tryz.isAgg94
 z229:=Tryz.sizeOf94
 v229:=Tryz.zeroValue94 }
open Go.Sort Go.RowKit in
theorem Tryz.slices_Sort_int(blk off cap:Nat)(zs:List Int)(w:World)(hH:Holds (Value.int .i64) w blk off zs.toArray)(hblk:blk<w.heap.size)(hsz:zs.length<4611686018427387904):
  Calls Tryz.prog 334 #[.slice (some ⟨blk,off,none⟩) zs.length cap] w fun e w' =>
   e=.returned (.tuple #[])/\∃n os,w'=grow (putRow (Value.int .i64) (Sort.ahead w n) blk off (zs.mergeSort fun x y=>decide (x<=y)).toArray) os:=Any.slices_Sort_int Tryz.lays189 blk off cap zs w hH hblk hsz
open Go.RowKit Go.Sort in
theorem Tryz.slices_Sort_int_none(p:Option Addr)(cap:Nat)(w:World):
  Calls Tryz.prog 334 #[.slice p 0 cap] w fun e w'=>e=.returned (.tuple #[])/\w'=w:=Any.slices_Sort_int_none Tryz.lays189 p cap w
end Go.Proofs
namespace Go.Proofs.YtpifdbphmnifdaaGreatDoor
open Go
def srtI(l:List Int):List Int:=l.mergeSort fun x y=>decide (x<=y)
theorem Jsx:srtI []=[]:=by simp[srtI]
theorem Jie(l:List Int):(srtI l).length=l.length:=(List.mergeSort_perm l _).length_eq
open Go Go.RowKit
abbrev Fq:=Int×Int×Int×Int
def sndF(f:Fq):Bool:=decide (0<=f.2.1/\f.2.1<f.2.2.1/\f.2.2.1<=172800/\1<=f.2.2.2/\f.2.2.2<=86400)
variable {st t d:Int} {l:List Cl} {k:Nat} {x:Cl}
theorem Jc7{a b e:Int}:sndF (t,a,b,e)=true↔(0<=a/\a<b/\b<=172800/\1<=e/\e<=86400):=by unfold sndF;exact decide_eq_true_iff
theorem Je4{a b e:Int}(h:¬(0<=a/\a<b/\b<=172800/\1<=e/\e<=86400)):sndF (t,a,b,e)=false:=by unfold sndF;exact Pj h
def cntF(f:Fq):Nat:=((f.2.2.1 - f.2.1 - 1) / f.2.2.2+1).toNat
def nthF(f:Fq)(k:Nat):Int:=f.2.1+(k:Int)*f.2.2.2
def lstF(f:Fq):List Int:=(List.range (cntF f)).map (nthF f)
def stsF(f:Fq):List Int:=if sndF f then lstF f else[]
theorem Jhb{f:Fq}(h:sndF f=true):stsF f=lstF f:=by unfold stsF;rw[if_pos h]
theorem Jyl{f:Fq}(h:sndF f=false):stsF f=[]:=by unfold stsF;rw[if_neg Kx]
theorem Ji0{f:Fq}(h:sndF f=true)(k:Nat):k<cntF f↔nthF f k<f.2.2.1:=by
 obtain⟨t,a,b,e⟩:=f;obtain⟨h1,h2,h3,h4,h5⟩:=Jc7.1 h;unfold cntF nthF;show k<((b - a - 1) / e+1).toNat↔a+(k:Int)*e<b
 have q0:0<=(b - a - 1) / e:=Int.ediv_nonneg Ka Ka;have q1:(k:Int)<=(b - a - 1) / e↔(k:Int)*e<=b - a - 1:=Int.le_ediv_iff_mul_le Ka;generalize (b - a - 1) / e=q at q0 q1 |-;generalize (k:Int)*e=m at q1 |-;omega
theorem Jgk(f:Fq):nthF f 0=f.2.1:=by unfold nthF;simp
theorem Jsy(f:Fq)(k:Nat):nthF f (k+1)=nthF f k+f.2.2.2:=by
 unfold nthF;rw[Int.natCast_add,Int.add_mul,Int.natCast_one,Int.one_mul];omega
theorem Qc6{f:Fq}(h:sndF f=true){i k:Nat}(hik:i<=k):nthF f i<=nthF f k:=by
 obtain⟨t,a,b,e⟩:=f;obtain⟨h1,h2,h3,h4,h5⟩:=Jc7.1 h;unfold nthF;show a+(i:Int)*e<=a+(k:Int)*e
 have:=Int.mul_le_mul_of_nonneg_right (show(i:Int)<=(k:Int) by omega) (show 0<=e by omega);omega
theorem J9l{f:Fq}(h:sndF f=true)(k:Nat):f.2.1<=nthF f k:=by
 have:=Qc6 h (Nat.zero_le k);rw[Jgk] at this;exact this
theorem Jlz{f:Fq}(h:sndF f=true):0<cntF f:=by
 rw[Ji0 h,Jgk];obtain⟨t,a,b,e⟩:=f;exact(Jc7.1 h).2.1
theorem Jkl{f:Fq}(h:sndF f=true):cntF f<=172800:=by
 rcases Nat.lt_or_ge 172800 (cntF f) with h1 | h1
 ·exfalso
  have h2:=(Ji0 h 172800).1 h1;obtain⟨t,a,b,e⟩:=f;have h3:=Jc7.1 h;unfold nthF at h2;simp only at h2;omega
 ·exact h1
theorem Jhc(f:Fq):(lstF f).length=cntF f:=by unfold lstF;rw[Pr,List.length_range]
theorem Qc7(f:Fq):(stsF f).length<=172800:=by
 cases h:sndF f with
 | false=>rw[Jyl h];simp
 | true=>rw[Jhb h,Jhc];exact Jkl h
theorem Jym{f:Fq}(h:k<cntF f):(lstF f)[k]?=some (nthF f k):=by
 unfold lstF;rw[List.getElem?_map,List.getElem?_range h];rfl
theorem Jsz{f:Fq}(h:k<cntF f):(lstF f).take (k+1)=(lstF f).take k++[nthF f k]:=Jbx _ _ _ (Jym h)
theorem Jyn(f:Fq):(lstF f).take (cntF f)=lstF f:=List.take_of_length_le (by rw[Jhc];exact Nat.le_refl _)
theorem J9m{f:Fq}(k:Nat):(lstF f).take k <+: lstF f:=List.take_prefix _ _
def insF(t:Int)(l:List Fq):List Int:=(l.filter fun f=>decide (f.1=t)).flatMap stsF
theorem Jqs(t:Int)(l m:List Fq):insF t (l++m)=insF t l++insF t m:=by unfold insF;rw[List.filter_append,List.flatMap_append]
theorem Jyo{l:List Fq}{f:Fq}(h:l[k]?=some f)(ht:f.1=t):insF t (l.take (k+1))=insF t (l.take k)++stsF f:=by
 have e:insF t [f]=stsF f:=by
  unfold insF;simp[ht]
 rw[Jbx l k f h,Jqs,e]
theorem J7k{l:List Fq}{f:Fq}(h:l[k]?=some f)(ht:f.1≠t):insF t (l.take (k+1))=insF t (l.take k):=by
 rw[Jbx l k f h,Jqs];have:insF t [f]=[]:=by
  unfold insF;rw[List.filter_cons_of_neg (by rw[Pj ht];simp)];rfl
 rw[this,List.append_nil]
theorem Js0(t:Int):∀l:List Fq,(insF t l).length<=l.length*172800
 | []=>Nat.zero_le _
 | f::r=>by
  have ih:=Js0 t r;have h1:=Qc7 f;have e:insF t (f::r)=insF t [f]++insF t r:=Jqs t [f] r;rw[e,Pq,List.length_cons];have h2:(insF t [f]).length<=(stsF f).length:=by
   unfold insF;rw[List.filter_cons];split
   ·simp
   ·simp
  omega
def repF(t:Int)(l:List Fq):Bool:=l.any fun f=>decide (f.1=t)
theorem J9n{l:List Fq}{f:Fq}(h:l[k]?=some f)(ht:f.1=t):repF t l=true:=by
 unfold repF;rw[List.any_eq_true];exact⟨f,List.mem_iff_getElem?.2 ⟨k,h⟩,Pk ht⟩
theorem Qc8{l:List Fq}(h:∀(j:Nat) f,l[j]?=some f->f.1≠t):repF t l=false:=by
 unfold repF;rw[List.any_eq_false];intro f hf;obtain⟨j,hj⟩:=List.mem_iff_getElem?.1 hf;rw[decide_eq_true_iff];exact h j f hj
def dpF(l:List Cl):Int:=(l.head?.getD (0,0,0,false,false)).2.2.1
theorem Qc9(h:l[0]?=some x):dpF l=x.2.2.1:=by
 unfold dpF;rw[List.head?_eq_getElem?,h];rfl
def inT(d st t:Int):Bool:=decide (0<=t - d+st/\t - d+st<=172800)
theorem J9o :inT d st t=true↔(0<=t - d+st/\t - d+st<=172800):=by unfold inT;exact decide_eq_true_iff
def fitX(d st:Int)(x:Cl):Bool:=inT d st x.2.1&&inT d st x.2.2.1
theorem Js1(h:inT d st x.2.1=false):fitX d st x=false:=by unfold fitX;rw[h];rfl
theorem Js2(h:inT d st x.2.2.1=false):fitX d st x=false:=by unfold fitX;rw[h,Bool.and_false]
theorem Js3(h:inT d st x.2.1=true)(k:inT d st x.2.2.1=true):fitX d st x=true:=by unfold fitX;rw[h,k];rfl
def fitC(l:List Cl)(st:Int):Bool:=decide (0<=st/\st<=172800)&&l.all (fitX (dpF l) st)
theorem Jqt(h:¬(0<=st/\st<=172800)):fitC l st=false:=by unfold fitC;rw[Pj h];rfl
theorem Jl0(h:l[k]?=some x)(hx:fitX (dpF l) st x=false):fitC l st=false:=by
 unfold fitC;rw[show l.all (fitX (dpF l) st)=false from ?_,Bool.and_false];rw[List.all_eq_false];exact⟨x,List.mem_iff_getElem?.2 ⟨k,h⟩,by rw[hx];simp⟩
theorem Jl1(h:0<=st/\st<=172800)(hx:∀(j:Nat) x,l[j]?=some x->fitX (dpF l) st x=true):fitC l st=true:=by
 unfold fitC;rw[Pk h,Bool.true_and,List.all_eq_true];intro x hm;obtain⟨j,hj⟩:=List.mem_iff_getElem?.1 hm;exact hx j x hj
def runX(d st:Int)(x:Cl):Cl:=(x.1,x.2.1 - d+st,x.2.2.1 - d+st,x.2.2.2.1,x.2.2.2.2)
def runC(l:List Cl)(st:Int):List Cl:=l.map (runX (dpF l) st)
theorem J3x(h:l[k]?=some x):(l.take (k+1)).map (runX (dpF l) st)=(l.take k).map (runX (dpF l) st)++[runX (dpF l) st x]:=by
 rw[Jbx l k x h,List.map_append];rfl
def ansC(l:List Cl)(st:Int):List Cl:=if fitC l st then runC l st else[]
def errC(l:List Cl)(st:Int):Int:=if l.length=0 then 16 else if fitC l st then 0 else 10
theorem J7l(h:fitC l st=false):ansC l st=[]:=by unfold ansC;rw[if_neg Kx]
theorem J9p(h:fitC l st=true):ansC l st=runC l st:=by unfold ansC;rw[if_pos h]
theorem J9q(st:Int)(h:l.length=0):ansC l st=[]:=by
 obtain rfl:=List.length_eq_zero_iff.1 h;unfold ansC;split <;> rfl
theorem Js4(h:l.length=0):errC l st=16:=by unfold errC;rw[if_pos h]
theorem Jyp(h:l.length≠0)(hf:fitC l st=false):errC l st=10:=by unfold errC;rw[if_neg h,if_neg (by rw[hf];simp)]
theorem Jyq(h:l.length≠0)(hf:fitC l st=true):errC l st=0:=by unfold errC;rw[if_neg h,if_pos hf]
def ovlF(f g:Fq):Bool:=decide (f.2.1<g.2.2.1)&&decide (g.2.1<f.2.2.1)
theorem Qda{f g:Fq}(h:¬f.2.1<g.2.2.1):ovlF f g=false:=by unfold ovlF;rw[Pj h];rfl
theorem Qdb{f g:Fq}(h:¬g.2.1<f.2.2.1):ovlF f g=false:=by unfold ovlF;rw[Pj h,Bool.and_false]
theorem Jyr{f g:Fq}(h:f.2.1<g.2.2.1)(k:g.2.1<f.2.2.1):ovlF f g=true:=by unfold ovlF;rw[Pk h,Pk k];rfl
def metF(f g:Fq):Bool:=decide (f.1=g.1)&&ovlF f g
theorem Joj{f g:Fq}(h:f.1≠g.1):metF f g=false:=by unfold metF;rw[Pj h];rfl
theorem Jif{f g:Fq}(h:f.1=g.1):metF f g=ovlF f g:=by unfold metF;rw[Pk h,Bool.true_and]
def hitF(seen:List Fq)(f:Fq):Bool:=seen.any (metF f)
theorem J3y{l:List Fq}{f g:Fq}{j:Nat}(h:l[j]?=some g):hitF (l.take (j+1)) f=(hitF (l.take j) f || metF f g):=by
 unfold hitF;rw[Jbx l j g h,List.any_append];simp
def endF(f:Fq):Int:=nthF f (cntF f - 1)
theorem J7m{f:Fq}(h:sndF f=true):(lstF f)[(lstF f).length - 1]?=some (endF f):=by
 rw[Jhc];exact Jym (by have:=Jlz h;omega)
theorem Js5{f:Fq}(h:sndF f=true):(lstF f)[0]?=some f.2.1:=by
 rw[Jym (Jlz h),Jgk]
def allF(l:List Cl)(f:Fq):Bool:=fitC l f.2.1&&fitC l (endF f)
def clsF(ts:List (List Cl))(f:Fq):List Cl:=(ts[f.1.toNat]?).getD []
theorem J7n{ts:List (List Cl)}{f:Fq}{c:List Cl}{n:Nat}(hn:f.1=(n:Int))(h:ts[n]?=some c):clsF ts f=c:=by
 unfold clsF;rw[hn,Int.toNat_natCast,h];rfl
def badF(ts:List (List Cl))(seen:List Fq)(f:Fq):Int :=
 if f.1<0\/(ts.length:Int)<=f.1 then 9 else if sndF f=false\/allF (clsF ts f) f=false then 10 else if 256<(insF f.1 (seen++[f])).length then 17 else if hitF seen f then 8 else 0
section
variable {ts:List (List Cl)} {seen:List Fq} {f:Fq}
theorem Jig(h:f.1<0\/(ts.length:Int)<=f.1):badF ts seen f=9:=by unfold badF;rw[if_pos h]
theorem Jkm(h1:¬f.1<0)(h2:¬(ts.length:Int)<=f.1)(h:sndF f=false):badF ts seen f=10:=by unfold badF;rw[if_neg Ka,if_pos (.inl h)]
theorem Jok(h1:¬f.1<0)(h2:¬(ts.length:Int)<=f.1)(h:allF (clsF ts f) f=false):badF ts seen f=10:=by
 unfold badF;rw[if_neg Ka,if_pos (.inr h)]
theorem Jol(h1:¬f.1<0)(h2:¬(ts.length:Int)<=f.1)(h3:sndF f=true)(h4:allF (clsF ts f) f=true)(h:256<(insF f.1 (seen++[f])).length):badF ts seen f=17:=by
 unfold badF;rw[if_neg Ka,if_neg (by rw[h3,h4];simp),if_pos h]
theorem Js6(h1:¬f.1<0)(h2:¬(ts.length:Int)<=f.1)(h3:sndF f=true)(h4:allF (clsF ts f) f=true)(h5:¬256<(insF f.1 (seen++[f])).length)(h:hitF seen f=true):badF ts seen f=8:=by
 unfold badF;rw[if_neg Ka,if_neg (by rw[h3,h4];simp),if_neg h5,if_pos h]
theorem Jom(h1:¬f.1<0)(h2:¬(ts.length:Int)<=f.1)(h3:sndF f=true)(h4:allF (clsF ts f) f=true)(h5:¬256<(insF f.1 (seen++[f])).length)(h:hitF seen f=false):badF ts seen f=0:=by
 unfold badF;rw[if_neg Ka,if_neg (by rw[h3,h4];simp),if_neg h5,if_neg Kx]
theorem Jys(h:badF ts seen f=0):(0<=f.1/\f.1<(ts.length:Int))/\sndF f=true/\allF (clsF ts f) f=true/\(insF f.1 (seen++[f])).length<=256/\hitF seen f=false:=by
 unfold badF at h;split at h
 ·omega
 split at h
 ·omega
 next h2 =>
  split at h
  ·omega
  split at h
  ·omega
  ·next h3 h4 =>
   rw[not_or,Bool.not_eq_false,Bool.not_eq_false] at h2;exact⟨Ka,h2.1,h2.2,Ka,Bool.eq_false_iff.2 h4⟩
end
def chkF(ts:List (List Cl))(l:List Fq):Int×Int:=if 64<l.length then(0,5) else fbF (badF ts) (fun f=>f) [] 0 l
section
variable {ts:List (List Cl)} {l:List Fq} {q:Int×Int} {k:Nat} {f:Fq}
theorem Jon(h:64<l.length):chkF ts l=(0,5):=by unfold chkF;rw[if_pos h]
theorem Jkn(h:¬64<l.length):chkF ts l=fbF (badF ts) (fun f=>f) ((l.take 0).map fun f=>f) 0 (l.drop 0):=by unfold chkF;rw[if_neg h];rfl
theorem Jl2(l:List Fq):(l.map fun f=>f)=l:=List.map_id' l
theorem Js7(hr:q=fbF (badF ts) (fun f=>f) ((l.take k).map fun f=>f) k (l.drop k))(h:l[k]?=some f){e:Int}(hb:badF ts (l.take k) f=e)(he:e≠0):q=((k:Int),e) :=
 Jal hr h (by rw[Jl2];exact hb) he
theorem Js8(hr:q=fbF (badF ts) (fun f=>f) ((l.take k).map fun f=>f) k (l.drop k))(h:l[k]?=some f)(hb:badF ts (l.take k) f=0):q=fbF (badF ts) (fun f=>f) ((l.take (k+1)).map fun f=>f) (k+1) (l.drop (k+1)) :=
 Jcd hr h (by rw[Jl2];exact hb)
theorem Js9(hr:q=fbF (badF ts) (fun f=>f) ((l.take k).map fun f=>f) k (l.drop k))(h:l.length<=k):q=(0,0):=Jce hr h
end
theorem Jyt{κ α:Type}{bad:List κ->α->Int}{key:α->κ}:∀(l:List α) (seen:List κ) (k:Nat),(fbF bad key seen k l).2=0->∀(j:Nat) x,l[j]?=some x->bad (seen++(l.take j).map key) x=0
 | [],_,_,_,j,x,h=>Qv
 | y::r,seen,k,hz,j,x,h=>by
  unfold fbF at hz;by_cases hb:bad seen y=0
  ·rw[if_pos hb] at hz
   cases j with
   | zero =>
    simp at h;subst h;exact Zh
   | succ j =>
    rw[List.getElem?_cons_succ] at h;have:=Jyt r (seen++[key y]) (k+1) hz j x h;rw[List.append_assoc] at this;exact this
  ·rw[if_neg hb] at hz
   exact absurd hz hb
section
variable {ts:List (List Cl)} {l:List Fq}
theorem J3z(h:(chkF ts l).2=0):∀(j:Nat) f,l[j]?=some f->badF ts (l.take j) f=0:=by
 unfold chkF at h;split at h
 ·cases h
 ·intro j f hf
  have:=Jyt l [] 0 h j f hf;rw[List.nil_append,Jl2] at this;exact this
end
open Go.RowKit
def fe(x:Fq):List Value:=[.int .i64 x.1,.int .i64 x.2.1,.int .i64 x.2.2.1,.int .i64 x.2.2.2]
theorem fe_len(x:Fq):(fe x).length=4:=rfl
abbrev LstF:=@LstG Fq fe
variable {w:World} {t a b v:Int}
theorem four_at{A:Option Addr}{n c:Nat}{l:List Fq}(h:LstF w (.slice A n c) l){i:Nat}{t a b v:Int}(hs:l[i]?=some (t,a,b,v)):
  ∃k f,A=some ⟨k,f,none⟩/\k<w.heap.size/\w.cell? ⟨k,f+i*4,none⟩=some (.int .i64 t)/\w.cell? ⟨k,f+i*4+1,none⟩=some (.int .i64 a)/\w.cell? ⟨k,f+i*4+2,none⟩=some (.int .i64 b)/\w.cell? ⟨k,f+i*4+3,none⟩=some (.int .i64 v):=by
 obtain⟨A',c',hv,_,_,hx⟩:=h;cases hv;exact J7
abbrev boxF(t a b v:Int):Obj:=.cells #[.int .i64 t,.int .i64 a,.int .i64 b,.int .i64 v] 118 (0,0)
theorem Jbm{k:Nat}(h:w.heap[k]?=some (boxF t a b v)):
  w.cell? ⟨k,0,none⟩=some (.int .i64 t)/\w.cell? ⟨k,1,none⟩=some (.int .i64 a)/\w.cell? ⟨k,2,none⟩=some (.int .i64 b)/\w.cell? ⟨k,3,none⟩=some (.int .i64 v) :=
 ⟨Jk,Jj,Jn,Jm⟩
theorem Jd8{w7:World}(h:w.alloc (boxF t a b v)=w7):
  Po w w7/\w7.cell? ⟨w.heap.size,0,none⟩=some (.int .i64 t)/\w7.cell? ⟨w.heap.size,1,none⟩=some (.int .i64 a)/\w7.cell? ⟨w.heap.size,2,none⟩=some (.int .i64 b)/\w7.cell? ⟨w.heap.size,3,none⟩=some (.int .i64 v)/\w.heap.size<w7.heap.size/\w7.heap[w.heap.size]?=some (boxF t a b v):=by
 subst h;have c7:=heap_alloc_new w (boxF t a b v);obtain⟨h0,h1,h2,h3⟩:=Jbm c7;exact Zg
abbrev fqV(t a b v:Int):Value:=.agg #[.int .i64 t,.int .i64 a,.int .i64 b,.int .i64 v]
theorem Jl3(t a b v:Int)(w:World):Calls Tryz.prog 263 #[fqV t a b v] w fun e w'=>e=.returned (.bool (sndF (t,a,b,v)))/\Po w w':=by
 obtain⟨w7,hw7⟩:=Pi (w.alloc (boxF t a b v));obtain⟨b7,p0,p1,p2,p3,s7,c7⟩:=Jd8 hw7;have B7:=Pe b7;clear b7 c7 s7;by_cases n0:¬(0<=a)
 ·have h0:=n0
  clear n0;have g0:decide (0<=a)=false:=Pj h0;have R:=Pe (Je4 (t:=t) (a:=a) (b:=b) (e:=v) Ka);clear h0;exact Zc
 have h0:=Pu n0;clear n0;by_cases n1:¬(a<b)
 ·have h1:=n1
  clear n1;have g1:decide (a<b)=false:=Pj h1;have R:=Pe (Je4 (t:=t) (a:=a) (b:=b) (e:=v) Ka);clear h1;exact Zc
 have h1:=Pu n1;clear n1;by_cases n2:¬(b<=172800)
 ·have h2:=n2
  clear n2;have g2:decide (b<=172800)=false:=Pj h2;have R:=Pe (Je4 (t:=t) (a:=a) (b:=b) (e:=v) Ka);clear h2;exact Zc
 have h2:=Pu n2;clear n2;by_cases n3:¬(1<=v)
 ·have h3:=n3
  clear n3;have g3:decide (1<=v)=false:=Pj h3;have R:=Pe (Je4 (t:=t) (a:=a) (b:=b) (e:=v) Ka);clear h3;exact Zc
 have h3:=Pu n3;clear n3;by_cases n4:¬(v<=86400)
 ·have h4:=n4
  clear n4;have g4:decide (v<=86400)=false:=Pj h4;have R:=Pe (Je4 (t:=t) (a:=a) (b:=b) (e:=v) Ka);clear h4;exact Zc
 have h4:=Pu n4;clear n4;have R:=Pe ((Jc7 (t:=t) (a:=a) (b:=b) (e:=v)).2 ⟨h0,h1,h2,h3,h4⟩);exact Zc
theorem Jta(t a b v:Int)(w:World):Calls Tryz.prog 161 #[fqV t a b v] w fun e w'=>e=.returned (.bool (sndF (t,a,b,v)))/\Po w w':=by
 obtain⟨w7,hw7⟩:=Pi (w.alloc (boxF t a b v));obtain⟨b7,p0,p1,p2,p3,s7,c7⟩:=Jd8 hw7;have B7:=Pe b7;clear b7 c7 s7;by_cases n0:¬(0<=a)
 ·have h0:=n0
  clear n0;have g0:decide (0<=a)=false:=Pj h0;have R:=Pe (Je4 (t:=t) (a:=a) (b:=b) (e:=v) Ka);clear h0;exact Zb
 have h0:=Pu n0;clear n0;by_cases n1:¬(a<=172800)
 ·have h1:=n1
  clear n1;have g1:decide (a<=172800)=false:=Pj h1;have R:=Pe (Je4 (t:=t) (a:=a) (b:=b) (e:=v) Ka);clear h1;exact Zb
 have h1:=Pu n1;clear n1;by_cases n2:¬(0<=b)
 ·have h2:=n2
  clear n2;have g2:decide (0<=b)=false:=Pj h2;have R:=Pe (Je4 (t:=t) (a:=a) (b:=b) (e:=v) Ka);clear h2;exact Zb
 have h2:=Pu n2;clear n2;by_cases n3:¬(b<=172800)
 ·have h3:=n3
  clear n3;have g3:decide (b<=172800)=false:=Pj h3;have R:=Pe (Je4 (t:=t) (a:=a) (b:=b) (e:=v) Ka);clear h3;exact Zb
 have h3:=Pu n3;clear n3;by_cases n4:¬(a<b)
 ·have h4:=n4
  clear n4;have g4:decide (a<b)=false:=Pj h4;have R:=Pe (Je4 (t:=t) (a:=a) (b:=b) (e:=v) Ka);clear h4;exact Zb
 have h4:=Pu n4;clear n4;by_cases n5:¬(1<=v)
 ·have h5:=n5
  clear n5;have g5:decide (1<=v)=false:=Pj h5;have R:=Pe (Je4 (t:=t) (a:=a) (b:=b) (e:=v) Ka);clear h5;exact Zb
 have h5:=Pu n5;clear n5;by_cases n6:¬(v<=86400)
 ·have h6:=n6
  clear n6;have g6:decide (v<=86400)=false:=Pj h6;have R:=Pe (Je4 (t:=t) (a:=a) (b:=b) (e:=v) Ka);clear h6;exact Zb
 have h6:=Pu n6;clear n6;have R:=Pe ((Jc7 (t:=t) (a:=a) (b:=b) (e:=v)).2 ⟨h0,h4,h3,h5,h6⟩);exact Zb
theorem J30(t a b v t' a' b' v':Int)(w:World):Calls Tryz.prog 269 #[fqV t a b v,fqV t' a' b' v'] w fun e w'=>e=.returned (.bool (ovlF (t,a,b,v) (t',a',b',v')))/\Po w w':=by
 obtain⟨w7,hw7,-,ra,rb,b7⟩:=Jd0 w (boxF t a b v) (boxF t' a' b' v');obtain⟨p0,p1,p2,p3⟩:=Jbm ra;obtain⟨q0,q1,q2,q3⟩:=Jbm rb;have B7:=Pe b7;clear b7 ra rb;by_cases n0:¬a<b'
 ·have h0:=n0
  clear n0;have g0:decide (a<b')=false:=Pj h0;have R:=Pe (Qda (f:=(t,a,b,v)) (g:=(t',a',b',v')) h0);clear h0;exact Zm
 have h0:=Pu n0;clear n0;by_cases n1:¬a'<b
 ·have h1:=n1
  clear n1;have g1:decide (a'<b)=false:=Pj h1;have R:=Pe (Qdb (f:=(t,a,b,v)) (g:=(t',a',b',v')) h1);clear h1;exact Zm
 have h1:=Pu n1;clear n1;have R:=Pe (Jyr (f:=(t,a,b,v)) (g:=(t',a',b',v')) h0 h1);exact Zm
theorem J31(h:sndF (t,a,b,v)=true):(b - a - 1).tdiv v+1=((cntF (t,a,b,v):Nat):Int):=by
 obtain⟨h1,h2,h3,h4,h5⟩:=Jc7.1 h;have q0:0<=(b - a - 1) / v:=Int.ediv_nonneg Ka Ka;unfold cntF;rw[Int.tdiv_eq_ediv_of_nonneg Ka];simp only;omega
theorem J32(t a b v:Int)(h:sndF (t,a,b,v)=true)(w:World):Calls Tryz.prog 163 #[fqV t a b v] w fun e w'=>e=.returned (.int .i64 ((cntF (t,a,b,v):Nat):Int))/\Po w w':=by
 obtain⟨w7,hw7⟩:=Pi (w.alloc (boxF t a b v));obtain⟨b7,p0,p1,p2,p3,s7,c7⟩:=Jd8 hw7;have B7:=Pe b7;clear b7 c7 s7;obtain⟨h1,h2,h3,h4,h5⟩:=Jc7.1 h;have R:=Pe (J31 h);have L:=Pe (Jkl h);clear h;have q0:0<=(b - a - 1).tdiv v:=by
  rw[Int.tdiv_eq_ediv_of_nonneg Ka];exact Int.ediv_nonneg Ka Ka
 have q1:(b - a - 1).tdiv v<=172800:=by have:=R.out;have:=L.out;omega
 have e0:v≠0:=Ka;go_enter Tryz.func163,Tryz.ntmps163;go_wp2_with fail;go_ret;exact⟨Jad (by first | exact R.out | (rw[<-R.out];simp)),B7.out⟩
end Go.Proofs.YtpifdbphmnifdaaGreatDoor
