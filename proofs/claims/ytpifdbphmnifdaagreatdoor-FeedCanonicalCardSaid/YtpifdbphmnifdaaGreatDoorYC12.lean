/-
  Facts. Condition: each theorem's own.
-/
import Derived.Test.YtpifdbphmnifdaaGreatDoorYC11
set_option maxRecDepth 100000
set_option maxHeartbeats 8000000
section
variable {p:Prop}
theorem Wf (h:p:=by go_wp2_with fail;go_ret;exact⟨Jab HV.out.symm,rfl⟩):p:=h
theorem Wg (h:p:=by simp at h2;omega):p:=h
end
open Go.Proofs.Tryz
namespace Go.Proofs.YtpifdbphmnifdaaGreatDoor
namespace S2
def Jqv (q:Nat):Nat:=if q % 4=0 then 1 else 0
def cumN:Nat→Nat
 | 0=>0 | 1=>31 | 2=>59 | 3=>90 | 4=>120 | 5=>151 | 6=>181 | 7=>212 | 8=>243 | 9=>273 | 10=>304 | _=>334
def monN (q r:Nat):Nat:=if r=1 then 28+Jqv q else if r=3∨r=5∨r=8∨r=10 then 30 else 31
def befN (q r:Nat):Nat:=q*365+(q+3) / 4+cumN r+(if 2≤r then Jqv q else 0)
theorem Jmd (q r:Nat) (h:r+1<12):befN q (r+1)=befN q r+monN q r:=by
 unfold befN monN Jqv;match r,h with
 | 0,_ | 1,_ | 2,_ | 3,_ | 4,_ | 5,_ | 6,_ | 7,_ | 8,_ | 9,_ | 10,_=>simp [cumN];try omega
theorem J4c (q:Nat):befN (q+1) 0=befN q 11+monN q 11:=by
 unfold befN monN Jqv;simp [cumN];by_cases h:q % 4=0
 ·rw [if_pos h];omega
 ·rw [if_neg h];omega
theorem Jef (q r:Nat):28≤monN q r∧monN q r≤31:=by
 unfold monN Jqv;repeat' split
 all_goals omega
def bef (i:Nat):Nat:=befN (i / 12) (i % 12)
def mon (i:Nat):Nat:=monN (i / 12) (i % 12)
theorem bef_succ (i:Nat):bef (i+1)=bef i+mon i:=by
 unfold bef mon;by_cases h:i % 12=11
 ·rw [show (i+1) / 12=i / 12+1 by omega,show (i+1) % 12=0 by omega,h,J4c]
 ·rw [show (i+1) / 12=i / 12 by omega,show (i+1) % 12=i % 12+1 by omega,Jmd _ _ Kd]
theorem Qdp (i:Nat):bef i<bef (i+1):=by
 have:=bef_succ i;have:=(Jef (i / 12) (i % 12)).1;unfold mon at *;omega
theorem bef_le {i j:Nat} (h:i≤j):bef i≤bef j:=by
 induction j with
 | zero=>rw [show i=0 by omega];exact Nat.le_refl _
 | succ j ih =>
  by_cases hi:i≤j
  ·exact Nat.le_trans (ih hi) (Nat.le_of_lt (Qdp j))
  ·rw [show i=j+1 by omega];exact Nat.le_refl _
theorem bef_at (q r:Nat) (h:r<12):bef (12*q+r)=befN q r:=by
 unfold bef;rw [show (12*q+r) / 12=q by omega,show (12*q+r) % 12=r by omega]
theorem Jtq:bef 0=0:=Kl
theorem bef_end:bef 1200=36525:=Kl
theorem Qai (q:Nat):bef (12*q)=q*365+(q+3) / 4:=by
 have:=bef_at q 0 Kl;rw [Nat.add_zero] at this;rw [this];simp [befN,cumN]
def Jjc (i d:Nat):Prop:=bef i≤d∧d<bef (i+1)
theorem Jgj {i d:Nat} (h:Jjc i d) (j:Nat):bef j≤d↔j≤i:=by
 constructor
 ·intro hj
  by_cases hji:j≤i
  ·exact hji
  ·have:=bef_le (show i+1≤j by omega)
   have:=h.2;omega
 ·intro hj
  exact Nat.le_trans (bef_le hj) h.1
theorem Jzx {i d:Nat} (h:Jjc i d) (hi:i<1200):d≤36524:=by
 have:=bef_le (show i+1≤1200 by omega);have:=h.2;rw [bef_end] at *;omega
theorem Jk3 {i d:Nat} (h:Jjc i d):d - bef i<mon i:=by
 have:=bef_succ i;obtain⟨h1,h2⟩:=h;omega
theorem Jzy {i d:Nat} (h:Jjc i d) (y:Nat):((y+1)*365+(y+1+3) / 4≤d)↔y<i / 12:=by
 rw [←Qai,Jgj h];omega
theorem J4d {i d:Nat} (h:Jjc i d) (k:Nat) (hk:k≤i % 12):(monN (i / 12) k≤d - bef (12*(i / 12)+k))↔k<i % 12:=by
 have e:=bef_succ (12*(i / 12)+k);have m:mon (12*(i / 12)+k)=monN (i / 12) k:=by
  unfold mon;rw [show (12*(i / 12)+k) / 12=i / 12 by omega,show (12*(i / 12)+k) % 12=k by omega]
 have b:=(Jgj h (12*(i / 12)+k+1));have b0:=(Jgj h (12*(i / 12)+k)).2 Kd;rw [e,m] at b;constructor
 ·intro hx
  have:=b.1 Kd;omega
 ·intro hx
  have:=b.2 Kd;omega
open Go
def okP (p c:UInt8):Bool:=if p=48 then dig c else c==p
def fits:List UInt8→List UInt8→Bool
 | [],[]=>true
 | p::ps,c::cs=>okP p c&&fits ps cs
 | _,_=>false
def dayP:List UInt8:=[48,48,48,48,45,48,48,45,48,48]
theorem Jov (c:UInt8):okP 48 c=dig c:=by unfold okP;rw [if_pos rfl]
theorem Jow (p c:UInt8) (h:p≠48):okP p c=(c==p):=by unfold okP;rw [if_neg h]
theorem Jtr:∀(p l:List UInt8),fits p l=true→l.length=p.length
 | [],[],_=>rfl
 | p::ps,c::cs,h=>by
  have:=Jtr ps cs (by simp only [fits,Bool.and_eq_true] at h;exact h.2);simp [this]
 | [],_::_,h=>Qf
 | _::_,[],h=>Qf
theorem fits_iff:∀(p l:List UInt8),fits p l=true↔l.length=p.length∧∀(k:Nat) a c,p[k]?=some a→l[k]?=some c→okP a c=true
 | [],[]=>by simp [fits]
 | p::ps,c::cs=>by
  have ih:=fits_iff ps cs;simp only [fits,Bool.and_eq_true,ih,List.length_cons];constructor
  ·rintro⟨h1,h2,h3⟩
   refine⟨Kd,fun k a b ha hb=>?_⟩;cases k with
   | zero=>cases ha;cases hb;exact h1
   | succ k=>exact h3 k a b (by simpa using ha) Zf
  ·rintro⟨h1,h2⟩
   exact⟨h2 0 p c rfl rfl,Kd,fun k a b ha hb=>h2 (k+1) a b (by simpa using ha) Zf⟩
 | [],c::cs=>by simp [fits]
 | p::ps,[]=>by simp [fits]
theorem Jvi (p l:List UInt8) (h:l.length≠p.length):fits p l=false:=by
 cases hf:fits p l with
 | false=>rfl
 | true=>exact absurd (Jtr p l hf) h
def Jd4 (y m d:Int):Prop:=2000≤y∧y≤2099∧1≤m∧m≤12∧1≤d∧d≤monN (y - 2000).toNat (m - 1).toNat
instance (y m d:Int):Decidable (Jd4 y m d):=by unfold Jd4;infer_instance
def dayOf (y m d:Int):Int:=(befN (y - 2000).toNat (m - 1).toNat:Int)+d - 1
theorem Qaj (i n:Nat) (hi:i<1200) (h:Jjc i n):Jd4 (2000+i / 12) (1+i % 12) ((n:Int) - bef i+1)∧dayOf (2000+i / 12) (1+i % 12) ((n:Int) - bef i+1)=n:=by
 have hl:=Jk3 h;have h1:=h.1;have e1:((2000+(i:Int) / 12) - 2000).toNat=i / 12:=Kd;have e2:((1+(i:Int) % 12) - 1).toNat=i % 12:=Kd;unfold Jd4 dayOf;rw [e1,e2];unfold mon at hl;unfold bef at *;omega
def val4 (l:List UInt8):Nat:=valN (l.take 4)
def dayR (l:List UInt8):Int×Int :=
 if fits dayP l=true then
  if Jd4 (val4 l) (Jbt l 5) (Jbt l 8) then (dayOf (val4 l) (Jbt l 5) (Jbt l 8),0) else (0,11)
 else (0,3)
theorem Jts (l:List UInt8) (hf:fits dayP l=true) (hp:Jd4 (val4 l) (Jbt l 5) (Jbt l 8)):dayR l=(dayOf (val4 l) (Jbt l 5) (Jbt l 8),0):=by
 unfold dayR;rw [if_pos hf,if_pos hp]
theorem Jzz (l:List UInt8) (hf:fits dayP l=true) (hp:¬Jd4 (val4 l) (Jbt l 5) (Jbt l 8)):dayR l=(0,11):=by
 unfold dayR;rw [if_pos hf,if_neg hp]
theorem Jqw (l:List UInt8) (hf:fits dayP l=false):dayR l=(0,3):=by
 unfold dayR;rw [hf];rfl
def four (y:Int):List UInt8:=two (y / 100)++two (y % 100)
def dateText (y m d:Int):List UInt8:=four y++[45]++two m++[45]++two d
def dText (i n:Nat):List UInt8:=dateText (2000+i / 12) (1+i % 12) ((n:Int) - bef i+1)
theorem Jgk (x:Int) (h:x<100):∃a b,two x=[a,b]∧dig a=true∧dig b=true:=⟨_,_,rfl,Jda _ Kd,Jda _ Kd⟩
theorem Jz0 (y m d:Int) (y1:y<10000) (m1:m<100) (d1:d<100):fits dayP (dateText y m d)=true:=by
 obtain⟨a0,a1,ea,ha,hb⟩:=Jgk (y / 100) Kd;obtain⟨a2,a3,eb,hc,hd⟩:=Jgk (y % 100) Kd;obtain⟨a5,a6,ec,he,hf⟩:=Jgk m m1;obtain⟨a8,a9,ed,hg,hh⟩:=Jgk d d1;unfold dateText four dayP;rw [ea,eb,ec,ed];simp [fits,okP,ha,hb,hc,hd,he,hf,hg,hh]
theorem J4e (y:Int) (h0:0≤y) (h1:y<10000):valN (four y)=y.toNat:=by
 unfold four two valN;simp only [List.foldl_cons,List.foldl_nil,List.cons_append,List.nil_append];rw [ofNat_toNat _ Kd,ofNat_toNat _ Kd,ofNat_toNat _ Kd,ofNat_toNat _ Kd];omega
theorem Jz1 (y m d:Int) (y0:0≤y) (y1:y<10000) (m1:m<100) (d1:d<100):val4 (dateText y m d)=y.toNat∧Jbt (dateText y m d) 5=m.toNat∧Jbt (dateText y m d) 8=d.toNat :=
 ⟨J4e y y0 y1,Jdq m m1,Jdq d d1⟩
theorem Jvj (y m d:Int) (h:Jd4 y m d):dayR (dateText y m d)=(dayOf y m d,0):=by
 have hh:=h;obtain⟨h1,h2,h3,h4,h5,h6⟩:=h;have hm:=(Jef (y - 2000).toNat (m - 1).toNat).2;obtain⟨e1,e2,e3⟩:=Jz1 y m d Kd Kd Kd Kd;have e:((val4 (dateText y m d):Nat):Int)=y∧((Jbt (dateText y m d) 5:Nat):Int)=m∧((Jbt (dateText y m d) 8:Nat):Int)=d:=Kd;rw [Jts _ (Jz0 y m d Kd Kd Kd) (by rw [e.1,e.2.1,e.2.2];exact hh),e.1,e.2.1,e.2.2]
theorem Jox (i n:Nat) (hi:i<1200) (h:Jjc i n):dayR (dText i n)=((n:Int),0):=by
 obtain⟨h1,h2⟩:=Qaj i n hi h;unfold dText;rw [Jvj _ _ _ h1,h2]
open Go.RowKit
def lens:List Int:=[31,28,31,30,31,30,31,31,30,31,30,31]
def Good (w:World):Prop:=Lib.TabIs prog w "transit/date.monthLengths" .i64 lens∧Lib.TabIs prog w "internal/strconv.uint64pow10" .u64 Lib.pow10Tab
theorem gLens:prog.globalNamed "transit/date.monthLengths"=some 5:=Kk
theorem gPow:prog.globalNamed "internal/strconv.uint64pow10"=some 9:=Kk
theorem var_size {w:World} {n:String} {g:Nat} {cs:Array Value} (hg:prog.globalNamed n=some g) (h:w.var? prog n=some cs):g<w.heap.size:=by
 unfold World.var? at h;simp only [hg,Option.bind_some] at h;by_cases hs:g<w.heap.size
 ·exact hs
 ·rw [Array.getElem?_eq_none Kd] at h
  cases h
theorem Good.below {w w':World} (h:Good w) (b:Pn w w'):Good w' :=
 ⟨var?_below b gLens (var_size gLens h.1) h.1,var?_below b gPow (var_size gPow h.2) h.2⟩
theorem Good.month {w:World} (h:Good w) (r:Nat) (hr:r<12):w.cell? ⟨5,r,none⟩=some (.int .i64 (lens.getD r 0)):=h.1.cell gLens r hr
theorem Jvk (n:Int) (h0:0≤n) (h1:n≤36524) (w:World) :
  Pb 258 #[.int .i64 n] w (.bool true):=by
 go_enter func258,ntmps258;go_wp2;exact Yy
theorem Jfe (y:Int) (h0:2000≤y) (h1:y≤2099) (w:World) :
  Pb 369 #[.int .i64 y] w (.bool true):=by
 go_enter func369,ntmps369;go_wp2;exact Yy
theorem Joy (y:Int) (h:y<2000∨2099<y) (w:World) :
  Pb 369 #[.int .i64 y] w (.bool false):=by
 rcases h with h | h
 ·go_enter func369,ntmps369
  go_wp2
  exact Yy
 ·have h0:2000≤y:=Kd
  have hd:decide (y≤2099)=false:=Ke;go_enter func369,ntmps369;go_wp2;exact Yy
def Joz (y:Int):Bool:=decide (2000≤y∧y≤2099∧y % 4=0)
theorem J4f (y:Int) (h0:2000≤y) (h1:y≤2099):(y % 4==0)=Joz y:=by
 unfold Joz;rw [Bool.eq_iff_iff,beq_iff_eq,decide_eq_true_eq];omega
theorem Jz2 (y:Int) (h:y<2000∨2099<y):Joz y=false:=by
 unfold Joz;exact Q4
theorem J4g (y:Int) (w:World) :
  Pb 362 #[.int .i64 y] w (.bool (Joz y)):=by
 by_cases h:2000≤y∧y≤2099
 ·obtain⟨h0,h1⟩:=h
  have hb:=Pe (J4f y h0 h1);go_enter func362,ntmps362;go_wp2_with (go_at_call 369;refine Pf (Jfe _ h0 h1 _) ?_);go_ret;exact⟨Jab hb.out,rfl⟩
 ·have h:y<2000∨2099<y:=Kd
  rw [Jz2 y h];go_enter func362,ntmps362;go_wp2_with (go_at_call 369;refine Pf (Joy _ h _) ?_);exact Yy
theorem Jz3 (y:Int) (b:Bool) (h:Joz y=b) (w:World) :
  Pb 362 #[.int .i64 y] w (.bool b):=by
 rw [←h];exact J4g y w
theorem Qak (y:Int) (q:Nat) (hy:y=2000+q) (hq:q<100):Joz y=decide (q % 4=0):=by
 unfold Joz;rw [Bool.eq_iff_iff,decide_eq_true_eq,decide_eq_true_eq];omega
theorem Jtt (q r:Nat) (hr:r<12) (h:¬(r=1∧q % 4=0)):lens.getD r 0=(monN q r:Int):=by
 unfold monN Jqv;match r,hr with
 | 0,_ | 2,_ | 3,_ | 4,_ | 5,_ | 6,_ | 7,_ | 8,_ | 9,_ | 10,_ | 11,_=>rfl
 | 1,_=>rw [if_pos rfl,if_neg (fun hq=>h ⟨rfl,hq⟩)];rfl
theorem Qal (q:Nat) (h:q % 4=0):monN q 1=29:=by
 unfold monN Jqv;rw [if_pos rfl,if_pos h]
theorem Jcs (y m:Int) (q r:Nat) (hy:y=2000+q) (hq:q<100) (hm:m=1+r) (hr:r<12) (w:World) (hg:Good w) :
  Pb 342 #[.int .i64 y,.int .i64 m] w (.int .i64 (monN q r)):=by
 have hc:=hg.month r hr;have hl:=Qak y q hy hq;clear hy;subst hm;by_cases h2:r=1
 ·subst h2
  by_cases h4:q % 4=0
  ·rw [show decide (q % 4=0)=true by simpa using h4] at hl
   have e:=Pe (Qal q h4);rw [show lens.getD 1 0=28 from rfl] at hc;go_enter func342,ntmps342;go_wp2_with (go_at_call 362;refine Pf (Jz3 _ _ hl _) ?_);go_ret;exact⟨by rw [e.out];rfl,rfl⟩
  ·rw [show decide (q % 4=0)=false by simpa using h4] at hl
   have e:=Pe (Jtt q 1 hr Kd);rw [e.out] at hc;go_enter func342,ntmps342;go_wp2_with (go_at_call 362;refine Pf (Jz3 _ _ hl _) ?_);exact Yy
 ·have e:=Pe (Jtt q r hr Kd)
  rw [e.out] at hc;have hn:(1+(r:Int)==2)=false:=Vs;clear hl;go_enter func342,ntmps342;exact Ki
theorem Jme (y m:Int) (q r:Nat) (hy:y=2000+q) (hq:q<100) (hm:m=1+r) (hr:r<12) (w:World) (hg:Good w) :
  Pb 351 #[.int .i64 y,.int .i64 m] w (.tuple #[.int .i64 (monN q r),.bool true]):=by
 have h1:¬m<1:=Kd;have h2:¬12<m:=Kd;have y0:2000≤y:=Kd;have y1:y≤2099:=Kd;have HY:=Pe hy;have HM:=Pe hm;clear hy hm;go_enter func351,ntmps351;go_wp2_with (first | (go_at_call 369;refine Pf (Jfe y y0 y1 _) ?_) | (go_at_call 342;refine Pf (Jcs y m q r HY.out hq HM.out hr _ hg) ?_));exact Y2
theorem Qam (y m:Int) (h:y<2000∨2099<y∨m<1∨12<m) (w:World) :
  Pb 351 #[.int .i64 y,.int .i64 m] w (.tuple #[.int .i64 0,.bool false]):=by
 by_cases hy:y<2000∨2099<y
 ·go_enter func351,ntmps351
  go_wp2_with (go_at_call 369;refine Pf (Joy _ hy _) ?_)
  exact Y2
 ·by_cases hm:m<1
  ·go_enter func351,ntmps351
   go_wp2_with (go_at_call 369;refine Pf (Jfe _ Kd Kd _) ?_)
   exact Y2
  ·have hm2:12<m:=Kd
   go_enter func351,ntmps351;go_wp2_with (go_at_call 369;refine Pf (Jfe _ Kd Kd _) ?_);exact Y2
theorem Jc7 (y:Int) (q:Nat) (hy:y=2000+q) (hq:q≤100) (w:World) :
  Pb 341 #[.int .i64 y] w (.int .i64 (befN q 0)):=by
 have h0:0≤y - 2000:=Kd;have h1:y - 2000≤100:=Kd;have e:(y - 2000)*365+(y - 2000+3) / 4=(befN q 0:Int):=by
  have e0:befN q 0=q*365+(q+3) / 4:=by simp [befN,cumN]
  omega
 have E:=Pe e;clear e hy;go_enter func341,ntmps341;go_wp2_with fail;go_ret;exact⟨Jad E.out,rfl⟩
theorem Jmf (y m d:Int) (hp:Jd4 y m d) (w:World) (hg:Good w) :
  Pb 318 #[.int .i64 y,.int .i64 m,.int .i64 d] w (.tuple #[.int .i64 (dayOf y m d),.bool true]):=by
 obtain⟨h1,h2,h3,h4,h5,h6⟩:=hp;obtain⟨q,hq,rfl⟩:∃q:Nat,q<100∧y=2000+q:=⟨(y - 2000).toNat,Kd,Kd⟩;obtain⟨r,hr,rfl⟩:∃r:Nat,r<12∧m=1+r:=⟨(m - 1).toNat,Kd,Kd⟩;rw [show (2000+(q:Int) - 2000).toNat=q by omega,show (1+(r:Int) - 1).toNat=r by omega] at h6;have hb:∀k,k≤r→befN q k≤40000:=by
  intro k hk;have:=bef_le (show 12*q+k≤1200 by omega);rw [bef_at q k Kd,bef_end] at this;omega
 have hd:dayOf (2000+(q:Int)) (1+(r:Int)) d=(befN q r:Int)+d - 1:=by
  unfold dayOf;rw [show (2000+(q:Int) - 2000).toNat=q by omega,show (1+(r:Int) - 1).toNat=r by omega]
 have hd31:d≤31:=by have:=(Jef q r).2;omega
 have HD:=Pe hd;have HB:=Pe hb;have t1:¬d<1:=Kd;have t2:¬(monN q r:Int)<d:=Kd;clear hd hb h1 h2 h3 h4 h6;go_enter func318,ntmps318;go_wp2_with (first | (go_at_call 351;refine Pf (Jme _ _ q r rfl hq rfl hr _ hg) ?_) | (go_at_call 341;refine Pf (Jc7 _ q rfl Kd _) ?_));go_loop [10,11] (fun n i=>∃k:Nat,k≤r∧n=.int .i64 (befN q k)∧i=.int .i64 (1+k)) (fun _ i=>12 - (intOf i).toNat)
 case atStart=>exact⟨0,Kd,rfl,rfl⟩
 case round =>
  obtain⟨k,hk,rfl,rfl⟩:=hrel;have hbk:=HB.out k hk;by_cases hlt:k<r
  ·have hn:=Pe (Jmd q k Kd)
   have hr31:=(Jef q k).2;go_wp2_with (go_at_call 342;refine Pf (Jcs _ _ q k rfl hq rfl Kd _ hg) ?_);go_round
   case rel=>exact⟨k+1,Kd,by rw [hn.out];go_num,Kg⟩
   case measure=>exact Qz
  ·obtain rfl:k=r:=Kd
   go_wp2_with fail;go_ret2;exact⟨J2g HD.out.symm,rfl⟩
theorem Jo0 (y m d:Int) (hp:¬Jd4 y m d) (w:World) (hg:Good w) :
  Pb 318 #[.int .i64 y,.int .i64 m,.int .i64 d] w (.tuple #[.int .i64 0,.bool false]):=by
 by_cases hym:y<2000∨2099<y∨m<1∨12<m
 ·clear hp
  go_enter func318,ntmps318;go_wp2_with (go_at_call 351;refine Pf (Qam _ _ hym _) ?_);exact Y2
 ·obtain⟨q,hq,rfl⟩:∃q:Nat,q<100∧y=2000+q:=⟨(y - 2000).toNat,Kd,Kd⟩
  obtain⟨r,hr,rfl⟩:∃r:Nat,r<12∧m=1+r:=⟨(m - 1).toNat,Kd,Kd⟩;unfold Jd4 at hp;rw [show (2000+(q:Int) - 2000).toNat=q by omega,show (1+(r:Int) - 1).toNat=r by omega] at hp;have hd:d<1∨¬d<1∧(monN q r:Int)<d:=Kd;clear hp hym;rcases hd with hd | ⟨hd,hd2⟩
  ·go_enter func318,ntmps318
   go_wp2_with (go_at_call 351;refine Pf (Jme _ _ q r rfl hq rfl hr _ hg) ?_)
   exact Y2
  ·go_enter func318,ntmps318
   go_wp2_with (go_at_call 351;refine Pf (Jme _ _ q r rfl hq rfl hr _ hg) ?_)
   exact Y2
theorem Jz4 (i n:Nat) (hi:i<1200) (h:Jjc i n) (w:World) (hg:Good w) :
  Pb 296 #[.int .i64 n] w (.tuple #[.int .i64 (2000+i / 12),.int .i64 (1+i % 12),.int .i64 ((n:Int) - bef i+1),.bool true]):=by
 have hn:=Jzx h hi;have HI:=Pe h;have HY:=Pe (fun y=>Jzy h y);have HM:=Pe (fun k hk=>J4d h k hk);have HB:=Pe (fun j=>Jgj h j);have n0:(0:Int)≤n:=Kd;have n1:(n:Int)≤36524:=Kd;clear h hn;go_enter func296,ntmps296;go_wp2_with (go_at_call 258;refine Pf (Jvk _ n0 n1 _) ?_);go_loop [6] (fun y=>∃q:Nat,q≤i / 12∧y=.int .i64 (2000+q)) (fun y=>2100 - (intOf y).toNat)
 case atStart=>exact⟨0,Kd,rfl⟩
 case round =>
  obtain⟨q,hq,rfl⟩:=hrel;have hs:=HY.out q;have e0:befN (q+1) 0=(q+1)*365+(q+1+3) / 4:=by simp [befN,cumN]
  by_cases hlt:q<i / 12
  ·have ht:(befN (q+1) 0:Int)≤n:=Kd
   clear hs e0;go_wp2_with (go_at_call 341;refine Pf (Jc7 _ (q+1) Kd Kd _) ?_);go_round
   case rel=>exact⟨q+1,Kd,Kg⟩
   case measure=>exact Qz
  ·have ht:¬(befN (q+1) 0:Int)≤n:=Kd
   clear hs e0;obtain rfl:q=i / 12:=Kd;have hb0:=bef_at (i / 12) 0 Kl;have hb1:=(HB.out (12*(i / 12)+0)).2 Kd;rw [hb0] at hb1;clear hb0;go_wp2_with (first | (go_at_call 341;refine Pf (Jc7 _ (i / 12+1) Kd Kd _) ?_) | (go_at_call 341;refine Pf (Jc7 _ (i / 12) Kd Kd _) ?_));clear ht hlt;go_loop [7,8] (fun l m=>∃k:Nat,k≤i % 12∧l=.int .i64 ((n:Int) - befN (i / 12) k)∧m=.int .i64 (1+k)) (fun _ m=>20 - (intOf m).toNat);case atStart=>exact⟨0,Kd,rfl,rfl⟩
   case round =>
    obtain⟨k,hk,rfl,rfl⟩:=hrel;have hs:=HM.out k hk;have hb:=bef_at (i / 12) k Kd;have hb2:=(HB.out (12*(i / 12)+k)).2 Kd;rw [hb] at hs hb2;by_cases hlt:k<i % 12
    ·have ht:(monN (i / 12) k:Int)≤(n:Int) - befN (i / 12) k:=Kd
     have hx:=Pe (Jmd (i / 12) k Kd);have hr31:=(Jef (i / 12) k).2;clear hs hb;go_wp2_with (go_at_call 342;refine Pf (Jcs _ _ (i / 12) k Kd Kd rfl Kd _ hg) ?_);go_round
     case rel=>exact⟨k+1,Kd,by rw [hx.out];go_num,Kg⟩
     case measure=>exact Qz
    ·have ht:¬(monN (i / 12) k:Int)≤(n:Int) - befN (i / 12) k:=Kd
     obtain rfl:k=i % 12:=Kd;have hE:=Pe (show bef i=befN (i / 12) (i % 12) from rfl);clear hs hb;go_wp2_with (go_at_call 342;refine Pf (Jcs _ _ (i / 12) (i % 12) Kd Kd rfl Kd _ hg) ?_);refine bodyPost_ret (Jhs rfl _ _ _) rfl ?_;exact⟨J8g Kd Kd (by rw [hE.out]),rfl⟩
theorem J4h (y:Int):(four y).length=4:=rfl
theorem Jz5 (q:Nat) (hq:q<100):Lib.itoa (2000+(q:Int))=four (2000+(q:Int)):=by
 have e:(2000+(q:Int)).toNat=2000+q:=Kd;unfold Lib.itoa four two;rw [if_neg Kd,e,Lib.decDigits,dif_neg Kd,Lib.decDigits,dif_neg Kd,Lib.decDigits_two Kd Kd];rw [show (2000+q) / 10 / 10 / 10=((2000+(q:Int)) / 100).toNat / 10 by omega,show (2000+q) / 10 / 10 % 10=((2000+(q:Int)) / 100).toNat % 10 by omega,
  show (2000+q) / 10 % 10=((2000+(q:Int)) % 100).toNat / 10 by omega,show (2000+q) % 10=((2000+(q:Int)) % 100).toNat % 10 by omega]
 rfl
theorem Jz6 (q:Nat) (hq:q<100) (w:World) (hg:Good w) :
  Pc 297 #[.int .i64 (2000+(q:Int))] w (.string (str (four (2000+(q:Int))))):=by
 rw [←Jz5 q hq];refine (Tryz.strconv_Itoa (2000+(q:Int)) Kd Kd w hg.2).mono ?_;rintro e w' ⟨rfl,k,os,rfl⟩;exact⟨rfl,Jun w k os⟩
theorem Jtu (x:Int) (h0:0≤x) (h1:x<100) (w:World) :
  Pb 298 #[.int .i64 x] w (.string (str (two x))):=by
 have l1:=Jin (x / 10) Kd;have l2:=Jin (x % 10) Kd;have E:=Pe (show str (dec (x / 10))++str (dec (x % 10))=str (two x) by rw [Je3,Jwk x h0 h1]);go_enter func298,ntmps298;go_wp2_with (go_at_call 297;refine Pf (Jgh _ Kd Kd _) ?_);go_ret;exact⟨Je9 E.out,rfl⟩
theorem J4i (y m d:Int):str (four y)++str [45]++str (two m)++str [45]++str (two d)=str (dateText y m d):=by
 rw [Je3,Je3,Je3,Je3];rfl
theorem dformat_yes (i n:Nat) (hi:i<1200) (h:Jjc i n) (w:World) (hg:Good w) :
  Pc 222 #[.int .i64 n] w (.tuple #[.string (str (dText i n)),.int .i64 0]):=by
 have C:=Pe (Jz4 i n hi h w hg);have hl:=Jk3 h;have h1:=h.1;have hr:=(Jef (i / 12) (i % 12)).2;unfold mon at hl;have Y:=Pe (fun w hg=>Jz6 (i / 12) Kd w hg);have e1:(2000+((i / 12:Nat):Int))=2000+(i:Int) / 12:=Kd;rw [e1] at Y;have m0:0≤1+(i:Int) % 12:=Kd;have m1:1+(i:Int) % 12<100:=Kd;have M:=Pe (fun w=>Jtu (1+(i:Int) % 12) m0 m1 w);have d0:0≤(n:Int) - bef i+1:=Kd;have d1:(n:Int) - bef i+1<100:=Kd;have D:=Pe (fun w=>Jtu ((n:Int) - bef i+1) d0 d1 w);have E:=Pe (J4i (2000+(i:Int) / 12) (1+(i:Int) % 12) ((n:Int) - bef i+1));have lY:=J4h (2000+(i:Int) / 12);have lM:=Jli (1+(i:Int) % 12);have lD:=Jli ((n:Int) - bef i+1);clear h hl h1 hr e1 m0 m1 d0 d1 hi;go_enter func222,ntmps222;go_wp2_with (go_at_call 296;refine Pf C.out ?_);go_wp2_with fail;refine (Y.out _ hg).mono ?_;rintro e w1 ⟨rfl,b1⟩;go_wp2_with fail;refine (M.out _).mono ?_;rintro e w2 ⟨rfl,rfl⟩;go_wp2_with fail;refine (D.out _).mono ?_;rintro e w2 ⟨rfl,rfl⟩;go_wp2_with fail;go_ret2;exact⟨Jwq E.out,b1⟩
def okD (i:Nat) (c:UInt8):Bool:=if i=4∨i=7 then c==45 else dig c
theorem Jgl (l:List UInt8):fits dayP l=true↔l.length=10∧∀(k:Nat) c,l[k]?=some c→okD k c=true:=by
 rw [fits_iff];constructor
 ·rintro⟨h,hf⟩
  have h:l.length=10:=h;refine⟨h,fun k c hc=>?_⟩;have hk:k<10:=by have:=(Pl hc).1;omega
  unfold okD;match k,hk with
  | 0,_ | 1,_ | 2,_ | 3,_ | 5,_ | 6,_ | 8,_ | 9,_=>have:=hf _ 48 c rfl hc;rw [if_neg Kl];rwa [Jov] at this
  | 4,_ | 7,_=>have:=hf _ 45 c rfl hc;rw [if_pos Kl];rwa [Jow _ _ Kl] at this
 ·rintro⟨h,hf⟩
  refine⟨h,fun k a c ha hc=>?_⟩;have hk:k<10:=by have:=(Pl hc).1;omega
  have ho:=hf k c hc;unfold okD at ho;match k,hk,ha with
  | 0,_,ha | 1,_,ha | 2,_,ha | 3,_,ha | 5,_,ha | 6,_,ha | 8,_,ha | 9,_,ha=>cases ha;rw [Jov];rwa [if_neg Kl] at ho
  | 4,_,ha | 7,_,ha=>cases ha;rw [Jow _ _ Kl];rwa [if_pos Kl] at ho
theorem Jtv (k:Nat) (c:UInt8) (hk:k=4∨k=7):okD k c=true↔c.toNat=45:=by
 unfold okD;exact Wb
theorem Jjd (k:Nat) (c:UInt8) (hk:¬(k=4∨k=7)):okD k c=true↔48≤c.toNat∧c.toNat≤57:=by
 unfold okD;rw [if_neg hk,Jcj]
theorem Jvl (s:ByteArray) (pos:Nat) (hp:pos≤s.size) (hl:s.size≤6) (hd:digs s.data.toList=true):valN (s.data.toList.take pos)<1000000:=by
 have h1:=Jlg _ (Jm6 _ pos hd);exact Y6
theorem Jvm (s:ByteArray) (hd:digs s.data.toList=true) (hl:s.size≤6) (w:World) :
  Pb 319 #[.string s] w (.int .i64 (valN s.data.toList)):=by
 have HD:=Pe hd;clear hd;go_enter func319,ntmps319;go_wp2;go_loop [3,7] (fun n i=>∃k:Nat,k≤s.size∧n=.int .i64 (valN (s.data.toList.take k))∧i=.int .i64 k) (fun _ i=>s.size - (intOf i).toNat)
 case atStart=>exact⟨0,Kd,rfl,rfl⟩
 case round =>
  obtain⟨k,hk,rfl,rfl⟩:=hrel;by_cases hp:k<s.size
  ·have hc:=Jlh s k hp HD.out
   have hv:=Jvl s k hk hl HD.out;have hs:=Pe (Jil (s.data.toList.take k) s[k]);have ht:=Pe (Jfy s k hp);have kk:=Je2 s k hp;go_wp2_with fail;go_round;case rel=>exact⟨k+1,Kd,by rw [ht.out,hs.out];go_num,Kg⟩
   case measure=>exact Qz
  ·have he:=Pe (List.take_of_length_le (l:=s.data.toList) (i:=k) (by simpa using hp))
   go_wp2_with fail;go_ret;exact⟨by rw [he.out];rfl,rfl⟩
theorem Jhj (s:ByteArray) (w:World) :
  Pb 317 #[.string s] w (.bool (fits dayP s.data.toList)):=by
 by_cases h10:s.size=10
 ·have n10:((s.size:Int) != 10)=false:=by rw [h10];rfl
  have H10:=Pe h10;have HF:=Pe (Jgl s.data.toList);have hs:s.size≤10:=Kd;clear h10;go_enter func317,ntmps317;go_wp2_with fail;go_loop [9] (fun i=>∃k:Nat,k≤s.size∧i=.int .i64 k∧Hid (∀j c,j<k→s.data.toList[j]?=some c→okD j c=true)) (fun i=>s.size - (intOf i).toNat);case atStart=>exact⟨0,Kd,rfl,Pe (fun j c hj=>absurd hj (Nat.not_lt_zero _))⟩
  case round =>
   clear n10;obtain⟨k,hk,rfl,ht⟩:=hrel;by_cases hlt:k<s.size
   ·have kk:=Je2 s k hlt
    cases hx:okD k s[k] with
    | true =>
     have hst:Hid (∀j c,j<k+1→s.data.toList[j]?=some c→okD j c=true):=by
      intro j c hj hl;by_cases hjk:j<k
      ·exact ht.out j c hjk hl
      ·obtain rfl:j=k:=Kd
       rw [Jd8 s j hlt] at hl;cases hl;exact hx
     by_cases h47:k=4∨k=7
     ·have hc:=(Jtv k _ h47).1 hx
      have b3:(((s[k].toNat:Nat):Int) != 45)=false:=Wd;clear hx hc;by_cases h4:k=4
      ·have b4:((k:Int)==4)=true:=Jai Kd
       have HH:=Pe h4;clear h4 h47;go_wp2_with fail;go_round;case rel=>exact⟨k+1,Kd,Kg,hst⟩
       case measure=>exact Qz
      ·have b4:((k:Int)==4)=false:=Jaa Kd
       have b7:((k:Int)==7)=true:=Jai Kd;clear h4 h47;go_wp2_with fail;go_round;case rel=>exact⟨k+1,Kd,Kg,hst⟩
       case measure=>exact Qz
     ·have hc:=(Jjd k _ h47).1 hx
      have b4:((k:Int)==4)=false:=Jaa Kd;have b7:((k:Int)==7)=false:=Jaa Kd;have c1:¬((s[k].toNat:Nat):Int)<48:=Kd;have c2:¬(57:Int)<((s[k].toNat:Nat):Int):=Kd;clear hx h47;go_wp2_with fail;go_round;case rel=>exact⟨k+1,Kd,Kg,hst⟩
      case measure=>exact Qz
    | false =>
     have hv:fits dayP s.data.toList=false:=by
      cases hv:fits dayP s.data.toList with
      | false=>rfl
      | true=>rw [(HF.out.1 hv).2 k _ (Jd8 s k hlt)] at hx;cases hx
     have HV:=Pe hv;clear hv;by_cases h47:k=4∨k=7
     ·have b3:(((s[k].toNat:Nat):Int) != 45)=true:=Jaf (by
       intro hc;rw [(Jtv k _ h47).2 Kd] at hx;cases hx)
      clear hx;by_cases h4:k=4
      ·have b4:((k:Int)==4)=true:=Jai Kd
       have HH:=Pe h4;clear h4 h47;exact Wf
      ·have b4:((k:Int)==4)=false:=Jaa Kd
       have b7:((k:Int)==7)=true:=Jai Kd;clear h4 h47;exact Wf
     ·have hc:¬(48≤s[k].toNat∧s[k].toNat≤57):=by
       intro hc;rw [(Jjd k _ h47).2 hc] at hx;cases hx
      have b4:((k:Int)==4)=false:=Jaa Kd;have b7:((k:Int)==7)=false:=Jaa Kd;clear hx h47;by_cases c1:((s[k].toNat:Nat):Int)<48
      ·clear hc
       exact Wf
      ·have c2:(57:Int)<((s[k].toNat:Nat):Int):=Kd
       clear hc;exact Wf
   ·have hv:=HF.out.2 ⟨H10.out,fun j c hl=>ht.out j c (by have:=(Pl hl).1;have h9:j<s.size:=this;omega) hl⟩
    have HV:=Pe hv;clear hv;exact Wf
 ·have n10:((s.size:Int) != 10)=true:=Jaf Kd
  have hv:=Pe (Jvi dayP s.data.toList h10);clear h10;go_enter func317,ntmps317;go_wp2_with fail;go_ret;exact⟨Jab hv.out.symm,rfl⟩
def vAt (l:List UInt8) (a:Nat):Nat:=if a=0 then val4 l else Jbt l a
theorem Jhk (s:ByteArray) (hf:fits dayP s.data.toList=true) (a n:Nat) (ha:∀i,i<n→¬(a+i=4∨a+i=7)):digs ((s.data.toList.drop a).take n)=true:=by
 obtain⟨-,h⟩:=(Jgl _).1 hf;unfold digs;rw [List.all_eq_true];intro x hx;obtain⟨i,hi⟩:=List.mem_iff_getElem?.1 hx;have hi2:i<n:=by
  have:=(Pl hi).1;exact Qy
 rw [List.getElem?_take_of_lt hi2,List.getElem?_drop] at hi;exact (Jcj _).2 ((Jjd _ _ (ha i hi2)).1 (h _ _ hi))
theorem Jqx (s:ByteArray) (a b n:Nat) (hb:b=a+n) (hn:n≤4) (hd:digs ((s.data.toList.drop a).take n)=true) (w:World) :
  Pb 319 #[.string (s.extract a b)] w (.int .i64 (valN ((s.data.toList.drop a).take n))):=by
 subst hb;have he:(s.extract a (a+n)).data.toList=(s.data.toList.drop a).take n:=by rw [Lib.extract_data];congr 1;omega
 have h:=Jvm (s.extract a (a+n)) (by rw [he];exact hd) Ke w;rw [he] at h;exact h
theorem Jo1 (s:ByteArray) (hf:fits dayP s.data.toList=true) (a b:Nat) (h:(a=0∧b=4)∨(a=5∧b=7)∨(a=8∧b=10)) (w:World) :
  Pb 319 #[.string (s.extract a b)] w (.int .i64 (vAt s.data.toList a)):=by
 rcases h with ⟨rfl,rfl⟩ | ⟨rfl,rfl⟩ | ⟨rfl,rfl⟩
 ·exact Jqx s 0 4 4 rfl Kl (Jhk s hf 0 4 Kd) w
 ·exact Jqx s 5 7 2 rfl Kl (Jhk s hf 5 2 Kd) w
 ·exact Jqx s 8 10 2 rfl Kl (Jhk s hf 8 2 Kd) w
theorem Jvn (s:ByteArray) (hf:fits dayP s.data.toList=true) (hp:Jd4 (vAt s.data.toList 0) (vAt s.data.toList 5) (vAt s.data.toList 8)) (w:World) (hg:Good w) :
  Pc 253 #[.string s] w (.tuple #[.int .i64 (dayOf (vAt s.data.toList 0) (vAt s.data.toList 5) (vAt s.data.toList 8)),.int .i64 0]):=by
 have h10:s.size=10:=((Jgl _).1 hf).1;have HD:=Pe (fun w=>Jhj s w);rw [hf] at HD;have HF:=Pe hf;have HP:=Pe hp;clear hf hp;have i4:(4:Int)≤(s.size:Int):=Kd;have i7:(7:Int)≤(s.size:Int):=Kd;have i10:(10:Int)≤(s.size:Int):=Kd;have b0:=Below.refl w.heap.size w;clear h10;go_enter func253,ntmps253;go_wp2_with fail;refine (HD.out _).mono ?_;rintro e w1 ⟨rfl,rfl⟩;go_wp2_with fail;go_region_held3 (fun _=>True) (exact trivial) (first | (go_at_call 319;refine (rel (W:=w) (Jpx (Jo1 s HF.out _ _ Kd _)) Yz).mono ?_;rintro e wa ⟨rfl,ba⟩) | (go_at_call 318;refine (rel (W:=w) (Jpx (Jmf _ _ _ HP.out _ (hg.below Yz))) Yz).mono ?_;rintro e wd ⟨rfl,bd⟩));exact Y8
theorem Jqy (s:ByteArray) (hf:fits dayP s.data.toList=true) (hp:¬Jd4 (vAt s.data.toList 0) (vAt s.data.toList 5) (vAt s.data.toList 8)) (w:World) (hg:Good w) :
  Pc 253 #[.string s] w (.tuple #[.int .i64 0,.int .i64 11]):=by
 have h10:s.size=10:=((Jgl _).1 hf).1;have HD:=Pe (fun w=>Jhj s w);rw [hf] at HD;have HF:=Pe hf;have HP:=Pe hp;clear hf hp;have i4:(4:Int)≤(s.size:Int):=Kd;have i7:(7:Int)≤(s.size:Int):=Kd;have i10:(10:Int)≤(s.size:Int):=Kd;have b0:=Below.refl w.heap.size w;clear h10;go_enter func253,ntmps253;go_wp2_with fail;refine (HD.out _).mono ?_;rintro e w1 ⟨rfl,rfl⟩;go_wp2_with fail;go_region_held3 (fun _=>True) (exact trivial) (first | (go_at_call 319;refine (rel (W:=w) (Jpx (Jo1 s HF.out _ _ Kd _)) Yz).mono ?_;rintro e wa ⟨rfl,ba⟩) | (go_at_call 318;refine (rel (W:=w) (Jpx (Jo0 _ _ _ HP.out _ (hg.below Yz))) Yz).mono ?_;rintro e wd ⟨rfl,bd⟩));exact Y8
theorem Jmg (s:ByteArray) (hf:fits dayP s.data.toList=false) (w:World) :
  Pb 253 #[.string s] w (.tuple #[.int .i64 0,.int .i64 3]):=by
 have HD:=Pe (Jhj s w);rw [hf] at HD;clear hf;go_enter func253,ntmps253;go_wp2_with fail;refine HD.out.mono ?_;rintro e w1 ⟨rfl,rfl⟩;exact V8
theorem dparse_any (s:ByteArray) (w:World) (hg:Good w) :
  Pc 253 #[.string s] w (.tuple #[.int .i64 (dayR s.data.toList).1,.int .i64 (dayR s.data.toList).2]):=by
 cases hf:fits dayP s.data.toList with
 | false=>rw [Jqw _ hf];exact Jpx (Jmg s hf w)
 | true =>
  by_cases hp:Jd4 (val4 s.data.toList) (Jbt s.data.toList 5) (Jbt s.data.toList 8)
  ·rw [Jts _ hf hp];exact Jvn s hf hp w hg
  ·rw [Jzz _ hf hp];exact Jqy s hf hp w hg
end S2
section
open Go
theorem Jtw (s:ByteArray) (pos:Nat):∀j,1≤j→j<(Utf8.decode s pos).2→pos+j<s.size∧(s.get! (pos+j)).toNat / 64=2:=by
 intro j h1 h2;simp only [Utf8.decode] at h2;split at h2
 ·omega
 ·split at h2
  ·next h =>
   split at h2
   ·have:j=1:=Wg
    subst this;simp at h;exact h.2
   ·exact Wg
  ·split at h2
   ·next h =>
    split at h2
    ·have:j=1∨j=2:=Wg
     simp at h;rcases this with rfl | rfl
     ·exact h.1.2
     ·exact h.2
    ·exact Wg
   ·split at h2
    ·next h =>
     split at h2
     ·have:j=1∨j=2∨j=3:=Wg
      simp at h;rcases this with rfl | rfl | rfl
      ·exact h.1.1.2
      ·exact h.1.2
      ·exact h.2
     ·exact Wg
    ·exact Wg
theorem Jz7 (s:ByteArray) (pos j:Nat) (h1:1≤j) (h2:j<(Utf8.decode s pos).2):∃c,s.data.toList[pos+j]?=some c∧128≤c.toNat:=by
 obtain⟨h3,h4⟩:=Jtw s pos j h1 h2;refine⟨s[pos+j],?_,?_⟩
 ·rw [List.getElem?_eq_getElem (by simpa using h3)];rfl
 ·have:=get_at s (pos+j) h3
  rw [Nat.add_zero] at this;rw [this] at h4;omega
theorem Jz8 (s:ByteArray) (pos:Nat) (h:pos<s.size):pos+(Utf8.decode s pos).2≤s.size:=by
 rcases Nat.lt_or_ge 1 (Utf8.decode s pos).2 with hk | hk
 ·have:=(Jtw s pos ((Utf8.decode s pos).2 - 1) Kd Kd).1
  omega
 ·omega
theorem Jo2 (p:UInt8→Bool) (hp:∀c:UInt8,128≤c.toNat→p c=true) (s:ByteArray) (pos:Nat) (h:pos<s.size) (ha:128≤s[pos].toNat) (ht:(s.data.toList.take pos).all p=true) :
  (s.data.toList.take (pos+(Utf8.decode s pos).2)).all p=true:=by
 rw [List.all_eq_true] at *;intro c hc;obtain⟨i,hi⟩:=List.mem_iff_getElem?.1 hc;rw [List.getElem?_take] at hi;split at hi
 ·next hlt =>
  rcases Nat.lt_or_ge i pos with h1 | h1
  ·exact ht c (List.mem_iff_getElem?.2 ⟨i,by rw [List.getElem?_take,if_pos h1];exact hi⟩)
  ·by_cases he:i=pos
   ·subst he
    rw [List.getElem?_eq_getElem Kt] at hi;obtain rfl:=Po hi;exact hp _ ha
   ·obtain⟨d,hd,h128⟩:=Jz7 s pos (i - pos) Kd Kd
    rw [show pos+(i - pos)=i by omega] at hd;rw [hd] at hi;obtain rfl:=Po hi;exact hp _ h128
 ·cases hi
end
end Go.Proofs.YtpifdbphmnifdaaGreatDoor
