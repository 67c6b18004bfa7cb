/-
  Facts of the proof. Condition: each theorem's own.
-/
import Derived.Test.YtpifdbphmnifdaaGreatDoorYI11
set_option maxRecDepth 100000
set_option maxHeartbeats 8000000
open Go.Proofs.Tryz
namespace Go.Proofs.YtpifdbphmnifdaaGreatDoor
namespace S2
def Jnu (q:Nat):Nat:=if q % 4=0 then 1 else 0
def cumN:Nat→Nat
 | 0=>0 | 1=>31 | 2=>59 | 3=>90 | 4=>120 | 5=>151 | 6=>181 | 7=>212 | 8=>243 | 9=>273 | 10=>304 | _=>334
def monN (q r:Nat):Nat:=if r=1 then 28+Jnu q else if r=3∨r=5∨r=8∨r=10 then 30 else 31
def befN (q r:Nat):Nat:=q*365+(q+3) / 4+cumN r+(if 2≤r then Jnu q else 0)
theorem Jjv (q r:Nat) (h:r+1<12):befN q (r+1)=befN q r+monN q r:=by
 unfold befN monN Jnu;match r,h with
 | 0,_ | 1,_ | 2,_ | 3,_ | 4,_ | 5,_ | 6,_ | 7,_ | 8,_ | 9,_ | 10,_=>simp [cumN];try omega
theorem J03 (q:Nat):befN (q+1) 0=befN q 11+monN q 11:=by
 unfold befN monN Jnu;simp [cumN];by_cases h:q % 4=0
 ·rw [if_pos h];omega
 ·rw [if_neg h];omega
theorem Jed (q r:Nat):28≤monN q r∧monN q r≤31:=by
 unfold monN Jnu;repeat' split
 all_goals omega
def bef (i:Nat):Nat:=befN (i / 12) (i % 12)
def mon (i:Nat):Nat:=monN (i / 12) (i % 12)
theorem bef_succ (i:Nat):bef (i+1)=bef i+mon i:=by
 unfold bef mon;by_cases h:i % 12=11
 ·rw [show (i+1) / 12=i / 12+1 by omega,show (i+1) % 12=0 by omega,h,J03]
 ·rw [show (i+1) / 12=i / 12 by omega,show (i+1) % 12=i % 12+1 by omega,Jjv _ _ (by omega)]
theorem J98 (i:Nat):bef i<bef (i+1):=by
 have:=bef_succ i;have:=(Jed (i / 12) (i % 12)).1;unfold mon at *;omega
theorem bef_le {i j:Nat} (h:i≤j):bef i≤bef j:=by
 induction j with
 | zero=>rw [show i=0 by omega];exact Nat.le_refl _
 | succ j ih =>
  by_cases hi:i≤j
  ·exact Nat.le_trans (ih hi) (Nat.le_of_lt (J98 j))
  ·rw [show i=j+1 by omega];exact Nat.le_refl _
theorem bef_at (q r:Nat) (h:r<12):bef (12*q+r)=befN q r:=by
 unfold bef;rw [show (12*q+r) / 12=q by omega,show (12*q+r) % 12=r by omega]
theorem Jp4:bef 0=0:=by decide
theorem bef_end:bef 1200=36525:=by decide
theorem J65 (q:Nat):bef (12*q)=q*365+(q+3) / 4:=by
 have:=bef_at q 0 (by decide);rw [Nat.add_zero] at this;rw [this];simp [befN,cumN]
def Jjw (i d:Nat):Prop:=bef i≤d∧d<bef (i+1)
theorem Jfi {i d:Nat} (h:Jjw i d) (j:Nat):bef j≤d↔j≤i:=by
 constructor
 ·intro hj
  by_cases hji:j≤i
  ·exact hji
  ·have:=bef_le (show i+1≤j by omega)
   have:=h.2;omega
 ·intro hj
  exact Nat.le_trans (bef_le hj) h.1
theorem Jwi {i d:Nat} (h:Jjw i d) (hi:i<1200):d≤36524:=by
 have:=bef_le (show i+1≤1200 by omega);have:=h.2;rw [bef_end] at *;omega
theorem Jsa {i d:Nat} (h:Jjw i d):d - bef i<mon i:=by
 have:=bef_succ i;obtain⟨h1,h2⟩:=h;omega
theorem Jwj {i d:Nat} (h:Jjw i d) (y:Nat):((y+1)*365+(y+1+3) / 4≤d)↔y<i / 12:=by
 rw [←J65,Jfi h];omega
theorem J04 {i d:Nat} (h:Jjw i d) (k:Nat) (hk:k≤i % 12):(monN (i / 12) k≤d - bef (12*(i / 12)+k))↔k<i % 12:=by
 have e:=bef_succ (12*(i / 12)+k);have m:mon (12*(i / 12)+k)=monN (i / 12) k:=by
  unfold mon;rw [show (12*(i / 12)+k) / 12=i / 12 by omega,show (12*(i / 12)+k) % 12=k by omega]
 have b:=(Jfi h (12*(i / 12)+k+1));have b0:=(Jfi h (12*(i / 12)+k)).2 (by omega);rw [e,m] at b;constructor
 ·intro hx
  have:=b.1 (by omega);omega
 ·intro hx
  have:=b.2 (by omega);omega
open Go
def okP (p c:UInt8):Bool:=if p=48 then dig c else c==p
def fits:List UInt8→List UInt8→Bool
 | [],[]=>true
 | p::ps,c::cs=>okP p c&&fits ps cs
 | _,_=>false
def dayP:List UInt8:=[48,48,48,48,45,48,48,45,48,48]
theorem Jly (c:UInt8):okP 48 c=dig c:=by unfold okP;rw [if_pos rfl]
theorem Jlz (p c:UInt8) (h:p≠48):okP p c=(c==p):=by unfold okP;rw [if_neg h]
theorem Jp5:∀(p l:List UInt8),fits p l=true→l.length=p.length
 | [],[],_=>rfl
 | p::ps,c::cs,h=>by
  have:=Jp5 ps cs (by simp only [fits,Bool.and_eq_true] at h;exact h.2);simp [this]
 | [],_::_,h=>by cases h
 | _::_,[],h=>by cases h
theorem fits_iff:∀(p l:List UInt8),fits p l=true↔l.length=p.length∧∀(k:Nat) a c,p[k]?=some a→l[k]?=some c→okP a c=true
 | [],[]=>by simp [fits]
 | p::ps,c::cs=>by
  have ih:=fits_iff ps cs;simp only [fits,Bool.and_eq_true,ih,List.length_cons];constructor
  ·rintro⟨h1,h2,h3⟩
   refine⟨by omega,fun k a b ha hb=>?_⟩;cases k with
   | zero=>cases ha;cases hb;exact h1
   | succ k=>exact h3 k a b (by simpa using ha) (by simpa using hb)
  ·rintro⟨h1,h2⟩
   exact⟨h2 0 p c rfl rfl,by omega,fun k a b ha hb=>h2 (k+1) a b (by simpa using ha) (by simpa using hb)⟩
 | [],c::cs=>by simp [fits]
 | p::ps,[]=>by simp [fits]
theorem Jsb (p l:List UInt8) (h:l.length≠p.length):fits p l=false:=by
 cases hf:fits p l with
 | false=>rfl
 | true=>exact absurd (Jp5 p l hf) h
def Jee (y m d:Int):Prop:=2000≤y∧y≤2099∧1≤m∧m≤12∧1≤d∧d≤monN (y - 2000).toNat (m - 1).toNat
instance (y m d:Int):Decidable (Jee y m d):=by unfold Jee;infer_instance
def dayOf (y m d:Int):Int:=(befN (y - 2000).toNat (m - 1).toNat:Int)+d - 1
def val4 (l:List UInt8):Nat:=valN (l.take 4)
def dayR (l:List UInt8):Int×Int :=
 if fits dayP l=true then
  if Jee (val4 l) (Jbs l 5) (Jbs l 8) then (dayOf (val4 l) (Jbs l 5) (Jbs l 8),0) else (0,11)
 else (0,3)
theorem J05 (l:List UInt8) (hf:fits dayP l=true) (hp:Jee (val4 l) (Jbs l 5) (Jbs l 8)):dayR l=(dayOf (val4 l) (Jbs l 5) (Jbs l 8),0):=by
 unfold dayR;rw [if_pos hf,if_pos hp]
theorem Jwk (l:List UInt8) (hf:fits dayP l=true) (hp:¬Jee (val4 l) (Jbs l 5) (Jbs l 8)):dayR l=(0,11):=by
 unfold dayR;rw [if_pos hf,if_neg hp]
theorem Jnv (l:List UInt8) (hf:fits dayP l=false):dayR l=(0,3):=by
 unfold dayR;rw [hf];rfl
def four (y:Int):List UInt8:=two (y / 100)++two (y % 100)
def dateText (y m d:Int):List UInt8:=four y++[45]++two m++[45]++two d
def dText (i n:Nat):List UInt8:=dateText (2000+i / 12) (1+i % 12) ((n:Int) - bef i+1)
open Go.RowKit
def lens:List Int:=[31,28,31,30,31,30,31,31,30,31,30,31]
def Good (w:World):Prop:=Lib.TabIs prog w "transit/date.monthLengths" .i64 lens∧Lib.TabIs prog w "internal/strconv.uint64pow10" .u64 Lib.pow10Tab
theorem gLens:prog.globalNamed "transit/date.monthLengths"=some 5:=by kernel_rfl
theorem gPow:prog.globalNamed "internal/strconv.uint64pow10"=some 9:=by kernel_rfl
theorem var_size {w:World} {n:String} {g:Nat} {cs:Array Value} (hg:prog.globalNamed n=some g) (h:w.var? prog n=some cs):g<w.heap.size:=by
 unfold World.var? at h;simp only [hg,Option.bind_some] at h;by_cases hs:g<w.heap.size
 ·exact hs
 ·rw [Array.getElem?_eq_none (by omega)] at h
  cases h
theorem Good.below {w w':World} (h:Good w) (b:Below w.heap.size w w'):Good w' :=
 ⟨var?_below b gLens (var_size gLens h.1) h.1,var?_below b gPow (var_size gPow h.2) h.2⟩
theorem Good.month {w:World} (h:Good w) (r:Nat) (hr:r<12):w.cell? ⟨5,r,none⟩=some (.int .i64 (lens.getD r 0)):=h.1.cell gLens r hr
theorem Jsc (n:Int) (h0:0≤n) (h1:n≤36524) (w:World) :
  Calls prog 258 #[.int .i64 n] w fun e w'=>e=.returned (.bool true)∧w=w':=by
 go_enter func258,ntmps258
 go_wp2
 go_ret;exact⟨rfl,rfl⟩
theorem Jel (y:Int) (h0:2000≤y) (h1:y≤2099) (w:World) :
  Calls prog 369 #[.int .i64 y] w fun e w'=>e=.returned (.bool true)∧w=w':=by
 go_enter func369,ntmps369
 go_wp2
 go_ret;exact⟨rfl,rfl⟩
theorem Jl0 (y:Int) (h:y<2000∨2099<y) (w:World) :
  Calls prog 369 #[.int .i64 y] w fun e w'=>e=.returned (.bool false)∧w=w':=by
 rcases h with h | h
 ·go_enter func369,ntmps369
  go_wp2
  go_ret;exact⟨rfl,rfl⟩
 ·have h0:2000≤y:=by omega
  have hd:decide (y≤2099)=false:=by simp;omega
  go_enter func369,ntmps369
  go_wp2
  go_ret;exact⟨rfl,rfl⟩
def Jl1 (y:Int):Bool:=decide (2000≤y∧y≤2099∧y % 4=0)
theorem J06 (y:Int) (h0:2000≤y) (h1:y≤2099):(y % 4==0)=Jl1 y:=by
 unfold Jl1;rw [Bool.eq_iff_iff,beq_iff_eq,decide_eq_true_eq];omega
theorem Jwl (y:Int) (h:y<2000∨2099<y):Jl1 y=false:=by
 unfold Jl1;rw [decide_eq_false_iff_not];omega
theorem J07 (y:Int) (w:World) :
  Calls prog 362 #[.int .i64 y] w fun e w'=>e=.returned (.bool (Jl1 y))∧w=w':=by
 by_cases h:2000≤y∧y≤2099
 ·obtain⟨h0,h1⟩:=h
  have hb:=Lib.hid (J06 y h0 h1);go_enter func362,ntmps362
  go_wp2_with (go_at_call 369;refine (Jel _ h0 h1 _).mono ?_;rintro e w' ⟨rfl,rfl⟩)
  go_ret;exact⟨Jaa hb.out,rfl⟩
 ·have h:y<2000∨2099<y:=by omega
  rw [Jwl y h];go_enter func362,ntmps362
  go_wp2_with (go_at_call 369;refine (Jl0 _ h _).mono ?_;rintro e w' ⟨rfl,rfl⟩)
  go_ret;exact⟨rfl,rfl⟩
theorem Jwm (y:Int) (b:Bool) (h:Jl1 y=b) (w:World) :
  Calls prog 362 #[.int .i64 y] w fun e w'=>e=.returned (.bool b)∧w=w':=by
 rw [←h];exact J07 y w
theorem J66 (y:Int) (q:Nat) (hy:y=2000+q) (hq:q<100):Jl1 y=decide (q % 4=0):=by
 unfold Jl1;rw [Bool.eq_iff_iff,decide_eq_true_eq,decide_eq_true_eq];omega
theorem Jp6 (q r:Nat) (hr:r<12) (h:¬(r=1∧q % 4=0)):lens.getD r 0=(monN q r:Int):=by
 unfold monN Jnu;match r,hr with
 | 0,_ | 2,_ | 3,_ | 4,_ | 5,_ | 6,_ | 7,_ | 8,_ | 9,_ | 10,_ | 11,_=>rfl
 | 1,_=>rw [if_pos rfl,if_neg (fun hq=>h ⟨rfl,hq⟩)];rfl
theorem J67 (q:Nat) (h:q % 4=0):monN q 1=29:=by
 unfold monN Jnu;rw [if_pos rfl,if_pos h]
theorem Jce (y m:Int) (q r:Nat) (hy:y=2000+q) (hq:q<100) (hm:m=1+r) (hr:r<12) (w:World) (hg:Good w) :
  Calls prog 342 #[.int .i64 y,.int .i64 m] w fun e w'=>e=.returned (.int .i64 (monN q r))∧w=w':=by
 have hc:=hg.month r hr;have hl:=J66 y q hy hq;clear hy;subst hm;by_cases h2:r=1
 ·subst h2
  by_cases h4:q % 4=0
  ·rw [show decide (q % 4=0)=true by simpa using h4] at hl
   have e:=Lib.hid (J67 q h4);rw [show lens.getD 1 0=28 from rfl] at hc;go_enter func342,ntmps342
   go_wp2_with (go_at_call 362;refine (Jwm _ _ hl _).mono ?_;rintro e w' ⟨rfl,rfl⟩)
   go_ret;exact⟨by rw [e.out];rfl,rfl⟩
  ·rw [show decide (q % 4=0)=false by simpa using h4] at hl
   have e:=Lib.hid (Jp6 q 1 hr (by omega));rw [e.out] at hc;go_enter func342,ntmps342
   go_wp2_with (go_at_call 362;refine (Jwm _ _ hl _).mono ?_;rintro e w' ⟨rfl,rfl⟩)
   go_ret;exact⟨rfl,rfl⟩
 ·have e:=Lib.hid (Jp6 q r hr (by omega))
  rw [e.out] at hc;have hn:(1+(r:Int)==2)=false:=by rw [beq_eq_false_iff_ne];omega
  clear hl;go_enter func342,ntmps342
  go_wp2_with fail
  go_ret;exact⟨rfl,rfl⟩
theorem Jjx (y m:Int) (q r:Nat) (hy:y=2000+q) (hq:q<100) (hm:m=1+r) (hr:r<12) (w:World) (hg:Good w) :
  Calls prog 351 #[.int .i64 y,.int .i64 m] w fun e w'=>e=.returned (.tuple #[.int .i64 (monN q r),.bool true])∧w=w':=by
 have h1:¬m<1:=by omega
 have h2:¬12<m:=by omega
 have y0:2000≤y:=by omega
 have y1:y≤2099:=by omega
 have HY:=Lib.hid hy;have HM:=Lib.hid hm;clear hy hm;go_enter func351,ntmps351
 go_wp2_with (first | (go_at_call 369;refine (Jel y y0 y1 _).mono ?_;rintro e w' ⟨rfl,rfl⟩) | (go_at_call 342;refine (Jce y m q r HY.out hq HM.out hr _ hg).mono ?_;rintro e w' ⟨rfl,rfl⟩))
 go_ret2;exact⟨rfl,rfl⟩
theorem J68 (y m:Int) (h:y<2000∨2099<y∨m<1∨12<m) (w:World) :
  Calls prog 351 #[.int .i64 y,.int .i64 m] w fun e w'=>e=.returned (.tuple #[.int .i64 0,.bool false])∧w=w':=by
 by_cases hy:y<2000∨2099<y
 ·go_enter func351,ntmps351
  go_wp2_with (go_at_call 369;refine (Jl0 _ hy _).mono ?_;rintro e w' ⟨rfl,rfl⟩)
  go_ret2;exact⟨rfl,rfl⟩
 ·by_cases hm:m<1
  ·go_enter func351,ntmps351
   go_wp2_with (go_at_call 369;refine (Jel _ (by omega) (by omega) _).mono ?_;rintro e w' ⟨rfl,rfl⟩)
   go_ret2;exact⟨rfl,rfl⟩
  ·have hm2:12<m:=by omega
   go_enter func351,ntmps351
   go_wp2_with (go_at_call 369;refine (Jel _ (by omega) (by omega) _).mono ?_;rintro e w' ⟨rfl,rfl⟩)
   go_ret2;exact⟨rfl,rfl⟩
theorem Jck (y:Int) (q:Nat) (hy:y=2000+q) (hq:q≤100) (w:World) :
  Calls prog 341 #[.int .i64 y] w fun e w'=>e=.returned (.int .i64 (befN q 0))∧w=w':=by
 have h0:0≤y - 2000:=by omega
 have h1:y - 2000≤100:=by omega
 have e:(y - 2000)*365+(y - 2000+3) / 4=(befN q 0:Int):=by
  have e0:befN q 0=q*365+(q+3) / 4:=by simp [befN,cumN]
  omega
 have E:=Lib.hid e;clear e hy;go_enter func341,ntmps341
 go_wp2_with fail
 go_ret;exact⟨Jad E.out,rfl⟩
theorem Jjy (y m d:Int) (hp:Jee y m d) (w:World) (hg:Good w) :
  Calls prog 318 #[.int .i64 y,.int .i64 m,.int .i64 d] w fun e w'=>e=.returned (.tuple #[.int .i64 (dayOf y m d),.bool true])∧w=w':=by
 obtain⟨h1,h2,h3,h4,h5,h6⟩:=hp;obtain⟨q,hq,rfl⟩:∃q:Nat,q<100∧y=2000+q:=⟨(y - 2000).toNat,by omega,by omega⟩;obtain⟨r,hr,rfl⟩:∃r:Nat,r<12∧m=1+r:=⟨(m - 1).toNat,by omega,by omega⟩;rw [show (2000+(q:Int) - 2000).toNat=q by omega,show (1+(r:Int) - 1).toNat=r by omega] at h6;have hb:∀k,k≤r→befN q k≤40000:=by
  intro k hk;have:=bef_le (show 12*q+k≤1200 by omega);rw [bef_at q k (by omega),bef_end] at this;omega
 have hd:dayOf (2000+(q:Int)) (1+(r:Int)) d=(befN q r:Int)+d - 1:=by
  unfold dayOf;rw [show (2000+(q:Int) - 2000).toNat=q by omega,show (1+(r:Int) - 1).toNat=r by omega]
 have hd31:d≤31:=by have:=(Jed q r).2;omega
 have HD:=Lib.hid hd;have HB:=Lib.hid hb;have t1:¬d<1:=by omega
 have t2:¬(monN q r:Int)<d:=by omega
 clear hd hb h1 h2 h3 h4 h6;go_enter func318,ntmps318
 go_wp2_with (first | (go_at_call 351;refine (Jjx _ _ q r rfl hq rfl hr _ hg).mono ?_;rintro e w' ⟨rfl,rfl⟩) | (go_at_call 341;refine (Jck _ q rfl (by omega) _).mono ?_;rintro e w' ⟨rfl,rfl⟩))
 go_loop [10,11] (fun n i=>∃k:Nat,k≤r∧n=.int .i64 (befN q k)∧i=.int .i64 (1+k)) (fun _ i=>12 - (intOf i).toNat)
 case atStart=>exact⟨0,by omega,rfl,rfl⟩
 case round =>
  obtain⟨k,hk,rfl,rfl⟩:=hrel;have hbk:=HB.out k hk;by_cases hlt:k<r
  ·have hn:=Lib.hid (Jjv q k (by omega))
   have hr31:=(Jed q k).2;go_wp2_with (go_at_call 342;refine (Jce _ _ q k rfl hq rfl (by omega) _ hg).mono ?_;rintro e w' ⟨rfl,rfl⟩)
   go_round
   case rel=>exact⟨k+1,by omega,by rw [hn.out];go_num,by go_num⟩
   case measure=>simp [intOf];omega
  ·obtain rfl:k=r:=by omega
   go_wp2_with fail
   go_ret2;exact⟨Jy3 HD.out.symm,rfl⟩
theorem Jl2 (y m d:Int) (hp:¬Jee y m d) (w:World) (hg:Good w) :
  Calls prog 318 #[.int .i64 y,.int .i64 m,.int .i64 d] w fun e w'=>e=.returned (.tuple #[.int .i64 0,.bool false])∧w=w':=by
 by_cases hym:y<2000∨2099<y∨m<1∨12<m
 ·clear hp
  go_enter func318,ntmps318
  go_wp2_with (go_at_call 351;refine (J68 _ _ hym _).mono ?_;rintro e w' ⟨rfl,rfl⟩)
  go_ret2;exact⟨rfl,rfl⟩
 ·obtain⟨q,hq,rfl⟩:∃q:Nat,q<100∧y=2000+q:=⟨(y - 2000).toNat,by omega,by omega⟩
  obtain⟨r,hr,rfl⟩:∃r:Nat,r<12∧m=1+r:=⟨(m - 1).toNat,by omega,by omega⟩;unfold Jee at hp;rw [show (2000+(q:Int) - 2000).toNat=q by omega,show (1+(r:Int) - 1).toNat=r by omega] at hp;have hd:d<1∨¬d<1∧(monN q r:Int)<d:=by omega
  clear hp hym;rcases hd with hd | ⟨hd,hd2⟩
  ·go_enter func318,ntmps318
   go_wp2_with (go_at_call 351;refine (Jjx _ _ q r rfl hq rfl hr _ hg).mono ?_;rintro e w' ⟨rfl,rfl⟩)
   go_ret2;exact⟨rfl,rfl⟩
  ·go_enter func318,ntmps318
   go_wp2_with (go_at_call 351;refine (Jjx _ _ q r rfl hq rfl hr _ hg).mono ?_;rintro e w' ⟨rfl,rfl⟩)
   go_ret2;exact⟨rfl,rfl⟩
theorem Jwn (i n:Nat) (hi:i<1200) (h:Jjw i n) (w:World) (hg:Good w) :
  Calls prog 296 #[.int .i64 n] w fun e w'=>e=.returned (.tuple #[.int .i64 (2000+i / 12),.int .i64 (1+i % 12),.int .i64 ((n:Int) - bef i+1),.bool true])∧w=w':=by
 have hn:=Jwi h hi;have HI:=Lib.hid h;have HY:=Lib.hid (fun y=>Jwj h y);have HM:=Lib.hid (fun k hk=>J04 h k hk);have HB:=Lib.hid (fun j=>Jfi h j);have n0:(0:Int)≤n:=by omega
 have n1:(n:Int)≤36524:=by omega
 clear h hn;go_enter func296,ntmps296
 go_wp2_with (go_at_call 258;refine (Jsc _ n0 n1 _).mono ?_;rintro e w' ⟨rfl,rfl⟩)
 go_loop [6] (fun y=>∃q:Nat,q≤i / 12∧y=.int .i64 (2000+q)) (fun y=>2100 - (intOf y).toNat)
 case atStart=>exact⟨0,by omega,rfl⟩
 case round =>
  obtain⟨q,hq,rfl⟩:=hrel;have hs:=HY.out q;have e0:befN (q+1) 0=(q+1)*365+(q+1+3) / 4:=by simp [befN,cumN]
  by_cases hlt:q<i / 12
  ·have ht:(befN (q+1) 0:Int)≤n:=by omega
   clear hs e0;go_wp2_with (go_at_call 341;refine (Jck _ (q+1) (by omega) (by omega) _).mono ?_;rintro e w' ⟨rfl,rfl⟩)
   go_round
   case rel=>exact⟨q+1,by omega,by go_num⟩
   case measure=>simp [intOf];omega
  ·have ht:¬(befN (q+1) 0:Int)≤n:=by omega
   clear hs e0;obtain rfl:q=i / 12:=by omega
   have hb0:=bef_at (i / 12) 0 (by decide);have hb1:=(HB.out (12*(i / 12)+0)).2 (by omega);rw [hb0] at hb1;clear hb0;go_wp2_with (first | (go_at_call 341;refine (Jck _ (i / 12+1) (by omega) (by omega) _).mono ?_;rintro e w' ⟨rfl,rfl⟩) | (go_at_call 341;refine (Jck _ (i / 12) (by omega) (by omega) _).mono ?_;rintro e w' ⟨rfl,rfl⟩))
   clear ht hlt;go_loop [7,8] (fun l m=>∃k:Nat,k≤i % 12∧l=.int .i64 ((n:Int) - befN (i / 12) k)∧m=.int .i64 (1+k)) (fun _ m=>20 - (intOf m).toNat)
   case atStart=>exact⟨0,by omega,rfl,rfl⟩
   case round =>
    obtain⟨k,hk,rfl,rfl⟩:=hrel;have hs:=HM.out k hk;have hb:=bef_at (i / 12) k (by omega);have hb2:=(HB.out (12*(i / 12)+k)).2 (by omega);rw [hb] at hs hb2;by_cases hlt:k<i % 12
    ·have ht:(monN (i / 12) k:Int)≤(n:Int) - befN (i / 12) k:=by omega
     have hx:=Lib.hid (Jjv (i / 12) k (by omega));have hr31:=(Jed (i / 12) k).2;clear hs hb;go_wp2_with (go_at_call 342;refine (Jce _ _ (i / 12) k (by omega) (by omega) rfl (by omega) _ hg).mono ?_;rintro e w' ⟨rfl,rfl⟩)
     go_round
     case rel=>exact⟨k+1,by omega,by rw [hx.out];go_num,by go_num⟩
     case measure=>simp [intOf];omega
    ·have ht:¬(monN (i / 12) k:Int)≤(n:Int) - befN (i / 12) k:=by omega
     obtain rfl:k=i % 12:=by omega
     have hE:=Lib.hid (show bef i=befN (i / 12) (i % 12) from rfl);clear hs hb;go_wp2_with (go_at_call 342;refine (Jce _ _ (i / 12) (i % 12) (by omega) (by omega) rfl (by omega) _ hg).mono ?_;rintro e w' ⟨rfl,rfl⟩)
     refine bodyPost_ret (Jgl rfl _ _ _) rfl ?_;exact⟨J4t (by omega) (by omega) (by rw [hE.out]),rfl⟩
theorem J08 (y:Int):(four y).length=4:=rfl
theorem Jwo (q:Nat) (hq:q<100):Lib.itoa (2000+(q:Int))=four (2000+(q:Int)):=by
 have e:(2000+(q:Int)).toNat=2000+q:=by omega
 unfold Lib.itoa four two;rw [if_neg (by omega),e,Lib.decDigits,dif_neg (by omega),Lib.decDigits,dif_neg (by omega),Lib.decDigits_two (by omega) (by omega)];rw [show (2000+q) / 10 / 10 / 10=((2000+(q:Int)) / 100).toNat / 10 by omega,show (2000+q) / 10 / 10 % 10=((2000+(q:Int)) / 100).toNat % 10 by omega,
  show (2000+q) / 10 % 10=((2000+(q:Int)) % 100).toNat / 10 by omega,show (2000+q) % 10=((2000+(q:Int)) % 100).toNat % 10 by omega]
 rfl
theorem Jwp (q:Nat) (hq:q<100) (w:World) (hg:Good w) :
  Calls prog 297 #[.int .i64 (2000+(q:Int))] w fun e w'=>e=.returned (.string (str (four (2000+(q:Int)))))∧Below w.heap.size w w':=by
 rw [←Jwo q hq];refine (Tryz.strconv_Itoa (2000+(q:Int)) (by omega) (by omega) w hg.2).mono ?_;rintro e w' ⟨rfl,k,os,rfl⟩;exact⟨rfl,Jq4 w k os⟩
theorem Jp7 (x:Int) (h0:0≤x) (h1:x<100) (w:World) :
  Calls prog 298 #[.int .i64 x] w fun e w'=>e=.returned (.string (str (two x)))∧w=w':=by
 have l1:=Jhc (x / 10) (by omega);have l2:=Jhc (x % 10) (by omega);have E:=Lib.hid (show str (dec (x / 10))++str (dec (x % 10))=str (two x) by rw [Jcz,Jta x h0 h1]);go_enter func298,ntmps298
 go_wp2_with (go_at_call 297;refine (Jfg _ (by omega) (by omega) _).mono ?_;rintro e w' ⟨rfl,rfl⟩)
 go_ret;exact⟨Jeh E.out,rfl⟩
theorem J09 (y m d:Int):str (four y)++str [45]++str (two m)++str [45]++str (two d)=str (dateText y m d):=by
 rw [Jcz,Jcz,Jcz,Jcz];rfl
theorem dformat_yes (i n:Nat) (hi:i<1200) (h:Jjw i n) (w:World) (hg:Good w) :
  Calls prog 222 #[.int .i64 n] w fun e w'=>e=.returned (.tuple #[.string (str (dText i n)),.int .i64 0])∧Below w.heap.size w w':=by
 have C:=Lib.hid (Jwn i n hi h w hg);have hl:=Jsa h;have h1:=h.1;have hr:=(Jed (i / 12) (i % 12)).2;unfold mon at hl;have Y:=Lib.hid (fun w hg=>Jwp (i / 12) (by omega) w hg);have e1:(2000+((i / 12:Nat):Int))=2000+(i:Int) / 12:=by omega
 rw [e1] at Y;have m0:0≤1+(i:Int) % 12:=by omega
 have m1:1+(i:Int) % 12<100:=by omega
 have M:=Lib.hid (fun w=>Jp7 (1+(i:Int) % 12) m0 m1 w);have d0:0≤(n:Int) - bef i+1:=by omega
 have d1:(n:Int) - bef i+1<100:=by omega
 have D:=Lib.hid (fun w=>Jp7 ((n:Int) - bef i+1) d0 d1 w);have E:=Lib.hid (J09 (2000+(i:Int) / 12) (1+(i:Int) % 12) ((n:Int) - bef i+1));have lY:=J08 (2000+(i:Int) / 12);have lM:=Jmx (1+(i:Int) % 12);have lD:=Jmx ((n:Int) - bef i+1);clear h hl h1 hr e1 m0 m1 d0 d1 hi;go_enter func222,ntmps222
 go_wp2_with (go_at_call 296;refine C.out.mono ?_;rintro e w' ⟨rfl,rfl⟩)
 go_wp2_with fail
 refine (Y.out _ hg).mono ?_;rintro e w1 ⟨rfl,b1⟩;go_wp2_with fail
 refine (M.out _).mono ?_;rintro e w2 ⟨rfl,rfl⟩;go_wp2_with fail
 refine (D.out _).mono ?_;rintro e w2 ⟨rfl,rfl⟩;go_wp2_with fail
 go_ret2;exact⟨Jtg E.out,b1⟩
def okD (i:Nat) (c:UInt8):Bool:=if i=4∨i=7 then c==45 else dig c
theorem Jfj (l:List UInt8):fits dayP l=true↔l.length=10∧∀(k:Nat) c,l[k]?=some c→okD k c=true:=by
 rw [fits_iff];constructor
 ·rintro⟨h,hf⟩
  have h:l.length=10:=h;refine⟨h,fun k c hc=>?_⟩;have hk:k<10:=by have:=(List.getElem?_eq_some_iff.1 hc).1;omega
  unfold okD;match k,hk with
  | 0,_ | 1,_ | 2,_ | 3,_ | 5,_ | 6,_ | 8,_ | 9,_=>have:=hf _ 48 c rfl hc;rw [if_neg (by decide)];rwa [Jly] at this
  | 4,_ | 7,_=>have:=hf _ 45 c rfl hc;rw [if_pos (by decide)];rwa [Jlz _ _ (by decide)] at this
 ·rintro⟨h,hf⟩
  refine⟨h,fun k a c ha hc=>?_⟩;have hk:k<10:=by have:=(List.getElem?_eq_some_iff.1 hc).1;omega
  have ho:=hf k c hc;unfold okD at ho;match k,hk,ha with
  | 0,_,ha | 1,_,ha | 2,_,ha | 3,_,ha | 5,_,ha | 6,_,ha | 8,_,ha | 9,_,ha=>cases ha;rw [Jly];rwa [if_neg (by decide)] at ho
  | 4,_,ha | 7,_,ha=>cases ha;rw [Jlz _ _ (by decide)];rwa [if_pos (by decide)] at ho
theorem Jp8 (k:Nat) (c:UInt8) (hk:k=4∨k=7):okD k c=true↔c.toNat=45:=by
 unfold okD;rw [if_pos hk,beq_iff_eq];exact⟨fun h=>by rw [h];rfl,fun h=>UInt8.toNat_inj.1 h⟩
theorem Jhq (k:Nat) (c:UInt8) (hk:¬(k=4∨k=7)):okD k c=true↔48≤c.toNat∧c.toNat≤57:=by
 unfold okD;rw [if_neg hk,Jcd]
theorem Jsd (s:ByteArray) (pos:Nat) (hp:pos≤s.size) (hl:s.size≤6) (hd:digs s.data.toList=true):valN (s.data.toList.take pos)<1000000:=by
 have h1:=Jja _ (Jkt _ pos hd);have h2:(s.data.toList.take pos).length≤6:=Nat.le_trans (List.length_take_le _ _) (by omega);exact Nat.lt_of_lt_of_le h1 (Nat.pow_le_pow_right (by decide) h2)
theorem Jse (s:ByteArray) (hd:digs s.data.toList=true) (hl:s.size≤6) (w:World) :
  Calls prog 319 #[.string s] w fun e w'=>e=.returned (.int .i64 (valN s.data.toList))∧w=w':=by
 have HD:=Lib.hid hd;clear hd;go_enter func319,ntmps319
 go_wp2
 go_loop [3,7] (fun n i=>∃k:Nat,k≤s.size∧n=.int .i64 (valN (s.data.toList.take k))∧i=.int .i64 k) (fun _ i=>s.size - (intOf i).toNat)
 case atStart=>exact⟨0,by omega,rfl,rfl⟩
 case round =>
  obtain⟨k,hk,rfl,rfl⟩:=hrel;by_cases hp:k<s.size
  ·have hc:=Jjb s k hp HD.out
   have hv:=Jsd s k hk hl HD.out;have hs:=Lib.hid (Jks (s.data.toList.take k) s[k]);have ht:=Lib.hid (Je1 s k hp);have kk:=Jd9 s k hp;go_wp2_with fail
   go_round
   case rel=>exact⟨k+1,by omega,by rw [ht.out,hs.out];go_num,by go_num⟩
   case measure=>simp [intOf];omega
  ·have he:=Lib.hid (List.take_of_length_le (l:=s.data.toList) (i:=k) (by simpa using hp))
   go_wp2_with fail
   go_ret;exact⟨by rw [he.out];rfl,rfl⟩
theorem Jga (s:ByteArray) (w:World) :
  Calls prog 317 #[.string s] w fun e w'=>e=.returned (.bool (fits dayP s.data.toList))∧w=w':=by
 by_cases h10:s.size=10
 ·have n10:((s.size:Int) != 10)=false:=by rw [h10];rfl
  have H10:=Lib.hid h10;have HF:=Lib.hid (Jfj s.data.toList);have hs:s.size≤10:=by omega
  clear h10;go_enter func317,ntmps317
  go_wp2_with fail
  go_loop [9] (fun i=>∃k:Nat,k≤s.size∧i=.int .i64 k∧Hid (∀j c,j<k→s.data.toList[j]?=some c→okD j c=true)) (fun i=>s.size - (intOf i).toNat)
  case atStart=>exact⟨0,by omega,rfl,Lib.hid (fun j c hj=>absurd hj (Nat.not_lt_zero _))⟩
  case round =>
   clear n10;obtain⟨k,hk,rfl,ht⟩:=hrel;by_cases hlt:k<s.size
   ·have kk:=Jd9 s k hlt
    cases hx:okD k s[k] with
    | true =>
     have hst:Hid (∀j c,j<k+1→s.data.toList[j]?=some c→okD j c=true):=by
      intro j c hj hl;by_cases hjk:j<k
      ·exact ht.out j c hjk hl
      ·obtain rfl:j=k:=by omega
       rw [Jde s j hlt] at hl;cases hl
       exact hx
     by_cases h47:k=4∨k=7
     ·have hc:=(Jp8 k _ h47).1 hx
      have b3:(((s[k].toNat:Nat):Int) != 45)=false:=by rw [hc];rfl
      clear hx hc;by_cases h4:k=4
      ·have b4:((k:Int)==4)=true:=Jaq (by omega)
       have HH:=Lib.hid h4;clear h4 h47;go_wp2_with fail
       go_round
       case rel=>exact⟨k+1,by omega,by go_num,hst⟩
       case measure=>simp [intOf];omega
      ·have b4:((k:Int)==4)=false:=Jac (by omega)
       have b7:((k:Int)==7)=true:=Jaq (by omega);clear h4 h47;go_wp2_with fail
       go_round
       case rel=>exact⟨k+1,by omega,by go_num,hst⟩
       case measure=>simp [intOf];omega
     ·have hc:=(Jhq k _ h47).1 hx
      have b4:((k:Int)==4)=false:=Jac (by omega);have b7:((k:Int)==7)=false:=Jac (by omega);have c1:¬((s[k].toNat:Nat):Int)<48:=by omega
      have c2:¬(57:Int)<((s[k].toNat:Nat):Int):=by omega
      clear hx h47;go_wp2_with fail
      go_round
      case rel=>exact⟨k+1,by omega,by go_num,hst⟩
      case measure=>simp [intOf];omega
    | false =>
     have hv:fits dayP s.data.toList=false:=by
      cases hv:fits dayP s.data.toList with
      | false=>rfl
      | true=>rw [(HF.out.1 hv).2 k _ (Jde s k hlt)] at hx;cases hx
     have HV:=Lib.hid hv;clear hv;by_cases h47:k=4∨k=7
     ·have b3:(((s[k].toNat:Nat):Int) != 45)=true:=Jae (by
       intro hc;rw [(Jp8 k _ h47).2 (by omega)] at hx;cases hx)
      clear hx;by_cases h4:k=4
      ·have b4:((k:Int)==4)=true:=Jaq (by omega)
       have HH:=Lib.hid h4;clear h4 h47;go_wp2_with fail
       go_ret;exact⟨Jaa HV.out.symm,rfl⟩
      ·have b4:((k:Int)==4)=false:=Jac (by omega)
       have b7:((k:Int)==7)=true:=Jaq (by omega);clear h4 h47;go_wp2_with fail
       go_ret;exact⟨Jaa HV.out.symm,rfl⟩
     ·have hc:¬(48≤s[k].toNat∧s[k].toNat≤57):=by
       intro hc;rw [(Jhq k _ h47).2 hc] at hx;cases hx
      have b4:((k:Int)==4)=false:=Jac (by omega);have b7:((k:Int)==7)=false:=Jac (by omega);clear hx h47;by_cases c1:((s[k].toNat:Nat):Int)<48
      ·clear hc
       go_wp2_with fail
       go_ret;exact⟨Jaa HV.out.symm,rfl⟩
      ·have c2:(57:Int)<((s[k].toNat:Nat):Int):=by omega
       clear hc;go_wp2_with fail
       go_ret;exact⟨Jaa HV.out.symm,rfl⟩
   ·have hv:=HF.out.2 ⟨H10.out,fun j c hl=>ht.out j c (by have:=(List.getElem?_eq_some_iff.1 hl).1;have h9:j<s.size:=this;omega) hl⟩
    have HV:=Lib.hid hv;clear hv;go_wp2_with fail
    go_ret;exact⟨Jaa HV.out.symm,rfl⟩
 ·have n10:((s.size:Int) != 10)=true:=Jae (by omega)
  have hv:=Lib.hid (Jsb dayP s.data.toList h10);clear h10;go_enter func317,ntmps317
  go_wp2_with fail
  go_ret;exact⟨Jaa hv.out.symm,rfl⟩
def vAt (l:List UInt8) (a:Nat):Nat:=if a=0 then val4 l else Jbs l a
theorem Jgb (s:ByteArray) (hf:fits dayP s.data.toList=true) (a n:Nat) (ha:∀i,i<n→¬(a+i=4∨a+i=7)):digs ((s.data.toList.drop a).take n)=true:=by
 obtain⟨-,h⟩:=(Jfj _).1 hf;unfold digs;rw [List.all_eq_true];intro x hx;obtain⟨i,hi⟩:=List.mem_iff_getElem?.1 hx;have hi2:i<n:=by
  have:=(List.getElem?_eq_some_iff.1 hi).1;simp at this;omega
 rw [List.getElem?_take_of_lt hi2,List.getElem?_drop] at hi;exact (Jcd _).2 ((Jhq _ _ (ha i hi2)).1 (h _ _ hi))
theorem Jnw (s:ByteArray) (a b n:Nat) (hb:b=a+n) (hn:n≤4) (hd:digs ((s.data.toList.drop a).take n)=true) (w:World) :
  Calls prog 319 #[.string (s.extract a b)] w fun e w'=>e=.returned (.int .i64 (valN ((s.data.toList.drop a).take n)))∧w=w':=by
 subst hb;have he:(s.extract a (a+n)).data.toList=(s.data.toList.drop a).take n:=by rw [Lib.extract_data];congr 1;omega
 have h:=Jse (s.extract a (a+n)) (by rw [he];exact hd) (by simp;omega) w;rw [he] at h;exact h
theorem Jl3 (s:ByteArray) (hf:fits dayP s.data.toList=true) (a b:Nat) (h:(a=0∧b=4)∨(a=5∧b=7)∨(a=8∧b=10)) (w:World) :
  Calls prog 319 #[.string (s.extract a b)] w fun e w'=>e=.returned (.int .i64 (vAt s.data.toList a))∧w=w':=by
 rcases h with ⟨rfl,rfl⟩ | ⟨rfl,rfl⟩ | ⟨rfl,rfl⟩
 ·exact Jnw s 0 4 4 rfl (by decide) (Jgb s hf 0 4 (by omega)) w
 ·exact Jnw s 5 7 2 rfl (by decide) (Jgb s hf 5 2 (by omega)) w
 ·exact Jnw s 8 10 2 rfl (by decide) (Jgb s hf 8 2 (by omega)) w
theorem Jsf (s:ByteArray) (hf:fits dayP s.data.toList=true) (hp:Jee (vAt s.data.toList 0) (vAt s.data.toList 5) (vAt s.data.toList 8)) (w:World) (hg:Good w) :
  Calls prog 253 #[.string s] w fun e w'=>e=.returned (.tuple #[.int .i64 (dayOf (vAt s.data.toList 0) (vAt s.data.toList 5) (vAt s.data.toList 8)),.int .i64 0])∧Below w.heap.size w w':=by
 have h10:s.size=10:=((Jfj _).1 hf).1;have HD:=Lib.hid (fun w=>Jga s w);rw [hf] at HD;have HF:=Lib.hid hf;have HP:=Lib.hid hp;clear hf hp;have i4:(4:Int)≤(s.size:Int):=by omega
 have i7:(7:Int)≤(s.size:Int):=by omega
 have i10:(10:Int)≤(s.size:Int):=by omega
 have b0:=Below.refl w.heap.size w;clear h10;go_enter func253,ntmps253
 go_wp2_with fail
 refine (HD.out _).mono ?_;rintro e w1 ⟨rfl,rfl⟩;go_wp2_with fail
 go_region_held3 (fun _=>True) (exact trivial) (first | (go_at_call 319;refine (rel (W:=w) (Jm0 (Jl3 s HF.out _ _ (by omega) _)) (by first | assumption | (apply Below.drew;assumption))).mono ?_;rintro e wa ⟨rfl,ba⟩) | (go_at_call 318;refine (rel (W:=w) (Jm0 (Jjy _ _ _ HP.out _ (hg.below (by first | assumption | (apply Below.drew;assumption))))) (by first | assumption | (apply Below.drew;assumption))).mono ?_;rintro e wd ⟨rfl,bd⟩))
 go_wp2_with fail
 go_ret2;exact⟨rfl,by assumption⟩
theorem Jnx (s:ByteArray) (hf:fits dayP s.data.toList=true) (hp:¬Jee (vAt s.data.toList 0) (vAt s.data.toList 5) (vAt s.data.toList 8)) (w:World) (hg:Good w) :
  Calls prog 253 #[.string s] w fun e w'=>e=.returned (.tuple #[.int .i64 0,.int .i64 11])∧Below w.heap.size w w':=by
 have h10:s.size=10:=((Jfj _).1 hf).1;have HD:=Lib.hid (fun w=>Jga s w);rw [hf] at HD;have HF:=Lib.hid hf;have HP:=Lib.hid hp;clear hf hp;have i4:(4:Int)≤(s.size:Int):=by omega
 have i7:(7:Int)≤(s.size:Int):=by omega
 have i10:(10:Int)≤(s.size:Int):=by omega
 have b0:=Below.refl w.heap.size w;clear h10;go_enter func253,ntmps253
 go_wp2_with fail
 refine (HD.out _).mono ?_;rintro e w1 ⟨rfl,rfl⟩;go_wp2_with fail
 go_region_held3 (fun _=>True) (exact trivial) (first | (go_at_call 319;refine (rel (W:=w) (Jm0 (Jl3 s HF.out _ _ (by omega) _)) (by first | assumption | (apply Below.drew;assumption))).mono ?_;rintro e wa ⟨rfl,ba⟩) | (go_at_call 318;refine (rel (W:=w) (Jm0 (Jl2 _ _ _ HP.out _ (hg.below (by first | assumption | (apply Below.drew;assumption))))) (by first | assumption | (apply Below.drew;assumption))).mono ?_;rintro e wd ⟨rfl,bd⟩))
 go_wp2_with fail
 go_ret2;exact⟨rfl,by assumption⟩
theorem Jjz (s:ByteArray) (hf:fits dayP s.data.toList=false) (w:World) :
  Calls prog 253 #[.string s] w fun e w'=>e=.returned (.tuple #[.int .i64 0,.int .i64 3])∧w=w':=by
 have HD:=Lib.hid (Jga s w);rw [hf] at HD;clear hf;go_enter func253,ntmps253
 go_wp2_with fail
 refine HD.out.mono ?_;rintro e w1 ⟨rfl,rfl⟩;go_wp2_with fail
 go_ret2;exact⟨rfl,rfl⟩
theorem dparse_any (s:ByteArray) (w:World) (hg:Good w) :
  Calls prog 253 #[.string s] w fun e w'=>e=.returned (.tuple #[.int .i64 (dayR s.data.toList).1,.int .i64 (dayR s.data.toList).2])∧Below w.heap.size w w':=by
 cases hf:fits dayP s.data.toList with
 | false=>rw [Jnv _ hf];exact Jm0 (Jjz s hf w)
 | true =>
  by_cases hp:Jee (val4 s.data.toList) (Jbs s.data.toList 5) (Jbs s.data.toList 8)
  ·rw [J05 _ hf hp];exact Jsf s hf hp w hg
  ·rw [Jwk _ hf hp];exact Jnx s hf hp w hg
end S2
section
open Go
theorem Jp9 (s:ByteArray) (pos:Nat):∀j,1≤j→j<(Utf8.decode s pos).2→pos+j<s.size∧(s.get! (pos+j)).toNat / 64=2:=by
 intro j h1 h2;simp only [Utf8.decode] at h2;split at h2
 ·omega
 ·split at h2
  ·next h =>
   split at h2
   ·have:j=1:=by simp at h2;omega
    subst this;simp at h;exact h.2
   ·simp at h2;omega
  ·split at h2
   ·next h =>
    split at h2
    ·have:j=1∨j=2:=by simp at h2;omega
     simp at h;rcases this with rfl | rfl
     ·exact h.1.2
     ·exact h.2
    ·simp at h2;omega
   ·split at h2
    ·next h =>
     split at h2
     ·have:j=1∨j=2∨j=3:=by simp at h2;omega
      simp at h;rcases this with rfl | rfl | rfl
      ·exact h.1.1.2
      ·exact h.1.2
      ·exact h.2
     ·simp at h2;omega
    ·simp at h2;omega
theorem Jwq (s:ByteArray) (pos j:Nat) (h1:1≤j) (h2:j<(Utf8.decode s pos).2):∃c,s.data.toList[pos+j]?=some c∧128≤c.toNat:=by
 obtain⟨h3,h4⟩:=Jp9 s pos j h1 h2;refine⟨s[pos+j],?_,?_⟩
 ·rw [List.getElem?_eq_getElem (by simpa using h3)];rfl
 ·have:=get_at s (pos+j) h3
  rw [Nat.add_zero] at this;rw [this] at h4;omega
theorem Jwr (s:ByteArray) (pos:Nat) (h:pos<s.size):pos+(Utf8.decode s pos).2≤s.size:=by
 rcases Nat.lt_or_ge 1 (Utf8.decode s pos).2 with hk | hk
 ·have:=(Jp9 s pos ((Utf8.decode s pos).2 - 1) (by omega) (by omega)).1
  omega
 ·omega
theorem Jl4 (p:UInt8→Bool) (hp:∀c:UInt8,128≤c.toNat→p c=true) (s:ByteArray) (pos:Nat) (h:pos<s.size) (ha:128≤s[pos].toNat) (ht:(s.data.toList.take pos).all p=true) :
  (s.data.toList.take (pos+(Utf8.decode s pos).2)).all p=true:=by
 rw [List.all_eq_true] at *;intro c hc;obtain⟨i,hi⟩:=List.mem_iff_getElem?.1 hc;rw [List.getElem?_take] at hi;split at hi
 ·next hlt =>
  rcases Nat.lt_or_ge i pos with h1 | h1
  ·exact ht c (List.mem_iff_getElem?.2 ⟨i,by rw [List.getElem?_take,if_pos h1];exact hi⟩)
  ·by_cases he:i=pos
   ·subst he
    rw [List.getElem?_eq_getElem (by simpa using h)] at hi;obtain rfl:=Option.some.inj hi;exact hp _ ha
   ·obtain⟨d,hd,h128⟩:=Jwq s pos (i - pos) (by omega) (by omega)
    rw [show pos+(i - pos)=i by omega] at hd;rw [hd] at hi;obtain rfl:=Option.some.inj hi;exact hp _ h128
 ·cases hi
end
end Go.Proofs.YtpifdbphmnifdaaGreatDoor
