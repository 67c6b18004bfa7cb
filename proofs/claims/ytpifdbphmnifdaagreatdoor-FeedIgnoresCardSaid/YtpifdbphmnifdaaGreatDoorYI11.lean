/-
  Facts of the proof. Condition: each theorem's own.
-/
import Derived.Test.YtpifdbphmnifdaaGreatDoorYI10
set_option maxRecDepth 100000
set_option maxHeartbeats 8000000
open Go.Proofs.Tryz
namespace Go.Proofs.YtpifdbphmnifdaaGreatDoor
section
open Go
def noV (x:Tp):List UInt8×Int×Int×Bool×List Cl:=(x.1,x.2.1,x.2.2.1,x.2.2.2.1,x.2.2.2.2.2)
structure CopT (T U:Tt):Prop where
 st:U.st=T.st
 ro:U.ro=T.ro
 ca:U.ca=T.ca
 ex:U.ex=T.ex
 tr:U.tr.map noV=T.tr.map noV
 fr:U.fr=T.fr
 th:U.th=T.th
 gu:U.gu=T.gu
 pa:U.pa=T.pa
 pr:U.pr=T.pr
 di:U.di=T.di
 wi:U.wi=T.wi
 cp:U.cp=T.cp
theorem J6x {x y:Tp} (h:noV x=noV y):eTr x y=true:=by
 obtain⟨a,b,c,d,v,l⟩:=x;obtain⟨a',b',c',d',v',l'⟩:=y;simp only [noV,Prod.mk.injEq] at h;obtain⟨rfl,rfl,rfl,rfl,rfl⟩:=h;unfold eTr;rw [decide_eq_true ⟨rfl,rfl,rfl,rfl⟩];exact Jcr J6u
theorem Jp1 {l m:List Tp} (h:l.map noV=m.map noV):eqB eTr l m=true:=by
 have hl:l.length=m.length:=by have:=congrArg List.length h;simpa using this
 refine Jdn hl (fun j x y _ hx hy=>J6x ?_);have h1:(l.map noV)[j]?=some (noV x):=by rw [List.getElem?_map,hx];rfl
 have h2:(m.map noV)[j]?=some (noV y):=by rw [List.getElem?_map,hy];rfl
 rw [h,h2] at h1;exact (Option.some.inj h1).symm
theorem J6y {l m:List Tp} (h:l.map noV=m.map noV):l.map clT=m.map clT:=by
 have e:clT=(fun z:List UInt8×Int×Int×Bool×List Cl=>z.2.2.2.2) ∘ noV:=rfl;rw [e,←List.map_map,←List.map_map,h]
theorem CopT.eq {T U:Tt} (h:CopT T U):eqT U T=true:=by
 have ht:=Jp1 h.tr;have r:=J0t T;unfold eqT at r ⊢;unfold hdT tlT at r ⊢;rw [h.st,h.ro,h.ca,h.ex,h.fr,h.th,h.gu,h.pa,h.pr,h.di,h.wi,h.cp,ht];rw [Jp1 rfl] at r;exact r
theorem Jwc {κ α β:Type} {bad:List κ→α→Int} {key:α→κ} {bad':List κ→β→Int} {key':β→κ} {f:α→β} (h1:∀seen x,bad' seen (f x)=bad seen x) (h2:∀x,key' (f x)=key x):∀(l:List α) (seen:List κ) (k:Nat),fbF bad' key' seen k (l.map f)=fbF bad key seen k l
 | [],_,_=>rfl
 | x::l,seen,k=>by
  rw [List.map_cons];unfold fbF;rw [h1,h2,Jwc h1 h2 l]
def badV (st ro ca:Int) (seen:List Bs) (x:Bs×Int×Int×Bool×List Cl):Int:=if Jak x.1=false then 12 else if x.1∈seen then 6 else if S17.rkT ro ca x.2.1 x.2.2.1 then (chkC st 0 172800 x.2.2.2.2).2 else 9
theorem chkV (st ro ca:Int) (l:List Tp):S17.chkT st ro ca l=if 256<(l.map noV).length then (0,5) else fbF (badV st ro ca) (fun x=>x.1) [] 0 (l.map noV):=by
 unfold S17.chkT;rw [List.length_map,Jwc (bad:=S17.badT st ro ca) (key:=S17.idT) (bad':=badV st ro ca) (key':=fun x=>x.1) (f:=noV) (fun _ _=>rfl) (fun _=>rfl)]
theorem J31 {l m:List Tp} (h:l.map noV=m.map noV):l.map S19.tcT=m.map S19.tcT:=by
 have e:S19.tcT=(fun z:Bs×Int×Int×Bool×List Cl=>(z.2.2.1,z.2.2.2.2)) ∘ noV:=rfl;rw [e,←List.map_map,←List.map_map,h]
theorem CopT.part {T U:Tt} (h:CopT T U):Jav U=Jav T:=by
 funext j
 match j with
 | 0=>show S13.chkT U.st=_;rw [h.st];rfl
 | 1=>show chkR U.ro=_;rw [h.ro];rfl
 | 2=>show S14.chkC U.ca=_;rw [h.ca];rfl
 | 3=>show S14.chkX U.ca.length U.ex=_;rw [h.ca,h.ex];rfl
 | 4=>show S17.chkT U.st.length U.ro.length U.ca.length U.tr=S17.chkT T.st.length T.ro.length T.ca.length T.tr;rw [h.st,h.ro,h.ca,chkV,chkV,h.tr]
 | 5=>show chkF (U.tr.map clT) U.fr=_;rw [J6y h.tr,h.fr];rfl
 | 6=>show S19.chkH (U.tr.map S19.tcT) U.fr U.th=_;rw [J31 h.tr,h.fr,h.th];rfl
 | 7=>show S19.chkU (U.tr.map S19.tcT) U.fr U.st.length U.gu=_;rw [J31 h.tr,h.fr,h.st,h.gu];rfl
 | 8=>show S20.chkP U.st.length U.pa=_;rw [h.st,h.pa];rfl
 | 9=>show S21.chkPd U.di U.wi U.cp U.pr=_;rw [h.di,h.wi,h.cp,h.pr];rfl
 | n+10=>rfl
theorem CopT.ttC {T U:Tt} (h:CopT T U):Go.Proofs.YtpifdbphmnifdaaGreatDoor.ttC U=Go.Proofs.YtpifdbphmnifdaaGreatDoor.ttC T:=by unfold Go.Proofs.YtpifdbphmnifdaaGreatDoor.ttC;rw [h.part]
def bTrV (F:Fm) (T:Tt) (x:Bs×Int×Int×Bool×List Cl):List (List Bs):=[wTr,x.1,atI (Jcc T) x.2.1,atI (Jbn T) x.2.2.1,flgT x.2.2.2.1]::x.2.2.2.2.map (rCc F T)
theorem J97 (F:Fm) (T:Tt) (l:List Tp):l.flatMap (bTr F T)=(l.map noV).flatMap (bTrV F T):=by rw [List.flatMap_map];rfl
theorem J6z {T U:Tt} (h:CopT T U):Jbh U=Jbh T:=by
 unfold Jbh;have e:(fun x:Tp=>x.1)=(fun z:Bs×Int×Int×Bool×List Cl=>z.1) ∘ noV:=rfl;rw [e,←List.map_map,←List.map_map,h.tr]
theorem CopT.rows {T U:Tt} (F:Fm) (h:CopT T U):Go.Proofs.YtpifdbphmnifdaaGreatDoor.rows F U=Go.Proofs.YtpifdbphmnifdaaGreatDoor.rows F T:=by
 have i0:Ja8 U=Ja8 T:=by unfold Ja8;rw [h.st]
 have i1:Jcc U=Jcc T:=by unfold Jcc;rw [h.ro]
 have i2:Jbn U=Jbn T:=by unfold Jbn;rw [h.ca]
 have i3:=J6z h;have c0:rEx F U=rEx F T:=by funext x;unfold rEx;rw [i2]
 have c1:rCc F U=rCc F T:=by funext x;unfold rCc;rw [i0]
 have c2:bTrV F U=bTrV F T:=by funext x;unfold bTrV;rw [i1,i2,c1]
 have c3:rFr F U=rFr F T:=by funext x;unfold rFr;rw [i3]
 have c4:rTh U=rTh T:=by funext x;unfold rTh;rw [i3]
 have c5:rGu U=rGu T:=by funext x;unfold rGu;rw [i3,i0]
 have c6:rPa F U=rPa F T:=by funext x;unfold rPa;rw [i0]
 have c7:rFa F U=rFa F T:=by unfold rFa;rw [h.di,h.wi,h.cp]
 unfold Go.Proofs.YtpifdbphmnifdaaGreatDoor.rows;rw [J97,J97,h.tr,c0,c2,c3,c4,c5,c6,c7,h.st,h.ro,h.ca,h.ex,h.fr,h.th,h.gu,h.pa,h.pr]
theorem CopT.feedF {T U:Tt} (F:Fm) (h:CopT T U):Go.Proofs.YtpifdbphmnifdaaGreatDoor.feedF F U=Go.Proofs.YtpifdbphmnifdaaGreatDoor.feedF F T:=by unfold Go.Proofs.YtpifdbphmnifdaaGreatDoor.feedF Jnq;rw [h.ttC,h.rows F]
def Jc7 (s:Bs):Nat:=s.countP (·==10)
theorem Jjr {l:Bs} (h:∀b∈l,b≠10):Jc7 l=0:=by
 unfold Jc7;rw [List.countP_eq_zero];intro b hb;simpa using h b hb
theorem Jjs:∀(ls:List Bs),(∀l∈ls,∀b∈l,b≠10)→Jc7 (Jag ls)=ls.length
 | [],_=>rfl
 | x::ls,h=>by
  have e:Jag (x::ls)=x++[10]++Jag ls:=rfl;have ih:=Jjs ls (fun l hl=>h l (List.mem_cons_of_mem _ hl));have hx:=Jjr (h x List.mem_cons_self);unfold Jc7 at ih hx ⊢;rw [e,List.countP_append,List.countP_append,ih,hx];simp;omega
theorem Jp2:∀(A:List Bs),(∀l∈A,∀b∈l,b≠10)→∀j,j<(Jag A).length→Jc7 ((Jag A).take j)<A.length
 | [],_,j,h=>by simp [Jag] at h
 | x::A,hA,j,h=>by
  have e:Jag (x::A)=(x++[10])++Jag A:=rfl;rw [e] at h ⊢;have hx:=hA x List.mem_cons_self;by_cases hj:j≤x.length
  ·rw [List.take_append_of_le_length (by simp;omega),List.take_append_of_le_length hj]
   rw [Jjr (fun b hb=>hx b (List.mem_of_mem_take hb))];simp
  ·rw [List.take_append,List.take_of_length_le (by simp;omega)]
   have la:(x++[10]).length=x.length+1:=by simp
   have ih:=Jp2 A (fun l hl=>hA l (List.mem_cons_of_mem _ hl)) (j - (x++[10]).length) (by rw [List.length_append] at h;omega);have h0:=Jjr hx;unfold Jc7 at ih h0 ⊢;rw [List.countP_append,List.countP_append,h0];simp only [List.length_cons];simp at ih ⊢;omega
theorem Jhn (A B:List Bs):Jag (A++B)=Jag A++Jag B:=by unfold Jag;rw [List.flatMap_append]
theorem Jwd {s:Bs} (h:s≠[]) (h10:s[s.length - 1]?=some 10) (hl:s.length≤65536):linR s=((cutL s).1,0)∧Jag (cutL s).1=s∧∀l∈(cutL s).1,∀b∈l,b≠10:=by
 have e:s=s.dropLast++[10]:=by
  have h1:s.getLast?=some 10:=by rw [List.getLast?_eq_getElem?];exact h10
  have h2:=List.dropLast_concat_getLast h;rw [List.getLast?_eq_some_getLast h] at h1;rw [Option.some.inj h1] at h2;exact h2.symm
 have h2:(cutL s).2=[]:=by rw [e,Jfc]
 refine⟨?_,?_,?_⟩
 ·unfold linR
  rw [if_neg (by omega),if_neg h,if_pos h10]
 ·have:=Jlo s.length s rfl
  rw [h2,List.append_nil] at this;exact this
 ·have key:∀(n:Nat) (l:Bs),l.length=n→(∀x∈(cutL l).1,∀b∈x,b≠10)∧∀b∈(cutL l).2,b≠10:=by
   intro n;induction n with
   | zero =>
    intro l hl;have:l=[]:=List.eq_nil_of_length_eq_zero hl;subst this;exact⟨fun x hx=>by simp [Jpx] at hx,fun b hb=>by simp [Jpx] at hb⟩
   | succ n ih =>
    intro l hl;have hne:l≠[]:=fun e=>by rw [e] at hl;cases hl
    have e2:=List.dropLast_concat_getLast hne;generalize l.getLast hne=c at e2;have hd:l.dropLast.length=n:=by rw [List.length_dropLast];omega
    generalize l.dropLast=d at e2 hd;subst e2;obtain⟨i1,i2⟩:=ih d hd;by_cases hc:c=10
    ·subst hc
     rw [Jfc];refine⟨fun x hx=>?_,fun b hb=>by cases hb⟩;rcases List.mem_append.1 hx with hx | hx
     ·exact i1 x hx
     ·have:x=(cutL d).2:=by simpa using hx
      subst this;exact i2
    ·rw [Jln d c hc]
     refine⟨i1,fun b hb=>?_⟩;rcases List.mem_append.1 hb with hb | hb
     ·exact i2 b hb
     ·have:b=c:=by simpa using hb
      subst this;exact hc
  exact (key s.length s rfl).1
def okAt (i:Nat) (c:UInt8):Bool:=if i=2∨i=5 then c==58 else dig c
def Jbw (l:List UInt8):Bool:=decide (l.length=8)&&l.zipIdx.all fun x=>okAt x.2 x.1
theorem Jf7 (l:List UInt8) (h:Jbw l=true):l.length=8∧∀(k:Nat) c,l[k]?=some c→okAt k c=true:=by
 unfold Jbw at h;simp only [Bool.and_eq_true,decide_eq_true_eq,List.all_eq_true] at h;exact⟨h.1,fun k c hk=>h.2 (c,k) (List.mem_zipIdx_iff_getElem?.2 hk)⟩
theorem J60 (l:List UInt8) (h8:l.length=8) (h:∀(k:Nat) c,l[k]?=some c→okAt k c=true):Jbw l=true:=by
 unfold Jbw;simp only [Bool.and_eq_true,decide_eq_true_eq,List.all_eq_true];exact⟨h8,fun x hx=>h x.2 x.1 (List.mem_zipIdx_iff_getElem?.1 hx)⟩
theorem Jiv (k:Nat) (c:UInt8) (hk:k=2∨k=5):okAt k c=true↔c.toNat=58:=by
 unfold okAt;rw [if_pos hk,beq_iff_eq];exact⟨fun h=>by rw [h];rfl,fun h=>UInt8.toNat_inj.1 h⟩
theorem Jf8 (k:Nat) (c:UInt8) (hk:¬(k=2∨k=5)):okAt k c=true↔48≤c.toNat∧c.toNat≤57:=by
 unfold okAt;rw [if_neg hk,Jcd]
def posD (l:List UInt8):Bool:=!l.isEmpty&&!(l[0]?==some 48)&&digs l
def Jbt (l:List UInt8):Bool:=decide (l.length=2)&&digs l&&decide (valN l<60)
def Jcw (l:List UInt8):Bool:=posD l&&decide (l.length≤2)&&decide (valN l<60)
theorem Jdb (l:List UInt8):posD l=true↔l≠[]∧l[0]?≠some 48∧digs l=true:=by
 unfold posD;simp [and_assoc]
theorem Jcy (l:List UInt8):Jbt l=true↔l.length=2∧digs l=true∧valN l<60:=by
 unfold Jbt;simp [and_assoc]
theorem Jdo (l:List UInt8):Jcw l=true↔posD l=true∧l.length≤2∧valN l<60:=by
 unfold Jcw;simp [and_assoc]
def Jdp (c:UInt8) (l:List UInt8):List UInt8:=l.takeWhile (· != c)
def after (c:UInt8) (l:List UInt8):List UInt8:=(l.dropWhile (· != c)).drop 1
theorem Jp3 (c:UInt8) (post:List UInt8):∀pre:List UInt8,c ∉ pre→Jdp c (pre++c::post)=pre∧after c (pre++c::post)=post
 | [],_=>by simp [Jdp,after]
 | b::l,h=>by
  have hb:(b != c)=true:=by rw [bne_iff_ne];rintro rfl;exact h (by simp)
  have ih:=Jp3 c post l (fun hx=>h (by simp [hx]));unfold Jdp after at *;simp [hb,ih]
theorem Jjt (c:UInt8) (l:List UInt8) (h:c∈l):∃pre post,l=pre++c::post∧c ∉ pre∧Jdp c l=pre∧after c l=post:=by
 obtain⟨pre,post,rfl,hn⟩:=List.eq_append_cons_of_mem h;exact⟨pre,post,rfl,hn,Jp3 c post pre hn⟩
def Jff (H T:List UInt8):Int×Int :=
 if 109∈T∧Jbt (Jdp 109 T)=true∧Jbt (after 109 T)=true∧posD H=true then
  if 2<H.length then (0,2) else ((valN H:Int)*3600+(valN (Jdp 109 T):Int)*60+(valN (after 109 T):Int),0)
 else (0,3)
def Jd2 (M S:List UInt8):Int×Int :=
 if Jcw M=true∧Jbt S=true then ((valN M:Int)*60+(valN S:Int),0) else (0,3)
def Jho (r:List UInt8):Int×Int :=
 if 104∈r then Jff (Jdp 104 r) (after 104 r)
 else if 109∈r then Jd2 (Jdp 109 r) (after 109 r)
 else if r=[48] then (0,0)
 else if Jcw r=true then ((valN r:Int),0) else (0,3)
def durR (l:List UInt8):Int×Int:=if List.isSuffixOf [115] l=true then Jho l.dropLast else (0,3)
def Jg3 (t:Int):List UInt8:=two (t / 3600)++[58]++two (t % 3600 / 60)++[58]++two (t % 60)
def Jdg (n:Int):List UInt8 :=
 if 3600≤n then dec (n / 3600)++[104]++two (n % 3600 / 60)++[109]++two (n % 60)++[115]
 else if 60≤n then dec (n % 3600 / 60)++[109]++two (n % 60)++[115]
 else dec (n % 60)++[115]
def Jic (h m s:Int):Prop:=0≤h∧h≤48∧0≤m∧m<60∧0≤s∧s<60∧h*3600+m*60+s≤172800
instance (h m s:Int):Decidable (Jic h m s):=by unfold Jic;infer_instance
def Jr4 (l:List UInt8):Int×Int :=
 if Jbw l=true then
  if Jic (Jbs l 0) (Jbs l 3) (Jbs l 6) then ((Jbs l 0:Int)*3600+(Jbs l 3:Int)*60+(Jbs l 6:Int),0) else (0,10)
 else (0,3)
theorem Jlu (l:List UInt8) (h:List.isSuffixOf [115] l=true):∃r,l=r++[115]∧l.dropLast=r:=by
 rw [List.isSuffixOf_iff_suffix] at h;obtain⟨r,rfl⟩:=h;exact⟨r,rfl,by simp⟩
open Go.RowKit
theorem Jlv (t:Int) (h0:0≤t) (h1:t≤172800) (w:World) :
  Calls prog 344 #[.int .i64 t] w fun e w'=>e=.returned (.bool true)∧w=w':=by
 go_enter func344,ntmps344
 go_wp2
 go_ret;exact⟨rfl,rfl⟩
theorem J0w (t:Int) (h:t<0∨172800<t) (w:World) :
  Calls prog 344 #[.int .i64 t] w fun e w'=>e=.returned (.bool false)∧w=w':=by
 rcases h with h | h
 ·go_enter func344,ntmps344
  go_wp2
  go_ret;exact⟨rfl,rfl⟩
 ·have h0:0≤t:=by omega
  have hd:decide (t≤172800)=false:=by simp;omega
  go_enter func344,ntmps344
  go_wp2
  go_ret;exact⟨rfl,rfl⟩
theorem Jek (t:Int) (h0:0≤t) (h1:t≤359999) (w:World) :
  Calls prog 302 #[.int .i64 t] w fun e w'=>e=.returned (.tuple #[.int .i64 (t / 3600),.int .i64 (t % 3600 / 60),.int .i64 (t % 60)])∧w=w':=by
 go_enter func302,ntmps302
 go_wp2
 go_ret3
 exact⟨rfl,rfl⟩
theorem Jd3 (h m s:Int) (h0:0≤h) (h1:h≤99) (m0:0≤m) (m1:m≤99) (s0:0≤s) (s1:s≤99) (w:World) :
  Calls prog 354 #[.int .i64 h,.int .i64 m,.int .i64 s] w fun e w'=>e=.returned (.int .i64 (h*3600+m*60+s))∧w=w':=by
 go_enter func354,ntmps354
 go_wp2
 go_ret;exact⟨rfl,rfl⟩
theorem Jcn (n:Int) (h0:0≤n) (h1:n<60) (w:World) :
  Calls prog 353 #[.int .i64 n] w fun e w'=>e=.returned (.bool true)∧w=w':=by
 go_enter func353,ntmps353
 go_wp2
 go_ret;exact⟨rfl,rfl⟩
theorem Jd4 (n:Int) (h:n<0∨60≤n) (w:World) :
  Calls prog 353 #[.int .i64 n] w fun e w'=>e=.returned (.bool false)∧w=w':=by
 rcases h with h | h
 ·go_enter func353,ntmps353
  go_wp2
  go_ret;exact⟨rfl,rfl⟩
 ·have h0:0≤n:=by omega
  have hd:decide (n<60)=false:=by simp;omega
  go_enter func353,ntmps353
  go_wp2
  go_ret;exact⟨rfl,rfl⟩
theorem Jwe (t:Int) (h0:0≤t) (h1:t≤172800) (w:World) :
  Calls prog 299 #[.int .i64 t] w fun e w'=>e=.returned (.tuple #[.int .i64 (t / 3600),.int .i64 (t % 3600 / 60),.int .i64 (t % 60),.bool true])∧w=w':=by
 go_enter func299,ntmps299
 go_wp2_with (first | (go_at_call 344;refine (Jlv _ (by omega) (by omega) _).mono ?_;rintro e w' ⟨rfl,rfl⟩) | (go_at_call 302;refine (Jek _ (by omega) (by omega) _).mono ?_;rintro e w' ⟨rfl,rfl⟩))
 refine bodyPost_ret (Jgl rfl _ _ _) rfl ?_;exact⟨rfl,rfl⟩
theorem J0x (h m s:Int) (hp:Jic h m s) (w:World) :
  Calls prog 321 #[.int .i64 h,.int .i64 m,.int .i64 s] w fun e w'=>e=.returned (.tuple #[.int .i64 (h*3600+m*60+s),.bool true])∧w=w':=by
 obtain⟨h0,h1,m0,m1,s0,s1,ht⟩:=hp;go_enter func321,ntmps321
 go_wp2_with (first | (go_at_call 353;refine (Jcn _ (by omega) (by omega) _).mono ?_;rintro e w' ⟨rfl,rfl⟩) | (go_at_call 354;refine (Jd3 _ _ _ (by omega) (by omega) (by omega) (by omega) (by omega) (by omega) _).mono ?_;rintro e w' ⟨rfl,rfl⟩) | (go_at_call 344;refine (Jlv _ (by omega) (by omega) _).mono ?_;rintro e w' ⟨rfl,rfl⟩))
 go_ret2;exact⟨rfl,rfl⟩
theorem J61 (h m s:Int) (hp:¬Jic h m s) (w:World) :
  Calls prog 321 #[.int .i64 h,.int .i64 m,.int .i64 s] w fun e w'=>e=.returned (.tuple #[.int .i64 0,.bool false])∧w=w':=by
 unfold Jic at hp;by_cases h0:h<0
 ·go_enter func321,ntmps321
  go_wp2_with fail
  go_ret2;exact⟨rfl,rfl⟩
 by_cases h1:48<h
 ·go_enter func321,ntmps321
  go_wp2_with fail
  go_ret2;exact⟨rfl,rfl⟩
 by_cases hm:m<0∨60≤m
 ·go_enter func321,ntmps321
  go_wp2_with (go_at_call 353;refine (Jd4 _ (by omega) _).mono ?_;rintro e w' ⟨rfl,rfl⟩)
  go_ret2;exact⟨rfl,rfl⟩
 by_cases hs:s<0∨60≤s
 ·go_enter func321,ntmps321
  go_wp2_with (first | (go_at_call 353;refine (Jcn _ (by omega) (by omega) _).mono ?_;rintro e w' ⟨rfl,rfl⟩) | (go_at_call 353;refine (Jd4 _ (by omega) _).mono ?_;rintro e w' ⟨rfl,rfl⟩))
  go_ret2;exact⟨rfl,rfl⟩
 ·go_enter func321,ntmps321
  go_wp2_with (first | (go_at_call 353;refine (Jcn _ (by omega) (by omega) _).mono ?_;rintro e w' ⟨rfl,rfl⟩) | (go_at_call 354;refine (Jd3 _ _ _ (by omega) (by omega) (by omega) (by omega) (by omega) (by omega) _).mono ?_;rintro e w' ⟨rfl,rfl⟩) | (go_at_call 344;refine (J0w _ (by omega) _).mono ?_;rintro e w' ⟨rfl,rfl⟩))
  go_ret2;exact⟨rfl,rfl⟩
theorem join_flat (xs:List (List UInt8)):Lib.join xs []=xs.flatten:=by
 simp [Lib.join,List.intercalate];induction xs with
 | nil=>rfl
 | cons a t ih=>cases t <;> simp_all [List.intersperse]
theorem Jr5 (bk c:Nat) (xs:List ByteArray) (w:World) (hcells:∀(j:Nat) x,xs[j]?=some x→w.cell? ⟨bk,0+j,none⟩=some (.string x)) (hbk:bk<w.heap.size)
  (hN:xs.length≤100) (hcap:xs.length≤c) (hlen:(xs.map (·.data.toList)).flatten.length≤1000) :
  Calls prog 300 #[.slice (some ⟨bk,0,none⟩) xs.length c] w fun e w'=>e=.returned (.string (str (xs.map (·.data.toList)).flatten))∧Below w.heap.size w w':=by
 have hj:=Tryz.strings_Join bk 0 c xs ⟨#[]⟩ w hcells hbk (by omega) hcap (by show (Lib.join _ []).length≤_;rw [join_flat];omega);have he:Lib.join (xs.map (·.data.toList)) (⟨#[]⟩:ByteArray).data.toList=(xs.map (·.data.toList)).flatten:=join_flat _;rw [he] at hj;have H:=Lib.hid hj;clear hj he hcells hlen;go_enter func300,ntmps300
 go_wp2_with (go_at_call 133;refine H.out.mono ?_;rintro e w' ⟨rfl,hb⟩)
 go_ret;exact⟨rfl,hb⟩
theorem Jfg (x:Int) (h0:0≤x) (h1:x<100) (w:World) :
  Calls prog 297 #[.int .i64 x] w fun e w'=>e=.returned (.string (str (dec x)))∧w=w':=by
 obtain⟨n,rfl⟩:∃n:Nat,x=n:=⟨x.toNat,by omega⟩;exact (Tryz.strconv_Itoa_small n (by omega) w).mono fun _ _ ⟨he,hw⟩=>⟨he,hw.symm⟩
theorem Jju (xs:List (List UInt8)) (hN:xs.length≤100) (hlen:xs.flatten.length≤1000) (w:World) :
  Calls prog 300 #[.slice (some ⟨w.heap.size,0,none⟩) xs.length xs.length] (w.alloc (.cells (xs.map fun l=>Value.string (str l)).toArray 9)) fun e w'=>e=.returned (.string (str xs.flatten))∧Below w.heap.size w w':=by
 have hm:(xs.map str).map (·.data.toList)=xs:=by simp [Function.comp_def]
 have h:=Jr5 w.heap.size xs.length (xs.map str) (w.alloc (.cells (xs.map fun l=>Value.string (str l)).toArray 9)) (by
  intro j x hx;simp only [List.getElem?_map,Option.map_eq_some_iff] at hx;obtain⟨l,hl,rfl⟩:=hx;rw [Nat.zero_add,World.cell?_alloc_new];simp [hl]) (by simp) (by simpa using hN) (by simp) (by rw [hm];exact hlen)
 rw [hm,List.length_map] at h;exact h.mono fun e w' ⟨he,hb⟩=>⟨he,((Below.refl _ _).alloc (Nat.le_refl _) _).trans (hb.mono (by simp))⟩
theorem Jwf (a b:List UInt8) (ha:a.length≤100) (hb:b.length≤100) (w:World) :
  Calls prog 300 #[.slice (some ⟨w.heap.size,0,none⟩) 2 2] (w.alloc (.cells #[.string (str a),.string (str b)] 9)) fun e w'=>e=.returned (.string (str (a++b)))∧Below w.heap.size w w':=by
 have h:=Jju [a,b] (by simp) (by simp;omega) w;exact h.mono fun e w' ⟨he,hb⟩=>⟨by rw [he];simp,hb⟩
theorem J62 (a b c d:List UInt8) (ha:a.length≤100) (hb:b.length≤100) (hc:c.length≤100) (hd:d.length≤100) (w:World) :
  Calls prog 300 #[.slice (some ⟨w.heap.size,0,none⟩) 4 4] (w.alloc (.cells #[.string (str a),.string (str b),.string (str c),.string (str d)] 9)) fun e w'=>e=.returned (.string (str (a++b++c++d)))∧Below w.heap.size w w':=by
 have h:=Jju [a,b,c,d] (by simp) (by simp;omega) w;exact h.mono fun e w' ⟨he,hb⟩=>⟨by rw [he];simp,hb⟩
theorem J63 (a b c d f:List UInt8) (ha:a.length≤100) (hb:b.length≤100) (hc:c.length≤100) (hd:d.length≤100) (hf:f.length≤100) (w:World) :
  Calls prog 300 #[.slice (some ⟨w.heap.size,0,none⟩) 5 5] (w.alloc (.cells #[.string (str a),.string (str b),.string (str c),.string (str d),.string (str f)] 9)) fun e w'=>e=.returned (.string (str (a++b++c++d++f)))∧Below w.heap.size w w':=by
 have h:=Jju [a,b,c,d,f] (by simp) (by simp;omega) w;exact h.mono fun e w' ⟨he,hb⟩=>⟨by rw [he];simp,hb⟩
theorem J64 (a b c d f g:List UInt8) (ha:a.length≤100) (hb:b.length≤100) (hc:c.length≤100) (hd:d.length≤100) (hf:f.length≤100) (hg:g.length≤100) (w:World) :
  Calls prog 300 #[.slice (some ⟨w.heap.size,0,none⟩) 6 6] (w.alloc (.cells #[.string (str a),.string (str b),.string (str c),.string (str d),.string (str f),.string (str g)] 9)) fun e w'=>e=.returned (.string (str (a++b++c++d++f++g)))∧Below w.heap.size w w':=by
 have h:=Jju [a,b,c,d,f,g] (by simp) (by simp;omega) w;exact h.mono fun e w' ⟨he,hb⟩=>⟨by rw [he];simp,hb⟩
theorem Jbx (x:Int) (h0:0≤x) (h1:x<100) (w:World) :
  Calls prog 301 #[.int .i64 x] w fun e w'=>e=.returned (.string (str (two x)))∧Below w.heap.size w w':=by
 have l1:=Jhc (x / 10) (by omega);have l2:=Jhc (x % 10) (by omega);go_enter func301,ntmps301
 go_wp2_with (first | (go_at_call 297;refine (Jfg _ (by omega) (by omega) _).mono ?_;rintro e w' ⟨rfl,rfl⟩) | (go_at_call 300;refine (Jwf _ _ (by omega) (by omega) _).mono ?_;rintro e w' ⟨rfl,hb⟩))
 go_ret;exact⟨by rw [←Jta x h0 h1];rfl,hb⟩
theorem Jr6 (t:Int) (h0:0≤t) (h1:t≤172800) (w:World) :
  Calls prog 223 #[.int .i64 t] w fun e w'=>e=.returned (.tuple #[.string (str (Jg3 t)),.int .i64 0])∧Below w.heap.size w w':=by
 go_enter func223,ntmps223
 go_wp2_with (go_at_call 299;refine (Jwe _ h0 h1 _).mono ?_;rintro e w' ⟨rfl,rfl⟩)
 go_wp2_with fail
 refine (Jbx (t / 3600) (by omega) (by omega) _).mono ?_;rintro e w1 ⟨rfl,b1⟩;go_wp2_with fail
 refine (Jbx (t % 3600 / 60) (by omega) (by omega) _).mono ?_;rintro e w2 ⟨rfl,b2⟩;go_wp2_with fail
 refine (Jbx (t % 60) (by omega) (by omega) _).mono ?_;rintro e w3 ⟨rfl,b3⟩;go_wp2_with fail
 refine (J63 _ _ _ _ _ (Jid _) (by decide) (Jid _) (by decide) (Jid _) _).mono ?_;rintro e w4 ⟨rfl,b4⟩;go_wp2_with fail
 go_ret2;exact⟨rfl,(b1.trans (b2.mono b1.size)).trans ((b3.trans (b4.mono b3.size)).mono (Nat.le_trans b1.size b2.size))⟩
theorem J0y (n:Int) (h0:3600≤n) (h1:n≤359999) (w:World) :
  Calls prog 224 #[.int .i64 n] w fun e w'=>e=.returned (.tuple #[.string (str (Jdg n)),.int .i64 0])∧Below w.heap.size w w':=by
 have hp:0<n / 3600:=by omega
 have hz:0≤n:=by omega
 go_enter func224,ntmps224
 go_wp2_with fail
 refine (Jek n hz h1 _).mono ?_;rintro e w0 ⟨rfl,rfl⟩;go_wp2_with fail
 refine (Jfg (n / 3600) (by omega) (by omega) _).mono ?_;rintro e w0 ⟨rfl,rfl⟩;go_wp2_with fail
 refine (Jbx (n % 3600 / 60) (by omega) (by omega) _).mono ?_;rintro e w1 ⟨rfl,b1⟩;go_wp2_with fail
 refine (Jbx (n % 60) (by omega) (by omega) _).mono ?_;rintro e w2 ⟨rfl,b2⟩;go_wp2_with fail
 refine (J64 _ _ _ _ _ _ (Js9 _ (by omega)) (by decide) (Jid _) (by decide) (Jid _) (by decide) _).mono ?_;rintro e w3 ⟨rfl,b3⟩;go_wp2_with fail
 go_ret2;exact⟨Jjc (by unfold Jdg;rw [if_pos h0];simp),b1.trans ((b2.trans (b3.mono b2.size)).mono b1.size)⟩
theorem J0z (n:Int) (h0:60≤n) (h1:n<3600) (w:World) :
  Calls prog 224 #[.int .i64 n] w fun e w'=>e=.returned (.tuple #[.string (str (Jdg n)),.int .i64 0])∧Below w.heap.size w w':=by
 have hp:¬0<n / 3600:=by omega
 have hp2:0<n % 3600 / 60:=by omega
 have hz:0≤n:=by omega
 have hz1:n≤359999:=by omega
 go_enter func224,ntmps224
 go_wp2_with fail
 refine (Jek n hz hz1 _).mono ?_;rintro e w0 ⟨rfl,rfl⟩;go_wp2_with fail
 refine (Jfg (n % 3600 / 60) (by omega) (by omega) _).mono ?_;rintro e w0 ⟨rfl,rfl⟩;go_wp2_with fail
 refine (Jbx (n % 60) (by omega) (by omega) _).mono ?_;rintro e w2 ⟨rfl,b2⟩;go_wp2_with fail
 refine (J62 _ _ _ _ (Js9 _ (by omega)) (by decide) (Jid _) (by decide) _).mono ?_;rintro e w3 ⟨rfl,b3⟩;go_wp2_with fail
 go_ret2;exact⟨Jjc (by unfold Jdg;rw [if_neg (by omega),if_pos h0];simp),b2.trans (b3.mono b2.size)⟩
theorem J00 (n:Int) (h0:0≤n) (h1:n<60) (w:World) :
  Calls prog 224 #[.int .i64 n] w fun e w'=>e=.returned (.tuple #[.string (str (Jdg n)),.int .i64 0])∧Below w.heap.size w w':=by
 have hp:¬0<n / 3600:=by omega
 have hp2:¬0<n % 3600 / 60:=by omega
 have hz1:n≤359999:=by omega
 go_enter func224,ntmps224
 go_wp2_with fail
 refine (Jek n h0 hz1 _).mono ?_;rintro e w0 ⟨rfl,rfl⟩;go_wp2_with fail
 refine (Jfg (n % 60) (by omega) (by omega) _).mono ?_;rintro e w0 ⟨rfl,rfl⟩;go_wp2_with fail
 refine (Jwf _ _ (Js9 _ (by omega)) (by decide) _).mono ?_;rintro e w3 ⟨rfl,b3⟩;go_wp2_with fail
 go_ret2;exact⟨Jjc (by unfold Jdg;rw [if_neg (by omega),if_neg (by omega)]),b3⟩
theorem Jr7 (n:Int) (h0:0≤n) (h1:n≤359999) (w:World) :
  Calls prog 224 #[.int .i64 n] w fun e w'=>e=.returned (.tuple #[.string (str (Jdg n)),.int .i64 0])∧Below w.heap.size w w':=by
 by_cases hh:3600≤n
 ·exact J0y n hh h1 w
 ·by_cases hm:60≤n
  ·exact J0z n hm (by omega) w
  ·exact J00 n h0 (by omega) w
theorem Jd5 (r:Int) (h0:48≤r) (h1:r≤57) (w:World) :
  Calls prog 352 #[.int .i32 r] w fun e w'=>e=.returned (.bool true)∧w=w':=by
 go_enter func352,ntmps352
 go_wp2
 go_ret;exact⟨rfl,rfl⟩
theorem Jf9 (r:Int) (h:r<48∨57<r) (w:World) :
  Calls prog 352 #[.int .i32 r] w fun e w'=>e=.returned (.bool false)∧w=w':=by
 rcases h with h | h
 ·go_enter func352,ntmps352
  go_wp2
  go_ret;exact⟨rfl,rfl⟩
 ·have h0:48≤r:=by omega
  have hd:decide (r≤57)=false:=by simp;omega
  go_enter func352,ntmps352
  go_wp2
  go_ret;exact⟨rfl,rfl⟩
theorem allDigits_yes (s:ByteArray) (hd:digs s.data.toList=true) (w:World) :
  Calls prog 370 #[.string s] w fun e w'=>e=.returned (.bool true)∧Below w.heap.size w w':=by
 have HD:=Lib.hid hd;clear hd;go_enter func370,ntmps370
 go_wp2
 go_loopw [] (fun w'=>∃pos:Nat,w'=w.iter s pos) (fun w'=>s.size - w'.iterPos w.heap.size)
 case atStart=>exact⟨0,rfl⟩
 case round =>
  obtain⟨pos,rfl⟩:=hrel;by_cases hp:pos<s.size
  ·have hc:=Jjb s pos hp HD.out
   have hnx:∀ty,(Instr.next (.pointer (some ⟨w.heap.size,0,none⟩)) true ty).run prog (w.iter s pos)=_:=fun ty=>run_next_ascii w s pos ty hp (by omega)
   go_wp2_with (go_at_call 352;refine (Jd5 _ (by omega) (by omega) _).mono ?_;rintro e w' ⟨rfl,rfl⟩)
   go_roundw
   case rel=>exact⟨pos+1,rfl⟩
   case measure=>simp;omega
  ·have hnx:∀ty,(Instr.next (.pointer (some ⟨w.heap.size,0,none⟩)) true ty).run prog (w.iter s pos)=_:=fun ty=>run_next_end w s pos ty hp
   go_wp2
   go_ret;exact⟨rfl,Jaz _ _ _⟩
theorem allDigits_no (s:ByteArray) (hd:digs s.data.toList=false) (w:World) :
  Calls prog 370 #[.string s] w fun e w'=>e=.returned (.bool false)∧Below w.heap.size w w':=by
 have HD:=Lib.hid hd;clear hd;go_enter func370,ntmps370
 go_wp2
 go_loopw [] (fun w'=>∃pos:Nat,w'=w.iter s pos∧Hid (digs (s.data.toList.take pos)=true)) (fun w'=>s.size - w'.iterPos w.heap.size)
 case atStart=>exact⟨0,rfl,Lib.hid rfl⟩
 case round =>
  obtain⟨pos,rfl,ht⟩:=hrel;by_cases hp:pos<s.size
  ·by_cases hc:48≤s[pos].toNat∧s[pos].toNat≤57
   ·have hst:=Lib.hid (Jku s pos hp ht.out hc)
    have hnx:∀ty,(Instr.next (.pointer (some ⟨w.heap.size,0,none⟩)) true ty).run prog (w.iter s pos)=_:=fun ty=>run_next_ascii w s pos ty hp (by omega)
    go_wp2_with (go_at_call 352;refine (Jd5 _ (by omega) (by omega) _).mono ?_;rintro e w' ⟨rfl,rfl⟩)
    go_roundw
    case rel=>exact⟨pos+1,rfl,hst⟩
    case measure=>simp;omega
   ·by_cases ha:s[pos].toNat<128
    ·have hnx:∀ty,(Instr.next (.pointer (some ⟨w.heap.size,0,none⟩)) true ty).run prog (w.iter s pos)=_:=fun ty=>run_next_ascii w s pos ty hp ha
     go_wp2_with (go_at_call 352;refine (Jf9 _ (by omega) _).mono ?_;rintro e w' ⟨rfl,rfl⟩)
     go_ret;exact⟨rfl,Jaz _ _ _⟩
    ·have hh:=(decode_high s pos hp (by omega)).1
     have hnx:∀ty,(Instr.next (.pointer (some ⟨w.heap.size,0,none⟩)) true ty).run prog (w.iter s pos)=_:=fun ty=>run_next_any w s pos ty hp
     go_wp2_with (go_at_call 352;refine (Jf9 _ (by omega) _).mono ?_;rintro e w' ⟨rfl,rfl⟩)
     go_ret;exact⟨rfl,Jaz _ _ _⟩
  ·have hf:=Jgk s pos hp ht.out
   rw [HD.out] at hf;cases hf
theorem Jlw (s:ByteArray) (hd:digs s.data.toList=true) (hl:s.size≤6) (w:World) :
  Calls prog 322 #[.string s] w fun e w'=>e=.returned (.int .i64 (valN s.data.toList))∧Below w.heap.size w w':=by
 have HD:=Lib.hid hd;clear hd;go_enter func322,ntmps322
 go_wp2
 go_loopw [3] (fun n w'=>∃pos:Nat,w'=w.iter s pos∧n=.int .i64 (valN (s.data.toList.take pos))∧pos≤s.size) (fun _ w'=>s.size - w'.iterPos w.heap.size)
 case atStart=>exact⟨0,rfl,rfl,Nat.zero_le _⟩
 case round =>
  obtain⟨pos,rfl,rfl,hle⟩:=hrel;by_cases hp:pos<s.size
  ·have hc:=Jjb s pos hp HD.out
   have hv:valN (s.data.toList.take pos)<1000000:=by
    have h1:=Jja _ (Jkt _ pos HD.out);have h2:(s.data.toList.take pos).length≤6:=Nat.le_trans (List.length_take_le _ _) (by omega);exact Nat.lt_of_lt_of_le h1 (Nat.pow_le_pow_right (by decide) h2)
   have hs:=Lib.hid (Jks (s.data.toList.take pos) s[pos]);have ht:=Lib.hid (Je1 s pos hp);have hnx:∀ty,(Instr.next (.pointer (some ⟨w.heap.size,0,none⟩)) true ty).run prog (w.iter s pos)=_:=fun ty=>run_next_ascii w s pos ty hp (by omega)
   go_wp2
   go_roundw
   case rel=>exact⟨pos+1,rfl,by rw [ht.out,hs.out];go_num,by omega⟩
   case measure=>simp;omega
  ·have hnx:∀ty,(Instr.next (.pointer (some ⟨w.heap.size,0,none⟩)) true ty).run prog (w.iter s pos)=_:=fun ty=>run_next_end w s pos ty hp
   have he:=Lib.hid (List.take_of_length_le (l:=s.data.toList) (i:=pos) (by simpa using hp));go_wp2
   go_ret;exact⟨by rw [he.out];rfl,Jaz _ _ _⟩
theorem Jnt (s:ByteArray) (h8:s.size≠8) (w:World) :
  Calls prog 320 #[.string s] w fun e w'=>e=.returned (.bool false)∧Below w.heap.size w w':=by
 have h:((s.size:Int)==8)=false:=by rw [beq_eq_false_iff_ne];omega
 have h':((s.size:Int) != 8)=true:=by rw [bne,h];rfl
 go_enter func320,ntmps320
 go_wp2
 all_goals go_ret
 all_goals exact⟨rfl,Below.refl _ _⟩
theorem Jfh (s:ByteArray) (pos:Nat) (hp:pos<s.size) (ho:okAt pos s[pos]=true):s[pos].toNat<128∧(pos=2∨pos=5→s[pos].toNat=58)∧(¬(pos=2∨pos=5)→48≤s[pos].toNat∧s[pos].toNat≤57):=by
 by_cases hk:pos=2∨pos=5
 ·have:=(Jiv pos _ hk).1 ho
  exact⟨by omega,fun _=>this,fun h=>absurd hk h⟩
 ·have:=(Jf8 pos _ hk).1 ho
  exact⟨by omega,fun h=>absurd h hk,fun _=>this⟩
theorem Jhp (s:ByteArray) (hf:Jbw s.data.toList=true) (w:World) :
  Calls prog 320 #[.string s] w fun e w'=>e=.returned (.bool true)∧Below w.heap.size w w':=by
 have h8:s.size=8:=(Jf7 _ hf).1;have HD:=Lib.hid (Jf7 _ hf).2;clear hf;have h:((s.size:Int)==8)=true:=by rw [beq_iff_eq];omega
 have h':((s.size:Int) != 8)=false:=by rw [bne,h];rfl
 have H8:=Lib.hid h8;clear h8;go_enter func320,ntmps320
 go_wp2
 go_loopw [] (fun w'=>∃pos:Nat,w'=w.iter s pos) (fun w'=>s.size - w'.iterPos w.heap.size)
 case atStart=>exact⟨0,rfl⟩
 case round =>
  clear h h';obtain⟨pos,rfl⟩:=hrel;by_cases hp:pos<s.size
  ·obtain⟨ha,hc,hd⟩:=Jfh s pos hp (HD.out pos _ (Jde s pos hp))
   have hnx:∀ty,(Instr.next (.pointer (some ⟨w.heap.size,0,none⟩)) true ty).run prog (w.iter s pos)=_:=fun ty=>run_next_ascii w s pos ty hp ha
   by_cases h2:pos=2
   ·have hc:=hc (Or.inl h2)
    have b2:((pos:Int)==2)=true:=by rw [beq_iff_eq];omega
    have b3:(((s[pos].toNat:Nat):Int) != 58)=false:=by rw [hc];rfl
    have HH:=Lib.hid (And.intro h2 hc);clear h2 hc hd;go_wp2
    go_roundw
    case rel=>exact⟨pos+1,rfl⟩
    case measure=>simp;omega
   ·by_cases h5:pos=5
    ·have hc:=hc (Or.inr h5)
     have b2:((pos:Int)==2)=false:=Jac (by omega);have b5:((pos:Int)==5)=true:=by rw [beq_iff_eq];omega
     have b3:(((s[pos].toNat:Nat):Int) != 58)=false:=by rw [hc];rfl
     have HH:=Lib.hid (And.intro h5 hc);clear h2 h5 hc hd;go_wp2
     go_roundw
     case rel=>exact⟨pos+1,rfl⟩
     case measure=>simp;omega
    ·have hd:=hd (by omega)
     have b2:((pos:Int)==2)=false:=Jac (by omega);have b5:((pos:Int)==5)=false:=Jac (by omega);clear hc;go_wp2_with (go_at_call 352;refine (Jd5 _ (by omega) (by omega) _).mono ?_;rintro e w' ⟨rfl,rfl⟩)
     go_roundw
     case rel=>exact⟨pos+1,rfl⟩
     case measure=>simp;omega
  ·have hnx:∀ty,(Instr.next (.pointer (some ⟨w.heap.size,0,none⟩)) true ty).run prog (w.iter s pos)=_:=fun ty=>run_next_end w s pos ty hp
   go_wp2
   go_ret;exact⟨rfl,Jaz _ _ _⟩
theorem J01 (s:ByteArray) (pos:Nat) (hp:pos<s.size) (hx:okAt pos s[pos]=false) :
  (pos=2∨pos=5→(Utf8.decode s pos).1≠58)∧(¬(pos=2∨pos=5)→(Utf8.decode s pos).1<48∨57<(Utf8.decode s pos).1):=by
 by_cases ha:s[pos].toNat<128
 ·rw [decode_ascii s pos hp ha]
  refine⟨fun hk he=>?_,fun hk=>?_⟩
  ·rw [(Jiv pos _ hk).2 he] at hx;cases hx
  ·by_cases hd:48≤s[pos].toNat∧s[pos].toNat≤57
   ·rw [(Jf8 pos _ hk).2 hd] at hx;cases hx
   ·show s[pos].toNat<48∨57<s[pos].toNat
    omega
 ·have:=(decode_high s pos hp (by omega)).1
  exact⟨fun _=>by omega,fun _=>by omega⟩
theorem Jr8 (s:ByteArray) (hf:Jbw s.data.toList=false) (w:World) :
  Calls prog 320 #[.string s] w fun e w'=>e=.returned (.bool false)∧Below w.heap.size w w':=by
 by_cases h8:s.size≠8
 ·exact Jnt s h8 w
 have h8:s.size=8:=by omega
 have HD:=Lib.hid hf;clear hf;have h:((s.size:Int)==8)=true:=by rw [beq_iff_eq];omega
 have h':((s.size:Int) != 8)=false:=by rw [bne,h];rfl
 have H8:=Lib.hid h8;clear h8;go_enter func320,ntmps320
 go_wp2
 go_loopw [] (fun w'=>∃pos:Nat,w'=w.iter s pos∧Hid (∀k c,k<pos→s.data.toList[k]?=some c→okAt k c=true)) (fun w'=>s.size - w'.iterPos w.heap.size)
 case atStart=>exact⟨0,rfl,Lib.hid (fun k c hk=>absurd hk (Nat.not_lt_zero _))⟩
 case round =>
  clear h h';obtain⟨pos,rfl,ht⟩:=hrel;by_cases hp:pos<s.size
  ·cases hx:okAt pos s[pos] with
   | true =>
    obtain⟨ha,hc,hd⟩:=Jfh s pos hp hx;have hst:Hid (∀k c,k<pos+1→s.data.toList[k]?=some c→okAt k c=true):=by
     intro k c hk hl;by_cases hkp:k<pos
     ·exact ht.out k c hkp hl
     ·obtain rfl:k=pos:=by omega
      rw [Jde s k hp] at hl;cases hl
      exact hx
    clear hx;have hnx:∀ty,(Instr.next (.pointer (some ⟨w.heap.size,0,none⟩)) true ty).run prog (w.iter s pos)=_:=fun ty=>run_next_ascii w s pos ty hp ha
    by_cases h2:pos=2
    ·have hc:=hc (Or.inl h2)
     have b2:((pos:Int)==2)=true:=by rw [beq_iff_eq];omega
     have b3:(((s[pos].toNat:Nat):Int) != 58)=false:=by rw [hc];rfl
     have HH:=Lib.hid (And.intro h2 hc);clear h2 hc hd;go_wp2
     go_roundw
     case rel=>exact⟨pos+1,rfl,hst⟩
     case measure=>simp;omega
    ·by_cases h5:pos=5
     ·have hc:=hc (Or.inr h5)
      have b2:((pos:Int)==2)=false:=Jac (by omega);have b5:((pos:Int)==5)=true:=by rw [beq_iff_eq];omega
      have b3:(((s[pos].toNat:Nat):Int) != 58)=false:=by rw [hc];rfl
      have HH:=Lib.hid (And.intro h5 hc);clear h2 h5 hc hd;go_wp2
      go_roundw
      case rel=>exact⟨pos+1,rfl,hst⟩
      case measure=>simp;omega
     ·have hd:=hd (by omega)
      have b2:((pos:Int)==2)=false:=Jac (by omega);have b5:((pos:Int)==5)=false:=Jac (by omega);clear hc;go_wp2_with (go_at_call 352;refine (Jd5 _ (by omega) (by omega) _).mono ?_;rintro e w' ⟨rfl,rfl⟩)
      go_roundw
      case rel=>exact⟨pos+1,rfl,hst⟩
      case measure=>simp;omega
   | false =>
    obtain⟨hc,hd⟩:=J01 s pos hp hx;clear hx;have hnx:∀ty,(Instr.next (.pointer (some ⟨w.heap.size,0,none⟩)) true ty).run prog (w.iter s pos)=_:=fun ty=>run_next_any w s pos ty hp
    by_cases h2:pos=2
    ·have hc:=hc (Or.inl h2)
     have b2:((pos:Int)==2)=true:=by rw [beq_iff_eq];omega
     have b3:((((Utf8.decode s pos).1:Nat):Int) != 58)=true:=Jae (by omega);have HH:=Lib.hid (And.intro h2 hc);clear h2 hc hd;go_wp2
     go_ret;exact⟨rfl,Jaz _ _ _⟩
    ·by_cases h5:pos=5
     ·have hc:=hc (Or.inr h5)
      have b2:((pos:Int)==2)=false:=Jac (by omega);have b5:((pos:Int)==5)=true:=by rw [beq_iff_eq];omega
      have b3:((((Utf8.decode s pos).1:Nat):Int) != 58)=true:=Jae (by omega);have HH:=Lib.hid (And.intro h5 hc);clear h2 h5 hc hd;go_wp2
      go_ret;exact⟨rfl,Jaz _ _ _⟩
     ·have hd:=hd (by omega)
      have b2:((pos:Int)==2)=false:=Jac (by omega);have b5:((pos:Int)==5)=false:=Jac (by omega);clear hc;go_wp2_with (go_at_call 352;refine (Jf9 _ (by omega) _).mono ?_;rintro e w' ⟨rfl,rfl⟩)
      go_ret;exact⟨rfl,Jaz _ _ _⟩
  ·have hfm:=J60 s.data.toList H8.out (fun k c hl=>ht.out k c (by have:=(List.getElem?_eq_some_iff.1 hl).1;have h9:k<s.size:=this;omega) hl)
   rw [HD.out] at hfm;cases hfm
theorem Jwg (s:ByteArray) (hf:Jbw s.data.toList=true) (a:Nat) (ha:a=0∨a=3∨a=6):digs ((s.data.toList.drop a).take 2)=true:=by
 obtain⟨h8,h⟩:=Jf7 _ hf;unfold digs;rw [List.all_eq_true];intro x hx;obtain⟨i,hi⟩:=List.mem_iff_getElem?.1 hx;have hi2:i<2:=by
  have:=(List.getElem?_eq_some_iff.1 hi).1;simp at this;omega
 rw [List.getElem?_take_of_lt hi2,List.getElem?_drop] at hi;exact (Jcd _).2 ((Jf8 _ _ (by omega)).1 (h _ _ hi))
theorem J02 (s:ByteArray) (a:Nat) (b:Nat) (hb:b=a+2) (hd:digs ((s.data.toList.drop a).take 2)=true) (hs:a+2≤s.size) (w:World) :
  Calls prog 322 #[.string (s.extract a b)] w fun e w'=>e=.returned (.int .i64 (Jbs s.data.toList a))∧Below w.heap.size w w':=by
 subst hb;have he:(s.extract a (a+2)).data.toList=(s.data.toList.drop a).take 2:=by rw [Lib.extract_data];congr 1;omega
 have h:=Jlw (s.extract a (a+2)) (by rw [he];exact hd) (by simp;omega) w;rw [he] at h;exact h
theorem Jiw (s:ByteArray) (hf:Jbw s.data.toList=true) (a b:Nat) (hb:b=a+2) (ha:a=0∨a=3∨a=6) (w:World) :
  Calls prog 322 #[.string (s.extract a b)] w fun e w'=>e=.returned (.int .i64 (Jbs s.data.toList a))∧Below w.heap.size w w' :=
 J02 s a b hb (Jwg s hf a ha) (by have:s.size=8:=(Jf7 _ hf).1;omega) w
theorem Jwh (s:ByteArray) (hf:Jbw s.data.toList=true) (hp:Jic (Jbs s.data.toList 0) (Jbs s.data.toList 3) (Jbs s.data.toList 6)) (w:World) :
  Calls prog 254 #[.string s] w fun e w'=>e=.returned (.tuple #[.int .i64 ((Jbs s.data.toList 0:Int)*3600+(Jbs s.data.toList 3:Int)*60+(Jbs s.data.toList 6:Int)),.int .i64 0])∧Below w.heap.size w w':=by
 have h8:s.size=8:=(Jf7 _ hf).1;have HF:=Lib.hid hf;have HP:=Lib.hid hp;clear hf hp;have g2:2≤s.size:=by omega
 have g5:5≤s.size:=by omega
 have g8:8≤s.size:=by omega
 have i2:(2:Int)≤(s.size:Int):=by omega
 have i5:(5:Int)≤(s.size:Int):=by omega
 have i8:(8:Int)≤(s.size:Int):=by omega
 clear h8;go_enter func254,ntmps254
 go_wp2_with fail
 refine (Jhp s HF.out _).mono ?_;rintro e w1 ⟨rfl,b1⟩;go_wp2_with fail
 go_region_held3 (fun _=>True) (exact trivial) (first | (go_at_call 322;refine (rel (W:=w) (Jiw s HF.out _ _ (by omega) (by omega) _) (by first | assumption | (apply Below.drew;assumption))).mono ?_;rintro e wa ⟨rfl,ba⟩) | (go_at_call 321;refine (J0x _ _ _ HP.out _).mono ?_;rintro e wd ⟨rfl,rfl⟩))
 go_wp2_with fail
 go_ret2;exact⟨rfl,by assumption⟩
theorem Jr9 (s:ByteArray) (hf:Jbw s.data.toList=true) (hp:¬Jic (Jbs s.data.toList 0) (Jbs s.data.toList 3) (Jbs s.data.toList 6)) (w:World) :
  Calls prog 254 #[.string s] w fun e w'=>e=.returned (.tuple #[.int .i64 0,.int .i64 10])∧Below w.heap.size w w':=by
 have h8:s.size=8:=(Jf7 _ hf).1;have HF:=Lib.hid hf;have HP:=Lib.hid hp;clear hf hp;have g2:2≤s.size:=by omega
 have g5:5≤s.size:=by omega
 have g8:8≤s.size:=by omega
 have i2:(2:Int)≤(s.size:Int):=by omega
 have i5:(5:Int)≤(s.size:Int):=by omega
 have i8:(8:Int)≤(s.size:Int):=by omega
 clear h8;go_enter func254,ntmps254
 go_wp2_with fail
 refine (Jhp s HF.out _).mono ?_;rintro e w1 ⟨rfl,b1⟩;go_wp2_with fail
 go_region_held3 (fun _=>True) (exact trivial) (first | (go_at_call 322;refine (rel (W:=w) (Jiw s HF.out _ _ (by omega) (by omega) _) (by first | assumption | (apply Below.drew;assumption))).mono ?_;rintro e wa ⟨rfl,ba⟩) | (go_at_call 321;refine (J61 _ _ _ HP.out _).mono ?_;rintro e wd ⟨rfl,rfl⟩))
 go_wp2_with fail
 go_ret2;exact⟨rfl,by assumption⟩
theorem Jlx (s:ByteArray) (hf:Jbw s.data.toList=false) (w:World) :
  Calls prog 254 #[.string s] w fun e w'=>e=.returned (.tuple #[.int .i64 0,.int .i64 3])∧Below w.heap.size w w':=by
 have HF:=Lib.hid hf;clear hf;go_enter func254,ntmps254
 go_wp2_with fail
 refine (Jr8 s HF.out _).mono ?_;rintro e w1 ⟨rfl,b1⟩;go_wp2_with fail
 go_ret2;exact⟨rfl,b1⟩
end
end Go.Proofs.YtpifdbphmnifdaaGreatDoor
