/-
  Facts. Condition: each theorem's own.
-/
import Derived.Stop.LaidErr
import Derived.Test.YtpifdbphmnifdaaGreatDoorYC25
import Derived.Test.YtpifdbphmnifdaaGreatDoorYC26
set_option maxRecDepth 100000
set_option maxHeartbeats 8000000
section
variable {p:Prop}
theorem Wbk (h:p:=by rintro e w8 ⟨rfl,b8⟩;have B8:Hid (Pn w w8):=B7.out.trans (b8.mono B7.out.size);clear b8 C B7;go_wp2_with fail;go_ret2;exact⟨rfl,B8.out⟩):p:=h
theorem Wbl (h:p:=by go_wp2_with fail;go_ret;exact⟨rfl,B.out⟩):p:=h
end
open Go.Proofs.Tryz
namespace Go.Proofs.YtpifdbphmnifdaaGreatDoor
section
open Go.RowKit
theorem Qb8 (a:Nat→Option Addr) (c:Nat→Nat) (T:Tt) (hf:manT T=true) (w:World) (h:TtL w a c T):Pc 38 #[ttV a c T,.int .i64 0] w (.tuple #[.int .i64 ((Jaq T 0).1),.int .i64 ((Jaq T 0).2)]):=by
 obtain⟨w7,hw7⟩:=Pi (w.alloc (Jbh a c T));obtain⟨b7,s7,c7⟩:=Jcb hw7;obtain⟨p0,p1,p2,p3,p4,p5,p6,p7,p8,p9,p10,p11,p12⟩:=Jak c7;have B7:=Pe b7;have H:=Pe (h.below b7);obtain⟨⟨f0,f1,f2,f3,f4,f5,f6,f7,f8,f9⟩,hts0⟩:=Jbe.1 hf;have hts:∀x∈T.tr,(clT x).length≤1000000:=fun x hx=>Gh
 have C:=Pe (S13.rcheck_all (.slice (a 0) T.st.length (c 0)) T.st Kd w7 H.out.st);obtain⟨⟨x,y⟩,hq⟩:=Pi (Jaq T 0);have hq':S13.chkT T.st=(x,y):=hq;rw [hq'] at C;rw [hq];clear b7 s7 c7 h hf f0 f1 f2 f3 f4 f5 f6 f7 f8 f9 hts hts0 hq hq' H;go_enter func38,ntmps38;go_wp2_with fail;refine C.out.mono ?_;rintro e w8 ⟨rfl,rfl⟩;go_wp2_with fail;go_ret2;exact⟨rfl,B7.out⟩
theorem Qb9 (a:Nat→Option Addr) (c:Nat→Nat) (T:Tt) (hf:manT T=true) (w:World) (h:TtL w a c T):Pc 38 #[ttV a c T,.int .i64 1] w (.tuple #[.int .i64 ((Jaq T 1).1),.int .i64 ((Jaq T 1).2)]):=by
 obtain⟨w7,hw7⟩:=Pi (w.alloc (Jbh a c T));obtain⟨b7,s7,c7⟩:=Jcb hw7;obtain⟨p0,p1,p2,p3,p4,p5,p6,p7,p8,p9,p10,p11,p12⟩:=Jak c7;have B7:=Pe b7;have H:=Pe (h.below b7);obtain⟨⟨f0,f1,f2,f3,f4,f5,f6,f7,f8,f9⟩,hts0⟩:=Jbe.1 hf;have hts:∀x∈T.tr,(clT x).length≤1000000:=fun x hx=>Gh
 have C:=Pe (Calls.below (S15.rcheck_any (.slice (a 1) T.ro.length (c 1)) T.ro Kd w7 H.out.ro));obtain⟨⟨x,y⟩,hq⟩:=Pi (Jaq T 1);have hq':chkR T.ro=(x,y):=hq;rw [hq'] at C;rw [hq];clear b7 s7 c7 h hf f0 f1 f2 f3 f4 f5 f6 f7 f8 f9 hts hts0 hq hq' H;go_enter func38,ntmps38;go_wp2_with fail;refine C.out.mono ?_;exact Wbk
theorem Qca (a:Nat→Option Addr) (c:Nat→Nat) (T:Tt) (hf:manT T=true) (w:World) (h:TtL w a c T):Pc 38 #[ttV a c T,.int .i64 2] w (.tuple #[.int .i64 ((Jaq T 2).1),.int .i64 ((Jaq T 2).2)]):=by
 obtain⟨w7,hw7⟩:=Pi (w.alloc (Jbh a c T));obtain⟨b7,s7,c7⟩:=Jcb hw7;obtain⟨p0,p1,p2,p3,p4,p5,p6,p7,p8,p9,p10,p11,p12⟩:=Jak c7;have B7:=Pe b7;have H:=Pe (h.below b7);obtain⟨⟨f0,f1,f2,f3,f4,f5,f6,f7,f8,f9⟩,hts0⟩:=Jbe.1 hf;have hts:∀x∈T.tr,(clT x).length≤1000000:=fun x hx=>Gh
 have C:=Pe (Calls.below (S14.rcheck_all (.slice (a 2) T.ca.length (c 2)) T.ca Kd w7 H.out.ca));obtain⟨⟨x,y⟩,hq⟩:=Pi (Jaq T 2);have hq':S14.chkC T.ca=(x,y):=hq;rw [hq'] at C;rw [hq];clear b7 s7 c7 h hf f0 f1 f2 f3 f4 f5 f6 f7 f8 f9 hts hts0 hq hq' H;go_enter func38,ntmps38;go_wp2_with fail;refine C.out.mono ?_;exact Wbk
theorem Qcb (a:Nat→Option Addr) (c:Nat→Nat) (T:Tt) (hf:manT T=true) (w:World) (h:TtL w a c T):Pc 38 #[ttV a c T,.int .i64 3] w (.tuple #[.int .i64 ((Jaq T 3).1),.int .i64 ((Jaq T 3).2)]):=by
 obtain⟨w7,hw7⟩:=Pi (w.alloc (Jbh a c T));obtain⟨b7,s7,c7⟩:=Jcb hw7;obtain⟨p0,p1,p2,p3,p4,p5,p6,p7,p8,p9,p10,p11,p12⟩:=Jak c7;have B7:=Pe b7;have H:=Pe (h.below b7);obtain⟨⟨f0,f1,f2,f3,f4,f5,f6,f7,f8,f9⟩,hts0⟩:=Jbe.1 hf;have hts:∀x∈T.tr,(clT x).length≤1000000:=fun x hx=>Gh
 have C:=Pe (Calls.below (S14.rcx_any (.slice (a 3) T.ex.length (c 3)) T.ex T.ca.length Kd w7 H.out.ex));obtain⟨⟨x,y⟩,hq⟩:=Pi (Jaq T 3);have hq':S14.chkX T.ca.length T.ex=(x,y):=hq;rw [hq'] at C;rw [hq];clear b7 s7 c7 h hf f0 f1 f2 f3 f4 f5 f6 f7 f8 f9 hts hts0 hq hq' H;go_enter func38,ntmps38;go_wp2_with fail;refine C.out.mono ?_;exact Wbk
theorem Qcc (a:Nat→Option Addr) (c:Nat→Nat) (T:Tt) (hf:manT T=true) (w:World) (h:TtL w a c T):Pc 38 #[ttV a c T,.int .i64 4] w (.tuple #[.int .i64 ((Jaq T 4).1),.int .i64 ((Jaq T 4).2)]):=by
 obtain⟨w7,hw7⟩:=Pi (w.alloc (Jbh a c T));obtain⟨b7,s7,c7⟩:=Jcb hw7;obtain⟨p0,p1,p2,p3,p4,p5,p6,p7,p8,p9,p10,p11,p12⟩:=Jak c7;have B7:=Pe b7;have H:=Pe (h.below b7);obtain⟨⟨f0,f1,f2,f3,f4,f5,f6,f7,f8,f9⟩,hts0⟩:=Jbe.1 hf;have hts:∀x∈T.tr,(clT x).length≤1000000:=fun x hx=>Gh
 have C:=Pe (S17.rtck_any (.slice (a 4) T.tr.length (c 4)) T.tr Kd T.st.length T.ro.length T.ca.length w7 H.out.tr);obtain⟨⟨x,y⟩,hq⟩:=Pi (Jaq T 4);have hq':S17.chkT T.st.length T.ro.length T.ca.length T.tr=(x,y):=hq;rw [hq'] at C;rw [hq];clear b7 s7 c7 h hf f0 f1 f2 f3 f4 f5 f6 f7 f8 f9 hts hts0 hq hq' H;go_enter func38,ntmps38;go_wp2_with fail;refine C.out.mono ?_;exact Wbk
theorem Qcd (a:Nat→Option Addr) (c:Nat→Nat) (T:Tt) (hf:manT T=true) (w:World) (h:TtL w a c T):Pc 38 #[ttV a c T,.int .i64 5] w (.tuple #[.int .i64 ((Jaq T 5).1),.int .i64 ((Jaq T 5).2)]):=by
 obtain⟨w7,hw7⟩:=Pi (w.alloc (Jbh a c T));obtain⟨b7,s7,c7⟩:=Jcb hw7;obtain⟨p0,p1,p2,p3,p4,p5,p6,p7,p8,p9,p10,p11,p12⟩:=Jak c7;have B7:=Pe b7;have H:=Pe (h.below b7);obtain⟨⟨f0,f1,f2,f3,f4,f5,f6,f7,f8,f9⟩,hts0⟩:=Jbe.1 hf;have hts:∀x∈T.tr,(clT x).length≤1000000:=fun x hx=>Gh
 have C:=Pe (S18.rchk_any (.slice (a 5) T.fr.length (c 5)) T.fr Kd (.slice (a 4) T.tr.length (c 4)) T.tr hts w7 H.out.fr H.out.tr);obtain⟨⟨x,y⟩,hq⟩:=Pi (Jaq T 5);have hq':chkF (T.tr.map clT) T.fr=(x,y):=hq;rw [hq'] at C;rw [hq];clear b7 s7 c7 h hf f0 f1 f2 f3 f4 f5 f6 f7 f8 f9 hts hts0 hq hq' H;go_enter func38,ntmps38;go_wp2_with fail;refine C.out.mono ?_;exact Wbk
theorem Qce (a:Nat→Option Addr) (c:Nat→Nat) (T:Tt) (hf:manT T=true) (w:World) (h:TtL w a c T):Pc 38 #[ttV a c T,.int .i64 6] w (.tuple #[.int .i64 ((Jaq T 6).1),.int .i64 ((Jaq T 6).2)]):=by
 obtain⟨w7,hw7⟩:=Pi (w.alloc (Jbh a c T));obtain⟨b7,s7,c7⟩:=Jcb hw7;obtain⟨p0,p1,p2,p3,p4,p5,p6,p7,p8,p9,p10,p11,p12⟩:=Jak c7;have B7:=Pe b7;have H:=Pe (h.below b7);obtain⟨⟨f0,f1,f2,f3,f4,f5,f6,f7,f8,f9⟩,hts0⟩:=Jbe.1 hf;have hts:∀x∈T.tr,(clT x).length≤1000000:=fun x hx=>Gh
 have C:=Pe (S19.rchkh_any (.slice (a 6) T.th.length (c 6)) T.th Kd (.slice (a 4) T.tr.length (c 4)) T.tr Kd hts (.slice (a 5) T.fr.length (c 5)) T.fr Kd w7 H.out.th H.out.tr H.out.fr);obtain⟨⟨x,y⟩,hq⟩:=Pi (Jaq T 6);have hq':S19.chkH (T.tr.map S19.tcT) T.fr T.th=(x,y):=hq;rw [hq'] at C;rw [hq];clear b7 s7 c7 h hf f0 f1 f2 f3 f4 f5 f6 f7 f8 f9 hts hts0 hq hq' H;go_enter func38,ntmps38;go_wp2_with fail;refine C.out.mono ?_;exact Wbk
theorem Qcf (a:Nat→Option Addr) (c:Nat→Nat) (T:Tt) (hf:manT T=true) (w:World) (h:TtL w a c T):Pc 38 #[ttV a c T,.int .i64 7] w (.tuple #[.int .i64 ((Jaq T 7).1),.int .i64 ((Jaq T 7).2)]):=by
 obtain⟨w7,hw7⟩:=Pi (w.alloc (Jbh a c T));obtain⟨b7,s7,c7⟩:=Jcb hw7;obtain⟨p0,p1,p2,p3,p4,p5,p6,p7,p8,p9,p10,p11,p12⟩:=Jak c7;have B7:=Pe b7;have H:=Pe (h.below b7);obtain⟨⟨f0,f1,f2,f3,f4,f5,f6,f7,f8,f9⟩,hts0⟩:=Jbe.1 hf;have hts:∀x∈T.tr,(clT x).length≤1000000:=fun x hx=>Gh
 have C:=Pe (S19.rchku_any (.slice (a 7) T.gu.length (c 7)) T.gu Kd (.slice (a 4) T.tr.length (c 4)) T.tr Kd hts (.slice (a 5) T.fr.length (c 5)) T.fr Kd T.st.length w7 H.out.gu H.out.tr H.out.fr);obtain⟨⟨x,y⟩,hq⟩:=Pi (Jaq T 7);have hq':S19.chkU (T.tr.map S19.tcT) T.fr T.st.length T.gu=(x,y):=hq;rw [hq'] at C;rw [hq];clear b7 s7 c7 h hf f0 f1 f2 f3 f4 f5 f6 f7 f8 f9 hts hts0 hq hq' H;go_enter func38,ntmps38;go_wp2_with fail;refine C.out.mono ?_;exact Wbk
theorem Qcg (a:Nat→Option Addr) (c:Nat→Nat) (T:Tt) (hf:manT T=true) (w:World) (h:TtL w a c T):Pc 38 #[ttV a c T,.int .i64 8] w (.tuple #[.int .i64 ((Jaq T 8).1),.int .i64 ((Jaq T 8).2)]):=by
 obtain⟨w7,hw7⟩:=Pi (w.alloc (Jbh a c T));obtain⟨b7,s7,c7⟩:=Jcb hw7;obtain⟨p0,p1,p2,p3,p4,p5,p6,p7,p8,p9,p10,p11,p12⟩:=Jak c7;have B7:=Pe b7;have H:=Pe (h.below b7);obtain⟨⟨f0,f1,f2,f3,f4,f5,f6,f7,f8,f9⟩,hts0⟩:=Jbe.1 hf;have hts:∀x∈T.tr,(clT x).length≤1000000:=fun x hx=>Gh
 have C:=Pe (S20.rchk_any (.slice (a 8) T.pa.length (c 8)) T.pa Kd T.st.length w7 H.out.pa);obtain⟨⟨x,y⟩,hq⟩:=Pi (Jaq T 8);have hq':S20.chkP T.st.length T.pa=(x,y):=hq;rw [hq'] at C;rw [hq];clear b7 s7 c7 h hf f0 f1 f2 f3 f4 f5 f6 f7 f8 f9 hts hts0 hq hq' H;go_enter func38,ntmps38;go_wp2_with fail;refine C.out.mono ?_;exact Wbk
theorem Qch (a:Nat→Option Addr) (c:Nat→Nat) (T:Tt) (hf:manT T=true) (w:World) (h:TtL w a c T):Pc 38 #[ttV a c T,.int .i64 9] w (.tuple #[.int .i64 ((Jaq T 9).1),.int .i64 ((Jaq T 9).2)]):=by
 obtain⟨w7,hw7⟩:=Pi (w.alloc (Jbh a c T));obtain⟨b7,s7,c7⟩:=Jcb hw7;obtain⟨p0,p1,p2,p3,p4,p5,p6,p7,p8,p9,p10,p11,p12⟩:=Jak c7;have B7:=Pe b7;have H:=Pe (h.below b7);obtain⟨⟨f0,f1,f2,f3,f4,f5,f6,f7,f8,f9⟩,hts0⟩:=Jbe.1 hf;have hts:∀x∈T.tr,(clT x).length≤1000000:=fun x hx=>Gh
 have C:=Pe (S21.rcheck_any (.slice (a 9) T.pr.length (c 9)) T.pr T.di T.wi T.cp Kd w7 H.out.pr);obtain⟨⟨x,y⟩,hq⟩:=Pi (Jaq T 9);have hq':S21.chkPd T.di T.wi T.cp T.pr=(x,y):=hq;rw [hq'] at C;rw [hq];clear b7 s7 c7 h hf f0 f1 f2 f3 f4 f5 f6 f7 f8 f9 hts hts0 hq hq' H;go_enter func38,ntmps38;go_wp2_with fail;refine C.out.mono ?_;exact Wbk
theorem J2c (a:Nat→Option Addr) (c:Nat→Nat) (T:Tt) (hf:manT T=true) (j:Nat) (hj:j<10) (w:World) (h:TtL w a c T):Pc 38 #[ttV a c T,.int .i64 (j:Int)] w (.tuple #[.int .i64 ((Jaq T j).1),.int .i64 ((Jaq T j).2)]):=by
 match j,hj with
 | 0,_=>exact Qb8 a c T hf w h
 | 1,_=>exact Qb9 a c T hf w h
 | 2,_=>exact Qca a c T hf w h
 | 3,_=>exact Qcb a c T hf w h
 | 4,_=>exact Qcc a c T hf w h
 | 5,_=>exact Qcd a c T hf w h
 | 6,_=>exact Qce a c T hf w h
 | 7,_=>exact Qcf a c T hf w h
 | 8,_=>exact Qcg a c T hf w h
 | 9,_=>exact Qch a c T hf w h
theorem J8f {x y z:Int} {q:Int×Int×Int} (h:q=(x,y,z)):Ending.returned (.tuple #[.int .i64 x,.int .i64 y,.int .i64 z])=.returned (.tuple #[.int .i64 q.1,.int .i64 q.2.1,.int .i64 q.2.2]):=Qj
theorem J6f (a:Nat→Option Addr) (c:Nat→Nat) (T:Tt) (hf:manT T=true) (w:World) (h:TtL w a c T):Pc 16 #[ttV a c T] w (.tuple #[.int .i64 ((ttC T).1),.int .i64 ((ttC T).2.1),.int .i64 ((ttC T).2.2)]):=by
 obtain⟨w7,hw7⟩:=Pi (w.alloc (Jbh a c T));obtain⟨b7,s7,c7⟩:=Jcb hw7;obtain⟨p0,p1,p2,p3,p4,p5,p6,p7,p8,p9,p10,p11,p12⟩:=Jak c7;have B7:=Pe b7;have H:=Pe (h.below b7);have C7:=Pe c7;have PA:=Pe (fun (j:Nat) (hj:j<10) W hW=>J2c a c T hf j hj W hW);have ST:Hid (ttC T=ttF (Jaq T) 0 10):=Pe rfl;generalize ttC T=q at ST ⊢;generalize Jaq T=P at PA ST;clear b7 s7 c7 h hf;go_enter func16,ntmps16;go_wp2_with fail;go_loopw [5] (fun i wr=>∃k:Nat,i=.int .i64 k∧k≤10∧Hid (q=ttF P k (10 - k))∧Hid (Pn w7 wr)) (fun i _=>10 - (intOf i).toNat);case atStart=>exact⟨0,rfl,Nat.zero_le _,ST,Pe Pg⟩
 case round =>
  clear ST p0 p1 p2 p3 p4 p5 p6 p7 p8 p9 p10 p11 p12;obtain⟨k,rfl,hk,hq,HB⟩:=hrel;by_cases hlt:k<10
  ·obtain⟨p0,p1,p2,p3,p4,p5,p6,p7,p8,p9,p10,p11,p12⟩:=Jak ((HB.out.block _ (Pm C7.out).1).trans C7.out)
   have C:=Pe (PA.out k hlt wr (H.out.below HB.out));have gk:(k:Int)<10:=Kd;have e10:10 - k=(10 - (k+1))+1:=Kd;by_cases hv:(P k).2=0
   ·have N:Hid (q=ttF P (k+1) (10 - (k+1))):=Pe (by rw [hq.out,e10,Jl7 hv])
    obtain⟨⟨x,y⟩,hP⟩:=Pi (P k);rw [hP] at C hv;obtain rfl:y=0:=hv;clear hq hP e10;go_wp2_with fail;refine C.out.mono ?_;rintro e w8 ⟨rfl,b8⟩;have B8:Hid (Pn w7 w8):=HB.out.trans (b8.mono HB.out.size);clear b8 C HB p0 p1 p2 p3 p4 p5 p6 p7 p8 p9 p10 p11 p12;go_wp2_with fail;go_roundw;case rel=>exact⟨k+1,Kg,Kd,N,B8⟩
    case measure=>exact Qz
   ·have R:Hid (q=((k:Int),(P k).1,(P k).2)):=Pe (by rw [hq.out,e10,Jl6 hv])
    obtain⟨⟨x,y⟩,hP⟩:=Pi (P k);rw [hP] at C hv R;have ne:(y != 0)=true:=Jaf hv;clear hq hP e10 hv;go_wp2_with fail;refine C.out.mono ?_;rintro e w8 ⟨rfl,b8⟩;have B8:Hid (Pn w7 w8):=HB.out.trans (b8.mono HB.out.size);clear b8 C HB p0 p1 p2 p3 p4 p5 p6 p7 p8 p9 p10 p11 p12;go_wp2_with fail;go_ret3;exact⟨J8f R.out,B7.out.trans (B8.out.mono B7.out.size)⟩
  ·have dk:decide ((k:Int)<10)=false:=Pj Kd
   have R:Hid (q=(0,0,0)):=Pe (by rw [hq.out,show 10 - k=0 by omega];rfl);clear hlt hq PA;go_wp2_with fail;go_ret3;exact⟨J8f R.out,B7.out.trans (HB.out.mono B7.out.size)⟩
theorem J6g (W:World):TtL W (fun _=>none) (fun _=>0) T0:=⟨LstG.nil _ _,LstG.nil _ _,LstG.nil _ _,LstG.nil _ _,⟨LstG.nil _ _,fun x h=>Qf⟩,LstG.nil _ _,LstG.nil _ _,LstG.nil _ _,LstG.nil _ _,LstG.nil _ _⟩
theorem Jwg (EX:ExH) (s:Bs) (w:World) (hg:Jdn w):Pc 6 #[.string (str s)] w (.bool true):=by
 obtain⟨t,ht,htz,hts⟩:=Jdb s;by_cases hL:8192<s.length
 ·have g1:(8192:Int)<(t.size:Int):=Kd
  have C:=Pe (EX w hg);rw [hts];clear hts ht htz hL;go_enter func6,ntmps6;go_wp2_with fail;refine C.out.mono ?_;rintro e w1 ⟨rfl,b1⟩;have B:=Pe b1;clear b1 C;exact Wbl
 ·have g1:decide ((8192:Int)<(t.size:Int))=false:=Q4
  have C:=Pe (Jfh hg s Kd);have GG:Hid (∀X:World,Pn w X→Jdn X):=Pe (fun X b=>hg.below b);have GP:Hid (∀(X:World) (x:Bs),Jdn X→x.length≤65536→Calls prog 10 #[.string (str x)] X fun e w'=>PaR fmR x X e w'):=Pe (fun X x g h=>Jfh g x Kd);rw [hts] at C ⊢;by_cases hz:(Jcm fmR s).2.2=0
  ·have ok:=Qfp hz
   unfold PaR at C;rw [hz] at C;obtain⟨T,hT⟩:=Pi ((Jcm fmR s).1);rw [hT] at C ok;generalize (Jcm fmR s).2.1=n at C;have OK:=Pe ok;clear hT hts ht htz hL hg hz ok;go_enter func6,ntmps6;go_wp2_with fail;refine C.out.mono ?_;rintro e w1 ⟨a,c,U,rfl,cp,tl,man,okU,lnU,b1⟩;obtain⟨w2,h2⟩:=Pi (w1.alloc (Jbh a c U));obtain⟨d2,s2,k2⟩:=Jcb h2;have z2:=b1.trans (d2.mono b1.size);have GB:Hid (∀X:World,Pn w2 X→Jdn X∧TtL X a c U∧X.heap[w1.heap.size]?=some (Jbh a c U)∧Pn w X):=Pe (fun X b=>by
    have b2:=z2.trans (b.mono z2.size);exact⟨GG.out X b2,(tl.below d2).below b,(b.block _ s2).trans k2,b2⟩)
   have okT:(ttC U).2.2=0:=by rw [cp.ttC];exact OK.out
   have CC:=Pe (J6f a c U man w2 (tl.below d2));rw [okT] at CC;generalize (ttC U).1=x1 at CC;generalize (ttC U).2.1=x2 at CC;have CW:Hid (∀X:World,Pn w2 X→Pc 14 #[ttV a c U] X (.tuple #[.string (str (feedF fmR U).1),.int .i64 (feedF fmR U).2])):=Pe (fun X b=>Jfx (GB.out X b).1 (GB.out X b).2.1 man okU lnU);have HF:=Pe (Jbe.1 man).1;have OU:=Pe okT;obtain⟨q0,q1,q2,q3,q4,q5,q6,q7,q8,q9,q10,q11,q12⟩:=Jd7 k2;clear d2 s2 k2 z2 b1 cp tl man okU lnU okT C OK;rcases J6e (F:=fmR) OU.out with hz | hz
   ·obtain⟨-,tl,te⟩:=Qfo hz
    have hp:=J98 Qdz OU.out tl;have HE:Hid (∀V,CopT (nrm U) V→eqT U V=true∧(feedF fmR V)=(Jez fmR U,0)):=Pe (fun V cp=>⟨Qb4 cp (J97 U),by rw [cp.feedF fmR,Jzp];exact Prod.ext te hz⟩);have CP:Hid (∀X:World,Jdn X→Calls prog 10 #[.string (str (Jez fmR U))] X fun e w'=>PaR fmR (Jez fmR U) X e w'):=Pe (fun X g=>GP.out X _ g tl);unfold PaR at CP;rw [hp] at CP;rw [hz,te] at CW;obtain⟨sF,hs⟩:=Pi (str (Jez fmR U));rw [hs] at CW CP;have HE2:Hid (∀V,CopT (nrm U) V→eqT U V=true∧str (feedF fmR V).1=sF∧(feedF fmR V).2=0):=Pe (fun V cp=>⟨(HE.out V cp).1,by rw [(HE.out V cp).2];exact hs,by rw [(HE.out V cp).2]⟩);have sq:=Jby (a:=sF) (b:=sF) rfl;clear hz tl te hp hs HE GP;go_wp2_with fail;refine CC.out.mono ?_;rintro e w3 ⟨rfl,b3⟩;have C4:=Pe (CW.out w3 b3);have Z3:=Pe b3;clear q0 q1 q2 q3 q4 q5 q6 q7 q8 q9 q10 q11 q12;obtain⟨q0,q1,q2,q3,q4,q5,q6,q7,q8,q9,q10,q11,q12⟩:=Jd7 (w:=w3) (GB.out w3 b3).2.2.1;clear b3 CC CW h2;go_wp2_with fail;refine C4.out.mono ?_;rintro e w4 ⟨rfl,b4⟩;have Z4:=Pe (Z3.out.trans (b4.mono Z3.out.size));have C5:=Pe (CP.out w4 (GB.out w4 Z4.out).1);clear b4 C4 Z3 CP q0 q1 q2 q3 q4 q5 q6 q7 q8 q9 q10 q11 q12;go_wp2_with fail;refine C5.out.mono ?_;rintro e w5 ⟨a2,c2,V,rfl,cp,tl2,man2,ok2,ln2,b5⟩;obtain⟨w6,h6⟩:=Pi (w5.alloc (Jbh a2 c2 V));obtain⟨d6,s6,k6⟩:=Jcb h6;have z5:=Z4.out.trans (b5.mono Z4.out.size);have Z6:=Pe (z5.trans (d6.mono z5.size));have C7:=Pe (Jfx (GB.out w6 Z6.out).1 (tl2.below d6) man2 ok2 ln2);obtain⟨e1,e2,e3⟩:=HE2.out V cp;rw [e2,e3] at C7;have VB:Hid (∀X:World,Pn w6 X→TtL X a2 c2 V∧X.heap[w5.heap.size]?=some (Jbh a2 c2 V)):=Pe (fun X b=>⟨(tl2.below d6).below b,(b.block _ s6).trans k6⟩);have E1:=Pe e1;obtain⟨p0,p1,p2,p3,p4,p5,p6,p7,p8,p9,p10,p11,p12⟩:=Jd7 k6;clear cp tl2 man2 ok2 ln2 b5 d6 s6 k6 z5 C5 Z4 HE2 e1 e2 e3;go_wp2_with fail;refine C7.out.mono ?_;rintro e w7 ⟨rfl,b7⟩;have Z7:=Pe (Z6.out.trans (b7.mono Z6.out.size));have C8:=Pe (Juk a a2 c c2 U V HF.out w7 (GB.out w7 Z7.out).2.1 (VB.out w7 b7).1);rw [E1.out] at C8;clear p0 p1 p2 p3 p4 p5 p6 p7 p8 p9 p10 p11 p12;obtain⟨q0,q1,q2,q3,q4,q5,q6,q7,q8,q9,q10,q11,q12⟩:=Jd7 (w:=w7) (GB.out w7 Z7.out).2.2.1;obtain⟨p0,p1,p2,p3,p4,p5,p6,p7,p8,p9,p10,p11,p12⟩:=Jd7 (w:=w7) (VB.out w7 b7).2;clear b7 C7 Z6 VB E1 HF h6;go_wp2_with fail;refine C8.out.mono ?_;rintro e w8 ⟨rfl,b8⟩;have Z8:=Pe (Z7.out.trans (b8.mono Z7.out.size));have C9:=Pe (EX w8 (GB.out w8 Z8.out).1);clear b8 C8 Z7 q0 q1 q2 q3 q4 q5 q6 q7 q8 q9 q10 q11 q12 p0 p1 p2 p3 p4 p5 p6 p7 p8 p9 p10 p11 p12;go_wp2_with fail;refine C9.out.mono ?_;rintro e w9 ⟨rfl,b9⟩;have B:=Pe ((GB.out w8 Z8.out).2.2.2.trans (b9.mono (GB.out w8 Z8.out).2.2.2.size));clear b9 C9;exact Wbl
   ·rw [hz] at CW
    generalize str (feedF fmR U).1=sF at CW;clear hz GP HF OU;go_wp2_with fail;refine CC.out.mono ?_;rintro e w3 ⟨rfl,b3⟩;have C4:=Pe (CW.out w3 b3);have Z3:=Pe b3;clear q0 q1 q2 q3 q4 q5 q6 q7 q8 q9 q10 q11 q12;obtain⟨q0,q1,q2,q3,q4,q5,q6,q7,q8,q9,q10,q11,q12⟩:=Jd7 (w:=w3) (GB.out w3 b3).2.2.1;clear b3 CC CW h2;go_wp2_with fail;refine C4.out.mono ?_;rintro e w4 ⟨rfl,b4⟩;have Z4:=Pe (Z3.out.trans (b4.mono Z3.out.size));have C5:=Pe (EX w4 (GB.out w4 Z4.out).1);clear b4 C4 Z3 q0 q1 q2 q3 q4 q5 q6 q7 q8 q9 q10 q11 q12;go_wp2_with fail;refine C5.out.mono ?_;rintro e w9 ⟨rfl,b9⟩;have B:=Pe ((GB.out w4 Z4.out).2.2.2.trans (b9.mono (GB.out w4 Z4.out).2.2.2.size));clear b9 C5;exact Wbl
  ·have te:=Qb5 hz
   unfold PaR at C;rw [te] at C;generalize (Jcm fmR s).2.1=n at C;generalize (Jcm fmR s).2.2=z at C hz;have g2:=Jaf hz;clear te hts ht htz hL hg hz GP;go_enter func6,ntmps6;go_wp2_with fail;refine C.out.mono ?_;rintro e w1 ⟨a,c,U,rfl,cp,tl,man,okU,lnU,b1⟩;obtain⟨w2,h2⟩:=Pi (w1.alloc (Jbh a c U));obtain⟨d2,s2,k2⟩:=Jcb h2;have Z2:=Pe (b1.trans (d2.mono b1.size));have CE:=Pe (Juk a (fun _=>none) c (fun _=>0) U T0 (Jbe.1 man).1 w2 (tl.below d2) (J6g w2));rw [cp.eq] at CE;have hv:ttV (fun _=>none) (fun _=>0) T0=.agg #[.slice none 0 0,.slice none 0 0,.slice none 0 0,.slice none 0 0,.slice none 0 0,.slice none 0 0,.slice none 0 0,.slice none 0 0,.slice none 0 0,.slice none 0 0,.int .i64 0,.int .i64 0,.int .i64 0]:=rfl;rw [hv] at CE;obtain⟨q0,q1,q2,q3,q4,q5,q6,q7,q8,q9,q10,q11,q12⟩:=Jd7 k2;clear d2 s2 k2 b1 cp tl man okU lnU C hv;go_wp2_with fail;refine CE.out.mono ?_;rintro e w3 ⟨rfl,b3⟩;have Z3:=Pe (Z2.out.trans (b3.mono Z2.out.size));have C4:=Pe (EX w3 (GG.out w3 Z3.out));clear b3 CE Z2 h2 q0 q1 q2 q3 q4 q5 q6 q7 q8 q9 q10 q11 q12;go_wp2_with fail;refine C4.out.mono ?_;rintro e w9 ⟨rfl,b9⟩;have B:=Pe (Z3.out.trans (b9.mono Z3.out.size));clear b9 C4;exact Wbl
theorem Jwh (x:ByteArray) (W:World) (hg:Jdn W):Calls prog 6 #[.string x] W fun e W'=>e=.returned (.bool true)∧Pn W W':=by
 have:=Jwg J6d x.data.toList W hg;rwa [show str x.data.toList=x from rfl] at this
open Go Go.RowKit Go.ChangeShapes Go.WideShapes Go.Deep
theorem Jul:"*"++"errors.errorString"="*errors.errorString":=Kl
theorem Qci (u:TypeId) (h:prog.typeName? 3 u=some "*errors.errorString"):u=330 :=
 typeName_ptr_named (nm:="errors.errorString") (by rw [Jul];kernel_rfl) Kk Kl u (by rw [Jul];exact h)
theorem Jm5 {H:Type} {enc:TypeId×Value→H} {W:World} {base:Nat} {sp:Nat→Bool} {held:Bool} {fuel:Nat} {t e:TypeId} {n:Nat} {cs:List Value} {ls:List (List UInt8)} {p:List MemPlace}
  (ht:prog.underlying t=some (.array n e)) (he:prog.underlying e=some .string) (hce:prog.cellsOf e=1) (hct:prog.cellsOf t=n)
  (h:DataW.trod enc prog W base sp held fuel t cs=some (.agg (ls.map fun l=>(.lit (.string l):DataW H)),p)):cs=ls.map fun l=>Value.string (str l):=by
 cases fuel with
 | zero=>simp [DataW.trod] at h
 | succ fuel =>
  simp only [DataW.trod,ht,hce,hct,Nat.mul_one] at h;split at h
  ·next hl =>
   obtain⟨xs,hm,hx⟩:=Option.map_eq_some_iff.1 h;have hxs:xs.map (·.1)=ls.map fun l=>(DataW.lit (.string l):DataW H):=by
    have:=congrArg Prod.fst hx;simpa using this
   have hxl:xs.length=n:=by simpa using Lib.mapM_length hm
   have hzl:ls.length=n:=by
    have:=congrArg List.length hxs;exact Qy
   apply List.ext_getElem?
   intro i;by_cases hi:i<n
   ·obtain⟨b,hb,hf⟩:=Lib.mapM_at hm i i (by simp [hi])
    obtain⟨s,hc,rfl,-⟩:=DataW.trod_string he hf;have h1:cs[i]?=some (.string s):=by
     have:=congrArg (·[0]?) hc;simpa [List.getElem?_take,List.getElem?_drop] using this
    have h2:(xs.map (·.1))[i]?=some (DataW.lit (.string s.data.toList):DataW H):=by simp [hb]
    rw [hxs] at h2;simp only [List.getElem?_map,Option.map_eq_some_iff,DataW.lit.injEq,Lit.string.injEq] at h2;obtain⟨l,hl2,rfl⟩:=h2;simp [h1,hl2,Ja5]
   ·rw [List.getElem?_eq_none Kd,List.getElem?_eq_none Ke]
  ·cases h
theorem Jhx {W:World} {nm:String} {d:DataW Unit} {r:List (String×DataW Unit)} {g:Nat} {t:TypeId} {n:Nat} {ls:List Bs} (hd0:d=.agg (ls.map fun l=>.lit (.string l))) (hg:prog.globalNamed nm=some g) (ht:(prog.globals[g]?).map (·.type)=some t)
  (hu:prog.underlying t=some (.array n 9)) (hct:prog.cellsOf t=n) (h:laidMet prog ((nm,d)::r) W):W.var? prog nm=some (ls.map fun k=>Value.string (str k)).toArray:=by
 subst hd0;obtain⟨ps,⟨g',t',cs,fuel,p,q,hg',ht',hvar,hd,_,_⟩,_⟩:=h;obtain rfl:=Po (hg.symm.trans hg');obtain rfl:=Po (ht.symm.trans ht');have e:=Jm5 (ls:=ls) hu underlying9 Kk hct hd;rw [hvar,show cs=(ls.map fun k=>Value.string (str k)).toArray from Array.toList_inj.1 (by rw [e])]
theorem Jpu {W:World} (h:laidMet prog [("math/bits.deBruijn32tab",Rows.laid_math_bits_deBruijn32tab),("math/bits.deBruijn64tab",Rows.laid_math_bits_deBruijn64tab),("internal/strconv.uint64pow10",Rows.laid_internal_strconv_uint64pow10),("unicode/utf8.acceptRanges",Rows.laid_unicode_utf8_acceptRanges),("strconv.ErrRange",Rows.laid_strconv_ErrRange),("strconv.ErrSyntax",Rows.laid_strconv_ErrSyntax),("transit/date.monthLengths",Rows.laid_transit_date_monthLengths),("transit/route.names",Rows.laid_transit_route_names),("transit/feed.kinds",Rows.laid_transit_feed_kinds),("unicode/utf8.first",Rows.laid_unicode_utf8_first)] W):Jdn W:=by
 have h2:=h.tail;have h3:=h2.tail;have h5:=h3.tail.tail;have h7:=h5.tail.tail;have h8:=h7.tail;have h9:=h8.tail;obtain⟨a,_,hv,_⟩:=laid_sentinel h5 S3.gRange Kk underlying220 Qci underlying330 underlying332 rfl rfl underlying9 Kk Kk;exact⟨⟨Lib.tabIs_of_head (k:=.i64) (zs:=S2.lens) (t:=295) (e:=3) (n:=12) S2.gLens Kk Kk Kk Kk Kk h7,
  Lib.tabIs_of_head (k:=.u64) (zs:=Lib.pow10Tab) (t:=328) (e:=225) (n:=20) S2.gPow Kk Kk Kk Kk Kk h3⟩,⟨_,_,hv⟩,
  ⟨Lib.tabIs_of_head (k:=.u8) (zs:=Jxe) (t:=297) (e:=5) (n:=64) gTab Kk Kk Kk Kk Kk h2,Jhx (ls:=nmL) (t:=227) (n:=8) rfl S15.gNames Kk underlying227 Kk h8⟩,
  Jhx (ls:=kinds.take 10) (t:=105) (n:=10) rfl Jua Kk underlying105 Kk h9⟩
end
end Go.Proofs.YtpifdbphmnifdaaGreatDoor
