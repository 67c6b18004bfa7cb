/-
  Facts. Condition: each theorem's own.
-/
import Derived.Test.YtpifdbphmnifdaaGreatDoorYF16
set_option maxRecDepth 100000
set_option maxHeartbeats 8000000
section
variable {p:Prop}
theorem Gm(h:p:=by rintro r w3 ⟨rfl,n3,s3⟩;have N3:=Pe n3;have S3:=Pe ((S1.out.trans N2.out.2).trans s3);clear n3 s3 D3;go_wp2_with fail;go_ret;exact⟨rfl,N3.out,S3.out⟩):p:=h
theorem Gn(h:p:=by go_enter func13,ntmps13;go_wp2_with fail;go_ret;exact⟨Jac R.out.symm,B7.out⟩):p:=h
theorem Gp(h:p:=by rintro e w8 ⟨rfl,b8⟩;have B8:Hid (Po w w8):=B7.out.trans (b8.mono B7.out.size);clear b8 C B7;go_wp2_with fail;go_ret2;exact⟨rfl,B8.out⟩):p:=h
theorem Gq(h:p:=by rintro r w3 ⟨rfl,n3,s3⟩;have N3:=Pe n3;have S3:=Pe (S1.out.trans s3);clear n3 s3 D3;go_wp2_with fail;go_ret;exact⟨rfl,by rw[<-E.out];exact N3.out,S3.out⟩):p:=h
theorem Gr(h:p:=by go_wp2_with fail;go_ret;exact⟨rfl,B.out⟩):p:=h
theorem Gs(h:p:=by have:=hts0 x hx;omega):p:=h
theorem Gu(h:p:=by rintro r w1 ⟨rfl,n1,s1⟩;have N1:=Pe n1;have S1:=Pe s1;clear n1 s1 C1;go_wp2_with fail;go_ret;exact⟨rfl,N1.out,S1.out⟩):p:=h
theorem Gv(h:p:=by rw[Jai];exact hs):p:=h
end
open Go.Proofs.Tryz
namespace Go.Proofs.YtpifdbphmnifdaaGreatDoor
section
open Go.RowKit
theorem Qbo(a:Nat->Option Addr)(c:Nat->Nat)(T:Tt)(hf:manT T=true)(w:World)(h:TtL w a c T):Pc 38 #[ttV a c T,.int .i64 0] w (.tuple #[.int .i64 ((Jam T 0).1),.int .i64 ((Jam T 0).2)]):=by
 obtain⟨w7,hw7⟩:=Pi (w.alloc (Jbw a c T));obtain⟨b7,s7,c7⟩:=Jck hw7;obtain⟨p0,p1,p2,p3,p4,p5,p6,p7,p8,p9,p10,p11,p12⟩:=Jbv c7;have B7:=Pe b7;have H:=Pe (h.below b7);obtain⟨⟨f0,f1,f2,f3,f4,f5,f6,f7,f8,f9⟩,hts0⟩:=Jbj.1 hf;have hts:∀x∈T.tr,(clT x).length<=1000000:=fun x hx=>Gs
 have C:=Pe (S13.rcheck_all (.slice (a 0) T.st.length (c 0)) T.st Ka w7 H.out.st);obtain⟨⟨x,y⟩,hq⟩:=Pi (Jam T 0);have hq':S13.chkT T.st=(x,y):=hq;rw[hq'] at C;rw[hq];clear b7 s7 c7 h hf f0 f1 f2 f3 f4 f5 f6 f7 f8 f9 hts hts0 hq hq' H;go_enter func38,ntmps38;go_wp2_with fail;refine C.out.mono ?_;rintro e w8 ⟨rfl,rfl⟩;go_wp2_with fail;go_ret2;exact⟨rfl,B7.out⟩
theorem Qbp(a:Nat->Option Addr)(c:Nat->Nat)(T:Tt)(hf:manT T=true)(w:World)(h:TtL w a c T):Pc 38 #[ttV a c T,.int .i64 1] w (.tuple #[.int .i64 ((Jam T 1).1),.int .i64 ((Jam T 1).2)]):=by
 obtain⟨w7,hw7⟩:=Pi (w.alloc (Jbw a c T));obtain⟨b7,s7,c7⟩:=Jck hw7;obtain⟨p0,p1,p2,p3,p4,p5,p6,p7,p8,p9,p10,p11,p12⟩:=Jbv c7;have B7:=Pe b7;have H:=Pe (h.below b7);obtain⟨⟨f0,f1,f2,f3,f4,f5,f6,f7,f8,f9⟩,hts0⟩:=Jbj.1 hf;have hts:∀x∈T.tr,(clT x).length<=1000000:=fun x hx=>Gs
 have C:=Pe (Calls.below (S15.rcheck_any (.slice (a 1) T.ro.length (c 1)) T.ro Ka w7 H.out.ro));obtain⟨⟨x,y⟩,hq⟩:=Pi (Jam T 1);have hq':chkR T.ro=(x,y):=hq;rw[hq'] at C;rw[hq];clear b7 s7 c7 h hf f0 f1 f2 f3 f4 f5 f6 f7 f8 f9 hts hts0 hq hq' H;go_enter func38,ntmps38;go_wp2_with fail;refine C.out.mono ?_;exact Gp
theorem Qbq(a:Nat->Option Addr)(c:Nat->Nat)(T:Tt)(hf:manT T=true)(w:World)(h:TtL w a c T):Pc 38 #[ttV a c T,.int .i64 2] w (.tuple #[.int .i64 ((Jam T 2).1),.int .i64 ((Jam T 2).2)]):=by
 obtain⟨w7,hw7⟩:=Pi (w.alloc (Jbw a c T));obtain⟨b7,s7,c7⟩:=Jck hw7;obtain⟨p0,p1,p2,p3,p4,p5,p6,p7,p8,p9,p10,p11,p12⟩:=Jbv c7;have B7:=Pe b7;have H:=Pe (h.below b7);obtain⟨⟨f0,f1,f2,f3,f4,f5,f6,f7,f8,f9⟩,hts0⟩:=Jbj.1 hf;have hts:∀x∈T.tr,(clT x).length<=1000000:=fun x hx=>Gs
 have C:=Pe (Calls.below (S14.rcheck_all (.slice (a 2) T.ca.length (c 2)) T.ca Ka w7 H.out.ca));obtain⟨⟨x,y⟩,hq⟩:=Pi (Jam T 2);have hq':S14.chkC T.ca=(x,y):=hq;rw[hq'] at C;rw[hq];clear b7 s7 c7 h hf f0 f1 f2 f3 f4 f5 f6 f7 f8 f9 hts hts0 hq hq' H;go_enter func38,ntmps38;go_wp2_with fail;refine C.out.mono ?_;exact Gp
theorem Qbr(a:Nat->Option Addr)(c:Nat->Nat)(T:Tt)(hf:manT T=true)(w:World)(h:TtL w a c T):Pc 38 #[ttV a c T,.int .i64 3] w (.tuple #[.int .i64 ((Jam T 3).1),.int .i64 ((Jam T 3).2)]):=by
 obtain⟨w7,hw7⟩:=Pi (w.alloc (Jbw a c T));obtain⟨b7,s7,c7⟩:=Jck hw7;obtain⟨p0,p1,p2,p3,p4,p5,p6,p7,p8,p9,p10,p11,p12⟩:=Jbv c7;have B7:=Pe b7;have H:=Pe (h.below b7);obtain⟨⟨f0,f1,f2,f3,f4,f5,f6,f7,f8,f9⟩,hts0⟩:=Jbj.1 hf;have hts:∀x∈T.tr,(clT x).length<=1000000:=fun x hx=>Gs
 have C:=Pe (Calls.below (S14.rcx_any (.slice (a 3) T.ex.length (c 3)) T.ex T.ca.length Ka w7 H.out.ex));obtain⟨⟨x,y⟩,hq⟩:=Pi (Jam T 3);have hq':S14.chkX T.ca.length T.ex=(x,y):=hq;rw[hq'] at C;rw[hq];clear b7 s7 c7 h hf f0 f1 f2 f3 f4 f5 f6 f7 f8 f9 hts hts0 hq hq' H;go_enter func38,ntmps38;go_wp2_with fail;refine C.out.mono ?_;exact Gp
theorem Qbs(a:Nat->Option Addr)(c:Nat->Nat)(T:Tt)(hf:manT T=true)(w:World)(h:TtL w a c T):Pc 38 #[ttV a c T,.int .i64 4] w (.tuple #[.int .i64 ((Jam T 4).1),.int .i64 ((Jam T 4).2)]):=by
 obtain⟨w7,hw7⟩:=Pi (w.alloc (Jbw a c T));obtain⟨b7,s7,c7⟩:=Jck hw7;obtain⟨p0,p1,p2,p3,p4,p5,p6,p7,p8,p9,p10,p11,p12⟩:=Jbv c7;have B7:=Pe b7;have H:=Pe (h.below b7);obtain⟨⟨f0,f1,f2,f3,f4,f5,f6,f7,f8,f9⟩,hts0⟩:=Jbj.1 hf;have hts:∀x∈T.tr,(clT x).length<=1000000:=fun x hx=>Gs
 have C:=Pe (S17.rtck_any (.slice (a 4) T.tr.length (c 4)) T.tr Ka T.st.length T.ro.length T.ca.length w7 H.out.tr);obtain⟨⟨x,y⟩,hq⟩:=Pi (Jam T 4);have hq':S17.chkT T.st.length T.ro.length T.ca.length T.tr=(x,y):=hq;rw[hq'] at C;rw[hq];clear b7 s7 c7 h hf f0 f1 f2 f3 f4 f5 f6 f7 f8 f9 hts hts0 hq hq' H;go_enter func38,ntmps38;go_wp2_with fail;refine C.out.mono ?_;exact Gp
theorem Qbt(a:Nat->Option Addr)(c:Nat->Nat)(T:Tt)(hf:manT T=true)(w:World)(h:TtL w a c T):Pc 38 #[ttV a c T,.int .i64 5] w (.tuple #[.int .i64 ((Jam T 5).1),.int .i64 ((Jam T 5).2)]):=by
 obtain⟨w7,hw7⟩:=Pi (w.alloc (Jbw a c T));obtain⟨b7,s7,c7⟩:=Jck hw7;obtain⟨p0,p1,p2,p3,p4,p5,p6,p7,p8,p9,p10,p11,p12⟩:=Jbv c7;have B7:=Pe b7;have H:=Pe (h.below b7);obtain⟨⟨f0,f1,f2,f3,f4,f5,f6,f7,f8,f9⟩,hts0⟩:=Jbj.1 hf;have hts:∀x∈T.tr,(clT x).length<=1000000:=fun x hx=>Gs
 have C:=Pe (S18.rchk_any (.slice (a 5) T.fr.length (c 5)) T.fr Ka (.slice (a 4) T.tr.length (c 4)) T.tr hts w7 H.out.fr H.out.tr);obtain⟨⟨x,y⟩,hq⟩:=Pi (Jam T 5);have hq':chkF (T.tr.map clT) T.fr=(x,y):=hq;rw[hq'] at C;rw[hq];clear b7 s7 c7 h hf f0 f1 f2 f3 f4 f5 f6 f7 f8 f9 hts hts0 hq hq' H;go_enter func38,ntmps38;go_wp2_with fail;refine C.out.mono ?_;exact Gp
theorem Qbu(a:Nat->Option Addr)(c:Nat->Nat)(T:Tt)(hf:manT T=true)(w:World)(h:TtL w a c T):Pc 38 #[ttV a c T,.int .i64 6] w (.tuple #[.int .i64 ((Jam T 6).1),.int .i64 ((Jam T 6).2)]):=by
 obtain⟨w7,hw7⟩:=Pi (w.alloc (Jbw a c T));obtain⟨b7,s7,c7⟩:=Jck hw7;obtain⟨p0,p1,p2,p3,p4,p5,p6,p7,p8,p9,p10,p11,p12⟩:=Jbv c7;have B7:=Pe b7;have H:=Pe (h.below b7);obtain⟨⟨f0,f1,f2,f3,f4,f5,f6,f7,f8,f9⟩,hts0⟩:=Jbj.1 hf;have hts:∀x∈T.tr,(clT x).length<=1000000:=fun x hx=>Gs
 have C:=Pe (S19.rchkh_any (.slice (a 6) T.th.length (c 6)) T.th Ka (.slice (a 4) T.tr.length (c 4)) T.tr Ka hts (.slice (a 5) T.fr.length (c 5)) T.fr Ka w7 H.out.th H.out.tr H.out.fr);obtain⟨⟨x,y⟩,hq⟩:=Pi (Jam T 6);have hq':S19.chkH (T.tr.map S19.tcT) T.fr T.th=(x,y):=hq;rw[hq'] at C;rw[hq];clear b7 s7 c7 h hf f0 f1 f2 f3 f4 f5 f6 f7 f8 f9 hts hts0 hq hq' H;go_enter func38,ntmps38;go_wp2_with fail;refine C.out.mono ?_;exact Gp
theorem Qbv(a:Nat->Option Addr)(c:Nat->Nat)(T:Tt)(hf:manT T=true)(w:World)(h:TtL w a c T):Pc 38 #[ttV a c T,.int .i64 7] w (.tuple #[.int .i64 ((Jam T 7).1),.int .i64 ((Jam T 7).2)]):=by
 obtain⟨w7,hw7⟩:=Pi (w.alloc (Jbw a c T));obtain⟨b7,s7,c7⟩:=Jck hw7;obtain⟨p0,p1,p2,p3,p4,p5,p6,p7,p8,p9,p10,p11,p12⟩:=Jbv c7;have B7:=Pe b7;have H:=Pe (h.below b7);obtain⟨⟨f0,f1,f2,f3,f4,f5,f6,f7,f8,f9⟩,hts0⟩:=Jbj.1 hf;have hts:∀x∈T.tr,(clT x).length<=1000000:=fun x hx=>Gs
 have C:=Pe (S19.rchku_any (.slice (a 7) T.gu.length (c 7)) T.gu Ka (.slice (a 4) T.tr.length (c 4)) T.tr Ka hts (.slice (a 5) T.fr.length (c 5)) T.fr Ka T.st.length w7 H.out.gu H.out.tr H.out.fr);obtain⟨⟨x,y⟩,hq⟩:=Pi (Jam T 7);have hq':S19.chkU (T.tr.map S19.tcT) T.fr T.st.length T.gu=(x,y):=hq;rw[hq'] at C;rw[hq];clear b7 s7 c7 h hf f0 f1 f2 f3 f4 f5 f6 f7 f8 f9 hts hts0 hq hq' H;go_enter func38,ntmps38;go_wp2_with fail;refine C.out.mono ?_;exact Gp
theorem Qbw(a:Nat->Option Addr)(c:Nat->Nat)(T:Tt)(hf:manT T=true)(w:World)(h:TtL w a c T):Pc 38 #[ttV a c T,.int .i64 8] w (.tuple #[.int .i64 ((Jam T 8).1),.int .i64 ((Jam T 8).2)]):=by
 obtain⟨w7,hw7⟩:=Pi (w.alloc (Jbw a c T));obtain⟨b7,s7,c7⟩:=Jck hw7;obtain⟨p0,p1,p2,p3,p4,p5,p6,p7,p8,p9,p10,p11,p12⟩:=Jbv c7;have B7:=Pe b7;have H:=Pe (h.below b7);obtain⟨⟨f0,f1,f2,f3,f4,f5,f6,f7,f8,f9⟩,hts0⟩:=Jbj.1 hf;have hts:∀x∈T.tr,(clT x).length<=1000000:=fun x hx=>Gs
 have C:=Pe (S20.rchk_any (.slice (a 8) T.pa.length (c 8)) T.pa Ka T.st.length w7 H.out.pa);obtain⟨⟨x,y⟩,hq⟩:=Pi (Jam T 8);have hq':S20.chkP T.st.length T.pa=(x,y):=hq;rw[hq'] at C;rw[hq];clear b7 s7 c7 h hf f0 f1 f2 f3 f4 f5 f6 f7 f8 f9 hts hts0 hq hq' H;go_enter func38,ntmps38;go_wp2_with fail;refine C.out.mono ?_;exact Gp
theorem Qbx(a:Nat->Option Addr)(c:Nat->Nat)(T:Tt)(hf:manT T=true)(w:World)(h:TtL w a c T):Pc 38 #[ttV a c T,.int .i64 9] w (.tuple #[.int .i64 ((Jam T 9).1),.int .i64 ((Jam T 9).2)]):=by
 obtain⟨w7,hw7⟩:=Pi (w.alloc (Jbw a c T));obtain⟨b7,s7,c7⟩:=Jck hw7;obtain⟨p0,p1,p2,p3,p4,p5,p6,p7,p8,p9,p10,p11,p12⟩:=Jbv c7;have B7:=Pe b7;have H:=Pe (h.below b7);obtain⟨⟨f0,f1,f2,f3,f4,f5,f6,f7,f8,f9⟩,hts0⟩:=Jbj.1 hf;have hts:∀x∈T.tr,(clT x).length<=1000000:=fun x hx=>Gs
 have C:=Pe (S21.rcheck_any (.slice (a 9) T.pr.length (c 9)) T.pr T.di T.wi T.cp Ka w7 H.out.pr);obtain⟨⟨x,y⟩,hq⟩:=Pi (Jam T 9);have hq':S21.chkPd T.di T.wi T.cp T.pr=(x,y):=hq;rw[hq'] at C;rw[hq];clear b7 s7 c7 h hf f0 f1 f2 f3 f4 f5 f6 f7 f8 f9 hts hts0 hq hq' H;go_enter func38,ntmps38;go_wp2_with fail;refine C.out.mono ?_;exact Gp
theorem J2g(a:Nat->Option Addr)(c:Nat->Nat)(T:Tt)(hf:manT T=true)(j:Nat)(hj:j<10)(w:World)(h:TtL w a c T):Pc 38 #[ttV a c T,.int .i64 (j:Int)] w (.tuple #[.int .i64 ((Jam T j).1),.int .i64 ((Jam T j).2)]):=by
 match j,hj with
 | 0,_=>exact Qbo a c T hf w h
 | 1,_=>exact Qbp a c T hf w h
 | 2,_=>exact Qbq a c T hf w h
 | 3,_=>exact Qbr a c T hf w h
 | 4,_=>exact Qbs a c T hf w h
 | 5,_=>exact Qbt a c T hf w h
 | 6,_=>exact Qbu a c T hf w h
 | 7,_=>exact Qbv a c T hf w h
 | 8,_=>exact Qbw a c T hf w h
 | 9,_=>exact Qbx a c T hf w h
variable {w:World} {b:Nat} {ls:List (List UInt8)} {V:List UInt8->Value}
theorem J8s{x y z:Int}{q:Int×Int×Int}(h:q=(x,y,z)):Ending.returned (.tuple #[.int .i64 x,.int .i64 y,.int .i64 z])=.returned (.tuple #[.int .i64 q.1,.int .i64 q.2.1,.int .i64 q.2.2]):=Qc
theorem J55(a:Nat->Option Addr)(c:Nat->Nat)(T:Tt)(hf:manT T=true)(w:World)(h:TtL w a c T):Pc 16 #[ttV a c T] w (.tuple #[.int .i64 ((ttC T).1),.int .i64 ((ttC T).2.1),.int .i64 ((ttC T).2.2)]):=by
 obtain⟨w7,hw7⟩:=Pi (w.alloc (Jbw a c T));obtain⟨b7,s7,c7⟩:=Jck hw7;obtain⟨p0,p1,p2,p3,p4,p5,p6,p7,p8,p9,p10,p11,p12⟩:=Jbv c7;have B7:=Pe b7;have H:=Pe (h.below b7);have C7:=Pe c7;have PA:=Pe (fun(j:Nat) (hj:j<10) W hW=>J2g a c T hf j hj W hW);have ST:Hid (ttC T=ttF (Jam T) 0 10):=Pe rfl;generalize ttC T=q at ST |-;generalize Jam T=P at PA ST;clear b7 s7 c7 h hf;go_enter func16,ntmps16;go_wp2_with fail;go_loopw [5] (fun i wr=>∃k:Nat,i=.int .i64 k/\k<=10/\Hid (q=ttF P k (10 - k))/\Hid (Po w7 wr)) (fun i _=>10 - (intOf i).toNat);case atStart=>exact⟨0,rfl,Nat.zero_le _,ST,Pe Pg⟩
 case round =>
  clear ST p0 p1 p2 p3 p4 p5 p6 p7 p8 p9 p10 p11 p12;obtain⟨k,rfl,hk,hq,HB⟩:=hrel;by_cases hlt:k<10
  ·obtain⟨p0,p1,p2,p3,p4,p5,p6,p7,p8,p9,p10,p11,p12⟩:=Jbv ((HB.out.block _ (Pn C7.out).1).trans C7.out)
   have C:=Pe (PA.out k hlt wr (H.out.below HB.out));have gk:(k:Int)<10:=Ka;have e10:10 - k=(10 - (k+1))+1:=Ka;by_cases hv:(P k).2=0
   ·have N:Hid (q=ttF P (k+1) (10 - (k+1))):=Pe (by rw[hq.out,e10,Jmd hv])
    obtain⟨⟨x,y⟩,hP⟩:=Pi (P k);rw[hP] at C hv;obtain rfl:y=0:=hv;clear hq hP e10;go_wp2_with fail;refine C.out.mono ?_;rintro e w8 ⟨rfl,b8⟩;have B8:Hid (Po w7 w8):=HB.out.trans (b8.mono HB.out.size);clear b8 C HB p0 p1 p2 p3 p4 p5 p6 p7 p8 p9 p10 p11 p12;go_wp2_with fail;go_roundw;case rel=>exact⟨k+1,Kj,Ka,N,B8⟩
    case measure=>exact Q7
   ·have R:Hid (q=((k:Int),(P k).1,(P k).2)):=Pe (by rw[hq.out,e10,Jmc hv])
    obtain⟨⟨x,y⟩,hP⟩:=Pi (P k);rw[hP] at C hv R;have ne:(y != 0)=true:=Jaf hv;clear hq hP e10 hv;go_wp2_with fail;refine C.out.mono ?_;rintro e w8 ⟨rfl,b8⟩;have B8:Hid (Po w7 w8):=HB.out.trans (b8.mono HB.out.size);clear b8 C HB p0 p1 p2 p3 p4 p5 p6 p7 p8 p9 p10 p11 p12;go_wp2_with fail;go_ret3;exact⟨J8s R.out,B7.out.trans (B8.out.mono B7.out.size)⟩
  ·have dk:decide ((k:Int)<10)=false:=Pj Ka
   have R:Hid (q=(0,0,0)):=Pe (by rw[hq.out,show 10 - k=0 by omega];rfl);clear hlt hq PA;go_wp2_with fail;go_ret3;exact⟨J8s R.out,B7.out.trans (HB.out.mono B7.out.size)⟩
theorem Jqb{m:Nat}:∀ls:List Bs,(∀l∈ls,l.length<=m)->(Jax ls).length<=(m+1)*ls.length
 | [],_=>by simp[Jax]
 | x::r,h=>by
  have ih:=Jqb r fun l hl=>h l (List.mem_cons_of_mem _ hl)
  have h0:=h x List.mem_cons_self;have e:Jax (x::r)=(x++[10])++Jax r:=rfl;rw[e];simp only[Pq,List.length_cons,List.length_nil,Nat.mul_add];omega
theorem Jr9{a:Nat->Option Addr}{c:Nat->Nat}{T:Tt}(h:TtL w a c T)(man:manT T=true):
  Pc 15 #[ttV a c T] w (.tuple #[.string (str (feedF fmR T).1),.int .i64 (feedF fmR T).2]):=by
 obtain⟨w7,h7⟩:=Pi (w.alloc (Jbw a c T));obtain⟨b7,s7,c7⟩:=Jck h7;have B7:=Pe b7;have CC:=Pe (J55 a c T man w7 (h.below b7));have KB:Hid (∀X:World,Po w7 X->X.heap[w.heap.size]?=some (Jbw a c T)):=Pe (fun X b=>(b.block _ s7).trans c7);have HL:Hid (∀X:World,Po w7 X->TtL X a c T):=Pe (fun X b=>h.below (b7.trans (b.mono b7.size)));obtain⟨q0,q1,q2,q3,q4,q5,q6,q7,q8,q9,q10,q11,q12⟩:=Je5 c7;by_cases hz:(ttC T).2.2=0
 ·have V:=Jz8 hz
  have L:=J1n hz;rw[hz] at CC;have e:feedF fmR T=if 65536<(Jf0 fmR T).length then([],5) else(Jf0 fmR T,0):=by unfold feedF;rw[if_neg Ka]
  have C1:Hid (∀X:World,Po w7 X->Calls prog 35 #[ttV a c T] X fun e w'=>e=.returned (.string (tx (((T.st.map (rSt fmR))++T.ro.map (rRo))++T.ca.map (rCa fmR)++T.ex.map (rEx fmR T))))/\Po w7 w') :=
   Pe (fun X b=>(Jwr (J2c X) (HL.out X b) V L Je0).mono fun _ _ q=>⟨q.1,b.trans (q.2.mono b.size)⟩)
  have C2:Hid (∀X:World,Po w7 X->Calls prog 36 #[ttV a c T] X fun e w'=>e=.returned (.string (tx (((T.tr.flatMap (bTr fmR T))++T.fr.map (rFr fmR T))++T.th.map (rTh T)++T.gu.map (rGu T))))/\Po w7 w') :=
   Pe (fun X b=>(Jr7 (J2c X) (HL.out X b) V L Je0).mono fun _ _ q=>⟨q.1,b.trans (q.2.mono b.size)⟩)
  have C3:Hid (∀X:World,Po w7 X->Calls prog 37 #[ttV a c T] X fun e w'=>e=.returned (.string (tx ((T.pa.map (rPa fmR T)++rFa fmR T)++T.pr.map (rPr fmR))))/\Po w7 w') :=
   Pe (fun X b=>(J2d (J2c X) (HL.out X b) V L Je0).mono fun _ _ q=>⟨q.1,b.trans (q.2.mono b.size)⟩)
  have E:tx (((T.st.map (rSt fmR))++T.ro.map (rRo))++T.ca.map (rCa fmR)++T.ex.map (rEx fmR T))++tx (((T.tr.flatMap (bTr fmR T))++T.fr.map (rFr fmR T))++T.th.map (rTh T)++T.gu.map (rGu T))++tx ((T.pa.map (rPa fmR T)++rFa fmR T)++T.pr.map (rPr fmR))=str (Jf0 fmR T):=by
   unfold tx Jf0 rows;rw[Jas,Jas,<-Jja,<-Jja,<-List.map_append,<-List.map_append];simp only[List.append_assoc]
  have E:=Pe E;generalize tx (((T.st.map (rSt fmR))++T.ro.map (rRo))++T.ca.map (rCa fmR)++T.ex.map (rEx fmR T))=x1 at C1 E;generalize tx (((T.tr.flatMap (bTr fmR T))++T.fr.map (rFr fmR T))++T.th.map (rTh T)++T.gu.map (rGu T))=x2 at C2 E;generalize tx ((T.pa.map (rPa fmR T)++rFa fmR T)++T.pr.map (rPr fmR))=x3 at C3 E;rw[e];have hs:(x1++x2++x3).size=(Jf0 fmR T).length:=by rw[E.out,Jai]
  obtain⟨n1,n2,-⟩:=Jp3 V L Je0;have hb:(Jf0 fmR T).length<=(16384+1)*((rows fmR T).map Jan).length:=Jqb _ n2;rw[Pr] at hb;have hb2:x1.size+x2.size+x3.size=(Jf0 fmR T).length:=by rw[<-hs,ByteArray.size_append,ByteArray.size_append]
  have g1:¬9223372036854775807<x1.size+x2.size:=Ka;have g2:¬9223372036854775807<x1.size+x2.size+x3.size:=Ka;have HS:=Pe hs;have HS2:=Pe hb2;clear hs hb hb2 n1 n2;have SF:Hid (∀W:World,Po w7 W->W.cell? ⟨w.heap.size,0,none⟩=some (.slice (a 0) T.st.length (c 0))/\W.cell? ⟨w.heap.size,1,none⟩=some (.slice (a 1) T.ro.length (c 1))/\W.cell? ⟨w.heap.size,2,none⟩=some (.slice (a 2) T.ca.length (c 2))/\W.cell? ⟨w.heap.size,3,none⟩=some (.slice (a 3) T.ex.length (c 3))/\W.cell? ⟨w.heap.size,4,none⟩=some (.slice (a 4) T.tr.length (c 4))/\W.cell? ⟨w.heap.size,5,none⟩=some (.slice (a 5) T.fr.length (c 5))/\W.cell? ⟨w.heap.size,6,none⟩=some (.slice (a 6) T.th.length (c 6))/\W.cell? ⟨w.heap.size,7,none⟩=some (.slice (a 7) T.gu.length (c 7))/\W.cell? ⟨w.heap.size,8,none⟩=some (.slice (a 8) T.pa.length (c 8))/\W.cell? ⟨w.heap.size,9,none⟩=some (.slice (a 9) T.pr.length (c 9))/\W.cell? ⟨w.heap.size,10,none⟩=some (.int .i64 T.di)/\W.cell? ⟨w.heap.size,11,none⟩=some (.int .i64 T.wi)/\W.cell? ⟨w.heap.size,12,none⟩=some (.int .i64 T.cp)):=Pe (fun W b=>Je5 (KB.out W b));clear c7 s7 b7 h man hz V L;go_enter func15,ntmps15;go_wp2_with fail;refine CC.out.mono ?_;rintro e w1 ⟨rfl,b1⟩;have B1:=Pe b1;have s0:=SF.out w1 b1;clear b1 CC q0 q1 q2 q3 q4 q5 q6 q7 q8 q9 q10 q11 q12 h7;go_wp2_with fail;go_region_held3 (fun W=>W.cell? ⟨w.heap.size,0,none⟩=some (.slice (a 0) T.st.length (c 0))/\W.cell? ⟨w.heap.size,1,none⟩=some (.slice (a 1) T.ro.length (c 1))/\W.cell? ⟨w.heap.size,2,none⟩=some (.slice (a 2) T.ca.length (c 2))/\W.cell? ⟨w.heap.size,3,none⟩=some (.slice (a 3) T.ex.length (c 3))/\W.cell? ⟨w.heap.size,4,none⟩=some (.slice (a 4) T.tr.length (c 4))/\W.cell? ⟨w.heap.size,5,none⟩=some (.slice (a 5) T.fr.length (c 5))/\W.cell? ⟨w.heap.size,6,none⟩=some (.slice (a 6) T.th.length (c 6))/\W.cell? ⟨w.heap.size,7,none⟩=some (.slice (a 7) T.gu.length (c 7))/\W.cell? ⟨w.heap.size,8,none⟩=some (.slice (a 8) T.pa.length (c 8))/\W.cell? ⟨w.heap.size,9,none⟩=some (.slice (a 9) T.pr.length (c 9))/\W.cell? ⟨w.heap.size,10,none⟩=some (.int .i64 T.di)/\W.cell? ⟨w.heap.size,11,none⟩=some (.int .i64 T.wi)/\W.cell? ⟨w.heap.size,12,none⟩=some (.int .i64 T.cp)) (first | assumption | exact SF.out _ (by first | assumption | exact B1.out | exact B1.out.drew)) (first
   | (go_at_call 35;refine(C1.out _ (by first | exact B1.out | exact B1.out.drew)).mono ?_;rintro _ v1 ⟨rfl,e1⟩;have s1:=SF.out _ e1)
   | (go_at_call 36;refine(C2.out _ e1).mono ?_;rintro _ v2 ⟨rfl,e2⟩;have s2:=SF.out _ e2)
   | (go_at_call 37;refine(C3.out _ e2).mono ?_;rintro _ v3 ⟨rfl,e3⟩;have s3:=SF.out _ e3))
  have B:=Pe (B7.out.trans (e3.mono B7.out.size));clear s0 s1 s2 s3 e1 e2 e3 SF C1 C2 C3 KB HL;by_cases hl:65536<(Jf0 fmR T).length
  ·have g:(65536:Int)<(x1.size:Int)+(x2.size:Int)+(x3.size:Int):=by have:=HS2.out;omega
   go_wp2_with fail;go_ret2;exact⟨by first | rfl | rw[if_pos hl],B.out⟩
  ·have g:decide ((65536:Int)<(x1.size:Int)+(x2.size:Int)+(x3.size:Int))=false:=by rw[decide_eq_false_iff_not];have:=HS2.out;omega
   go_wp2_with fail;go_ret2;exact⟨congrArg (fun s=>Ending.returned (.tuple #[.string s,.int .i64 0])) E.out,B.out⟩
 ·have e:feedF fmR T=([],(ttC T).2.2):=by unfold feedF;rw[if_pos hz]
  rw[e];have g:=Jaf hz;generalize (ttC T).2.2=z at CC g |-;clear c7 s7 b7 h man hz e;go_enter func15,ntmps15;go_wp2_with fail;refine CC.out.mono ?_;rintro e w1 ⟨rfl,b1⟩;have B:=Pe (B7.out.trans (b1.mono B7.out.size));clear b1 CC;go_wp2_with fail;go_ret2;exact⟨rfl,B.out⟩
theorem J56(a:Nat->Option Addr)(c:Nat->Nat)(T:Tt)(w:World)(h:TtL w a c T):Pc 13 #[ttV a c T] w (.bool (fewT T)):=by
 obtain⟨w7,hw7⟩:=Pi (w.alloc (Jbw a c T));obtain⟨b7,s7,c7⟩:=Jck hw7;obtain⟨p0,p1,p2,p3,p4,p5,p6,p7,p8,p9,p10,p11,p12⟩:=Jbv c7;have B7:=Pe b7;have H:=Pe (h.below b7);obtain⟨q,hq⟩:=Pi (fewT T);rw[hq];have HQ:=Pe hq;clear b7 s7 c7 hq h;by_cases n0:¬T.st.length<=70
 ·have R:Hid (q=false):=Pe (by rw[<-HQ.out];exact Jfs (fun k=>n0 k.1))
  have g0:(70:Int)<(T.st.length:Int):=Ka;clear n0;exact Gn
 have h0:=Pu n0;clear n0;have g0:decide ((70:Int)<(T.st.length:Int))=false:=Pj Ka;by_cases n1:¬T.ro.length<=70
 ·have R:Hid (q=false):=Pe (by rw[<-HQ.out];exact Jfs (fun k=>n1 k.2.1))
  have g1:(70:Int)<(T.ro.length:Int):=Ka;clear n1 h0;exact Gn
 have h1:=Pu n1;clear n1;have g1:decide ((70:Int)<(T.ro.length:Int))=false:=Pj Ka;by_cases n2:¬T.ca.length<=70
 ·have R:Hid (q=false):=Pe (by rw[<-HQ.out];exact Jfs (fun k=>n2 k.2.2.1))
  have g2:(70:Int)<(T.ca.length:Int):=Ka;clear n2 h0 h1;exact Gn
 have h2:=Pu n2;clear n2;have g2:decide ((70:Int)<(T.ca.length:Int))=false:=Pj Ka;by_cases n3:¬T.ex.length<=70
 ·have R:Hid (q=false):=Pe (by rw[<-HQ.out];exact Jfs (fun k=>n3 k.2.2.2.1))
  have g3:(70:Int)<(T.ex.length:Int):=Ka;clear n3 h0 h1 h2;exact Gn
 have h3:=Pu n3;clear n3;have g3:decide ((70:Int)<(T.ex.length:Int))=false:=Pj Ka;by_cases n4:¬T.tr.length<=40
 ·have R:Hid (q=false):=Pe (by rw[<-HQ.out];exact Jfs (fun k=>n4 k.2.2.2.2.1))
  have g4:(40:Int)<(T.tr.length:Int):=Ka;clear n4 h0 h1 h2 h3;exact Gn
 have h4:=Pu n4;clear n4;have g4:decide ((40:Int)<(T.tr.length:Int))=false:=Pj Ka;by_cases n5:¬T.fr.length<=70
 ·have R:Hid (q=false):=Pe (by rw[<-HQ.out];exact Jfs (fun k=>n5 k.2.2.2.2.2.1))
  have g5:(70:Int)<(T.fr.length:Int):=Ka;clear n5 h0 h1 h2 h3 h4;exact Gn
 have h5:=Pu n5;clear n5;have g5:decide ((70:Int)<(T.fr.length:Int))=false:=Pj Ka;by_cases n6:¬T.th.length<=140
 ·have R:Hid (q=false):=Pe (by rw[<-HQ.out];exact Jfs (fun k=>n6 k.2.2.2.2.2.2.1))
  have g6:(140:Int)<(T.th.length:Int):=Ka;clear n6 h0 h1 h2 h3 h4 h5;exact Gn
 have h6:=Pu n6;clear n6;have g6:decide ((140:Int)<(T.th.length:Int))=false:=Pj Ka;by_cases n7:¬T.gu.length<=140
 ·have R:Hid (q=false):=Pe (by rw[<-HQ.out];exact Jfs (fun k=>n7 k.2.2.2.2.2.2.2.1))
  have g7:(140:Int)<(T.gu.length:Int):=Ka;clear n7 h0 h1 h2 h3 h4 h5 h6;exact Gn
 have h7:=Pu n7;clear n7;have g7:decide ((140:Int)<(T.gu.length:Int))=false:=Pj Ka;by_cases n8:¬T.pa.length<=70
 ·have R:Hid (q=false):=Pe (by rw[<-HQ.out];exact Jfs (fun k=>n8 k.2.2.2.2.2.2.2.2.1))
  have g8:(70:Int)<(T.pa.length:Int):=Ka;clear n8 h0 h1 h2 h3 h4 h5 h6 h7;exact Gn
 have h8:=Pu n8;clear n8;have g8:decide ((70:Int)<(T.pa.length:Int))=false:=Pj Ka;by_cases n9:¬T.pr.length<=20
 ·have R:Hid (q=false):=Pe (by rw[<-HQ.out];exact Jfs (fun k=>n9 k.2.2.2.2.2.2.2.2.2))
  have g9:(20:Int)<(T.pr.length:Int):=Ka;clear n9 h0 h1 h2 h3 h4 h5 h6 h7 h8;exact Gn
 have h9:=Pu n9;clear n9;have g9:decide ((20:Int)<(T.pr.length:Int))=false:=Pj Ka;have FN:Hid (fewN T):=Pe ⟨h0,h1,h2,h3,h4,h5,h6,h7,h8,h9⟩;clear h0 h1 h2 h3 h5 h6 h7 h8 h9;go_enter func13,ntmps13;go_wp2_with fail;clear g0 g1 g2 g3 g4 g5 g6 g7 g8 g9;go_loop [3] (fun i=>∃k:Nat,i=.int .i64 k/\k<=T.tr.length/\Hid (∀(j:Nat) x,j<k->T.tr[j]?=some x->(clT x).length<=40)) (fun i=>T.tr.length - (intOf i).toNat);case atStart=>exact⟨0,rfl,Nat.zero_le _,Pe (fun j x h=>absurd h (Nat.not_lt_zero _))⟩
 case round =>
  obtain⟨k,rfl,hk,hall⟩:=hrel;by_cases hlt:k<T.tr.length
  ·obtain⟨⟨id,r,ca,f,v,cl⟩,hx⟩:=Jah hlt
   obtain⟨nm,hnm⟩:=Pi (str id);obtain⟨b,o,B,m,hA,rfl,hb,r0,r1,r2,r3,r4,-,hcl,-⟩:=Ja7 H.out.tr hx hnm;have gk:(k:Int)<(T.tr.length:Int):=Ka;rw[hA] at p4;by_cases h40:40<cl.length
   ·have R:Hid (q=false):=Pe (by rw[<-HQ.out];exact J4m hx h40)
    have g:(40:Int)<(cl.length:Int):=Ka;clear hx hnm hb hall h40 HQ H FN hA;exact J5
   ·have g:decide ((40:Int)<(cl.length:Int))=false:=Pj Ka
    have N:Hid (∀(j:Nat) x,j<k+1->T.tr[j]?=some x->(clT x).length<=40):=Pe (by
     intro j x hj hxx;by_cases e:j=k
     ·subst e
      rw[hx] at hxx;cases hxx;show cl.length<=40
      omega
     ·exact hall.out j x Ka hxx)
    clear hx hnm hb hall h40 HQ H FN hA;go_wp2_with fail;go_round;case rel=>exact⟨k+1,Kj,Ka,N⟩
    case measure=>exact Q7
  ·have dk:decide (k<T.tr.length)=false:=Kg
   have R:Hid (q=true):=Pe (by rw[<-HQ.out];exact Qah FN.out (fun j x hj=>hall.out j x Ka));clear hlt hall HQ H FN;exact J5
theorem Jqc{G:World->Prop}(hG:∀w w':World,G w->Po w w'->G w')(EX:∀w:World,G w->Pc 9 #[] w (.bool true))
  (a:Nat->Option Addr) (c:Nat->Nat) (T:Tt)
  (FF:∀w:World,G w->TtL w a c T->manT T=true->Pc 14 #[ttV a c T] w (.tuple #[.string (str (feedF fmR T).1),.int .i64 (feedF fmR T).2]))
  (w:World) (hg:G w) (hl:TtL w a c T):Pc 4 #[ttV a c T] w (.bool true):=by
 obtain⟨w7,h7⟩:=Pi (w.alloc (Jbw a c T));obtain⟨b7,s7,c7⟩:=Jck h7;have CF:=Pe (J56 a c T w7 (hl.below b7));have GB:Hid (∀X:World,Po w7 X->G X/\TtL X a c T/\X.heap[w.heap.size]?=some (Jbw a c T)/\Po w X):=Pe (fun X b=>by
  have b2:=b7.trans (b.mono b7.size);exact⟨hG _ _ hg b2,hl.below b2,(b.block _ s7).trans c7,b2⟩)
 obtain⟨q0,q1,q2,q3,q4,q5,q6,q7,q8,q9,q10,q11,q12⟩:=Je5 c7;cases hf:fewT T with
 | false =>
  rw[hf] at CF;clear c7 s7 b7 hf hl hg FF;go_enter func4,ntmps4;go_wp2_with fail;refine CF.out.mono ?_;rintro e w1 ⟨rfl,b1⟩;have G1:=GB.out w1 b1;have C2:=Pe (EX w1 G1.1);have Z1:=Pe G1.2.2.2;clear G1 b1 CF;go_wp2_with fail;refine C2.out.mono ?_;rintro e w2 ⟨rfl,b2⟩;have B:=Pe (Z1.out.trans (b2.mono Z1.out.size));clear b2 C2;exact Gr
 | true =>
  rw[hf] at CF;have man:=Qbn hf;have CW:=Pe (fun(X:World) (b:Po w7 X)=>FF X (GB.out X b).1 (GB.out X b).2.1 man);have CR:=Pe (fun(X:World) (b:Po w7 X)=>Jr9 (GB.out X b).2.1 man);generalize str (feedF fmR T).1=s at CW CR;generalize (feedF fmR T).2=z at CW CR;have g1:(s.toList==s.toList)=true:=beq_self_eq_true _;have g2:(z==z)=true:=beq_self_eq_true _;have EH:=Pe EX;clear c7 s7 b7 hf hl hg FF man EX;go_enter func4,ntmps4;go_wp2_with fail;refine CF.out.mono ?_;rintro e w1 ⟨rfl,b1⟩;have C2:=Pe (CW.out w1 b1);have Z1:=Pe b1;clear q0 q1 q2 q3 q4 q5 q6 q7 q8 q9 q10 q11 q12;obtain⟨q0,q1,q2,q3,q4,q5,q6,q7,q8,q9,q10,q11,q12⟩:=Je5 (w:=w1) (GB.out w1 b1).2.2.1;clear b1 CF CW h7;go_wp2_with fail;refine C2.out.mono ?_;rintro e w2 ⟨rfl,b2⟩;have Z2:=Pe (Z1.out.trans (b2.mono Z1.out.size));have C3:=Pe (CR.out w2 Z2.out);clear q0 q1 q2 q3 q4 q5 q6 q7 q8 q9 q10 q11 q12;obtain⟨q0,q1,q2,q3,q4,q5,q6,q7,q8,q9,q10,q11,q12⟩:=Je5 (w:=w2) (GB.out w2 Z2.out).2.2.1;clear b2 C2 CR Z1;go_wp2_with fail;refine C3.out.mono ?_;rintro e w3 ⟨rfl,b3⟩;have Z3:=Pe (Z2.out.trans (b3.mono Z2.out.size));have C4:=Pe (EH.out w3 (GB.out w3 Z3.out).1);clear b3 C3 Z2 q0 q1 q2 q3 q4 q5 q6 q7 q8 q9 q10 q11 q12;go_wp2_with fail;refine C4.out.mono ?_;rintro e w4 ⟨rfl,b4⟩;have B:=Pe ((GB.out w3 Z3.out).2.2.2.trans (b4.mono (GB.out w3 Z3.out).2.2.2.size));clear b4 C4;exact Gr
open Go
def exB:Bs:=[115,116,111,112,44,65,44,48,44,121,101,115,44,48,10,115,116,111,112,44,66,44,49,44,110,111,44,49,50,48,10,114,111,117,116,101,44,82,44,98,117,115,44,110,111,10,99,97,108,101,110,100,97,114,44,67,44,49,49,49,49,49,48,48,44,50,48,50,53,45,48,49,45,48,49,44,50,48,50,53,45,49,50,45,51,49,10,116,114,105,112,44,84,44,82,44,67,44,121,101,115,10,99,97,108,108,44,65,44,48,56,58,48,48,58,48,48,44,48,56,58,48,48,58,48,48,44,98,111,97,114,100,10,99,97,108,108,44,66,44,48,56,58,51,48,58,48,48,44,48,56,58,51,49,58,48,48,44,97,108,105,103,104,116,10,112,97,116,104,44,65,44,66,44,49,48,109,48,48,115,44,110,111,10,112,114,111,100,117,99,116,44,115,105,110,103,108,101,44,50,46,53,48,44,49,44,49,54,44,48,115,44,98,117,115,43,116,114,97,109,10]
def ex2:Bs:=[115,116,111,112,44,65,44,48,44,121,101,115,44,48,10,115,116,111,112,44,66,44,49,44,110,111,44,49,50,48,10,99,97,108,101,110,100,97,114,44,67,44,49,49,49,49,49,48,48,44,50,48,50,53,45,48,49,45,48,49,44,50,48,50,53,45,49,50,45,51,49,10,116,114,105,112,44,84,44,82,44,67,44,121,101,115,10]
def ex3:Bs:=[115,116,111,112,44,65,44,48,44,121,101,115,44,48,10,115,116,111,112,44,65,44,49,44,110,111,44,49,50,48,10]
def ex4:Bs:=[35,32,110,111,32,115,116,111,112,115,10,10,99,97,108,108,44,65,44,48,56,58,48,48,58,48,48,44,48,56,58,48,48,58,48,48,44,98,111,97,114,100,10]
def ex5:Bs:=[115,116,111,112,44,65,44,48,44,121,101,115,44,48]
def exU(v:Value):Tt:=⟨[([65],0,true,0),([66],1,false,120)],[([82],0,false)],[([67],fun i=>decide ([49,49,49,49,49,48,48][i]?=some (49:UInt8)),9132,9496)],[],[([84],0,0,true,v,[(0,28800,28800,true,false),(1,30600,30660,false,true)])],[],[],[],[(0,1,600,false)],[([115,105,110,103,108,101],250,1,16,0,3)],0,0,0⟩
theorem J57:Jfb fmR exB=(exU (.slice none 0 0),0,0):=Kl
theorem Qed:(Jfb fmR ex2).2=(4,9):=Kl
theorem J58:(Jfb fmR ex3).2=(2,6):=Kl
theorem Qby:(Jfb fmR ex4).2=(3,8):=Kl
theorem Qbz:(Jfb fmR ex5).2=(0,4):=Kl
theorem J2h:feedF fmR (exU (.slice none 0 0))=(exB,0):=Kl
theorem Qee{U:Tt}(h:CopT (exU (.slice none 0 0)) U):∃v,U=exU v:=by
 obtain⟨st,ro,ca,ex,tr,fr,th,gu,pa,pr,di,wi,cp⟩:=U;obtain⟨h0,h1,h2,h3,h4,h5,h6,h7,h8,h9,h10,h11,h12⟩:=h;dsimp only at h0 h1 h2 h3 h4 h5 h6 h7 h8 h9 h10 h11 h12;match tr,h4 with
 | [],h4=>simp[exU] at h4
 | [(a,b,c,d,v,l)],h4 =>
  have h4:[noV (a,b,c,d,v,l)]=[(([84],0,0,true,[(0,28800,28800,true,false),(1,30600,30660,false,true)]):List UInt8×Int×Int×Bool×List Cl)]:=h4;simp only[noV,List.cons.injEq,and_true,Prod.mk.injEq] at h4;obtain⟨rfl,rfl,rfl,rfl,rfl⟩:=h4;subst h0 h1 h2 h3 h5 h6 h7 h8 h9 h10 h11 h12;exact⟨v,rfl⟩
 | x::y::r,h4=>simp[exU] at h4
theorem Jwv(v:Value):feedF fmR (exU v)=(exB,0):=by
 rw[<-J2h];exact CopT.feedF fmR (T:=exU (.slice none 0 0)) ⟨rfl,rfl,rfl,rfl,rfl,rfl,rfl,rfl,rfl,rfl,rfl,rfl,rfl⟩
open Go.RowKit Go.Maps
def MapF(w:World)(b:Nat)(ls:List (List UInt8)):Prop:=∃(n:Nat) (D:Dm),n<=ls.length/\w.ownsMap prog 9 (plainElem prog 3) b n D/\IsMap D/\(∀x,has D (.string x)=decide (x∈ls))/\∀x z,x∈ls->D.atKey (.string x) z=.lit (.int .i64 (ls.idxOf x))
theorem MapF.made(w:World):MapF (w.alloc (.map #[] 0)) w.heap.size []:=⟨0,.map [],Nat.le_refl _,World.ownsMap_made _ _ _ _,isMap_empty,fun x=>Qw,fun x z h=>Qv⟩
theorem MapF.lt(h:MapF w b ls):b<w.heap.size:=by
 obtain⟨n,D,_,h1,_⟩:=h;exact h1.lt
theorem MapF.kept{w':World}{row:Option Nat}(h:MapF w b ls)(hg:w.grownBy w' row)(hne:some b≠row):MapF w' b ls:=by
 obtain⟨n,D,h0,h1,h2⟩:=h;exact⟨n,D,h0,h1.kept hg hne,h2⟩
theorem MapF.look(h:MapF w b ls)(s:ByteArray)(x:List UInt8)(hx:str x=s)(hs:x.length<=4611686018427387904):
  (Instr.lookup 78 (.map (some b)) (.string s) true).run prog w=.ok (.tuple #[.int .i64 (if x∈ls then(ls.idxOf x:Int) else 0),.bool (decide (x∈ls))]) w:=by
 subst hx;obtain⟨n,D,_,h1,h2,h3,h4⟩:=h;have hk:=Jj7 (str x) Gv;obtain⟨v,ps,hrun,hv⟩:=h1.look_ok Jg6 underlying78 (J3a w) (plainElem_int underlying3 Kd) hk;obtain⟨c,rfl,hc,_⟩:=plainElem_int_inv underlying3 hv;have hc:=congrArg Prod.fst hc;have e:(str x).data.toList=x:=rfl;rw[h3,e] at hrun;rw[hrun];have:c=if x∈ls then(ls.idxOf x:Int) else 0:=by
  by_cases hm:x∈ls
  ·rw[if_pos hm]
   rw[e,h4 _ _ hm] at hc;simpa using hc.symm
  ·rw[if_neg hm]
   rw[atKey_of_not_has (by rw[h3];exact Pj hm)] at hc;simpa using hc.symm
 rw[this]
theorem Jup{x y:List UInt8}(h:x∈ls):(ls++[y]).idxOf x=ls.idxOf x:=by
 rw[List.idxOf_append,if_pos h]
theorem MapF.put(h:MapF w b ls)(s:ByteArray)(x:List UInt8)(hx:str x=s)(hs:x.length<=4611686018427387904)(hn:x ∉ ls)(hl:ls.length<1099511627776):
  ∃w',(Instr.mapUpdate 78 (.map (some b)) (.string s) (.int .i64 (ls.length:Nat))).run prog w=.ok () w'/\MapF w' b (ls++[x])/\w.grownBy w' (some b):=by
 subst hx;obtain⟨n,D,h0,h1,h2,h3,h4⟩:=h;obtain⟨w',hrun,r1,r2⟩:=h1.update Jg6 underlying78 Kr (Jj7 (str x) Gv) (plainElem_int underlying3 (WalkArith.wf_i64 (show -9223372036854775808<=((ls.length:Nat):Int)/\((ls.length:Nat):Int)<=9223372036854775807 by omega)));have e:(str x).data.toList=x:=rfl;rw[e] at r1;refine⟨w',hrun,⟨n+1,_,by rw[Pq];simpa using h0,r1,h2.put _ _,fun y=>?_,fun y z hy=>?_⟩,r2⟩
 ·by_cases hy:y=x
  ·subst hy
   exact Qh
  ·rw[has_put_other (by simpa using hy),h3]
   simp[hy]
 ·by_cases he:y=x
  ·subst he
   rw[atKey_put_same h2 Kq,List.idxOf_append,if_neg hn];simp
  ·have hm:y∈ls:=by simpa [he] using hy
   rw[atKey_put_other (by simpa using he),h4 _ _ hm,Jup hm]
theorem MapF.again(h:MapF w b ls){x:List UInt8}(hx:x∈ls):MapF w b (ls++[x]):=by
 obtain⟨n,D,h0,h1,h2,h3,h4⟩:=h;refine⟨n,D,by rw[Pq];omega,h1,h2,fun y=>?_,fun y z hy=>?_⟩
 ·rw[h3]
  by_cases hy:y=x
  ·subst hy;simp[hx]
  ·simp[hy]
 ·have hm:y∈ls:=by
   rcases List.mem_append.1 hy with h | h
   ·exact h
   ·simp at h;rw[h];exact hx
  rw[h4 _ _ hm,Jup hm]
def asIs(v:Value):Option (DataW Value×List MemPlace):=some (.held v,[])
theorem J2i(w:World):(zeroValue 84).run prog w=.ok (.slice none 0 0) w:=Kl
def MapL(w:World)(b n:Nat)(V:List UInt8->Value):Prop:=∃D:DataW Value,w.ownsMap prog 9 asIs b n D/\IsMap D/\∀x,D.atKey (.string x) (.held (.slice none 0 0))=.held (V x)
theorem MapL.made(w:World):MapL (w.alloc (.map #[] 0)) w.heap.size 0 fun _=>.slice none 0 0:=⟨.map [],World.ownsMap_made _ _ _ _,isMap_empty,fun _=>atKey_of_not_has (has_eq [] _) _⟩
theorem MapL.kept{w':World}{n:Nat}{row:Option Nat}(h:MapL w b n V)(hg:w.grownBy w' row)(hne:some b≠row):MapL w' b n V:=by
 obtain⟨D,h1,h2⟩:=h;exact⟨D,h1.kept hg hne,h2⟩
theorem MapL.look{n:Nat}(h:MapL w b n V)(s:ByteArray)(x:List UInt8)(hx:str x=s)(hs:x.length<=4611686018427387904):(Instr.lookup 76 (.map (some b)) (.string s) false).run prog w=.ok (V x) w:=by
 subst hx;obtain⟨D,g1,_,g3⟩:=h;obtain⟨v,ps,hrun,hv⟩:=g1.lookup Jg6 underlying76 (J2i w) (show asIs (.slice none 0 0)=some (.held (.slice none 0 0),[]) from rfl) (Jj7 (str x) Gv);have e:(str x).data.toList=x:=rfl;rw[e,g3] at hv;have:v=V x:=by
  unfold asIs at hv;have:=congrArg (fun z=>z.map Prod.fst) hv;simp at this;exact this
 rw[hrun,this]
def putL(V:List UInt8->Value)(a:List UInt8)(v:Value):List UInt8->Value:=fun x=>if x=a then v else V x
theorem MapL.put{n:Nat}(hown:MapL w b n V)(hn:n<1099511627776)(s:ByteArray)(x:List UInt8)(hx:str x=s)(hs:x.length<=4611686018427387904)(val:Value):
  ∃w',(Instr.mapUpdate 76 (.map (some b)) (.string s) val).run prog w=.ok () w'/\MapL w' b (n+1) (putL V x val)/\w.grownBy w' (some b):=by
 subst hx;obtain⟨D,g1,g2,g3⟩:=hown;obtain⟨w',hrun,r1,r2⟩:=g1.update Jg6 underlying76 Kr (Jj7 (str x) Gv) (show asIs val=some (.held val,[]) from rfl);have e:(str x).data.toList=x:=rfl;rw[e] at r1;refine⟨w',hrun,⟨_,r1,g2.put _ _,fun y=>?_⟩,r2⟩;unfold putL;by_cases hy:y=x
 ·subst hy
  rw[if_pos rfl,atKey_put_same g2 Kq]
 ·rw[if_neg hy,atKey_put_other (by simpa using hy),g3]
def fe1(e x:Int):Int:=if e=0 then x else e
theorem Jjv{e x:Int}(h:e≠0):fe1 e x=e:=if_neg h
theorem Jnc{e x:Int}(h:e=0):fe1 e x=x:=if_pos h
theorem J2j{e:Int}{l:List Bs}{s:Bs}{k:Nat}(h:∀j,j<k->l[j]?≠some s)(hk:l[k]?=some s):fnd e l s=((k:Int),0):=by
 have hl:=(Pm hk).1;have:l.findIdx? (fun x=>decide (x=s))=some k:=by
  rw[List.findIdx?_eq_some_iff_getElem];refine⟨hl,by simpa using (Pm hk).2,fun j hj=>?_⟩;simp only[Bool.not_eq_true,decide_eq_false_iff_not];intro e;exact h j hj (by rw[List.getElem?_eq_getElem (Nat.lt_trans hj hl),e])
 unfold fnd;rw[this]
theorem Jnd{e:Int}{l:List Bs}{s:Bs}(h:∀j,j<l.length->l[j]?≠some s):fnd e l s=(0,e):=by
 have:l.findIdx? (fun x=>decide (x=s))=none:=by
  rw[List.findIdx?_eq_none_iff];intro x hx;simp only[decide_eq_false_iff_not];intro e;obtain⟨j,hj⟩:=List.mem_iff_getElem?.1 hx;exact h j (Pm hj).1 (by rw[hj,e])
 unfold fnd;rw[this]
theorem Jc2(y:Int):fe1 y 0=y:=by unfold fe1;split <;> simp_all
theorem J2k(e y:Int)(l:List Bs)(s:Bs):(if decide ((fnd e l s).2=0)=true then y else fe1 y e)=fe1 y (fnd e l s).2:=by
 unfold fnd;cases l.findIdx? (fun x=>decide (x=s)) with
 | some i=>exact(Jc2 y).symm
 | none =>
  show(if decide (e=0)=true then y else fe1 y e)=fe1 y e
  by_cases h:e=0
  ·subst h;rw[if_pos Ke];exact(Jc2 y).symm
  ·rw[if_neg Kt]
theorem Jne{a b:Bs}(h:str a=str b):a=b:=by
 have:=congrArg (fun b:ByteArray=>b.data.toList) h;simpa [str] using this
def LstO(F n:Nat)(W:World)(v:Value)(g:List Bs):Prop:=∃A c,v=.slice A g.length c/\g.length<=c/\c<=9223372036854775807/\(0<g.length->∃b o,A=some ⟨b,o,none⟩/\b<n/\b≠F/\∀(j:Nat) x,g[j]?=some x->W.cell? ⟨b,o+j,none⟩=some (.string (str x)))
structure Prd (F n:Nat) (vs:List Value) (v:Value) (g:List Bs) (e:Int) (W:World):Prop where
 box:W.heap[F]?=some (.cells vs.toArray 80 (0,0))
 rest:vs[0]?=some v
 err:vs[1]?=some (.int .i64 e)
 lst:LstO F n W v g
 size:n<=W.heap.size
def set2(vs:List Value)(v:Value)(e:Int):List Value:=(vs.set 0 v).set 1 (.int .i64 e)
def Nx(F:Nat)(vs:List Value)(g:List Bs)(W0:World)(k:Nat)(e:Int)(W:World):Prop:=W0.grownBy W (some F)/\F<W0.heap.size/\∃v,Prd F W0.heap.size (set2 vs v e) v (g.drop k) e W
section
variable {F n:Nat} {vs:List Value} {v v':Value} {g:List Bs} {e x:Int} {W W' W0:World} {k:Nat}
theorem Jae{i:Nat}(h:2<=i):(set2 vs v e)[i]?=vs[i]?:=by
 unfold set2;rw[List.getElem?_set,if_neg Ka,List.getElem?_set,if_neg Ka]
theorem Prd.lt(h:Prd F n vs v g e W):F<W.heap.size:=(Pn h.box).1
theorem Prd.cell(h:Prd F n vs v g e W){i:Nat}{u:Value}(hv:vs[i]?=some u):W.cell? ⟨F,i,none⟩=some u/\W.frozen? ⟨F,i,none⟩=false :=
 ⟨Ud,frozen_of_row _ _ _ _ _ h.box⟩
theorem LstO.kept{q:Nat}(h:LstO F n W v g)(hn:n<=W.heap.size)(b:W.grownBy W' (some q))(hq:q=F\/n<=q):LstO F n W' v g:=by
 obtain⟨A,c,e,h1,h2,h3⟩:=h;refine⟨A,c,e,h1,h2,fun h0=>?_⟩;obtain⟨bk,o,e1,h4,h5,h6⟩:=h3 h0;have hne:bk≠q:=hq.elim (fun r e=>h5 (e.trans r)) (fun r e=>Nat.lt_irrefl q (Ps (e ▸ h4) r));have hb:=b.block bk (Ps h4 hn) (fun e=>hne (Pp e));exact⟨bk,o,e1,h4,h5,fun j x hx=>by rw[<-h6 j x hx];unfold World.cell?;rw[hb]⟩
def Jg0(F:Nat)(W W':World):Prop:=∀b o,b≠F->W.heap[b]?=some o->W'.heap[b]?=some o
theorem Juq(h:W.grownBy W' (some F)):Jg0 F W W':=fun b _ hb ho=>(h.block b (Pn ho).1 (fun e=>hb (Pp e))).trans ho
theorem Nx.lt(h:Nx F vs g W0 k e W):F<W.heap.size:=Ps h.2.1 h.1.size
theorem Nx.on(h:Nx F vs g W0 k e W)(b:Po W W'):Nx F vs g W0 k e W':=by
 obtain⟨h1,h2,v,h3⟩:=h;exact⟨h1.trans (Jbu b _),h2,v,(b.block _ h3.lt).trans h3.box,h3.rest,h3.err,h3.lst.kept h3.size (Jbu b (some F)) (.inl rfl),Nat.le_trans h3.size b.size⟩
theorem Nx.off{q:Nat}(h:Nx F vs g W0 k e W)(b:W.grownBy W' (some q))(hq:W0.heap.size<=q)(hF:q≠F):Nx F vs g W0 k e W':=by
 obtain⟨h1,h2,v,h3⟩:=h;exact⟨⟨b.os.trans h1.os,b.tape.trans h1.tape,b.output.trans h1.output,Nat.le_trans h1.size b.size,fun j hj hne=>(b.block j (Ps hj h1.size) (fun e=>by have:=Pp e;omega)).trans (h1.block j hj hne)⟩,h2,v,(b.block _ h3.lt (fun e=>hF (Pp e).symm)).trans h3.box,h3.rest,h3.err,h3.lst.kept h3.size b (.inr hq),Nat.le_trans h3.size b.size⟩
theorem Nx.cell(h:Nx F vs g W0 k e W){i:Nat}{u:Value}(hi:2<=i)(hv:vs[i]?=some u):W.cell? ⟨F,i,none⟩=some u:=by
 obtain⟨-,-,v,h3⟩:=h;exact(h3.cell ((Jae hi).trans hv)).1
theorem Nx.err(h:Nx F vs g W0 k e W):W.cell? ⟨F,1,none⟩=some (.int .i64 e)/\W.frozen? ⟨F,1,none⟩=false:=by
 obtain⟨-,-,v,h3⟩:=h;exact h3.cell h3.err
theorem Nx.fail(h:Nx F vs g W0 k e W)(x:Int):Nx F vs g W0 k x (W.setCell ⟨F,1,none⟩ (.int .i64 x)):=by
 obtain⟨h1,h2,v,h3⟩:=h;have hg:=Jbs W F 1 (.int .i64 x);have hl:1<(set2 vs v e).length:=(Pm h3.err).1;have e1:(set2 vs v e).set 1 (.int .i64 x)=set2 vs v x:=by unfold set2;rw[List.set_set]
 refine⟨h1.trans hg,h2,v,?_,?_,?_,h3.lst.kept h3.size hg (.inl rfl),Nat.le_trans h3.size hg.size⟩
 ·rw[heap_setCell_same _ _ _ _ _ _ h3.box,List.setIfInBounds_toArray,e1]
 ·rw[<-e1,List.getElem?_set,if_neg Ka];exact h3.rest
 ·rw[<-e1,List.getElem?_set,if_pos rfl,if_pos hl]
theorem Nx.start(h:Prd F W.heap.size vs v g e W):Nx F vs g W 0 e W:=by
 have e1:set2 vs v e=vs:=by
  unfold set2;obtain⟨hl,hv⟩:=Pm h.rest;rw[<-hv,List.set_getElem_self hl];obtain⟨hl,hv⟩:=Pm h.err;rw[<-hv,List.set_getElem_self hl]
 exact⟨Jbu Pg _,h.lt,v,by rw[e1];exact h⟩
end
def Rdr(F:Nat)(vs:List Value)(g:List Bs)(W0:World)(f:FuncId)(x:Array Value)(k:Nat)(e:Int)(u:Value)(k':Nat)(e':Int):Prop :=
 ∀W,Nx F vs g W0 k e W->Calls prog f x W fun r W'=>r=.returned u/\Nx F vs g W0 k' e' W'/\Jg0 F W W'
section
variable {F:Nat} {vs:List Value} {g:List Bs} {W0:World}
theorem Jdu(ok:Bool)(x:Int)(k:Nat)(e:Int):Rdr F vs g W0 95 #[.pointer (some ⟨F,0,none⟩),.bool ok,.int .i64 x] k e (.tuple #[]) k (if ok then e else fe1 e x):=by
 intro W h;obtain⟨c0,c1⟩:=h.err;have H:=Pe h;cases ok with
 | true =>
  clear h;go_enter func95,ntmps95;go_wp2_with fail;go_end0;exact⟨rfl,H.out,fun _ _ _ ho=>ho⟩
 | false =>
  by_cases he:e=0
  ·have P:=Pe (h.fail x)
   have Q:Hid (fe1 e x=x):=Pe (Jnc he);have ge:(e==0)=true:=Jag he;clear h he;go_enter func95,ntmps95;go_wp2_with fail;go_end0;exact⟨rfl,by rw[Q.out];exact P.out,Juq (Jbs _ _ _ _)⟩
  ·have Q:Hid (fe1 e x=e):=Pe (Jjv he)
   have ge:(e==0)=false:=Jaa he;clear h he;go_enter func95,ntmps95;go_wp2_with fail;go_end0;exact⟨rfl,by rw[Q.out];exact H.out,fun _ _ _ ho=>ho⟩
theorem Jg0.trans{W1 W2 W3:World}(a:Jg0 F W1 W2)(b:Jg0 F W2 W3):Jg0 F W1 W3:=fun k o hk ho=>b k o hk (a k o hk ho)
theorem Jfk(n x:Int)(k:Nat)(e:Int):Rdr F vs g W0 249 #[.pointer (some ⟨F,0,none⟩),.int .i64 n,.int .i64 x] k e (.int .i64 n) k (fe1 e x):=by
 intro W h;have C:=Pe (Jdu (F:=F) (vs:=vs) (g:=g) (W0:=W0) (x==0) x k e W h);have E:Hid ((if(x==0)=true then e else fe1 e x)=fe1 e x):=Pe (by
  by_cases hx:x=0
  ·subst hx;rw[if_pos Ke];exact(Jc2 e).symm
  ·rw[if_neg Qs])
 clear h;go_enter func249,ntmps249;go_wp2_with fail;refine C.out.mono ?_;rintro r w1 ⟨rfl,n1,s1⟩;have N1:=Pe n1;have S1:=Pe s1;clear n1 s1 C;go_wp2_with fail;go_ret;exact⟨rfl,by rw[<-E.out];exact N1.out,S1.out⟩
theorem J59{k:Nat}{x:Bs}{q:List Bs}(h:g.drop k=x::q):g.getD k []=x/\g.drop (k+1)=q:=by
 refine⟨?_,?_⟩
 ·rw[List.getD_eq_getElem?_getD]
  have:=congrArg (fun l:List Bs=>l[0]?) h;simp at this;rw[this];rfl
 ·rw[<-List.drop_drop,h];rfl
theorem J2l{k:Nat}(h:g.drop k=[]):g.getD k []=[]/\g.drop (k+1)=[]:=by
 have hl:g.length<=k:=Kt;refine⟨?_,List.drop_of_length_le Ka⟩;rw[List.getD_eq_getElem?_getD,List.getElem?_eq_none hl];rfl
theorem Jbt(k:Nat)(e:Int):Rdr F vs g W0 43 #[.pointer (some ⟨F,0,none⟩)] k e (.string (str (g.getD k []))) (k+1) e:=by
 intro W h;obtain⟨h1,h2,v,h3⟩:=h;obtain⟨c0,c1⟩:=h3.cell h3.rest;have H1:=Pe h1;have H2:=Pe h2;have H3:=Pe h3;obtain⟨q,hq⟩:=Pi (g.drop k);have HQ:=Pe hq;obtain⟨A,c,rfl,l1,l2,l3⟩:=h3.lst;cases q with
 | nil =>
  obtain⟨d1,d2⟩:=J2l hq;rw[d1];have D2:=Pe d2;have hl:(g.drop k).length=0:=by rw[hq];rfl
  rw[hl] at c0;clear h1 h2 h3 l1 l2 l3 hq d1 d2;go_enter func43,ntmps43;go_wp2_with fail;go_ret;exact⟨rfl,⟨H1.out,H2.out,_,by rw[D2.out,<-HQ.out];exact H3.out⟩,fun _ _ _ ho=>ho⟩
 | cons x q =>
  obtain⟨d1,d2⟩:=J59 hq;rw[d1];have D2:=Pe d2;have hl:(g.drop k).length=q.length+1:=by rw[hq];rfl
  obtain⟨b,o,rfl,b1,b2,b3⟩:=l3 Ka;rw[hl] at c0 l1;have m:W.cell? ⟨b,o,none⟩=some (.string (str x)):=b3 0 x (by rw[hq];rfl);obtain⟨A,hA⟩:=Pi ((if c=1 then some (⟨b,o,none⟩:Addr) else some ⟨b,o+1,none⟩));have L:Hid (LstO F W0.heap.size W (.slice A q.length (c - 1)) q):=Pe ⟨_,_,rfl,Ka,Ka,fun h0=>⟨b,o+1,by rw[<-hA,if_neg Ka],b1,b2,fun j y hy=>by rw[Nat.add_assoc,Nat.add_comm 1 j];exact b3 (j+1) y (by rw[hq];exact hy)⟩⟩;have r1:∀W,(Instr.slice 66 (.slice (some ⟨b,o,none⟩) (q.length+1) c) (some (.int .i64 1)) none none).run prog W=.ok (.slice A q.length (c - 1)) W:=fun W=>by
   have e1:prog.elem 66=9:=by simp[Program.elem,underlying66]
   have s1:(Go.sizeOf 9).run prog W=.ok 1 W:=Kl;have:=run_slice_l W 66 (some ⟨b,o,none⟩) (q.length+1) c (by rw[e1];exact underlying66) .i64 1 Ka Ka;rw[this,e1,s1];show Result.ok (sliced _ 1 _ _ 1) W=_
   unfold sliced;rw[<-hA];have e3:(⟨b,o,none⟩:Addr).add (1*1)=⟨b,o+1,none⟩:=Addr.add_lit _ _ _;rw[Option.map_some,e3,Nat.add_sub_cancel]
  have hlen:0<q.length+1:=Ka;have z0:(((q.length+1:Nat):Int)==0)=false:=Jaa Ka;obtain⟨t,ht⟩:=Pi (str x);rw[ht] at m |-;have PP:Hid (Nx F vs g W0 (k+1) e (W.setCell ⟨F,0,none⟩ (.slice A q.length (c - 1)))):=Pe (by
   have hg:=Jbs W F 0 (.slice A q.length (c - 1));refine⟨H1.out.trans hg,H2.out,.slice A q.length (c - 1),?_,?_,?_,?_,Nat.le_trans H3.out.size hg.size⟩
   ·rw[heap_setCell_same _ _ _ _ _ _ H3.out.box,List.setIfInBounds_toArray]
    congr 2
    unfold set2;match vs with
    | []=>rfl
    | [_]=>rfl
    | _::_::_=>rfl
   ·have:=(Pm H3.out.rest).1
    unfold set2 at this |-;simp only[List.length_set] at this;rw[List.getElem?_set,if_neg Ka,List.getElem?_set,if_pos rfl,if_pos this]
   ·have:=(Pm H3.out.err).1
    unfold set2 at this |-;simp only[List.length_set] at this;rw[List.getElem?_set,if_pos rfl,if_pos (by rw[List.length_set];exact this)]
   ·rw[D2.out];exact L.out.kept H3.out.size hg (.inl rfl))
  have SS:Hid (Jg0 F W (W.setCell ⟨F,0,none⟩ (.slice A q.length (c - 1)))):=Pe (Juq (Jbs _ _ _ _));clear h1 h2 h3 l1 l2 l3 hq d1 d2 b3 hl;go_enter func43,ntmps43;go_wp2_with fail;go_ret;exact⟨rfl,PP.out,SS.out⟩
end
theorem Nx.blw{F:Nat}{vs:List Value}{g:List Bs}{W0 W W':World}{k:Nat}{e:Int}(h:Nx F vs g W0 k e W)(b:Po W W'):Nx F vs g W0 k e W'/\Jg0 F W W':=⟨h.on b,fun i _ _ ho=>(b.block i (Pn ho).1).trans ho⟩
section
variable {F:Nat} {vs:List Value} {g:List Bs} {W0:World}
theorem Jfl(F_:Fm)(k:Nat)(e:Int)(P:∀w:World,W0.grownBy w (some F)->Pc 250 #[.string (str (g.getD k []))] w (.tuple #[.int .i64 (F_.num (g.getD k [])).1,.int .i64 (F_.num (g.getD k [])).2])):Rdr F vs g W0 175 #[.pointer (some ⟨F,0,none⟩)] k e (.int .i64 (F_.num (g.getD k [])).1) (k+1) (fe1 e (F_.num (g.getD k [])).2):=by
 intro W h;have C1:=Pe (Jbt (F:=F) (vs:=vs) (g:=g) (W0:=W0) k e W h);have C2:=Pe P;generalize str (g.getD k [])=s at C1 C2;generalize F_.num (g.getD k [])=q at C2 |-;have C3:=Pe (fun W'=>Jfk (F:=F) (vs:=vs) (g:=g) (W0:=W0) q.1 q.2 (k+1) e W');clear h P;go_enter func175,ntmps175;go_wp2_with fail;refine C1.out.mono ?_;rintro r w1 ⟨rfl,n1,s1⟩;have D:=Pe (C2.out w1 n1.1);have N1:=Pe n1;have S1:=Pe s1;clear n1 s1 C1;go_wp2_with fail;refine D.out.mono ?_;rintro r w2 ⟨rfl,b2⟩;have N2:=Pe (N1.out.blw b2);have D3:=Pe (C3.out w2 N2.out.1);clear b2 D C3;go_wp2_with fail;refine D3.out.mono ?_;exact Gm
theorem Jip(F_:Fm)(k:Nat)(e:Int)(P:∀w:World,W0.grownBy w (some F)->Pc 254 #[.string (str (g.getD k []))] w (.tuple #[.int .i64 (F_.tim (g.getD k [])).1,.int .i64 (F_.tim (g.getD k [])).2])):Rdr F vs g W0 183 #[.pointer (some ⟨F,0,none⟩)] k e (.int .i64 (F_.tim (g.getD k [])).1) (k+1) (fe1 e (F_.tim (g.getD k [])).2):=by
 intro W h;have C1:=Pe (Jbt (F:=F) (vs:=vs) (g:=g) (W0:=W0) k e W h);have C2:=Pe P;generalize str (g.getD k [])=s at C1 C2;generalize F_.tim (g.getD k [])=q at C2 |-;have C3:=Pe (fun W'=>Jfk (F:=F) (vs:=vs) (g:=g) (W0:=W0) q.1 q.2 (k+1) e W');clear h P;go_enter func183,ntmps183;go_wp2_with fail;refine C1.out.mono ?_;rintro r w1 ⟨rfl,n1,s1⟩;have D:=Pe (C2.out w1 n1.1);have N1:=Pe n1;have S1:=Pe s1;clear n1 s1 C1;go_wp2_with fail;refine D.out.mono ?_;rintro r w2 ⟨rfl,b2⟩;have N2:=Pe (N1.out.blw b2);have D3:=Pe (C3.out w2 N2.out.1);clear b2 D C3;go_wp2_with fail;refine D3.out.mono ?_;exact Gm
theorem Jd3(F_:Fm)(k:Nat)(e:Int)(P:∀w:World,W0.grownBy w (some F)->Pc 255 #[.string (str (g.getD k []))] w (.tuple #[.int .i64 (F_.dur (g.getD k [])).1,.int .i64 (F_.dur (g.getD k [])).2])):Rdr F vs g W0 185 #[.pointer (some ⟨F,0,none⟩)] k e (.int .i64 (F_.dur (g.getD k [])).1) (k+1) (fe1 e (F_.dur (g.getD k [])).2):=by
 intro W h;have C1:=Pe (Jbt (F:=F) (vs:=vs) (g:=g) (W0:=W0) k e W h);have C2:=Pe P;generalize str (g.getD k [])=s at C1 C2;generalize F_.dur (g.getD k [])=q at C2 |-;have C3:=Pe (fun W'=>Jfk (F:=F) (vs:=vs) (g:=g) (W0:=W0) q.1 q.2 (k+1) e W');clear h P;go_enter func185,ntmps185;go_wp2_with fail;refine C1.out.mono ?_;rintro r w1 ⟨rfl,n1,s1⟩;have D:=Pe (C2.out w1 n1.1);have N1:=Pe n1;have S1:=Pe s1;clear n1 s1 C1;go_wp2_with fail;refine D.out.mono ?_;rintro r w2 ⟨rfl,b2⟩;have N2:=Pe (N1.out.blw b2);have D3:=Pe (C3.out w2 N2.out.1);clear b2 D C3;go_wp2_with fail;refine D3.out.mono ?_;exact Gm
theorem Jsa(F_:Fm)(k:Nat)(e:Int)(P:∀w:World,W0.grownBy w (some F)->Pc 253 #[.string (str (g.getD k []))] w (.tuple #[.int .i64 (F_.day (g.getD k [])).1,.int .i64 (F_.day (g.getD k [])).2])):Rdr F vs g W0 180 #[.pointer (some ⟨F,0,none⟩)] k e (.int .i64 (F_.day (g.getD k [])).1) (k+1) (fe1 e (F_.day (g.getD k [])).2):=by
 intro W h;have C1:=Pe (Jbt (F:=F) (vs:=vs) (g:=g) (W0:=W0) k e W h);have C2:=Pe P;generalize str (g.getD k [])=s at C1 C2;generalize F_.day (g.getD k [])=q at C2 |-;have C3:=Pe (fun W'=>Jfk (F:=F) (vs:=vs) (g:=g) (W0:=W0) q.1 q.2 (k+1) e W');clear h P;go_enter func180,ntmps180;go_wp2_with fail;refine C1.out.mono ?_;rintro r w1 ⟨rfl,n1,s1⟩;have D:=Pe (C2.out w1 n1.1);have N1:=Pe n1;have S1:=Pe s1;clear n1 s1 C1;go_wp2_with fail;refine D.out.mono ?_;rintro r w2 ⟨rfl,b2⟩;have N2:=Pe (N1.out.blw b2);have D3:=Pe (C3.out w2 N2.out.1);clear b2 D C3;go_wp2_with fail;refine D3.out.mono ?_;exact Gm
theorem Jjw(F_:Fm)(k:Nat)(e:Int)(P:∀w:World,W0.grownBy w (some F)->Pc 256 #[.string (str (g.getD k []))] w (.tuple #[.int .i64 (F_.prc (g.getD k [])).1,.int .i64 (F_.prc (g.getD k [])).2])):Rdr F vs g W0 186 #[.pointer (some ⟨F,0,none⟩)] k e (.int .i64 (F_.prc (g.getD k [])).1) (k+1) (fe1 e (F_.prc (g.getD k [])).2):=by
 intro W h;have C1:=Pe (Jbt (F:=F) (vs:=vs) (g:=g) (W0:=W0) k e W h);have C2:=Pe P;generalize str (g.getD k [])=s at C1 C2;generalize F_.prc (g.getD k [])=q at C2 |-;have C3:=Pe (fun W'=>Jfk (F:=F) (vs:=vs) (g:=g) (W0:=W0) q.1 q.2 (k+1) e W');clear h P;go_enter func186,ntmps186;go_wp2_with fail;refine C1.out.mono ?_;rintro r w1 ⟨rfl,n1,s1⟩;have D:=Pe (C2.out w1 n1.1);have N1:=Pe n1;have S1:=Pe s1;clear n1 s1 C1;go_wp2_with fail;refine D.out.mono ?_;rintro r w2 ⟨rfl,b2⟩;have N2:=Pe (N1.out.blw b2);have D3:=Pe (C3.out w2 N2.out.1);clear b2 D C3;go_wp2_with fail;refine D3.out.mono ?_;exact Gm
theorem J2m(F_:Fm)(k:Nat)(e:Int)(P:∀w:World,W0.grownBy w (some F)->Pc 257 #[.string (str (g.getD k []))] w (.tuple #[.int .i64 (F_.mds (g.getD k [])).1,.int .i64 (F_.mds (g.getD k [])).2])):Rdr F vs g W0 187 #[.pointer (some ⟨F,0,none⟩)] k e (.int .i64 (F_.mds (g.getD k [])).1) (k+1) (fe1 e (F_.mds (g.getD k [])).2):=by
 intro W h;have C1:=Pe (Jbt (F:=F) (vs:=vs) (g:=g) (W0:=W0) k e W h);have C2:=Pe P;generalize str (g.getD k [])=s at C1 C2;generalize F_.mds (g.getD k [])=q at C2 |-;have C3:=Pe (fun W'=>Jfk (F:=F) (vs:=vs) (g:=g) (W0:=W0) q.1 q.2 (k+1) e W');clear h P;go_enter func187,ntmps187;go_wp2_with fail;refine C1.out.mono ?_;rintro r w1 ⟨rfl,n1,s1⟩;have D:=Pe (C2.out w1 n1.1);have N1:=Pe n1;have S1:=Pe s1;clear n1 s1 C1;go_wp2_with fail;refine D.out.mono ?_;rintro r w2 ⟨rfl,b2⟩;have N2:=Pe (N1.out.blw b2);have D3:=Pe (C3.out w2 N2.out.1);clear b2 D C3;go_wp2_with fail;refine D3.out.mono ?_;exact Gm
theorem J6a(k:Nat)(e:Int)(P:∀w:World,W0.grownBy w (some F)->Pc 252 #[.string (str (g.getD k []))] w (.tuple #[.int .i64 (fnd 3 nmL (g.getD k [])).1,.bool (decide ((fnd 3 nmL (g.getD k [])).2=0))])):Rdr F vs g W0 178 #[.pointer (some ⟨F,0,none⟩)] k e (.int .i64 (fnd 3 nmL (g.getD k [])).1) (k+1) (fe1 e (fnd 3 nmL (g.getD k [])).2):=by
 intro W h;have C1:=Pe (Jbt (F:=F) (vs:=vs) (g:=g) (W0:=W0) k e W h);have C2:=Pe P;have E:Hid ((if decide ((fnd 3 nmL (g.getD k [])).2=0)=true then e else fe1 e 3)=fe1 e (fnd 3 nmL (g.getD k [])).2):=Pe (J2k _ _ _ _);generalize str (g.getD k [])=s at C1 C2;generalize fnd 3 nmL (g.getD k [])=q at C2 E |-;obtain⟨b,hb⟩:=Pi (decide (q.2=0));rw[hb] at C2 E;have C3:=Pe (fun W'=>Jdu (F:=F) (vs:=vs) (g:=g) (W0:=W0) b 3 (k+1) e W');clear h P hb;go_enter func178,ntmps178;go_wp2_with fail;refine C1.out.mono ?_;rintro r w1 ⟨rfl,n1,s1⟩;have D:=Pe (C2.out w1 n1.1);have N1:=Pe n1;have S1:=Pe s1;clear n1 s1 C1;go_wp2_with fail;refine D.out.mono ?_;rintro r w2 ⟨rfl,b2⟩;have N2:=Pe (N1.out.blw b2);have D3:=Pe (C3.out w2 N2.out.1);clear b2 D C3;go_wp2_with fail;refine D3.out.mono ?_;rintro r w3 ⟨rfl,n3,s3⟩;have N3:=Pe n3;have S3:=Pe ((S1.out.trans N2.out.2).trans s3);clear n3 s3 D3;go_wp2_with fail;go_ret;exact⟨rfl,by rw[<-E.out];exact N3.out,S3.out⟩
theorem Jbp(n k:Nat)(e:Int)(hg:g.length<=1000000):Rdr F vs g W0 174 #[.pointer (some ⟨F,0,none⟩),.int .i64 (n:Int)] k e (.tuple #[]) k (fe1 e (if(g.drop k).length=n then 0 else 1)):=by
 intro W h;have h':=h;obtain⟨-,-,v,h3⟩:=h';obtain⟨c0,c1⟩:=h3.cell h3.rest;obtain⟨A,c,rfl,l1,l2,-⟩:=h3.lst;have C:=Pe (Jdu (F:=F) (vs:=vs) (g:=g) (W0:=W0) (decide ((g.drop k).length=n)) 1 k e W h);have E:Hid ((if decide ((g.drop k).length=n)=true then e else fe1 e 1)=fe1 e (if(g.drop k).length=n then 0 else 1)):=Pe (by
  by_cases hx:(g.drop k).length=n
  ·rw[if_pos hx,if_pos (Pk hx)];unfold fe1;split <;> simp_all
  ·rw[if_neg hx,if_neg Qs])
 have hd:((((g.drop k).length:Nat):Int)==(n:Int))=decide ((g.drop k).length=n):=by
  by_cases hx:(g.drop k).length=n
  ·rw[Pk hx,hx];exact Jag rfl
  ·rw[Pj hx];exact Jaa Ka
 generalize decide ((g.drop k).length=n)=b at C E hd;generalize (if(g.drop k).length=n then(0:Int) else 1)=y at E |-;have hl:(g.drop k).length<=1000000:=by rw[List.length_drop];omega
 generalize (g.drop k).length=m at *;clear h3 l1;go_enter func174,ntmps174;go_wp2_with fail;refine C.out.mono ?_;rintro r w1 ⟨rfl,n1,s1⟩;have N1:=Pe n1;have S1:=Pe s1;clear n1 s1 C;go_wp2_with fail;go_end0;exact⟨rfl,by rw[<-E.out];exact N1.out,S1.out⟩
theorem first_any(a b:Bs)(hab:a≠b)(k:Nat)(e:Int):Rdr F vs g W0 251 #[.pointer (some ⟨F,0,none⟩),.string (str a),.string (str b)] k e (.bool (decide ((fnd 3 [b,a] (g.getD k [])).1=1))) (k+1) (fe1 e (fnd 3 [b,a] (g.getD k [])).2):=by
 intro W h;have C1:=Pe (Jbt (F:=F) (vs:=vs) (g:=g) (W0:=W0) k e W h);obtain⟨t,ht⟩:=Pi (g.getD k []);rw[ht] at C1 |-;have go:∀(p q:Bool) (r:Int),((str t).toList==(str a).toList)=p->(p=false->((str t).toList==(str b).toList)=q)->decide ((fnd 3 [b,a] t).1=1)=p->(if(p || q) then e else fe1 e 3)=fe1 e r->(fnd 3 [b,a] t).2=r ->
   Calls prog 251 #[.pointer (some ⟨F,0,none⟩),.string (str a),.string (str b)] W fun r W'=>r=.returned (.bool (decide ((fnd 3 [b,a] t).1=1)))/\Nx F vs g W0 (k+1) (fe1 e (fnd 3 [b,a] t).2) W'/\Jg0 F W W':=by
  intro p q r hp hq hv hr hz;rw[hv,hz];have E:=Pe hr;clear hv hr hz;generalize str t=s at C1 hp hq;generalize str a=sa at hp |-;generalize str b=sb at hq |-;cases p with
  | true =>
   have C3:=Pe (fun W'=>Jdu (F:=F) (vs:=vs) (g:=g) (W0:=W0) true 3 (k+1) e W');clear h hq ht;go_enter func251,ntmps251;go_wp2_with fail;refine C1.out.mono ?_;rintro r w1 ⟨rfl,n1,s1⟩;have D3:=Pe (C3.out w1 n1);have S1:=Pe s1;clear n1 s1 C1 C3;go_wp2_with fail;refine D3.out.mono ?_;exact Gq
  | false =>
   have hq:=hq rfl;have C3:=Pe (fun W'=>Jdu (F:=F) (vs:=vs) (g:=g) (W0:=W0) q 3 (k+1) e W');clear h ht;go_enter func251,ntmps251;go_wp2_with fail;refine C1.out.mono ?_;rintro r w1 ⟨rfl,n1,s1⟩;have D3:=Pe (C3.out w1 n1);have S1:=Pe s1;clear n1 s1 C1 C3;go_wp2_with fail;refine D3.out.mono ?_;exact Gq
 by_cases h1:t=a
 ·refine go true false 0 (Jcn (by rw[h1])) (fun h=>Qi) ?_ (by rw[Jc2];rfl) ?_
  all_goals rw[J2j (k:=1) (fun j hj=>by(have:j=0:=Ka);subst this;simp only[List.getElem?_cons_zero,ne_eq,Option.some.injEq];exact fun q=>hab (h1.symm.trans q.symm)) Q5]
  ·rfl
 ·have n1:=Jcx (a:=str t) (b:=str a) (fun q=>h1 (Jne q))
  by_cases h2:t=b
  ·refine go false true 0 n1 (fun _=>Jcn (by rw[h2])) ?_ (by rw[Jc2];rfl) ?_
   all_goals rw[J2j (k:=0) (fun j hj=>Ka) Ye]
   ·rfl
  ·refine go false false 3 n1 (fun _=>Jcx (fun q=>h2 (Jne q))) ?_ Ke ?_
   all_goals rw[Jnd (fun j hj=>by
    match j,hj with
    | 0,_=>simpa using fun q=>h2 q.symm
    | 1,_=>simpa using fun q=>h1 q.symm
    | j+2,hj=>simp at hj;omega)]
   ·rfl
theorem Jiq(k:Nat)(e:Int):Rdr F vs g W0 176 #[.pointer (some ⟨F,0,none⟩)] k e (.bool (flg (g.getD k [])).1) (k+1) (fe1 e (flg (g.getD k [])).2):=by
 intro W h;have C1:=Pe (first_any (F:=F) (vs:=vs) (g:=g) (W0:=W0) wYes wNo Kd k e W h);clear h;go_enter func176,ntmps176;go_wp2_with fail;refine C1.out.mono ?_;exact Gu
theorem Qb0(k:Nat)(e:Int):Rdr F vs g W0 182 #[.pointer (some ⟨F,0,none⟩)] k e (.bool (decide ((fnd 3 [wRem,wAdd] (g.getD k [])).1=1))) (k+1) (fe1 e (fnd 3 [wRem,wAdd] (g.getD k [])).2):=by
 intro W h;have C1:=Pe (first_any (F:=F) (vs:=vs) (g:=g) (W0:=W0) wAdd wRem Kd k e W h);clear h;go_enter func182,ntmps182;go_wp2_with fail;refine C1.out.mono ?_;exact Gu
end
end
end Go.Proofs.YtpifdbphmnifdaaGreatDoor
