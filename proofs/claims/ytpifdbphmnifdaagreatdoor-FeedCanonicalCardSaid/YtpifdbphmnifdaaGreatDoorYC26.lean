/-
  Facts. Condition: each theorem's own.
-/
import Derived.Test.YtpifdbphmnifdaaGreatDoorYC20
set_option maxRecDepth 100000
set_option maxHeartbeats 8000000
section
variable {p:Prop}
theorem Wa9 (h:p:=by rintro e w10 ⟨rfl,b10⟩;have B10:=Pe (B9.out.trans (b10.mono B9.out.size));clear b10;clear p0 p1 p2 p3 p4 p5 p6 p7 p8 p9 p10 p11 p12 q0 q1 q2 q3 q4 q5 q6 q7 q8 q9 q10 q11 q12;obtain⟨p0,p1,p2,p3,p4,p5,p6,p7,p8,p9,p10,p11,p12⟩:=Jak ((B10.out.block _ LA.out).trans RA.out);obtain⟨q0,q1,q2,q3,q4,q5,q6,q7,q8,q9,q10,q11,q12⟩:=Jak ((B10.out.block _ LB.out).trans RB.out);go_wp2_with fail;go_ret;exact⟨Jab R.out.symm,B7.out.trans (B10.out.mono B7.out.size)⟩):p:=h
theorem Wba (h:p:=by have hq:=Jap HN nq;generalize wr.drewN nq=w9 at hq ⊢;go_wp2_with fail;go_ret;exact⟨Jab R.out.symm,B7.out.trans ((Jag hq.out).mono B7.out.size)⟩):p:=h
theorem Wbb (h:p:=by have hq:=Jap HN nq;generalize wr.drewN nq=w9 at hq ⊢;go_wp2_with fail;go_ret;exact⟨Jab R.out.symm,hq.out⟩):p:=h
theorem Wbc (h:p:=by go_wp2_with fail;go_ret;exact⟨Jab R.out.symm,B7.out.trans ((Jag HN.out).mono B7.out.size)⟩):p:=h
theorem Wbd (h:p:=by rw [hnm,hnm'];exact g.1):p:=h
theorem Wbe (h:p:=by cases g;exact⟨rfl,rfl,rfl,rfl⟩):p:=h
theorem Wbf (h:p:=by go_enter func32,ntmps32;exact Jy):p:=h
theorem Wbg (h:p:=by unfold tlT;rw [h];simp):p:=h
theorem Wbh (h:p:=by cases g;exact⟨rfl,rfl,rfl⟩):p:=h
theorem Wbi (h:p:=by go_enter func30,ntmps30;exact Jy):p:=h
theorem Wbj (h:p:=by unfold hdT;rw [h];simp):p:=h
end
open Go.Proofs.Tryz
namespace Go.Proofs.YtpifdbphmnifdaaGreatDoor
section
open Go.RowKit
theorem Qfq {T U:Tt} (h:eqB eSt T.st U.st=false):hdT T U=false:=Wbj
theorem Qfr {T U:Tt} (h:eqB eRo T.ro U.ro=false):hdT T U=false:=Wbj
theorem Qfs {T U:Tt} (h:eqB eCa T.ca U.ca=false):hdT T U=false:=Wbj
theorem Qft {T U:Tt} (h:eqB eEx T.ex U.ex=false):hdT T U=false:=Wbj
theorem Qfu (a a':Nat→Option Addr) (c c':Nat→Nat) (T U:Tt) (hf:manN T) (w:World) (h:TtL w a c T) (h':TtL w a' c' U):Pc 30 #[ttV a c T,ttV a' c' U] w (.bool (hdT T U)):=by
 obtain⟨w7,hw7,z7,ra,rb,b7⟩:=Jcq w (Jbh a c T) (Jbh a' c' U);obtain⟨p0,p1,p2,p3,p4,p5,p6,p7,p8,p9,p10,p11,p12⟩:=Jak ra;obtain⟨q0,q1,q2,q3,q4,q5,q6,q7,q8,q9,q10,q11,q12⟩:=Jak rb;have B7:=Pe b7;have H:=Pe (h.below b7);have H':=Pe (h'.below b7);have LA:Hid (w.heap.size<w7.heap.size):=Pe Kd;have LB:Hid (w.heap.size+1<w7.heap.size):=Pe Kd;obtain⟨V,hV⟩:=Pi (hdT T U);rw [hV];have HV:=Pe hV;have P0:=Pe p0;have P1:=Pe p1;have P2:=Pe p2;have P3:=Pe p3;have Q0:=Pe q0;have Q1:=Pe q1;have Q2:=Pe q2;have Q3:=Pe q3;obtain⟨f0,f1,f2,f3,f4,f5,f6,f7,f8,f9⟩:=hf;clear hV b7 ra rb z7 h h' f4 f5 f6 f7 f8 f9;by_cases n0:T.st.length≠U.st.length
 ·have R:Hid (V=false):=Pe (by rw [←HV.out];exact Qfq (Je7 n0))
  have g0:((T.st.length:Int) != (U.st.length:Int))=true:=Jaf Kd;clear n0;exact Wbi
 have m0:=Ps n0;clear n0;have g0:((T.st.length:Int) != (U.st.length:Int))=false:=Jal Kd;by_cases n1:T.ro.length≠U.ro.length
 ·have R:Hid (V=false):=Pe (by rw [←HV.out];exact Qfr (Je7 n1))
  have g1:((T.ro.length:Int) != (U.ro.length:Int))=true:=Jaf Kd;clear n1 m0;exact Wbi
 have m1:=Ps n1;clear n1;have g1:((T.ro.length:Int) != (U.ro.length:Int))=false:=Jal Kd;by_cases n2:T.ca.length≠U.ca.length
 ·have R:Hid (V=false):=Pe (by rw [←HV.out];exact Qfs (Je7 n2))
  have g2:((T.ca.length:Int) != (U.ca.length:Int))=true:=Jaf Kd;clear n2 m0 m1;exact Wbi
 have m2:=Ps n2;clear n2;have g2:((T.ca.length:Int) != (U.ca.length:Int))=false:=Jal Kd;by_cases n3:T.ex.length≠U.ex.length
 ·have R:Hid (V=false):=Pe (by rw [←HV.out];exact Qft (Je7 n3))
  have g3:((T.ex.length:Int) != (U.ex.length:Int))=true:=Jaf Kd;clear n3 m0 m1 m2;exact Wbi
 have m3:=Ps n3;clear n3;have g3:((T.ex.length:Int) != (U.ex.length:Int))=false:=Jal Kd;have Lst:=Pe m0;have Lro:=Pe m1;have Lca:=Pe m2;have Lex:=Pe m3;clear m0 m1 m2 m3;have HN:Hid (∃n,w7=w7.drewN n):=Pe ⟨0,rfl⟩;go_enter func30,ntmps30;go_wp2_with fail;go_loopw [5] (fun i wr=>∃k:Nat,i=.int .i64 k∧k≤T.st.length∧Hid (∀(j:Nat) x y,j<k→T.st[j]?=some x→U.st[j]?=some y→eSt x y=true)∧Hid (∃n,wr=w7.drewN n)) (fun i _=>T.st.length - (intOf i).toNat);case atStart=>exact⟨0,rfl,Nat.zero_le _,Pe (fun j x y h=>absurd h (Nat.not_lt_zero _)),HN⟩
 case round =>
  clear HN;obtain⟨k,rfl,hk,hall,HN⟩:=hrel;have bn:=Jag HN.out;have p0:=(bn.cell (p:=⟨w.heap.size,0,none⟩) LA.out).trans P0.out;have q0:=(bn.cell (p:=⟨w.heap.size+1,0,none⟩) LB.out).trans Q0.out;by_cases hlt:k<T.st.length
  ·obtain⟨⟨id,z,f,h⟩,hx⟩:=Jah hlt
   obtain⟨⟨id',z',f',h'⟩,hy⟩:=Jah (show k<U.st.length by have:=Lst.out;omega);have gk:(k:Int)<(T.st.length:Int):=Kd;have gk':(k:Int)<(U.st.length:Int):=by have:=Lst.out;omega
   by_cases he:id=id'∧z=z'∧f=f'∧h=h'
   ·obtain⟨rfl,rfl,rfl,rfl⟩:=he
    obtain⟨nm,hnm⟩:=Pi (str id);obtain⟨rb,ro,rA,-,r0,r1,r2,r3⟩:=S13.four_at (H.out.st.below bn) hx hnm;rw [rA] at p0;obtain⟨sb,so,sA,-,s0,s1,s2,s3⟩:=S13.four_at (H'.out.st.below bn) hy hnm;rw [sA] at q0;have E:=fun W=>Jri nm z f h W
    have N:=Pe (Jdv hall.out hx hy (Pk rfl));clear hx hy hall bn hk hlt hnm rA sA;go_wp2_with fail;go_quiet (fail);have hq:=Jap HN nq;generalize wr.drewN nq=w9 at hq ⊢;clear HN;go_wp2_with fail;go_roundw;case rel=>exact⟨k+1,Kg,Kd,N,hq⟩
    case measure=>exact Qz
   ·obtain⟨nm,hnm⟩:=Pi (str id)
    obtain⟨nm',hnm'⟩:=Pi (str id');obtain⟨rb,ro,rA,-,r0,r1,r2,r3⟩:=S13.four_at (H.out.st.below bn) hx hnm;rw [rA] at p0;obtain⟨sb,so,sA,-,s0,s1,s2,s3⟩:=S13.four_at (H'.out.st.below bn) hy hnm';rw [sA] at q0;have E:=fun W=>J1h nm nm' z z' f f' h h' (fun g=>he ⟨Jjx Wbd,g.2⟩) W
    have R:Hid (V=false):=Pe (by rw [←HV.out];exact Qfq (Jcc hx hy (Pj (fun g=>he Wbe))));clear hx hy hall bn hk hlt he hnm hnm' rA sA;go_wp2_with fail;go_quiet (fail);exact Wba
  ·have dk:decide (k<T.st.length)=false:=Kb
   have Est:=Pe (Jdu Lst.out (fun j x y hj=>hall.out j x y Kd));clear hall hlt hk;have p1:=(bn.cell (p:=⟨w.heap.size,1,none⟩) LA.out).trans P1.out;clear bn;go_wp2_with fail;go_loopw [6] (fun i wr=>∃k:Nat,i=.int .i64 k∧k≤T.ro.length∧Hid (∀(j:Nat) x y,j<k→T.ro[j]?=some x→U.ro[j]?=some y→eRo x y=true)∧Hid (∃n,wr=w7.drewN n)) (fun i _=>T.ro.length - (intOf i).toNat);case atStart=>exact⟨0,rfl,Nat.zero_le _,Pe (fun j x y h=>absurd h (Nat.not_lt_zero _)),HN⟩
   case round =>
    clear HN;obtain⟨k,rfl,hk,hall,HN⟩:=hrel;have bn:=Jag HN.out;have p1:=(bn.cell (p:=⟨w.heap.size,1,none⟩) LA.out).trans P1.out;have q1:=(bn.cell (p:=⟨w.heap.size+1,1,none⟩) LB.out).trans Q1.out;by_cases hlt:k<T.ro.length
    ·obtain⟨⟨id,z,f⟩,hx⟩:=Jah hlt
     obtain⟨⟨id',z',f'⟩,hy⟩:=Jah (show k<U.ro.length by have:=Lro.out;omega);have gk:(k:Int)<(T.ro.length:Int):=Kd;have gk':(k:Int)<(U.ro.length:Int):=by have:=Lro.out;omega
     by_cases he:id=id'∧z=z'∧f=f'
     ·obtain⟨rfl,rfl,rfl⟩:=he
      obtain⟨nm,hnm⟩:=Pi (str id);obtain⟨rb,ro,rA,-,r0,r1,r2⟩:=S15.three_at (H.out.ro.below bn) hx hnm;rw [rA] at p1;obtain⟨sb,so,sA,-,s0,s1,s2⟩:=S15.three_at (H'.out.ro.below bn) hy hnm;rw [sA] at q1;have E:=fun W=>Jrj nm z f W
      have N:=Pe (Jdv hall.out hx hy (Pk rfl));clear hx hy hall bn hk hlt hnm rA sA;go_wp2_with fail;go_quiet (fail);have hq:=Jap HN nq;generalize wr.drewN nq=w9 at hq ⊢;clear HN;go_wp2_with fail;go_roundw;case rel=>exact⟨k+1,Kg,Kd,N,hq⟩
      case measure=>exact Qz
     ·obtain⟨nm,hnm⟩:=Pi (str id)
      obtain⟨nm',hnm'⟩:=Pi (str id');obtain⟨rb,ro,rA,-,r0,r1,r2⟩:=S15.three_at (H.out.ro.below bn) hx hnm;rw [rA] at p1;obtain⟨sb,so,sA,-,s0,s1,s2⟩:=S15.three_at (H'.out.ro.below bn) hy hnm';rw [sA] at q1;have E:=fun W=>J1i nm nm' z z' f f' (fun g=>he ⟨Jjx Wbd,g.2⟩) W
      have R:Hid (V=false):=Pe (by rw [←HV.out];exact Qfr (Jcc hx hy (Pj (fun g=>he Wbh))));clear hx hy hall bn hk hlt he hnm hnm' rA sA;go_wp2_with fail;go_quiet (fail);exact Wba
    ·have dk:decide (k<T.ro.length)=false:=Kb
     have Ero:=Pe (Jdu Lro.out (fun j x y hj=>hall.out j x y Kd));clear hall hlt hk;have p2:=(bn.cell (p:=⟨w.heap.size,2,none⟩) LA.out).trans P2.out;clear bn;go_wp2_with fail;go_loopw [7] (fun i wr=>∃k:Nat,i=.int .i64 k∧k≤T.ca.length∧Hid (∀(j:Nat) x y,j<k→T.ca[j]?=some x→U.ca[j]?=some y→eCa x y=true)∧Hid (∃n,wr=w7.drewN n)) (fun i _=>T.ca.length - (intOf i).toNat);case atStart=>exact⟨0,rfl,Nat.zero_le _,Pe (fun j x y h=>absurd h (Nat.not_lt_zero _)),HN⟩
     case round =>
      clear HN;obtain⟨k,rfl,hk,hall,HN⟩:=hrel;have bn:=Jag HN.out;have p2:=(bn.cell (p:=⟨w.heap.size,2,none⟩) LA.out).trans P2.out;have q2:=(bn.cell (p:=⟨w.heap.size+1,2,none⟩) LB.out).trans Q2.out;by_cases hlt:k<T.ca.length
      ·obtain⟨⟨id,kw,f,t⟩,hx⟩:=Jah hlt
       obtain⟨⟨id',kw',f',t'⟩,hy⟩:=Jah (show k<U.ca.length by have:=Lca.out;omega);have gk:(k:Int)<(T.ca.length:Int):=Kd;have gk':(k:Int)<(U.ca.length:Int):=by have:=Lca.out;omega
       by_cases he:id=id'∧(kw 0=kw' 0∧kw 1=kw' 1∧kw 2=kw' 2∧kw 3=kw' 3∧kw 4=kw' 4∧kw 5=kw' 5∧kw 6=kw' 6)∧f=f'∧t=t'
       ·obtain⟨rfl,⟨g0,g1,g2,g3,g4,g5,g6⟩,rfl,rfl⟩:=he
        obtain⟨nm,hnm⟩:=Pi (str id);obtain⟨rb,ro,rA,-,r0,rm,r8,r9⟩:=S14.ten_at (H.out.ca.below bn) hx hnm;have r1:wr.cell? ⟨rb,ro+k*10+1,none⟩=some (.bool (kw 0)):=rm 0 Kd;have r2:wr.cell? ⟨rb,ro+k*10+2,none⟩=some (.bool (kw 1)):=rm 1 Kd;have r3:wr.cell? ⟨rb,ro+k*10+3,none⟩=some (.bool (kw 2)):=rm 2 Kd;have r4:wr.cell? ⟨rb,ro+k*10+4,none⟩=some (.bool (kw 3)):=rm 3 Kd;have r5:wr.cell? ⟨rb,ro+k*10+5,none⟩=some (.bool (kw 4)):=rm 4 Kd;have r6:wr.cell? ⟨rb,ro+k*10+6,none⟩=some (.bool (kw 5)):=rm 5 Kd;have r7:wr.cell? ⟨rb,ro+k*10+7,none⟩=some (.bool (kw 6)):=rm 6 Kd;rw [rA] at p2;obtain⟨sb,so,sA,-,s0,sm,s8,s9⟩:=S14.ten_at (H'.out.ca.below bn) hy hnm;have s1:wr.cell? ⟨sb,so+k*10+1,none⟩=some (.bool (kw' 0)):=sm 0 Kd;have s2:wr.cell? ⟨sb,so+k*10+2,none⟩=some (.bool (kw' 1)):=sm 1 Kd;have s3:wr.cell? ⟨sb,so+k*10+3,none⟩=some (.bool (kw' 2)):=sm 2 Kd;have s4:wr.cell? ⟨sb,so+k*10+4,none⟩=some (.bool (kw' 3)):=sm 3 Kd;have s5:wr.cell? ⟨sb,so+k*10+5,none⟩=some (.bool (kw' 4)):=sm 4 Kd;have s6:wr.cell? ⟨sb,so+k*10+6,none⟩=some (.bool (kw' 5)):=sm 5 Kd;have s7:wr.cell? ⟨sb,so+k*10+7,none⟩=some (.bool (kw' 6)):=sm 6 Kd;rw [sA] at q2;rw [←g0] at s1;rw [←g1] at s2;rw [←g2] at s3;rw [←g3] at s4;rw [←g4] at s5;rw [←g5] at s6;rw [←g6] at s7;have E:=fun W=>Jrk nm (kw 0) (kw 1) (kw 2) (kw 3) (kw 4) (kw 5) (kw 6) f t W
        have N:=Pe (Jdv hall.out hx hy (Pk ⟨rfl,⟨g0,g1,g2,g3,g4,g5,g6⟩,rfl,rfl⟩));clear hx hy hall bn hk hlt hnm rm sm g0 g1 g2 g3 g4 g5 g6 rA sA;go_wp2_with fail;go_quiet (fail);have hq:=Jap HN nq;generalize wr.drewN nq=w9 at hq ⊢;clear HN;go_wp2_with fail;go_roundw;case rel=>exact⟨k+1,Kg,Kd,N,hq⟩
        case measure=>exact Qz
       ·obtain⟨nm,hnm⟩:=Pi (str id)
        obtain⟨nm',hnm'⟩:=Pi (str id');obtain⟨rb,ro,rA,-,r0,rm,r8,r9⟩:=S14.ten_at (H.out.ca.below bn) hx hnm;have r1:wr.cell? ⟨rb,ro+k*10+1,none⟩=some (.bool (kw 0)):=rm 0 Kd;have r2:wr.cell? ⟨rb,ro+k*10+2,none⟩=some (.bool (kw 1)):=rm 1 Kd;have r3:wr.cell? ⟨rb,ro+k*10+3,none⟩=some (.bool (kw 2)):=rm 2 Kd;have r4:wr.cell? ⟨rb,ro+k*10+4,none⟩=some (.bool (kw 3)):=rm 3 Kd;have r5:wr.cell? ⟨rb,ro+k*10+5,none⟩=some (.bool (kw 4)):=rm 4 Kd;have r6:wr.cell? ⟨rb,ro+k*10+6,none⟩=some (.bool (kw 5)):=rm 5 Kd;have r7:wr.cell? ⟨rb,ro+k*10+7,none⟩=some (.bool (kw 6)):=rm 6 Kd;rw [rA] at p2;obtain⟨sb,so,sA,-,s0,sm,s8,s9⟩:=S14.ten_at (H'.out.ca.below bn) hy hnm';have s1:wr.cell? ⟨sb,so+k*10+1,none⟩=some (.bool (kw' 0)):=sm 0 Kd;have s2:wr.cell? ⟨sb,so+k*10+2,none⟩=some (.bool (kw' 1)):=sm 1 Kd;have s3:wr.cell? ⟨sb,so+k*10+3,none⟩=some (.bool (kw' 2)):=sm 2 Kd;have s4:wr.cell? ⟨sb,so+k*10+4,none⟩=some (.bool (kw' 3)):=sm 3 Kd;have s5:wr.cell? ⟨sb,so+k*10+5,none⟩=some (.bool (kw' 4)):=sm 4 Kd;have s6:wr.cell? ⟨sb,so+k*10+6,none⟩=some (.bool (kw' 5)):=sm 5 Kd;have s7:wr.cell? ⟨sb,so+k*10+7,none⟩=some (.bool (kw' 6)):=sm 6 Kd;rw [sA] at q2;have E:=fun W=>J1j nm nm' (kw 0) (kw' 0) (kw 1) (kw' 1) (kw 2) (kw' 2) (kw 3) (kw' 3) (kw 4) (kw' 4) (kw 5) (kw' 5) (kw 6) (kw' 6) f f' t t' (fun g=>he ⟨Jjx Wbd,⟨g.2.1,g.2.2.1,g.2.2.2.1,g.2.2.2.2.1,g.2.2.2.2.2.1,g.2.2.2.2.2.2.1,g.2.2.2.2.2.2.2.1⟩,g.2.2.2.2.2.2.2.2.1,g.2.2.2.2.2.2.2.2.2⟩) W
        have R:Hid (V=false):=Pe (by rw [←HV.out];exact Qfs (Jcc hx hy (Pj (fun g=>he g))));clear hx hy hall bn hk hlt he hnm hnm' rm sm rA sA;go_wp2_with fail;go_quiet (fail);exact Wba
      ·have dk:decide (k<T.ca.length)=false:=Kb
       have Eca:=Pe (Jdu Lca.out (fun j x y hj=>hall.out j x y Kd));clear hall hlt hk;have p3:=(bn.cell (p:=⟨w.heap.size,3,none⟩) LA.out).trans P3.out;clear bn;go_wp2_with fail;go_loopw [8] (fun i wr=>∃k:Nat,i=.int .i64 k∧k≤T.ex.length∧Hid (∀(j:Nat) x y,j<k→T.ex[j]?=some x→U.ex[j]?=some y→eEx x y=true)∧Hid (∃n,wr=w7.drewN n)) (fun i _=>T.ex.length - (intOf i).toNat);case atStart=>exact⟨0,rfl,Nat.zero_le _,Pe (fun j x y h=>absurd h (Nat.not_lt_zero _)),HN⟩
       case round =>
        clear HN;obtain⟨k,rfl,hk,hall,HN⟩:=hrel;have bn:=Jag HN.out;have p3:=(bn.cell (p:=⟨w.heap.size,3,none⟩) LA.out).trans P3.out;have q3:=(bn.cell (p:=⟨w.heap.size+1,3,none⟩) LB.out).trans Q3.out;by_cases hlt:k<T.ex.length
        ·obtain⟨⟨z,d,f⟩,hx⟩:=Jah hlt
         obtain⟨⟨z',d',f'⟩,hy⟩:=Jah (show k<U.ex.length by have:=Lex.out;omega);have gk:(k:Int)<(T.ex.length:Int):=Kd;have gk':(k:Int)<(U.ex.length:Int):=by have:=Lex.out;omega
         by_cases he:z=z'∧d=d'∧f=f'
         ·obtain⟨rfl,rfl,rfl⟩:=he
          obtain⟨rb,ro,rA,-,r0,r1,r2⟩:=S14.three_at (H.out.ex.below bn) hx;rw [rA] at p3;obtain⟨sb,so,sA,-,s0,s1,s2⟩:=S14.three_at (H'.out.ex.below bn) hy;rw [sA] at q3;have E:=fun W=>Jrl z d f W
          have N:=Pe (Jdv hall.out hx hy (Pk rfl));clear hx hy hall bn hk hlt rA sA;go_wp2_with fail;go_quiet (fail);have hq:=Jap HN nq;generalize wr.drewN nq=w9 at hq ⊢;clear HN;go_wp2_with fail;go_roundw;case rel=>exact⟨k+1,Kg,Kd,N,hq⟩
          case measure=>exact Qz
         ·obtain⟨rb,ro,rA,-,r0,r1,r2⟩:=S14.three_at (H.out.ex.below bn) hx
          rw [rA] at p3;obtain⟨sb,so,sA,-,s0,s1,s2⟩:=S14.three_at (H'.out.ex.below bn) hy;rw [sA] at q3;have E:=fun W=>J1k z z' d d' f f' (he) W
          have R:Hid (V=false):=Pe (by rw [←HV.out];exact Qft (Jcc hx hy (Pj (fun g=>he Wbh))));clear hx hy hall bn hk hlt he rA sA;go_wp2_with fail;go_quiet (fail);exact Wba
        ·have dk:decide (k<T.ex.length)=false:=Kb
         have Eex:=Pe (Jdu Lex.out (fun j x y hj=>hall.out j x y Kd));clear hall hlt hk;have R:Hid (V=true):=Pe (by rw [←HV.out];unfold hdT;rw [Est.out,Ero.out,Eca.out,Eex.out];rfl);exact Wbc
theorem Qfv {T U:Tt} (h:eqB eFr T.fr U.fr=false):tlT T U=false:=Wbg
theorem Qfw {T U:Tt} (h:eqB eTh T.th U.th=false):tlT T U=false:=Wbg
theorem Qfx {T U:Tt} (h:eqB eGu T.gu U.gu=false):tlT T U=false:=Wbg
theorem Qfy {T U:Tt} (h:eqB ePa T.pa U.pa=false):tlT T U=false:=Wbg
theorem Qfz {T U:Tt} (h:eqB ePr T.pr U.pr=false):tlT T U=false:=Wbg
theorem Qf0 (a a':Nat→Option Addr) (c c':Nat→Nat) (T U:Tt) (hf:manN T) (w:World) (h:TtL w a c T) (h':TtL w a' c' U):Pc 32 #[ttV a c T,ttV a' c' U] w (.bool (tlT T U)):=by
 obtain⟨w7,hw7,z7,ra,rb,b7⟩:=Jcq w (Jbh a c T) (Jbh a' c' U);obtain⟨p0,p1,p2,p3,p4,p5,p6,p7,p8,p9,p10,p11,p12⟩:=Jak ra;obtain⟨q0,q1,q2,q3,q4,q5,q6,q7,q8,q9,q10,q11,q12⟩:=Jak rb;have B7:=Pe b7;have H:=Pe (h.below b7);have H':=Pe (h'.below b7);have LA:Hid (w.heap.size<w7.heap.size):=Pe Kd;have LB:Hid (w.heap.size+1<w7.heap.size):=Pe Kd;obtain⟨V,hV⟩:=Pi (tlT T U);rw [hV];have HV:=Pe hV;have P5:=Pe p5;have P6:=Pe p6;have P7:=Pe p7;have P8:=Pe p8;have P9:=Pe p9;have Q5:=Pe q5;have Q6:=Pe q6;have Q7:=Pe q7;have Q8:=Pe q8;have Q9:=Pe q9;obtain⟨f0,f1,f2,f3,f4,f5,f6,f7,f8,f9⟩:=hf;clear hV b7 ra rb z7 h h' f0 f1 f2 f3 f4;by_cases n0:T.fr.length≠U.fr.length
 ·have R:Hid (V=false):=Pe (by rw [←HV.out];exact Qfv (Je7 n0))
  have g0:((T.fr.length:Int) != (U.fr.length:Int))=true:=Jaf Kd;clear n0;exact Wbf
 have m0:=Ps n0;clear n0;have g0:((T.fr.length:Int) != (U.fr.length:Int))=false:=Jal Kd;by_cases n1:T.th.length≠U.th.length
 ·have R:Hid (V=false):=Pe (by rw [←HV.out];exact Qfw (Je7 n1))
  have g1:((T.th.length:Int) != (U.th.length:Int))=true:=Jaf Kd;clear n1 m0;exact Wbf
 have m1:=Ps n1;clear n1;have g1:((T.th.length:Int) != (U.th.length:Int))=false:=Jal Kd;by_cases n2:T.gu.length≠U.gu.length
 ·have R:Hid (V=false):=Pe (by rw [←HV.out];exact Qfx (Je7 n2))
  have g2:((T.gu.length:Int) != (U.gu.length:Int))=true:=Jaf Kd;clear n2 m0 m1;exact Wbf
 have m2:=Ps n2;clear n2;have g2:((T.gu.length:Int) != (U.gu.length:Int))=false:=Jal Kd;by_cases n3:T.pa.length≠U.pa.length
 ·have R:Hid (V=false):=Pe (by rw [←HV.out];exact Qfy (Je7 n3))
  have g3:((T.pa.length:Int) != (U.pa.length:Int))=true:=Jaf Kd;clear n3 m0 m1 m2;exact Wbf
 have m3:=Ps n3;clear n3;have g3:((T.pa.length:Int) != (U.pa.length:Int))=false:=Jal Kd;by_cases n4:T.pr.length≠U.pr.length
 ·have R:Hid (V=false):=Pe (by rw [←HV.out];exact Qfz (Je7 n4))
  have g4:((T.pr.length:Int) != (U.pr.length:Int))=true:=Jaf Kd;clear n4 m0 m1 m2 m3;exact Wbf
 have m4:=Ps n4;clear n4;have g4:((T.pr.length:Int) != (U.pr.length:Int))=false:=Jal Kd;have Lfr:=Pe m0;have Lth:=Pe m1;have Lgu:=Pe m2;have Lpa:=Pe m3;have Lpr:=Pe m4;clear m0 m1 m2 m3 m4;have HN:Hid (∃n,w7=w7.drewN n):=Pe ⟨0,rfl⟩;go_enter func32,ntmps32;go_wp2_with fail;go_loopw [5] (fun i wr=>∃k:Nat,i=.int .i64 k∧k≤T.fr.length∧Hid (∀(j:Nat) x y,j<k→T.fr[j]?=some x→U.fr[j]?=some y→eFr x y=true)∧Hid (∃n,wr=w7.drewN n)) (fun i _=>T.fr.length - (intOf i).toNat);case atStart=>exact⟨0,rfl,Nat.zero_le _,Pe (fun j x y h=>absurd h (Nat.not_lt_zero _)),HN⟩
 case round =>
  clear HN;obtain⟨k,rfl,hk,hall,HN⟩:=hrel;have bn:=Jag HN.out;have p5:=(bn.cell (p:=⟨w.heap.size,5,none⟩) LA.out).trans P5.out;have q5:=(bn.cell (p:=⟨w.heap.size+1,5,none⟩) LB.out).trans Q5.out;by_cases hlt:k<T.fr.length
  ·obtain⟨⟨t,z,u,v⟩,hx⟩:=Jah hlt
   obtain⟨⟨t',z',u',v'⟩,hy⟩:=Jah (show k<U.fr.length by have:=Lfr.out;omega);have gk:(k:Int)<(T.fr.length:Int):=Kd;have gk':(k:Int)<(U.fr.length:Int):=by have:=Lfr.out;omega
   by_cases he:t=t'∧z=z'∧u=u'∧v=v'
   ·obtain⟨rfl,rfl,rfl,rfl⟩:=he
    obtain⟨rb,ro,rA,-,r0,r1,r2,r3⟩:=four_at (H.out.fr.below bn) hx;rw [rA] at p5;obtain⟨sb,so,sA,-,s0,s1,s2,s3⟩:=four_at (H'.out.fr.below bn) hy;rw [sA] at q5;have E:=fun W=>Jrn t z u v W
    have N:=Pe (Jdv hall.out hx hy (Pk rfl));clear hx hy hall bn hk hlt rA sA;go_wp2_with fail;go_quiet (fail);have hq:=Jap HN nq;generalize wr.drewN nq=w9 at hq ⊢;clear HN;go_wp2_with fail;go_roundw;case rel=>exact⟨k+1,Kg,Kd,N,hq⟩
    case measure=>exact Qz
   ·obtain⟨rb,ro,rA,-,r0,r1,r2,r3⟩:=four_at (H.out.fr.below bn) hx
    rw [rA] at p5;obtain⟨sb,so,sA,-,s0,s1,s2,s3⟩:=four_at (H'.out.fr.below bn) hy;rw [sA] at q5;have E:=fun W=>J1m t t' z z' u u' v v' (he) W
    have R:Hid (V=false):=Pe (by rw [←HV.out];exact Qfv (Jcc hx hy (Pj (fun g=>he Wbe))));clear hx hy hall bn hk hlt he rA sA;go_wp2_with fail;go_quiet (fail);exact Wba
  ·have dk:decide (k<T.fr.length)=false:=Kb
   have Efr:=Pe (Jdu Lfr.out (fun j x y hj=>hall.out j x y Kd));clear hall hlt hk;have p6:=(bn.cell (p:=⟨w.heap.size,6,none⟩) LA.out).trans P6.out;clear bn;go_wp2_with fail;go_loopw [6] (fun i wr=>∃k:Nat,i=.int .i64 k∧k≤T.th.length∧Hid (∀(j:Nat) x y,j<k→T.th[j]?=some x→U.th[j]?=some y→eTh x y=true)∧Hid (∃n,wr=w7.drewN n)) (fun i _=>T.th.length - (intOf i).toNat);case atStart=>exact⟨0,rfl,Nat.zero_le _,Pe (fun j x y h=>absurd h (Nat.not_lt_zero _)),HN⟩
   case round =>
    clear HN;obtain⟨k,rfl,hk,hall,HN⟩:=hrel;have bn:=Jag HN.out;have p6:=(bn.cell (p:=⟨w.heap.size,6,none⟩) LA.out).trans P6.out;have q6:=(bn.cell (p:=⟨w.heap.size+1,6,none⟩) LB.out).trans Q6.out;by_cases hlt:k<T.th.length
    ·obtain⟨⟨z,u⟩,hx⟩:=Jah hlt
     obtain⟨⟨z',u'⟩,hy⟩:=Jah (show k<U.th.length by have:=Lth.out;omega);have gk:(k:Int)<(T.th.length:Int):=Kd;have gk':(k:Int)<(U.th.length:Int):=by have:=Lth.out;omega
     by_cases he:z=z'∧u=u'
     ·obtain⟨rfl,rfl⟩:=he
      obtain⟨rb,ro,rA,-,r0,r1⟩:=S19.two_hh (H.out.th.below bn) hx;rw [rA] at p6;obtain⟨sb,so,sA,-,s0,s1⟩:=S19.two_hh (H'.out.th.below bn) hy;rw [sA] at q6;have E:=fun W=>Jro z u W
      have N:=Pe (Jdv hall.out hx hy (Pk rfl));clear hx hy hall bn hk hlt rA sA;go_wp2_with fail;go_quiet (fail);have hq:=Jap HN nq;generalize wr.drewN nq=w9 at hq ⊢;clear HN;go_wp2_with fail;go_roundw;case rel=>exact⟨k+1,Kg,Kd,N,hq⟩
      case measure=>exact Qz
     ·obtain⟨rb,ro,rA,-,r0,r1⟩:=S19.two_hh (H.out.th.below bn) hx
      rw [rA] at p6;obtain⟨sb,so,sA,-,s0,s1⟩:=S19.two_hh (H'.out.th.below bn) hy;rw [sA] at q6;have E:=fun W=>J1n z z' u u' (he) W
      have R:Hid (V=false):=Pe (by rw [←HV.out];exact Qfw (Jcc hx hy (Pj (fun g=>he (by cases g;exact⟨rfl,rfl⟩)))));clear hx hy hall bn hk hlt he rA sA;go_wp2_with fail;go_quiet (fail);exact Wba
    ·have dk:decide (k<T.th.length)=false:=Kb
     have Eth:=Pe (Jdu Lth.out (fun j x y hj=>hall.out j x y Kd));clear hall hlt hk;have p7:=(bn.cell (p:=⟨w.heap.size,7,none⟩) LA.out).trans P7.out;clear bn;go_wp2_with fail;go_loopw [7] (fun i wr=>∃k:Nat,i=.int .i64 k∧k≤T.gu.length∧Hid (∀(j:Nat) x y,j<k→T.gu[j]?=some x→U.gu[j]?=some y→eGu x y=true)∧Hid (∃n,wr=w7.drewN n)) (fun i _=>T.gu.length - (intOf i).toNat);case atStart=>exact⟨0,rfl,Nat.zero_le _,Pe (fun j x y h=>absurd h (Nat.not_lt_zero _)),HN⟩
     case round =>
      clear HN;obtain⟨k,rfl,hk,hall,HN⟩:=hrel;have bn:=Jag HN.out;have p7:=(bn.cell (p:=⟨w.heap.size,7,none⟩) LA.out).trans P7.out;have q7:=(bn.cell (p:=⟨w.heap.size+1,7,none⟩) LB.out).trans Q7.out;by_cases hlt:k<T.gu.length
      ·obtain⟨⟨z,u,v⟩,hx⟩:=Jah hlt
       obtain⟨⟨z',u',v'⟩,hy⟩:=Jah (show k<U.gu.length by have:=Lgu.out;omega);have gk:(k:Int)<(T.gu.length:Int):=Kd;have gk':(k:Int)<(U.gu.length:Int):=by have:=Lgu.out;omega
       by_cases he:z=z'∧u=u'∧v=v'
       ·obtain⟨rfl,rfl,rfl⟩:=he
        obtain⟨rb,ro,rA,-,r0,r1,r2⟩:=S19.three_gg (H.out.gu.below bn) hx;rw [rA] at p7;obtain⟨sb,so,sA,-,s0,s1,s2⟩:=S19.three_gg (H'.out.gu.below bn) hy;rw [sA] at q7;have E:=fun W=>Jrp z u v W
        have N:=Pe (Jdv hall.out hx hy (Pk rfl));clear hx hy hall bn hk hlt rA sA;go_wp2_with fail;go_quiet (fail);have hq:=Jap HN nq;generalize wr.drewN nq=w9 at hq ⊢;clear HN;go_wp2_with fail;go_roundw;case rel=>exact⟨k+1,Kg,Kd,N,hq⟩
        case measure=>exact Qz
       ·obtain⟨rb,ro,rA,-,r0,r1,r2⟩:=S19.three_gg (H.out.gu.below bn) hx
        rw [rA] at p7;obtain⟨sb,so,sA,-,s0,s1,s2⟩:=S19.three_gg (H'.out.gu.below bn) hy;rw [sA] at q7;have E:=fun W=>J1o z z' u u' v v' (he) W
        have R:Hid (V=false):=Pe (by rw [←HV.out];exact Qfx (Jcc hx hy (Pj (fun g=>he Wbh))));clear hx hy hall bn hk hlt he rA sA;go_wp2_with fail;go_quiet (fail);exact Wba
      ·have dk:decide (k<T.gu.length)=false:=Kb
       have Egu:=Pe (Jdu Lgu.out (fun j x y hj=>hall.out j x y Kd));clear hall hlt hk;have p8:=(bn.cell (p:=⟨w.heap.size,8,none⟩) LA.out).trans P8.out;clear bn;go_wp2_with fail;go_loopw [8] (fun i wr=>∃k:Nat,i=.int .i64 k∧k≤T.pa.length∧Hid (∀(j:Nat) x y,j<k→T.pa[j]?=some x→U.pa[j]?=some y→ePa x y=true)∧Hid (∃n,wr=w7.drewN n)) (fun i _=>T.pa.length - (intOf i).toNat);case atStart=>exact⟨0,rfl,Nat.zero_le _,Pe (fun j x y h=>absurd h (Nat.not_lt_zero _)),HN⟩
       case round =>
        clear HN;obtain⟨k,rfl,hk,hall,HN⟩:=hrel;have bn:=Jag HN.out;have p8:=(bn.cell (p:=⟨w.heap.size,8,none⟩) LA.out).trans P8.out;have q8:=(bn.cell (p:=⟨w.heap.size+1,8,none⟩) LB.out).trans Q8.out;by_cases hlt:k<T.pa.length
        ·obtain⟨⟨z,u,v,f⟩,hx⟩:=Jah hlt
         obtain⟨⟨z',u',v',f'⟩,hy⟩:=Jah (show k<U.pa.length by have:=Lpa.out;omega);have gk:(k:Int)<(T.pa.length:Int):=Kd;have gk':(k:Int)<(U.pa.length:Int):=by have:=Lpa.out;omega
         by_cases he:z=z'∧u=u'∧v=v'∧f=f'
         ·obtain⟨rfl,rfl,rfl,rfl⟩:=he
          obtain⟨rb,ro,rA,-,r0,r1,r2,r3⟩:=S20.four_at (H.out.pa.below bn) hx;rw [rA] at p8;obtain⟨sb,so,sA,-,s0,s1,s2,s3⟩:=S20.four_at (H'.out.pa.below bn) hy;rw [sA] at q8;have E:=fun W=>Jrq z u v f W
          have N:=Pe (Jdv hall.out hx hy (Pk rfl));clear hx hy hall bn hk hlt rA sA;go_wp2_with fail;go_quiet (fail);have hq:=Jap HN nq;generalize wr.drewN nq=w9 at hq ⊢;clear HN;go_wp2_with fail;go_roundw;case rel=>exact⟨k+1,Kg,Kd,N,hq⟩
          case measure=>exact Qz
         ·obtain⟨rb,ro,rA,-,r0,r1,r2,r3⟩:=S20.four_at (H.out.pa.below bn) hx
          rw [rA] at p8;obtain⟨sb,so,sA,-,s0,s1,s2,s3⟩:=S20.four_at (H'.out.pa.below bn) hy;rw [sA] at q8;have E:=fun W=>J1p z z' u u' v v' f f' (he) W
          have R:Hid (V=false):=Pe (by rw [←HV.out];exact Qfy (Jcc hx hy (Pj (fun g=>he Wbe))));clear hx hy hall bn hk hlt he rA sA;go_wp2_with fail;go_quiet (fail);exact Wba
        ·have dk:decide (k<T.pa.length)=false:=Kb
         have Epa:=Pe (Jdu Lpa.out (fun j x y hj=>hall.out j x y Kd));clear hall hlt hk;have p9:=(bn.cell (p:=⟨w.heap.size,9,none⟩) LA.out).trans P9.out;clear bn;go_wp2_with fail;go_loopw [9] (fun i wr=>∃k:Nat,i=.int .i64 k∧k≤T.pr.length∧Hid (∀(j:Nat) x y,j<k→T.pr[j]?=some x→U.pr[j]?=some y→ePr x y=true)∧Hid (∃n,wr=w7.drewN n)) (fun i _=>T.pr.length - (intOf i).toNat);case atStart=>exact⟨0,rfl,Nat.zero_le _,Pe (fun j x y h=>absurd h (Nat.not_lt_zero _)),HN⟩
         case round =>
          clear HN;obtain⟨k,rfl,hk,hall,HN⟩:=hrel;have bn:=Jag HN.out;have p9:=(bn.cell (p:=⟨w.heap.size,9,none⟩) LA.out).trans P9.out;have q9:=(bn.cell (p:=⟨w.heap.size+1,9,none⟩) LB.out).trans Q9.out;by_cases hlt:k<T.pr.length
          ·obtain⟨⟨id,z,u,v,t,m⟩,hx⟩:=Jah hlt
           obtain⟨⟨id',z',u',v',t',m'⟩,hy⟩:=Jah (show k<U.pr.length by have:=Lpr.out;omega);have gk:(k:Int)<(T.pr.length:Int):=Kd;have gk':(k:Int)<(U.pr.length:Int):=by have:=Lpr.out;omega
           by_cases he:id=id'∧z=z'∧u=u'∧v=v'∧t=t'∧m=m'
           ·obtain⟨rfl,rfl,rfl,rfl,rfl,rfl⟩:=he
            obtain⟨nm,hnm⟩:=Pi (str id);obtain⟨rb,ro,rA,-,r0,r1,r2,r3,r4,r5⟩:=S21.six_at (H.out.pr.below bn) hx hnm;rw [rA] at p9;obtain⟨sb,so,sA,-,s0,s1,s2,s3,s4,s5⟩:=S21.six_at (H'.out.pr.below bn) hy hnm;rw [sA] at q9;have E:=fun W=>Jrs nm z u v t m W
            have N:=Pe (Jdv hall.out hx hy (Pk rfl));clear hx hy hall bn hk hlt hnm rA sA;go_wp2_with fail;go_quiet (fail);have hq:=Jap HN nq;generalize wr.drewN nq=w9 at hq ⊢;clear HN;go_wp2_with fail;go_roundw;case rel=>exact⟨k+1,Kg,Kd,N,hq⟩
            case measure=>exact Qz
           ·obtain⟨nm,hnm⟩:=Pi (str id)
            obtain⟨nm',hnm'⟩:=Pi (str id');obtain⟨rb,ro,rA,-,r0,r1,r2,r3,r4,r5⟩:=S21.six_at (H.out.pr.below bn) hx hnm;rw [rA] at p9;obtain⟨sb,so,sA,-,s0,s1,s2,s3,s4,s5⟩:=S21.six_at (H'.out.pr.below bn) hy hnm';rw [sA] at q9;have E:=fun W=>J1q nm nm' z z' u u' v v' t t' m m' (fun g=>he ⟨Jjx Wbd,g.2⟩) W
            have R:Hid (V=false):=Pe (by rw [←HV.out];exact Qfz (Jcc hx hy (Pj (fun g=>he (by cases g;exact⟨rfl,rfl,rfl,rfl,rfl,rfl⟩)))));clear hx hy hall bn hk hlt he hnm hnm' rA sA;go_wp2_with fail;go_quiet (fail);exact Wba
          ·have dk:decide (k<T.pr.length)=false:=Kb
           have Epr:=Pe (Jdu Lpr.out (fun j x y hj=>hall.out j x y Kd));clear hall hlt hk;have R:Hid (V=true):=Pe (by rw [←HV.out];unfold tlT;rw [Efr.out,Eth.out,Egu.out,Epa.out,Epr.out];rfl);exact Wbc
theorem Jm4 {x y:Tp} (h:¬(x.1=y.1∧x.2.1=y.2.1∧x.2.2.1=y.2.2.1∧x.2.2.2.1=y.2.2.2.1)):eTr x y=false:=by unfold eTr;rw [Pj h];rfl
theorem Juj {x y:Tp} (h:eqB eCc (clT x) (clT y)=false):eTr x y=false:=by unfold eTr;rw [h];simp
theorem Qb6 {x y:Tp} (h:x.1=y.1∧x.2.1=y.2.1∧x.2.2.1=y.2.2.1∧x.2.2.2.1=y.2.2.2.1) (h2:eqB eCc (clT x) (clT y)=true):eTr x y=true:=by unfold eTr;rw [Pk h,h2];rfl
theorem Jwf (vl vm:Value) (l m:List Tp) (hl:l.length≤1000000) (w:World) (h:Jcp w vl l) (h':Jcp w vm m):Calls prog 31 #[vl,vm] w fun e w'=>e=.returned (.bool (eqB eTr l m))∧∃m,w'=w.drewN m:=by
 have H:=Pe h;have H':=Pe h';obtain⟨⟨A,n,rfl,-,-,-⟩,-⟩:=h;obtain⟨⟨A',n',rfl,-,-,-⟩,-⟩:=h';obtain⟨V,hV⟩:=Pi (eqB eTr l m);rw [hV];have HV:=Pe hV;clear hV;by_cases hn:l.length≠m.length
 ·have R:Hid (V=false):=Pe (by rw [←HV.out];exact Je7 hn)
  have g:((l.length:Int) != (m.length:Int))=true:=Jaf Kd;clear hn;go_enter func31,ntmps31;go_wp2_with fail;go_ret;exact⟨Jab R.out.symm,0,rfl⟩
 have hm:=Ps hn;clear hn;have g:((l.length:Int) != (m.length:Int))=false:=Jal Kd;have LM:=Pe hm;clear hm;have HN:Hid (∃n,w=w.drewN n):=Pe ⟨0,rfl⟩;go_enter func31,ntmps31;go_wp2_with fail;clear g;go_loopw [5] (fun i wr=>∃k:Nat,i=.int .i64 k∧k≤l.length∧Hid (∀(j:Nat) x y,j<k→l[j]?=some x→m[j]?=some y→eTr x y=true)∧Hid (∃n,wr=w.drewN n)) (fun i _=>l.length - (intOf i).toNat);case atStart=>exact⟨0,rfl,Nat.zero_le _,Pe (fun j x y h=>absurd h (Nat.not_lt_zero _)),HN⟩
 case round =>
  clear HN;obtain⟨k,rfl,hk,hall,HN⟩:=hrel;have bn:=Jag HN.out;by_cases hlt:k<l.length
  ·obtain⟨⟨id,r,ca,f,v,cl⟩,hx⟩:=Jah hlt
   obtain⟨⟨id',r',ca',f',v',cl'⟩,hy⟩:=Jah (show k<m.length by have:=LM.out;omega);obtain⟨nm,hnm⟩:=Pi (str id);obtain⟨nm',hnm'⟩:=Pi (str id');obtain⟨b,o,B,mm,rfl,rfl,hb,r0,r1,r2,r3,r4,lc,lcl,-⟩:=Jbl (H.out.below bn) hx hnm;obtain⟨b',o',B',mm',rfl,rfl,hb',s0,s1,s2,s3,s4,lc',lcl',-⟩:=Jbl (H'.out.below bn) hy hnm';have gk:(k:Int)<(l.length:Int):=Kd;have gk':(k:Int)<(m.length:Int):=by have:=LM.out;omega
   go_wp2_with fail;simp only [List.append_eq,List.cons_append,List.nil_append];by_cases e0:id=id';case neg =>
    have gs:=Jb7 (a:=nm) (b:=nm') (fun g=>e0 (Jjx (by rw [hnm,hnm',g])));have R:Hid (V=false):=Pe (by rw [←HV.out];exact Jcc hx hy (Jm4 (fun g=>e0 g.1)));clear hx hy hnm hnm' hall bn hk hlt hb hb' lc lc' HV e0;go_quiet (fail);exact Wbb
   have gs:=Jby (a:=nm) (b:=nm') (by rw [←hnm,←hnm',e0]);by_cases e1:r=r';case neg =>
    have g1:(r != r')=true:=Jaf e1;have R:Hid (V=false):=Pe (by rw [←HV.out];exact Jcc hx hy (Jm4 (fun g=>e1 g.2.1)));clear hx hy hnm hnm' hall bn hk hlt hb hb' lc lc' HV e0 e1;go_quiet (fail);exact Wbb
   have g1:(r != r')=false:=Jal e1;by_cases e2:ca=ca';case neg =>
    have g2:(ca != ca')=true:=Jaf e2;have R:Hid (V=false):=Pe (by rw [←HV.out];exact Jcc hx hy (Jm4 (fun g=>e2 g.2.2.1)));clear hx hy hnm hnm' hall bn hk hlt hb hb' lc lc' HV e0 e1 e2;go_quiet (fail);exact Wbb
   have g2:(ca != ca')=false:=Jal e2;by_cases e3:f=f';case neg =>
    have g3:(!(f==f'))=true:=by cases f <;> cases f' <;> simp at e3 ⊢
    have R:Hid (V=false):=Pe (by rw [←HV.out];exact Jcc hx hy (Jm4 (fun g=>e3 g.2.2.2)));clear hx hy hnm hnm' hall bn hk hlt hb hb' lc lc' HV e0 e1 e2 e3;go_quiet (fail);exact Wbb
   have g3:(!(f==f'))=false:=by rw [e3];cases f' <;> rfl
   by_cases e4:cl.length=cl'.length
   case neg =>
    have g4:((cl.length:Int) != (cl'.length:Int))=true:=Jaf Kd;have R:Hid (V=false):=Pe (by rw [←HV.out];exact Jcc hx hy (Juj (Je7 e4)));clear hx hy hnm hnm' hall bn hk hlt hb hb' lc lc' HV e0 e1 e2 e3 e4;go_quiet (fail);exact Wbb
   have g4:((cl.length:Int) != (cl'.length:Int))=false:=Jal Kd;have RC:=Pe (fun (h:eqB eCc cl cl'=false)=>(Jcc hx hy (Juj h):eqB eTr l m=false));have NC:=Pe (fun (h:eqB eCc cl cl'=true)=>Jdv hall.out hx hy (Qb6 (x:=(id,r,ca,f,.slice B cl.length mm,cl)) (y:=(id',r',ca',f',.slice B' cl'.length mm',cl')) ⟨e0,e1,e2,e3⟩ h));have E4:=Pe e4;have LC:=Pe lc;have LC':=Pe lc';have R4:=Pe r4;have S4:=Pe s4;have HB:=Pe hb;have HB':=Pe hb';clear hx hy hnm hnm' hall bn hk hlt hb hb' lc lc' e0 e1 e2 e3 e4;go_quiet (fail);have hq:=Jap HN nq;have hw9:∃q,wr.drewN nq=wr.drewN q:=⟨nq,rfl⟩;generalize wr.drewN nq=w9 at hq hw9 ⊢;have W9:=Pe hw9;clear hw9 r0 r1 r2 r3 r4 s0 s1 s2 s3 s4 gs g1 g2 g3 g4;go_wp2_with fail;go_loopw [6] (fun i wx=>∃j:Nat,i=.int .i64 j∧j≤cl.length∧Hid (∀(t:Nat) x y,t<j→cl[t]?=some x→cl'[t]?=some y→eCc x y=true)∧Hid (∃n,wx=wr.drewN n)) (fun i _=>cl.length - (intOf i).toNat);case atStart=>exact⟨0,rfl,Nat.zero_le _,Pe (fun j x y h=>absurd h (Nat.not_lt_zero _)),W9⟩
   case round =>
    clear hq W9;obtain⟨j,rfl,hj,hjall,HX⟩:=hrel;have bx:=Jag HX.out;have r4:=(bx.cell (p:=⟨b,o+k*5+4,none⟩) HB.out).trans R4.out;have s4:=(bx.cell (p:=⟨b',o'+k*5+4,none⟩) HB'.out).trans S4.out;by_cases hjl:j<cl.length
    ·obtain⟨⟨x0,x1,x2,x3,x4⟩,hx⟩:=Jah hjl
     obtain⟨⟨y0,y1,y2,y3,y4⟩,hy⟩:=Jah (show j<cl'.length by have:=E4.out;omega);obtain⟨cb,co,rfl,-,c0,c1,c2,c3,c4⟩:=Ja3 (LC.out.below bx) hx;obtain⟨db,dd,rfl,-,d0,d1,d2,d3,d4⟩:=Ja3 (LC'.out.below bx) hy;have gj:(j:Int)<(cl.length:Int):=Kd;have gj':(j:Int)<(cl'.length:Int):=by have:=E4.out;omega
     by_cases he:x0=y0∧x1=y1∧x2=y2∧x3=y3∧x4=y4
     ·obtain⟨rfl,rfl,rfl,rfl,rfl⟩:=he
      have E:=fun W=>Jrm x0 x1 x2 x3 x4 W
      have N:=Pe (Jdv hjall.out hx hy (J95 _));clear hx hy hjall bx hj hjl;go_wp2_with fail;go_quiet (fail);have hz:=Jap HX nq;generalize wr.drewN nq=w10 at hz ⊢;clear HX;go_wp2_with fail;go_roundw;case rel=>exact⟨j+1,Kg,Kd,N,hz⟩
      case measure=>exact Qz
     ·have E:=fun W=>J1l x0 y0 x1 y1 x2 y2 x3 y3 x4 y4 he W
      have R:Hid (V=false):=Pe (by rw [←HV.out];exact RC.out (Jcc hx hy (Pj (fun g=>he (by cases g;exact⟨rfl,rfl,rfl,rfl,rfl⟩)))));clear hx hy hjall bx hj hjl he RC NC HV;go_wp2_with fail;go_quiet (fail);have hz:=Jap HX nq;generalize wr.drewN nq=w10 at hz ⊢;go_wp2_with fail;go_ret;obtain⟨n1,e1⟩:=HN.out;obtain⟨n2,e2⟩:=hz.out;exact⟨Jab R.out.symm,n1+n2,by rw [e2,e1,World.drewN_drewN]⟩
    ·have dj:decide (j<cl.length)=false:=by rw [decide_eq_false_iff_not];exact hjl
     have N:=Pe (NC.out (Jdu E4.out (fun t x y ht=>hjall.out t x y Kd)));have HZ:Hid (∃n,wr=w.drewN n):=Pe (by
      obtain⟨n1,e1⟩:=HN.out;obtain⟨n2,e2⟩:=HX.out;exact⟨n1+n2,by rw [e2,e1,World.drewN_drewN]⟩)
     clear hjall bx hj hjl RC NC;go_wp2_with fail;go_roundw;case rel=>exact⟨k+1,Kg,Kd,N,HZ⟩
     case measure=>exact Qz
  ·have dk:decide (k<l.length)=false:=Kb
   have R:Hid (V=true):=Pe (by rw [←HV.out];exact Jdu LM.out (fun j x y hj=>hall.out j x y Kd));clear hlt hall bn;go_wp2_with fail;go_ret;exact⟨Jab R.out.symm,HN.out⟩
theorem eqT_h {T U:Tt} (h:hdT T U=false):eqT T U=false:=by unfold eqT;rw [h];rfl
theorem eqT_t {T U:Tt} (h:eqB eTr T.tr U.tr=false):eqT T U=false:=by unfold eqT;rw [h];simp
theorem eqT_l {T U:Tt} (h:tlT T U=false):eqT T U=false:=by unfold eqT;rw [h];simp
theorem Qb7 {T U:Tt} (h:¬(T.di=U.di∧T.wi=U.wi∧T.cp=U.cp)):eqT T U=false:=by unfold eqT;rw [Pj h];simp
theorem eqT_y {T U:Tt} (h:hdT T U=true) (h2:eqB eTr T.tr U.tr=true) (h3:tlT T U=true) (h4:T.di=U.di∧T.wi=U.wi∧T.cp=U.cp):eqT T U=true:=by unfold eqT;rw [h,h2,h3,Pk h4];rfl
theorem Juk (a a':Nat→Option Addr) (c c':Nat→Nat) (T U:Tt) (hf:manN T) (w:World) (h:TtL w a c T) (h':TtL w a' c' U):Pc 12 #[ttV a c T,ttV a' c' U] w (.bool (eqT T U)):=by
 obtain⟨w7,hw7,z7,ra,rb,b7⟩:=Jcq w (Jbh a c T) (Jbh a' c' U);obtain⟨p0,p1,p2,p3,p4,p5,p6,p7,p8,p9,p10,p11,p12⟩:=Jak ra;obtain⟨q0,q1,q2,q3,q4,q5,q6,q7,q8,q9,q10,q11,q12⟩:=Jak rb;have B7:=Pe b7;have C1:=Pe (fun W (hW:Pn w7 W)=>Qfu a a' c c' T U hf W ((h.below b7).below hW) ((h'.below b7).below hW));have C2:=Pe (fun W (hW:Pn w7 W)=>Jwf (.slice (a 4) T.tr.length (c 4)) (.slice (a' 4) U.tr.length (c' 4)) T.tr U.tr (by have:=hf.2.2.2.2.1;omega) W ((h.below b7).tr.below hW) ((h'.below b7).tr.below hW));have C3:=Pe (fun W (hW:Pn w7 W)=>Qf0 a a' c c' T U hf W ((h.below b7).below hW) ((h'.below b7).below hW));have RA:=Pe ra;have RB:=Pe rb;have LA:Hid (w.heap.size<w7.heap.size):=Pe Kd;have LB:Hid (w.heap.size+1<w7.heap.size):=Pe Kd;obtain⟨V,hV⟩:=Pi (eqT T U);rw [hV];have HV:=Pe hV;obtain⟨x1,hx1⟩:=Pi (hdT T U);obtain⟨x2,hx2⟩:=Pi (eqB eTr T.tr U.tr);obtain⟨x3,hx3⟩:=Pi (tlT T U);rw [hx1] at C1;rw [hx2] at C2;rw [hx3] at C3;have X1:=Pe hx1;have X2:=Pe hx2;have X3:=Pe hx3;clear hV b7 ra rb z7 h h' hf hx1 hx2 hx3;cases x1
 ·have R:Hid (V=false):=Pe (by rw [←HV.out];exact eqT_h X1.out)
  clear X2 X3 C2 C3;go_enter func12,ntmps12;go_wp2_with fail;refine (C1.out w7 Pg).mono ?_;rintro e w8 ⟨rfl,b8⟩;have B8:=Pe (b8);clear b8;clear p0 p1 p2 p3 p4 p5 p6 p7 p8 p9 p10 p11 p12 q0 q1 q2 q3 q4 q5 q6 q7 q8 q9 q10 q11 q12;obtain⟨p0,p1,p2,p3,p4,p5,p6,p7,p8,p9,p10,p11,p12⟩:=Jak ((B8.out.block _ LA.out).trans RA.out);obtain⟨q0,q1,q2,q3,q4,q5,q6,q7,q8,q9,q10,q11,q12⟩:=Jak ((B8.out.block _ LB.out).trans RB.out);go_wp2_with fail;go_ret;exact⟨Jab R.out.symm,B7.out.trans (B8.out.mono B7.out.size)⟩
 cases x2
 ·have R:Hid (V=false):=Pe (by rw [←HV.out];exact eqT_t X2.out)
  clear X3 C3;go_enter func12,ntmps12;go_wp2_with fail;refine (C1.out w7 Pg).mono ?_;rintro e w8 ⟨rfl,b8⟩;have B8:=Pe (b8);clear b8;clear p0 p1 p2 p3 p4 p5 p6 p7 p8 p9 p10 p11 p12 q0 q1 q2 q3 q4 q5 q6 q7 q8 q9 q10 q11 q12;obtain⟨p0,p1,p2,p3,p4,p5,p6,p7,p8,p9,p10,p11,p12⟩:=Jak ((B8.out.block _ LA.out).trans RA.out);obtain⟨q0,q1,q2,q3,q4,q5,q6,q7,q8,q9,q10,q11,q12⟩:=Jak ((B8.out.block _ LB.out).trans RB.out);go_wp2_with fail;refine (C2.out w8 B8.out).mono ?_;rintro e w9 ⟨rfl,b9⟩;replace b9:=Jag b9;have B9:=Pe (B8.out.trans (b9.mono B8.out.size));clear b9;clear p0 p1 p2 p3 p4 p5 p6 p7 p8 p9 p10 p11 p12 q0 q1 q2 q3 q4 q5 q6 q7 q8 q9 q10 q11 q12;obtain⟨p0,p1,p2,p3,p4,p5,p6,p7,p8,p9,p10,p11,p12⟩:=Jak ((B9.out.block _ LA.out).trans RA.out);obtain⟨q0,q1,q2,q3,q4,q5,q6,q7,q8,q9,q10,q11,q12⟩:=Jak ((B9.out.block _ LB.out).trans RB.out);go_wp2_with fail;go_ret;exact⟨Jab R.out.symm,B7.out.trans (B9.out.mono B7.out.size)⟩
 cases x3
 ·have R:Hid (V=false):=Pe (by rw [←HV.out];exact eqT_l X3.out)
  go_enter func12,ntmps12;go_wp2_with fail;refine (C1.out w7 Pg).mono ?_;rintro e w8 ⟨rfl,b8⟩;have B8:=Pe (b8);clear b8;clear p0 p1 p2 p3 p4 p5 p6 p7 p8 p9 p10 p11 p12 q0 q1 q2 q3 q4 q5 q6 q7 q8 q9 q10 q11 q12;obtain⟨p0,p1,p2,p3,p4,p5,p6,p7,p8,p9,p10,p11,p12⟩:=Jak ((B8.out.block _ LA.out).trans RA.out);obtain⟨q0,q1,q2,q3,q4,q5,q6,q7,q8,q9,q10,q11,q12⟩:=Jak ((B8.out.block _ LB.out).trans RB.out);go_wp2_with fail;refine (C2.out w8 B8.out).mono ?_;rintro e w9 ⟨rfl,b9⟩;replace b9:=Jag b9;have B9:=Pe (B8.out.trans (b9.mono B8.out.size));clear b9;clear p0 p1 p2 p3 p4 p5 p6 p7 p8 p9 p10 p11 p12 q0 q1 q2 q3 q4 q5 q6 q7 q8 q9 q10 q11 q12;obtain⟨p0,p1,p2,p3,p4,p5,p6,p7,p8,p9,p10,p11,p12⟩:=Jak ((B9.out.block _ LA.out).trans RA.out);obtain⟨q0,q1,q2,q3,q4,q5,q6,q7,q8,q9,q10,q11,q12⟩:=Jak ((B9.out.block _ LB.out).trans RB.out);go_wp2_with fail;refine (C3.out w9 B9.out).mono ?_;exact Wa9
 by_cases g1:T.di=U.di
 case neg =>
  have R:Hid (V=false):=Pe (by rw [←HV.out];exact Qb7 (fun g=>g1 g.1));have e1:(T.di==U.di)=false:=by simpa using g1
  clear g1;go_enter func12,ntmps12;go_wp2_with fail;refine (C1.out w7 Pg).mono ?_;rintro e w8 ⟨rfl,b8⟩;have B8:=Pe (b8);clear b8;clear p0 p1 p2 p3 p4 p5 p6 p7 p8 p9 p10 p11 p12 q0 q1 q2 q3 q4 q5 q6 q7 q8 q9 q10 q11 q12;obtain⟨p0,p1,p2,p3,p4,p5,p6,p7,p8,p9,p10,p11,p12⟩:=Jak ((B8.out.block _ LA.out).trans RA.out);obtain⟨q0,q1,q2,q3,q4,q5,q6,q7,q8,q9,q10,q11,q12⟩:=Jak ((B8.out.block _ LB.out).trans RB.out);go_wp2_with fail;refine (C2.out w8 B8.out).mono ?_;rintro e w9 ⟨rfl,b9⟩;replace b9:=Jag b9;have B9:=Pe (B8.out.trans (b9.mono B8.out.size));clear b9;clear p0 p1 p2 p3 p4 p5 p6 p7 p8 p9 p10 p11 p12 q0 q1 q2 q3 q4 q5 q6 q7 q8 q9 q10 q11 q12;obtain⟨p0,p1,p2,p3,p4,p5,p6,p7,p8,p9,p10,p11,p12⟩:=Jak ((B9.out.block _ LA.out).trans RA.out);obtain⟨q0,q1,q2,q3,q4,q5,q6,q7,q8,q9,q10,q11,q12⟩:=Jak ((B9.out.block _ LB.out).trans RB.out);go_wp2_with fail;refine (C3.out w9 B9.out).mono ?_;exact Wa9
 have e1:(T.di==U.di)=true:=by simpa using g1
 by_cases g2:T.wi=U.wi
 case neg =>
  have R:Hid (V=false):=Pe (by rw [←HV.out];exact Qb7 (fun g=>g2 g.2.1));have e2:(T.wi==U.wi)=false:=by simpa using g2
  clear g1 g2;go_enter func12,ntmps12;go_wp2_with fail;refine (C1.out w7 Pg).mono ?_;rintro e w8 ⟨rfl,b8⟩;have B8:=Pe (b8);clear b8;clear p0 p1 p2 p3 p4 p5 p6 p7 p8 p9 p10 p11 p12 q0 q1 q2 q3 q4 q5 q6 q7 q8 q9 q10 q11 q12;obtain⟨p0,p1,p2,p3,p4,p5,p6,p7,p8,p9,p10,p11,p12⟩:=Jak ((B8.out.block _ LA.out).trans RA.out);obtain⟨q0,q1,q2,q3,q4,q5,q6,q7,q8,q9,q10,q11,q12⟩:=Jak ((B8.out.block _ LB.out).trans RB.out);go_wp2_with fail;refine (C2.out w8 B8.out).mono ?_;rintro e w9 ⟨rfl,b9⟩;replace b9:=Jag b9;have B9:=Pe (B8.out.trans (b9.mono B8.out.size));clear b9;clear p0 p1 p2 p3 p4 p5 p6 p7 p8 p9 p10 p11 p12 q0 q1 q2 q3 q4 q5 q6 q7 q8 q9 q10 q11 q12;obtain⟨p0,p1,p2,p3,p4,p5,p6,p7,p8,p9,p10,p11,p12⟩:=Jak ((B9.out.block _ LA.out).trans RA.out);obtain⟨q0,q1,q2,q3,q4,q5,q6,q7,q8,q9,q10,q11,q12⟩:=Jak ((B9.out.block _ LB.out).trans RB.out);go_wp2_with fail;refine (C3.out w9 B9.out).mono ?_;exact Wa9
 have e2:(T.wi==U.wi)=true:=by simpa using g2
 by_cases g3:T.cp=U.cp
 case neg =>
  have R:Hid (V=false):=Pe (by rw [←HV.out];exact Qb7 (fun g=>g3 g.2.2));have e3:(T.cp==U.cp)=false:=by simpa using g3
  clear g1 g2 g3;go_enter func12,ntmps12;go_wp2_with fail;refine (C1.out w7 Pg).mono ?_;rintro e w8 ⟨rfl,b8⟩;have B8:=Pe (b8);clear b8;clear p0 p1 p2 p3 p4 p5 p6 p7 p8 p9 p10 p11 p12 q0 q1 q2 q3 q4 q5 q6 q7 q8 q9 q10 q11 q12;obtain⟨p0,p1,p2,p3,p4,p5,p6,p7,p8,p9,p10,p11,p12⟩:=Jak ((B8.out.block _ LA.out).trans RA.out);obtain⟨q0,q1,q2,q3,q4,q5,q6,q7,q8,q9,q10,q11,q12⟩:=Jak ((B8.out.block _ LB.out).trans RB.out);go_wp2_with fail;refine (C2.out w8 B8.out).mono ?_;rintro e w9 ⟨rfl,b9⟩;replace b9:=Jag b9;have B9:=Pe (B8.out.trans (b9.mono B8.out.size));clear b9;clear p0 p1 p2 p3 p4 p5 p6 p7 p8 p9 p10 p11 p12 q0 q1 q2 q3 q4 q5 q6 q7 q8 q9 q10 q11 q12;obtain⟨p0,p1,p2,p3,p4,p5,p6,p7,p8,p9,p10,p11,p12⟩:=Jak ((B9.out.block _ LA.out).trans RA.out);obtain⟨q0,q1,q2,q3,q4,q5,q6,q7,q8,q9,q10,q11,q12⟩:=Jak ((B9.out.block _ LB.out).trans RB.out);go_wp2_with fail;refine (C3.out w9 B9.out).mono ?_;exact Wa9
 have e3:(T.cp==U.cp)=true:=by simpa using g3
 have R:Hid (V=true):=Pe (by rw [←HV.out];exact eqT_y X1.out X2.out X3.out ⟨g1,g2,g3⟩);clear g1 g2 g3;go_enter func12,ntmps12;go_wp2_with fail;refine (C1.out w7 Pg).mono ?_;rintro e w8 ⟨rfl,b8⟩;have B8:=Pe (b8);clear b8;clear p0 p1 p2 p3 p4 p5 p6 p7 p8 p9 p10 p11 p12 q0 q1 q2 q3 q4 q5 q6 q7 q8 q9 q10 q11 q12;obtain⟨p0,p1,p2,p3,p4,p5,p6,p7,p8,p9,p10,p11,p12⟩:=Jak ((B8.out.block _ LA.out).trans RA.out);obtain⟨q0,q1,q2,q3,q4,q5,q6,q7,q8,q9,q10,q11,q12⟩:=Jak ((B8.out.block _ LB.out).trans RB.out);go_wp2_with fail;refine (C2.out w8 B8.out).mono ?_;rintro e w9 ⟨rfl,b9⟩;replace b9:=Jag b9;have B9:=Pe (B8.out.trans (b9.mono B8.out.size));clear b9;clear p0 p1 p2 p3 p4 p5 p6 p7 p8 p9 p10 p11 p12 q0 q1 q2 q3 q4 q5 q6 q7 q8 q9 q10 q11 q12;obtain⟨p0,p1,p2,p3,p4,p5,p6,p7,p8,p9,p10,p11,p12⟩:=Jak ((B9.out.block _ LA.out).trans RA.out);obtain⟨q0,q1,q2,q3,q4,q5,q6,q7,q8,q9,q10,q11,q12⟩:=Jak ((B9.out.block _ LB.out).trans RB.out);go_wp2_with fail;refine (C3.out w9 B9.out).mono ?_;exact Wa9
end
end Go.Proofs.YtpifdbphmnifdaaGreatDoor
