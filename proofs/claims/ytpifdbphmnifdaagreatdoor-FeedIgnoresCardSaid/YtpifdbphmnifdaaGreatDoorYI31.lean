/-
  Facts of the proof. Condition: each theorem's own.
-/
import Derived.Test.YtpifdbphmnifdaaGreatDoorYI23
set_option maxRecDepth 100000
set_option maxHeartbeats 8000000
open Go.Proofs.Tryz
namespace Go.Proofs.YtpifdbphmnifdaaGreatDoor
section
open Go.RowKit
theorem Qb6 {T U:Tt} (h:eqB eSt T.st U.st=false):hdT T U=false:=by unfold hdT;rw [h];simp
theorem Qb7 {T U:Tt} (h:eqB eRo T.ro U.ro=false):hdT T U=false:=by unfold hdT;rw [h];simp
theorem Qb8 {T U:Tt} (h:eqB eCa T.ca U.ca=false):hdT T U=false:=by unfold hdT;rw [h];simp
theorem Qb9 {T U:Tt} (h:eqB eEx T.ex U.ex=false):hdT T U=false:=by unfold hdT;rw [h];simp
theorem Qca (a a':Nat→Option Addr) (c c':Nat→Nat) (T U:Tt) (hf:manN T) (w:World) (h:TtL w a c T) (h':TtL w a' c' U):Calls prog 30 #[ttV a c T,ttV a' c' U] w fun e w'=>e=.returned (.bool (hdT T U))∧Below w.heap.size w w':=by
 obtain⟨w7,hw7,z7,ra,rb,b7⟩:=Jda w (Jbu a c T) (Jbu a' c' U);obtain⟨p0,p1,p2,p3,p4,p5,p6,p7,p8,p9,p10,p11,p12⟩:=Jal ra;obtain⟨q0,q1,q2,q3,q4,q5,q6,q7,q8,q9,q10,q11,q12⟩:=Jal rb;have B7:=Lib.hid b7;have H:=Lib.hid (h.below b7);have H':=Lib.hid (h'.below b7);have LA:Hid (w.heap.size<w7.heap.size):=Lib.hid (by omega);have LB:Hid (w.heap.size+1<w7.heap.size):=Lib.hid (by omega);obtain⟨V,hV⟩:∃q,hdT T U=q:=⟨_,rfl⟩;rw [hV];have HV:=Lib.hid hV;have P0:=Lib.hid p0;have P1:=Lib.hid p1;have P2:=Lib.hid p2;have P3:=Lib.hid p3;have Q0:=Lib.hid q0;have Q1:=Lib.hid q1;have Q2:=Lib.hid q2;have Q3:=Lib.hid q3;obtain⟨f0,f1,f2,f3,f4,f5,f6,f7,f8,f9⟩:=hf;clear hV b7 ra rb z7 h h' f4 f5 f6 f7 f8 f9;by_cases n0:T.st.length≠U.st.length
 ·have R:Hid (V=false):=Lib.hid (by rw [←HV.out];exact Qb6 (Jec n0))
  have g0:((T.st.length:Int) != (U.st.length:Int))=true:=Jae (by omega);clear n0;go_enter func30,ntmps30
  go_wp2_with fail
  go_ret;exact⟨Jaa R.out.symm,B7.out⟩
 have m0:=Decidable.not_not.1 n0;clear n0;have g0:((T.st.length:Int) != (U.st.length:Int))=false:=Jar (by omega);by_cases n1:T.ro.length≠U.ro.length
 ·have R:Hid (V=false):=Lib.hid (by rw [←HV.out];exact Qb7 (Jec n1))
  have g1:((T.ro.length:Int) != (U.ro.length:Int))=true:=Jae (by omega);clear n1 m0;go_enter func30,ntmps30
  go_wp2_with fail
  go_ret;exact⟨Jaa R.out.symm,B7.out⟩
 have m1:=Decidable.not_not.1 n1;clear n1;have g1:((T.ro.length:Int) != (U.ro.length:Int))=false:=Jar (by omega);by_cases n2:T.ca.length≠U.ca.length
 ·have R:Hid (V=false):=Lib.hid (by rw [←HV.out];exact Qb8 (Jec n2))
  have g2:((T.ca.length:Int) != (U.ca.length:Int))=true:=Jae (by omega);clear n2 m0 m1;go_enter func30,ntmps30
  go_wp2_with fail
  go_ret;exact⟨Jaa R.out.symm,B7.out⟩
 have m2:=Decidable.not_not.1 n2;clear n2;have g2:((T.ca.length:Int) != (U.ca.length:Int))=false:=Jar (by omega);by_cases n3:T.ex.length≠U.ex.length
 ·have R:Hid (V=false):=Lib.hid (by rw [←HV.out];exact Qb9 (Jec n3))
  have g3:((T.ex.length:Int) != (U.ex.length:Int))=true:=Jae (by omega);clear n3 m0 m1 m2;go_enter func30,ntmps30
  go_wp2_with fail
  go_ret;exact⟨Jaa R.out.symm,B7.out⟩
 have m3:=Decidable.not_not.1 n3;clear n3;have g3:((T.ex.length:Int) != (U.ex.length:Int))=false:=Jar (by omega);have Lst:=Lib.hid m0;have Lro:=Lib.hid m1;have Lca:=Lib.hid m2;have Lex:=Lib.hid m3;clear m0 m1 m2 m3;have HN:Hid (∃n,w7=w7.drewN n):=Lib.hid ⟨0,rfl⟩;go_enter func30,ntmps30
 go_wp2_with fail
 go_loopw [5] (fun i wr=>∃k:Nat,i=.int .i64 k∧k≤T.st.length∧Hid (∀(j:Nat) x y,j<k→T.st[j]?=some x→U.st[j]?=some y→eSt x y=true)∧Hid (∃n,wr=w7.drewN n)) (fun i _=>T.st.length - (intOf i).toNat)
 case atStart=>exact⟨0,rfl,Nat.zero_le _,Lib.hid (fun j x y h=>absurd h (Nat.not_lt_zero _)),HN⟩
 case round =>
  clear HN;obtain⟨k,rfl,hk,hall,HN⟩:=hrel;have bn:=Jah HN.out;have p0:=(bn.cell (p:=⟨w.heap.size,0,none⟩) LA.out).trans P0.out;have q0:=(bn.cell (p:=⟨w.heap.size+1,0,none⟩) LB.out).trans Q0.out;by_cases hlt:k<T.st.length
  ·obtain⟨⟨id,z,f,h⟩,hx⟩:=Jao hlt
   obtain⟨⟨id',z',f',h'⟩,hy⟩:=Jao (show k<U.st.length by have:=Lst.out;omega);have gk:(k:Int)<(T.st.length:Int):=by omega
   have gk':(k:Int)<(U.st.length:Int):=by have:=Lst.out;omega
   by_cases he:id=id'∧z=z'∧f=f'∧h=h'
   ·obtain⟨rfl,rfl,rfl,rfl⟩:=he
    obtain⟨nm,hnm⟩:∃nm,str id=nm:=⟨_,rfl⟩;obtain⟨rb,ro,rA,-,r0,r1,r2,r3⟩:=S13.four_at (H.out.st.below bn) hx hnm;rw [rA] at p0;obtain⟨sb,so,sA,-,s0,s1,s2,s3⟩:=S13.four_at (H'.out.st.below bn) hy hnm;rw [sA] at q0;have E:=fun W=>Jof nm z f h W
    have N:=Lib.hid (Jc1 hall.out hx hy (decide_eq_true rfl));clear hx hy hall bn hk hlt hnm rA sA;go_wp2_with fail
    go_quiet (fail)
    have hq:=Ja4 HN nq;generalize wr.drewN nq=w9 at hq ⊢;clear HN;go_wp2_with fail
    go_roundw
    case rel=>exact⟨k+1,by go_num,by omega,N,hq⟩
    case measure=>simp [intOf];omega
   ·obtain⟨nm,hnm⟩:∃nm,str id=nm:=⟨_,rfl⟩
    obtain⟨nm',hnm'⟩:∃nm,str id'=nm:=⟨_,rfl⟩;obtain⟨rb,ro,rA,-,r0,r1,r2,r3⟩:=S13.four_at (H.out.st.below bn) hx hnm;rw [rA] at p0;obtain⟨sb,so,sA,-,s0,s1,s2,s3⟩:=S13.four_at (H'.out.st.below bn) hy hnm';rw [sA] at q0;have E:=fun W=>Jx1 nm nm' z z' f f' h h' (fun g=>he ⟨Jh7 (by rw [hnm,hnm'];exact g.1),g.2⟩) W
    have R:Hid (V=false):=Lib.hid (by rw [←HV.out];exact Qb6 (Jb1 hx hy (decide_eq_false (fun g=>he (by cases g;exact⟨rfl,rfl,rfl,rfl⟩)))));clear hx hy hall bn hk hlt he hnm hnm' rA sA;go_wp2_with fail
    go_quiet (fail)
    have hq:=Ja4 HN nq;generalize wr.drewN nq=w9 at hq ⊢;go_wp2_with fail
    go_ret;exact⟨Jaa R.out.symm,B7.out.trans ((Jah hq.out).mono B7.out.size)⟩
  ·have dk:decide (k<T.st.length)=false:=by rw [decide_eq_false_iff_not];exact hlt
   have Est:=Lib.hid (Jdn Lst.out (fun j x y hj=>hall.out j x y (by omega)));clear hall hlt hk;have p1:=(bn.cell (p:=⟨w.heap.size,1,none⟩) LA.out).trans P1.out;clear bn;go_wp2_with fail
   go_loopw [6] (fun i wr=>∃k:Nat,i=.int .i64 k∧k≤T.ro.length∧Hid (∀(j:Nat) x y,j<k→T.ro[j]?=some x→U.ro[j]?=some y→eRo x y=true)∧Hid (∃n,wr=w7.drewN n)) (fun i _=>T.ro.length - (intOf i).toNat)
   case atStart=>exact⟨0,rfl,Nat.zero_le _,Lib.hid (fun j x y h=>absurd h (Nat.not_lt_zero _)),HN⟩
   case round =>
    clear HN;obtain⟨k,rfl,hk,hall,HN⟩:=hrel;have bn:=Jah HN.out;have p1:=(bn.cell (p:=⟨w.heap.size,1,none⟩) LA.out).trans P1.out;have q1:=(bn.cell (p:=⟨w.heap.size+1,1,none⟩) LB.out).trans Q1.out;by_cases hlt:k<T.ro.length
    ·obtain⟨⟨id,z,f⟩,hx⟩:=Jao hlt
     obtain⟨⟨id',z',f'⟩,hy⟩:=Jao (show k<U.ro.length by have:=Lro.out;omega);have gk:(k:Int)<(T.ro.length:Int):=by omega
     have gk':(k:Int)<(U.ro.length:Int):=by have:=Lro.out;omega
     by_cases he:id=id'∧z=z'∧f=f'
     ·obtain⟨rfl,rfl,rfl⟩:=he
      obtain⟨nm,hnm⟩:∃nm,str id=nm:=⟨_,rfl⟩;obtain⟨rb,ro,rA,-,r0,r1,r2⟩:=S15.three_at (H.out.ro.below bn) hx hnm;rw [rA] at p1;obtain⟨sb,so,sA,-,s0,s1,s2⟩:=S15.three_at (H'.out.ro.below bn) hy hnm;rw [sA] at q1;have E:=fun W=>Jog nm z f W
      have N:=Lib.hid (Jc1 hall.out hx hy (decide_eq_true rfl));clear hx hy hall bn hk hlt hnm rA sA;go_wp2_with fail
      go_quiet (fail)
      have hq:=Ja4 HN nq;generalize wr.drewN nq=w9 at hq ⊢;clear HN;go_wp2_with fail
      go_roundw
      case rel=>exact⟨k+1,by go_num,by omega,N,hq⟩
      case measure=>simp [intOf];omega
     ·obtain⟨nm,hnm⟩:∃nm,str id=nm:=⟨_,rfl⟩
      obtain⟨nm',hnm'⟩:∃nm,str id'=nm:=⟨_,rfl⟩;obtain⟨rb,ro,rA,-,r0,r1,r2⟩:=S15.three_at (H.out.ro.below bn) hx hnm;rw [rA] at p1;obtain⟨sb,so,sA,-,s0,s1,s2⟩:=S15.three_at (H'.out.ro.below bn) hy hnm';rw [sA] at q1;have E:=fun W=>Jx2 nm nm' z z' f f' (fun g=>he ⟨Jh7 (by rw [hnm,hnm'];exact g.1),g.2⟩) W
      have R:Hid (V=false):=Lib.hid (by rw [←HV.out];exact Qb7 (Jb1 hx hy (decide_eq_false (fun g=>he (by cases g;exact⟨rfl,rfl,rfl⟩)))));clear hx hy hall bn hk hlt he hnm hnm' rA sA;go_wp2_with fail
      go_quiet (fail)
      have hq:=Ja4 HN nq;generalize wr.drewN nq=w9 at hq ⊢;go_wp2_with fail
      go_ret;exact⟨Jaa R.out.symm,B7.out.trans ((Jah hq.out).mono B7.out.size)⟩
    ·have dk:decide (k<T.ro.length)=false:=by rw [decide_eq_false_iff_not];exact hlt
     have Ero:=Lib.hid (Jdn Lro.out (fun j x y hj=>hall.out j x y (by omega)));clear hall hlt hk;have p2:=(bn.cell (p:=⟨w.heap.size,2,none⟩) LA.out).trans P2.out;clear bn;go_wp2_with fail
     go_loopw [7] (fun i wr=>∃k:Nat,i=.int .i64 k∧k≤T.ca.length∧Hid (∀(j:Nat) x y,j<k→T.ca[j]?=some x→U.ca[j]?=some y→eCa x y=true)∧Hid (∃n,wr=w7.drewN n)) (fun i _=>T.ca.length - (intOf i).toNat)
     case atStart=>exact⟨0,rfl,Nat.zero_le _,Lib.hid (fun j x y h=>absurd h (Nat.not_lt_zero _)),HN⟩
     case round =>
      clear HN;obtain⟨k,rfl,hk,hall,HN⟩:=hrel;have bn:=Jah HN.out;have p2:=(bn.cell (p:=⟨w.heap.size,2,none⟩) LA.out).trans P2.out;have q2:=(bn.cell (p:=⟨w.heap.size+1,2,none⟩) LB.out).trans Q2.out;by_cases hlt:k<T.ca.length
      ·obtain⟨⟨id,kw,f,t⟩,hx⟩:=Jao hlt
       obtain⟨⟨id',kw',f',t'⟩,hy⟩:=Jao (show k<U.ca.length by have:=Lca.out;omega);have gk:(k:Int)<(T.ca.length:Int):=by omega
       have gk':(k:Int)<(U.ca.length:Int):=by have:=Lca.out;omega
       by_cases he:id=id'∧(kw 0=kw' 0∧kw 1=kw' 1∧kw 2=kw' 2∧kw 3=kw' 3∧kw 4=kw' 4∧kw 5=kw' 5∧kw 6=kw' 6)∧f=f'∧t=t'
       ·obtain⟨rfl,⟨g0,g1,g2,g3,g4,g5,g6⟩,rfl,rfl⟩:=he
        obtain⟨nm,hnm⟩:∃nm,str id=nm:=⟨_,rfl⟩;obtain⟨rb,ro,rA,-,r0,rm,r8,r9⟩:=S14.ten_at (H.out.ca.below bn) hx hnm;have r1:wr.cell? ⟨rb,ro+k*10+1,none⟩=some (.bool (kw 0)):=rm 0 (by omega);have r2:wr.cell? ⟨rb,ro+k*10+2,none⟩=some (.bool (kw 1)):=rm 1 (by omega);have r3:wr.cell? ⟨rb,ro+k*10+3,none⟩=some (.bool (kw 2)):=rm 2 (by omega);have r4:wr.cell? ⟨rb,ro+k*10+4,none⟩=some (.bool (kw 3)):=rm 3 (by omega);have r5:wr.cell? ⟨rb,ro+k*10+5,none⟩=some (.bool (kw 4)):=rm 4 (by omega);have r6:wr.cell? ⟨rb,ro+k*10+6,none⟩=some (.bool (kw 5)):=rm 5 (by omega);have r7:wr.cell? ⟨rb,ro+k*10+7,none⟩=some (.bool (kw 6)):=rm 6 (by omega);rw [rA] at p2;obtain⟨sb,so,sA,-,s0,sm,s8,s9⟩:=S14.ten_at (H'.out.ca.below bn) hy hnm;have s1:wr.cell? ⟨sb,so+k*10+1,none⟩=some (.bool (kw' 0)):=sm 0 (by omega);have s2:wr.cell? ⟨sb,so+k*10+2,none⟩=some (.bool (kw' 1)):=sm 1 (by omega);have s3:wr.cell? ⟨sb,so+k*10+3,none⟩=some (.bool (kw' 2)):=sm 2 (by omega);have s4:wr.cell? ⟨sb,so+k*10+4,none⟩=some (.bool (kw' 3)):=sm 3 (by omega);have s5:wr.cell? ⟨sb,so+k*10+5,none⟩=some (.bool (kw' 4)):=sm 4 (by omega);have s6:wr.cell? ⟨sb,so+k*10+6,none⟩=some (.bool (kw' 5)):=sm 5 (by omega);have s7:wr.cell? ⟨sb,so+k*10+7,none⟩=some (.bool (kw' 6)):=sm 6 (by omega);rw [sA] at q2;rw [←g0] at s1;rw [←g1] at s2;rw [←g2] at s3;rw [←g3] at s4;rw [←g4] at s5;rw [←g5] at s6;rw [←g6] at s7;have E:=fun W=>Joh nm (kw 0) (kw 1) (kw 2) (kw 3) (kw 4) (kw 5) (kw 6) f t W
        have N:=Lib.hid (Jc1 hall.out hx hy (decide_eq_true ⟨rfl,⟨g0,g1,g2,g3,g4,g5,g6⟩,rfl,rfl⟩));clear hx hy hall bn hk hlt hnm rm sm g0 g1 g2 g3 g4 g5 g6 rA sA;go_wp2_with fail
        go_quiet (fail)
        have hq:=Ja4 HN nq;generalize wr.drewN nq=w9 at hq ⊢;clear HN;go_wp2_with fail
        go_roundw
        case rel=>exact⟨k+1,by go_num,by omega,N,hq⟩
        case measure=>simp [intOf];omega
       ·obtain⟨nm,hnm⟩:∃nm,str id=nm:=⟨_,rfl⟩
        obtain⟨nm',hnm'⟩:∃nm,str id'=nm:=⟨_,rfl⟩;obtain⟨rb,ro,rA,-,r0,rm,r8,r9⟩:=S14.ten_at (H.out.ca.below bn) hx hnm;have r1:wr.cell? ⟨rb,ro+k*10+1,none⟩=some (.bool (kw 0)):=rm 0 (by omega);have r2:wr.cell? ⟨rb,ro+k*10+2,none⟩=some (.bool (kw 1)):=rm 1 (by omega);have r3:wr.cell? ⟨rb,ro+k*10+3,none⟩=some (.bool (kw 2)):=rm 2 (by omega);have r4:wr.cell? ⟨rb,ro+k*10+4,none⟩=some (.bool (kw 3)):=rm 3 (by omega);have r5:wr.cell? ⟨rb,ro+k*10+5,none⟩=some (.bool (kw 4)):=rm 4 (by omega);have r6:wr.cell? ⟨rb,ro+k*10+6,none⟩=some (.bool (kw 5)):=rm 5 (by omega);have r7:wr.cell? ⟨rb,ro+k*10+7,none⟩=some (.bool (kw 6)):=rm 6 (by omega);rw [rA] at p2;obtain⟨sb,so,sA,-,s0,sm,s8,s9⟩:=S14.ten_at (H'.out.ca.below bn) hy hnm';have s1:wr.cell? ⟨sb,so+k*10+1,none⟩=some (.bool (kw' 0)):=sm 0 (by omega);have s2:wr.cell? ⟨sb,so+k*10+2,none⟩=some (.bool (kw' 1)):=sm 1 (by omega);have s3:wr.cell? ⟨sb,so+k*10+3,none⟩=some (.bool (kw' 2)):=sm 2 (by omega);have s4:wr.cell? ⟨sb,so+k*10+4,none⟩=some (.bool (kw' 3)):=sm 3 (by omega);have s5:wr.cell? ⟨sb,so+k*10+5,none⟩=some (.bool (kw' 4)):=sm 4 (by omega);have s6:wr.cell? ⟨sb,so+k*10+6,none⟩=some (.bool (kw' 5)):=sm 5 (by omega);have s7:wr.cell? ⟨sb,so+k*10+7,none⟩=some (.bool (kw' 6)):=sm 6 (by omega);rw [sA] at q2;have E:=fun W=>Jx3 nm nm' (kw 0) (kw' 0) (kw 1) (kw' 1) (kw 2) (kw' 2) (kw 3) (kw' 3) (kw 4) (kw' 4) (kw 5) (kw' 5) (kw 6) (kw' 6) f f' t t' (fun g=>he ⟨Jh7 (by rw [hnm,hnm'];exact g.1),⟨g.2.1,g.2.2.1,g.2.2.2.1,g.2.2.2.2.1,g.2.2.2.2.2.1,g.2.2.2.2.2.2.1,g.2.2.2.2.2.2.2.1⟩,g.2.2.2.2.2.2.2.2.1,g.2.2.2.2.2.2.2.2.2⟩) W
        have R:Hid (V=false):=Lib.hid (by rw [←HV.out];exact Qb8 (Jb1 hx hy (decide_eq_false (fun g=>he g))));clear hx hy hall bn hk hlt he hnm hnm' rm sm rA sA;go_wp2_with fail
        go_quiet (fail)
        have hq:=Ja4 HN nq;generalize wr.drewN nq=w9 at hq ⊢;go_wp2_with fail
        go_ret;exact⟨Jaa R.out.symm,B7.out.trans ((Jah hq.out).mono B7.out.size)⟩
      ·have dk:decide (k<T.ca.length)=false:=by rw [decide_eq_false_iff_not];exact hlt
       have Eca:=Lib.hid (Jdn Lca.out (fun j x y hj=>hall.out j x y (by omega)));clear hall hlt hk;have p3:=(bn.cell (p:=⟨w.heap.size,3,none⟩) LA.out).trans P3.out;clear bn;go_wp2_with fail
       go_loopw [8] (fun i wr=>∃k:Nat,i=.int .i64 k∧k≤T.ex.length∧Hid (∀(j:Nat) x y,j<k→T.ex[j]?=some x→U.ex[j]?=some y→eEx x y=true)∧Hid (∃n,wr=w7.drewN n)) (fun i _=>T.ex.length - (intOf i).toNat)
       case atStart=>exact⟨0,rfl,Nat.zero_le _,Lib.hid (fun j x y h=>absurd h (Nat.not_lt_zero _)),HN⟩
       case round =>
        clear HN;obtain⟨k,rfl,hk,hall,HN⟩:=hrel;have bn:=Jah HN.out;have p3:=(bn.cell (p:=⟨w.heap.size,3,none⟩) LA.out).trans P3.out;have q3:=(bn.cell (p:=⟨w.heap.size+1,3,none⟩) LB.out).trans Q3.out;by_cases hlt:k<T.ex.length
        ·obtain⟨⟨z,d,f⟩,hx⟩:=Jao hlt
         obtain⟨⟨z',d',f'⟩,hy⟩:=Jao (show k<U.ex.length by have:=Lex.out;omega);have gk:(k:Int)<(T.ex.length:Int):=by omega
         have gk':(k:Int)<(U.ex.length:Int):=by have:=Lex.out;omega
         by_cases he:z=z'∧d=d'∧f=f'
         ·obtain⟨rfl,rfl,rfl⟩:=he
          obtain⟨rb,ro,rA,-,r0,r1,r2⟩:=S14.three_at (H.out.ex.below bn) hx;rw [rA] at p3;obtain⟨sb,so,sA,-,s0,s1,s2⟩:=S14.three_at (H'.out.ex.below bn) hy;rw [sA] at q3;have E:=fun W=>Joi z d f W
          have N:=Lib.hid (Jc1 hall.out hx hy (decide_eq_true rfl));clear hx hy hall bn hk hlt rA sA;go_wp2_with fail
          go_quiet (fail)
          have hq:=Ja4 HN nq;generalize wr.drewN nq=w9 at hq ⊢;clear HN;go_wp2_with fail
          go_roundw
          case rel=>exact⟨k+1,by go_num,by omega,N,hq⟩
          case measure=>simp [intOf];omega
         ·obtain⟨rb,ro,rA,-,r0,r1,r2⟩:=S14.three_at (H.out.ex.below bn) hx
          rw [rA] at p3;obtain⟨sb,so,sA,-,s0,s1,s2⟩:=S14.three_at (H'.out.ex.below bn) hy;rw [sA] at q3;have E:=fun W=>Jx4 z z' d d' f f' (he) W
          have R:Hid (V=false):=Lib.hid (by rw [←HV.out];exact Qb9 (Jb1 hx hy (decide_eq_false (fun g=>he (by cases g;exact⟨rfl,rfl,rfl⟩)))));clear hx hy hall bn hk hlt he rA sA;go_wp2_with fail
          go_quiet (fail)
          have hq:=Ja4 HN nq;generalize wr.drewN nq=w9 at hq ⊢;go_wp2_with fail
          go_ret;exact⟨Jaa R.out.symm,B7.out.trans ((Jah hq.out).mono B7.out.size)⟩
        ·have dk:decide (k<T.ex.length)=false:=by rw [decide_eq_false_iff_not];exact hlt
         have Eex:=Lib.hid (Jdn Lex.out (fun j x y hj=>hall.out j x y (by omega)));clear hall hlt hk;have R:Hid (V=true):=Lib.hid (by rw [←HV.out];unfold hdT;rw [Est.out,Ero.out,Eca.out,Eex.out];rfl);go_wp2_with fail
         go_ret;exact⟨Jaa R.out.symm,B7.out.trans ((Jah HN.out).mono B7.out.size)⟩
theorem Qcb {T U:Tt} (h:eqB eFr T.fr U.fr=false):tlT T U=false:=by unfold tlT;rw [h];simp
theorem Qcc {T U:Tt} (h:eqB eTh T.th U.th=false):tlT T U=false:=by unfold tlT;rw [h];simp
theorem Qcd {T U:Tt} (h:eqB eGu T.gu U.gu=false):tlT T U=false:=by unfold tlT;rw [h];simp
theorem Qce {T U:Tt} (h:eqB ePa T.pa U.pa=false):tlT T U=false:=by unfold tlT;rw [h];simp
theorem Qcf {T U:Tt} (h:eqB ePr T.pr U.pr=false):tlT T U=false:=by unfold tlT;rw [h];simp
theorem Qcg (a a':Nat→Option Addr) (c c':Nat→Nat) (T U:Tt) (hf:manN T) (w:World) (h:TtL w a c T) (h':TtL w a' c' U):Calls prog 32 #[ttV a c T,ttV a' c' U] w fun e w'=>e=.returned (.bool (tlT T U))∧Below w.heap.size w w':=by
 obtain⟨w7,hw7,z7,ra,rb,b7⟩:=Jda w (Jbu a c T) (Jbu a' c' U);obtain⟨p0,p1,p2,p3,p4,p5,p6,p7,p8,p9,p10,p11,p12⟩:=Jal ra;obtain⟨q0,q1,q2,q3,q4,q5,q6,q7,q8,q9,q10,q11,q12⟩:=Jal rb;have B7:=Lib.hid b7;have H:=Lib.hid (h.below b7);have H':=Lib.hid (h'.below b7);have LA:Hid (w.heap.size<w7.heap.size):=Lib.hid (by omega);have LB:Hid (w.heap.size+1<w7.heap.size):=Lib.hid (by omega);obtain⟨V,hV⟩:∃q,tlT T U=q:=⟨_,rfl⟩;rw [hV];have HV:=Lib.hid hV;have P5:=Lib.hid p5;have P6:=Lib.hid p6;have P7:=Lib.hid p7;have P8:=Lib.hid p8;have P9:=Lib.hid p9;have Q5:=Lib.hid q5;have Q6:=Lib.hid q6;have Q7:=Lib.hid q7;have Q8:=Lib.hid q8;have Q9:=Lib.hid q9;obtain⟨f0,f1,f2,f3,f4,f5,f6,f7,f8,f9⟩:=hf;clear hV b7 ra rb z7 h h' f0 f1 f2 f3 f4;by_cases n0:T.fr.length≠U.fr.length
 ·have R:Hid (V=false):=Lib.hid (by rw [←HV.out];exact Qcb (Jec n0))
  have g0:((T.fr.length:Int) != (U.fr.length:Int))=true:=Jae (by omega);clear n0;go_enter func32,ntmps32
  go_wp2_with fail
  go_ret;exact⟨Jaa R.out.symm,B7.out⟩
 have m0:=Decidable.not_not.1 n0;clear n0;have g0:((T.fr.length:Int) != (U.fr.length:Int))=false:=Jar (by omega);by_cases n1:T.th.length≠U.th.length
 ·have R:Hid (V=false):=Lib.hid (by rw [←HV.out];exact Qcc (Jec n1))
  have g1:((T.th.length:Int) != (U.th.length:Int))=true:=Jae (by omega);clear n1 m0;go_enter func32,ntmps32
  go_wp2_with fail
  go_ret;exact⟨Jaa R.out.symm,B7.out⟩
 have m1:=Decidable.not_not.1 n1;clear n1;have g1:((T.th.length:Int) != (U.th.length:Int))=false:=Jar (by omega);by_cases n2:T.gu.length≠U.gu.length
 ·have R:Hid (V=false):=Lib.hid (by rw [←HV.out];exact Qcd (Jec n2))
  have g2:((T.gu.length:Int) != (U.gu.length:Int))=true:=Jae (by omega);clear n2 m0 m1;go_enter func32,ntmps32
  go_wp2_with fail
  go_ret;exact⟨Jaa R.out.symm,B7.out⟩
 have m2:=Decidable.not_not.1 n2;clear n2;have g2:((T.gu.length:Int) != (U.gu.length:Int))=false:=Jar (by omega);by_cases n3:T.pa.length≠U.pa.length
 ·have R:Hid (V=false):=Lib.hid (by rw [←HV.out];exact Qce (Jec n3))
  have g3:((T.pa.length:Int) != (U.pa.length:Int))=true:=Jae (by omega);clear n3 m0 m1 m2;go_enter func32,ntmps32
  go_wp2_with fail
  go_ret;exact⟨Jaa R.out.symm,B7.out⟩
 have m3:=Decidable.not_not.1 n3;clear n3;have g3:((T.pa.length:Int) != (U.pa.length:Int))=false:=Jar (by omega);by_cases n4:T.pr.length≠U.pr.length
 ·have R:Hid (V=false):=Lib.hid (by rw [←HV.out];exact Qcf (Jec n4))
  have g4:((T.pr.length:Int) != (U.pr.length:Int))=true:=Jae (by omega);clear n4 m0 m1 m2 m3;go_enter func32,ntmps32
  go_wp2_with fail
  go_ret;exact⟨Jaa R.out.symm,B7.out⟩
 have m4:=Decidable.not_not.1 n4;clear n4;have g4:((T.pr.length:Int) != (U.pr.length:Int))=false:=Jar (by omega);have Lfr:=Lib.hid m0;have Lth:=Lib.hid m1;have Lgu:=Lib.hid m2;have Lpa:=Lib.hid m3;have Lpr:=Lib.hid m4;clear m0 m1 m2 m3 m4;have HN:Hid (∃n,w7=w7.drewN n):=Lib.hid ⟨0,rfl⟩;go_enter func32,ntmps32
 go_wp2_with fail
 go_loopw [5] (fun i wr=>∃k:Nat,i=.int .i64 k∧k≤T.fr.length∧Hid (∀(j:Nat) x y,j<k→T.fr[j]?=some x→U.fr[j]?=some y→eFr x y=true)∧Hid (∃n,wr=w7.drewN n)) (fun i _=>T.fr.length - (intOf i).toNat)
 case atStart=>exact⟨0,rfl,Nat.zero_le _,Lib.hid (fun j x y h=>absurd h (Nat.not_lt_zero _)),HN⟩
 case round =>
  clear HN;obtain⟨k,rfl,hk,hall,HN⟩:=hrel;have bn:=Jah HN.out;have p5:=(bn.cell (p:=⟨w.heap.size,5,none⟩) LA.out).trans P5.out;have q5:=(bn.cell (p:=⟨w.heap.size+1,5,none⟩) LB.out).trans Q5.out;by_cases hlt:k<T.fr.length
  ·obtain⟨⟨t,z,u,v⟩,hx⟩:=Jao hlt
   obtain⟨⟨t',z',u',v'⟩,hy⟩:=Jao (show k<U.fr.length by have:=Lfr.out;omega);have gk:(k:Int)<(T.fr.length:Int):=by omega
   have gk':(k:Int)<(U.fr.length:Int):=by have:=Lfr.out;omega
   by_cases he:t=t'∧z=z'∧u=u'∧v=v'
   ·obtain⟨rfl,rfl,rfl,rfl⟩:=he
    obtain⟨rb,ro,rA,-,r0,r1,r2,r3⟩:=four_at (H.out.fr.below bn) hx;rw [rA] at p5;obtain⟨sb,so,sA,-,s0,s1,s2,s3⟩:=four_at (H'.out.fr.below bn) hy;rw [sA] at q5;have E:=fun W=>Jok t z u v W
    have N:=Lib.hid (Jc1 hall.out hx hy (decide_eq_true rfl));clear hx hy hall bn hk hlt rA sA;go_wp2_with fail
    go_quiet (fail)
    have hq:=Ja4 HN nq;generalize wr.drewN nq=w9 at hq ⊢;clear HN;go_wp2_with fail
    go_roundw
    case rel=>exact⟨k+1,by go_num,by omega,N,hq⟩
    case measure=>simp [intOf];omega
   ·obtain⟨rb,ro,rA,-,r0,r1,r2,r3⟩:=four_at (H.out.fr.below bn) hx
    rw [rA] at p5;obtain⟨sb,so,sA,-,s0,s1,s2,s3⟩:=four_at (H'.out.fr.below bn) hy;rw [sA] at q5;have E:=fun W=>Jx6 t t' z z' u u' v v' (he) W
    have R:Hid (V=false):=Lib.hid (by rw [←HV.out];exact Qcb (Jb1 hx hy (decide_eq_false (fun g=>he (by cases g;exact⟨rfl,rfl,rfl,rfl⟩)))));clear hx hy hall bn hk hlt he rA sA;go_wp2_with fail
    go_quiet (fail)
    have hq:=Ja4 HN nq;generalize wr.drewN nq=w9 at hq ⊢;go_wp2_with fail
    go_ret;exact⟨Jaa R.out.symm,B7.out.trans ((Jah hq.out).mono B7.out.size)⟩
  ·have dk:decide (k<T.fr.length)=false:=by rw [decide_eq_false_iff_not];exact hlt
   have Efr:=Lib.hid (Jdn Lfr.out (fun j x y hj=>hall.out j x y (by omega)));clear hall hlt hk;have p6:=(bn.cell (p:=⟨w.heap.size,6,none⟩) LA.out).trans P6.out;clear bn;go_wp2_with fail
   go_loopw [6] (fun i wr=>∃k:Nat,i=.int .i64 k∧k≤T.th.length∧Hid (∀(j:Nat) x y,j<k→T.th[j]?=some x→U.th[j]?=some y→eTh x y=true)∧Hid (∃n,wr=w7.drewN n)) (fun i _=>T.th.length - (intOf i).toNat)
   case atStart=>exact⟨0,rfl,Nat.zero_le _,Lib.hid (fun j x y h=>absurd h (Nat.not_lt_zero _)),HN⟩
   case round =>
    clear HN;obtain⟨k,rfl,hk,hall,HN⟩:=hrel;have bn:=Jah HN.out;have p6:=(bn.cell (p:=⟨w.heap.size,6,none⟩) LA.out).trans P6.out;have q6:=(bn.cell (p:=⟨w.heap.size+1,6,none⟩) LB.out).trans Q6.out;by_cases hlt:k<T.th.length
    ·obtain⟨⟨z,u⟩,hx⟩:=Jao hlt
     obtain⟨⟨z',u'⟩,hy⟩:=Jao (show k<U.th.length by have:=Lth.out;omega);have gk:(k:Int)<(T.th.length:Int):=by omega
     have gk':(k:Int)<(U.th.length:Int):=by have:=Lth.out;omega
     by_cases he:z=z'∧u=u'
     ·obtain⟨rfl,rfl⟩:=he
      obtain⟨rb,ro,rA,-,r0,r1⟩:=S19.two_hh (H.out.th.below bn) hx;rw [rA] at p6;obtain⟨sb,so,sA,-,s0,s1⟩:=S19.two_hh (H'.out.th.below bn) hy;rw [sA] at q6;have E:=fun W=>Jol z u W
      have N:=Lib.hid (Jc1 hall.out hx hy (decide_eq_true rfl));clear hx hy hall bn hk hlt rA sA;go_wp2_with fail
      go_quiet (fail)
      have hq:=Ja4 HN nq;generalize wr.drewN nq=w9 at hq ⊢;clear HN;go_wp2_with fail
      go_roundw
      case rel=>exact⟨k+1,by go_num,by omega,N,hq⟩
      case measure=>simp [intOf];omega
     ·obtain⟨rb,ro,rA,-,r0,r1⟩:=S19.two_hh (H.out.th.below bn) hx
      rw [rA] at p6;obtain⟨sb,so,sA,-,s0,s1⟩:=S19.two_hh (H'.out.th.below bn) hy;rw [sA] at q6;have E:=fun W=>Jx7 z z' u u' (he) W
      have R:Hid (V=false):=Lib.hid (by rw [←HV.out];exact Qcc (Jb1 hx hy (decide_eq_false (fun g=>he (by cases g;exact⟨rfl,rfl⟩)))));clear hx hy hall bn hk hlt he rA sA;go_wp2_with fail
      go_quiet (fail)
      have hq:=Ja4 HN nq;generalize wr.drewN nq=w9 at hq ⊢;go_wp2_with fail
      go_ret;exact⟨Jaa R.out.symm,B7.out.trans ((Jah hq.out).mono B7.out.size)⟩
    ·have dk:decide (k<T.th.length)=false:=by rw [decide_eq_false_iff_not];exact hlt
     have Eth:=Lib.hid (Jdn Lth.out (fun j x y hj=>hall.out j x y (by omega)));clear hall hlt hk;have p7:=(bn.cell (p:=⟨w.heap.size,7,none⟩) LA.out).trans P7.out;clear bn;go_wp2_with fail
     go_loopw [7] (fun i wr=>∃k:Nat,i=.int .i64 k∧k≤T.gu.length∧Hid (∀(j:Nat) x y,j<k→T.gu[j]?=some x→U.gu[j]?=some y→eGu x y=true)∧Hid (∃n,wr=w7.drewN n)) (fun i _=>T.gu.length - (intOf i).toNat)
     case atStart=>exact⟨0,rfl,Nat.zero_le _,Lib.hid (fun j x y h=>absurd h (Nat.not_lt_zero _)),HN⟩
     case round =>
      clear HN;obtain⟨k,rfl,hk,hall,HN⟩:=hrel;have bn:=Jah HN.out;have p7:=(bn.cell (p:=⟨w.heap.size,7,none⟩) LA.out).trans P7.out;have q7:=(bn.cell (p:=⟨w.heap.size+1,7,none⟩) LB.out).trans Q7.out;by_cases hlt:k<T.gu.length
      ·obtain⟨⟨z,u,v⟩,hx⟩:=Jao hlt
       obtain⟨⟨z',u',v'⟩,hy⟩:=Jao (show k<U.gu.length by have:=Lgu.out;omega);have gk:(k:Int)<(T.gu.length:Int):=by omega
       have gk':(k:Int)<(U.gu.length:Int):=by have:=Lgu.out;omega
       by_cases he:z=z'∧u=u'∧v=v'
       ·obtain⟨rfl,rfl,rfl⟩:=he
        obtain⟨rb,ro,rA,-,r0,r1,r2⟩:=S19.three_gg (H.out.gu.below bn) hx;rw [rA] at p7;obtain⟨sb,so,sA,-,s0,s1,s2⟩:=S19.three_gg (H'.out.gu.below bn) hy;rw [sA] at q7;have E:=fun W=>Jom z u v W
        have N:=Lib.hid (Jc1 hall.out hx hy (decide_eq_true rfl));clear hx hy hall bn hk hlt rA sA;go_wp2_with fail
        go_quiet (fail)
        have hq:=Ja4 HN nq;generalize wr.drewN nq=w9 at hq ⊢;clear HN;go_wp2_with fail
        go_roundw
        case rel=>exact⟨k+1,by go_num,by omega,N,hq⟩
        case measure=>simp [intOf];omega
       ·obtain⟨rb,ro,rA,-,r0,r1,r2⟩:=S19.three_gg (H.out.gu.below bn) hx
        rw [rA] at p7;obtain⟨sb,so,sA,-,s0,s1,s2⟩:=S19.three_gg (H'.out.gu.below bn) hy;rw [sA] at q7;have E:=fun W=>Jx8 z z' u u' v v' (he) W
        have R:Hid (V=false):=Lib.hid (by rw [←HV.out];exact Qcd (Jb1 hx hy (decide_eq_false (fun g=>he (by cases g;exact⟨rfl,rfl,rfl⟩)))));clear hx hy hall bn hk hlt he rA sA;go_wp2_with fail
        go_quiet (fail)
        have hq:=Ja4 HN nq;generalize wr.drewN nq=w9 at hq ⊢;go_wp2_with fail
        go_ret;exact⟨Jaa R.out.symm,B7.out.trans ((Jah hq.out).mono B7.out.size)⟩
      ·have dk:decide (k<T.gu.length)=false:=by rw [decide_eq_false_iff_not];exact hlt
       have Egu:=Lib.hid (Jdn Lgu.out (fun j x y hj=>hall.out j x y (by omega)));clear hall hlt hk;have p8:=(bn.cell (p:=⟨w.heap.size,8,none⟩) LA.out).trans P8.out;clear bn;go_wp2_with fail
       go_loopw [8] (fun i wr=>∃k:Nat,i=.int .i64 k∧k≤T.pa.length∧Hid (∀(j:Nat) x y,j<k→T.pa[j]?=some x→U.pa[j]?=some y→ePa x y=true)∧Hid (∃n,wr=w7.drewN n)) (fun i _=>T.pa.length - (intOf i).toNat)
       case atStart=>exact⟨0,rfl,Nat.zero_le _,Lib.hid (fun j x y h=>absurd h (Nat.not_lt_zero _)),HN⟩
       case round =>
        clear HN;obtain⟨k,rfl,hk,hall,HN⟩:=hrel;have bn:=Jah HN.out;have p8:=(bn.cell (p:=⟨w.heap.size,8,none⟩) LA.out).trans P8.out;have q8:=(bn.cell (p:=⟨w.heap.size+1,8,none⟩) LB.out).trans Q8.out;by_cases hlt:k<T.pa.length
        ·obtain⟨⟨z,u,v,f⟩,hx⟩:=Jao hlt
         obtain⟨⟨z',u',v',f'⟩,hy⟩:=Jao (show k<U.pa.length by have:=Lpa.out;omega);have gk:(k:Int)<(T.pa.length:Int):=by omega
         have gk':(k:Int)<(U.pa.length:Int):=by have:=Lpa.out;omega
         by_cases he:z=z'∧u=u'∧v=v'∧f=f'
         ·obtain⟨rfl,rfl,rfl,rfl⟩:=he
          obtain⟨rb,ro,rA,-,r0,r1,r2,r3⟩:=S20.four_at (H.out.pa.below bn) hx;rw [rA] at p8;obtain⟨sb,so,sA,-,s0,s1,s2,s3⟩:=S20.four_at (H'.out.pa.below bn) hy;rw [sA] at q8;have E:=fun W=>Jon z u v f W
          have N:=Lib.hid (Jc1 hall.out hx hy (decide_eq_true rfl));clear hx hy hall bn hk hlt rA sA;go_wp2_with fail
          go_quiet (fail)
          have hq:=Ja4 HN nq;generalize wr.drewN nq=w9 at hq ⊢;clear HN;go_wp2_with fail
          go_roundw
          case rel=>exact⟨k+1,by go_num,by omega,N,hq⟩
          case measure=>simp [intOf];omega
         ·obtain⟨rb,ro,rA,-,r0,r1,r2,r3⟩:=S20.four_at (H.out.pa.below bn) hx
          rw [rA] at p8;obtain⟨sb,so,sA,-,s0,s1,s2,s3⟩:=S20.four_at (H'.out.pa.below bn) hy;rw [sA] at q8;have E:=fun W=>Jx9 z z' u u' v v' f f' (he) W
          have R:Hid (V=false):=Lib.hid (by rw [←HV.out];exact Qce (Jb1 hx hy (decide_eq_false (fun g=>he (by cases g;exact⟨rfl,rfl,rfl,rfl⟩)))));clear hx hy hall bn hk hlt he rA sA;go_wp2_with fail
          go_quiet (fail)
          have hq:=Ja4 HN nq;generalize wr.drewN nq=w9 at hq ⊢;go_wp2_with fail
          go_ret;exact⟨Jaa R.out.symm,B7.out.trans ((Jah hq.out).mono B7.out.size)⟩
        ·have dk:decide (k<T.pa.length)=false:=by rw [decide_eq_false_iff_not];exact hlt
         have Epa:=Lib.hid (Jdn Lpa.out (fun j x y hj=>hall.out j x y (by omega)));clear hall hlt hk;have p9:=(bn.cell (p:=⟨w.heap.size,9,none⟩) LA.out).trans P9.out;clear bn;go_wp2_with fail
         go_loopw [9] (fun i wr=>∃k:Nat,i=.int .i64 k∧k≤T.pr.length∧Hid (∀(j:Nat) x y,j<k→T.pr[j]?=some x→U.pr[j]?=some y→ePr x y=true)∧Hid (∃n,wr=w7.drewN n)) (fun i _=>T.pr.length - (intOf i).toNat)
         case atStart=>exact⟨0,rfl,Nat.zero_le _,Lib.hid (fun j x y h=>absurd h (Nat.not_lt_zero _)),HN⟩
         case round =>
          clear HN;obtain⟨k,rfl,hk,hall,HN⟩:=hrel;have bn:=Jah HN.out;have p9:=(bn.cell (p:=⟨w.heap.size,9,none⟩) LA.out).trans P9.out;have q9:=(bn.cell (p:=⟨w.heap.size+1,9,none⟩) LB.out).trans Q9.out;by_cases hlt:k<T.pr.length
          ·obtain⟨⟨id,z,u,v,t,m⟩,hx⟩:=Jao hlt
           obtain⟨⟨id',z',u',v',t',m'⟩,hy⟩:=Jao (show k<U.pr.length by have:=Lpr.out;omega);have gk:(k:Int)<(T.pr.length:Int):=by omega
           have gk':(k:Int)<(U.pr.length:Int):=by have:=Lpr.out;omega
           by_cases he:id=id'∧z=z'∧u=u'∧v=v'∧t=t'∧m=m'
           ·obtain⟨rfl,rfl,rfl,rfl,rfl,rfl⟩:=he
            obtain⟨nm,hnm⟩:∃nm,str id=nm:=⟨_,rfl⟩;obtain⟨rb,ro,rA,-,r0,r1,r2,r3,r4,r5⟩:=S21.six_at (H.out.pr.below bn) hx hnm;rw [rA] at p9;obtain⟨sb,so,sA,-,s0,s1,s2,s3,s4,s5⟩:=S21.six_at (H'.out.pr.below bn) hy hnm;rw [sA] at q9;have E:=fun W=>Jop nm z u v t m W
            have N:=Lib.hid (Jc1 hall.out hx hy (decide_eq_true rfl));clear hx hy hall bn hk hlt hnm rA sA;go_wp2_with fail
            go_quiet (fail)
            have hq:=Ja4 HN nq;generalize wr.drewN nq=w9 at hq ⊢;clear HN;go_wp2_with fail
            go_roundw
            case rel=>exact⟨k+1,by go_num,by omega,N,hq⟩
            case measure=>simp [intOf];omega
           ·obtain⟨nm,hnm⟩:∃nm,str id=nm:=⟨_,rfl⟩
            obtain⟨nm',hnm'⟩:∃nm,str id'=nm:=⟨_,rfl⟩;obtain⟨rb,ro,rA,-,r0,r1,r2,r3,r4,r5⟩:=S21.six_at (H.out.pr.below bn) hx hnm;rw [rA] at p9;obtain⟨sb,so,sA,-,s0,s1,s2,s3,s4,s5⟩:=S21.six_at (H'.out.pr.below bn) hy hnm';rw [sA] at q9;have E:=fun W=>Jya nm nm' z z' u u' v v' t t' m m' (fun g=>he ⟨Jh7 (by rw [hnm,hnm'];exact g.1),g.2⟩) W
            have R:Hid (V=false):=Lib.hid (by rw [←HV.out];exact Qcf (Jb1 hx hy (decide_eq_false (fun g=>he (by cases g;exact⟨rfl,rfl,rfl,rfl,rfl,rfl⟩)))));clear hx hy hall bn hk hlt he hnm hnm' rA sA;go_wp2_with fail
            go_quiet (fail)
            have hq:=Ja4 HN nq;generalize wr.drewN nq=w9 at hq ⊢;go_wp2_with fail
            go_ret;exact⟨Jaa R.out.symm,B7.out.trans ((Jah hq.out).mono B7.out.size)⟩
          ·have dk:decide (k<T.pr.length)=false:=by rw [decide_eq_false_iff_not];exact hlt
           have Epr:=Lib.hid (Jdn Lpr.out (fun j x y hj=>hall.out j x y (by omega)));clear hall hlt hk;have R:Hid (V=true):=Lib.hid (by rw [←HV.out];unfold tlT;rw [Efr.out,Eth.out,Egu.out,Epa.out,Epr.out];rfl);go_wp2_with fail
           go_ret;exact⟨Jaa R.out.symm,B7.out.trans ((Jah HN.out).mono B7.out.size)⟩
theorem Jkq {x y:Tp} (h:¬(x.1=y.1∧x.2.1=y.2.1∧x.2.2.1=y.2.2.1∧x.2.2.2.1=y.2.2.2.1)):eTr x y=false:=by unfold eTr;rw [decide_eq_false h];rfl
theorem Jq1 {x y:Tp} (h:eqB eCc (clT x) (clT y)=false):eTr x y=false:=by unfold eTr;rw [h];simp
theorem J8s {x y:Tp} (h:x.1=y.1∧x.2.1=y.2.1∧x.2.2.1=y.2.2.1∧x.2.2.2.1=y.2.2.2.1) (h2:eqB eCc (clT x) (clT y)=true):eTr x y=true:=by unfold eTr;rw [decide_eq_true h,h2];rfl
theorem Js6 (vl vm:Value) (l m:List Tp) (hl:l.length≤1000000) (w:World) (h:Jeb w vl l) (h':Jeb w vm m):Calls prog 31 #[vl,vm] w fun e w'=>e=.returned (.bool (eqB eTr l m))∧∃m,w'=w.drewN m:=by
 have H:=Lib.hid h;have H':=Lib.hid h';obtain⟨⟨A,n,rfl,-,-,-⟩,-⟩:=h;obtain⟨⟨A',n',rfl,-,-,-⟩,-⟩:=h';obtain⟨V,hV⟩:∃q,eqB eTr l m=q:=⟨_,rfl⟩;rw [hV];have HV:=Lib.hid hV;clear hV;by_cases hn:l.length≠m.length
 ·have R:Hid (V=false):=Lib.hid (by rw [←HV.out];exact Jec hn)
  have g:((l.length:Int) != (m.length:Int))=true:=Jae (by omega);clear hn;go_enter func31,ntmps31
  go_wp2_with fail
  go_ret;exact⟨Jaa R.out.symm,0,rfl⟩
 have hm:=Decidable.not_not.1 hn;clear hn;have g:((l.length:Int) != (m.length:Int))=false:=Jar (by omega);have LM:=Lib.hid hm;clear hm;have HN:Hid (∃n,w=w.drewN n):=Lib.hid ⟨0,rfl⟩;go_enter func31,ntmps31
 go_wp2_with fail
 clear g;go_loopw [5] (fun i wr=>∃k:Nat,i=.int .i64 k∧k≤l.length∧Hid (∀(j:Nat) x y,j<k→l[j]?=some x→m[j]?=some y→eTr x y=true)∧Hid (∃n,wr=w.drewN n)) (fun i _=>l.length - (intOf i).toNat)
 case atStart=>exact⟨0,rfl,Nat.zero_le _,Lib.hid (fun j x y h=>absurd h (Nat.not_lt_zero _)),HN⟩
 case round =>
  clear HN;obtain⟨k,rfl,hk,hall,HN⟩:=hrel;have bn:=Jah HN.out;by_cases hlt:k<l.length
  ·obtain⟨⟨id,r,ca,f,v,cl⟩,hx⟩:=Jao hlt
   obtain⟨⟨id',r',ca',f',v',cl'⟩,hy⟩:=Jao (show k<m.length by have:=LM.out;omega);obtain⟨nm,hnm⟩:∃nm,str id=nm:=⟨_,rfl⟩;obtain⟨nm',hnm'⟩:∃nm,str id'=nm:=⟨_,rfl⟩;obtain⟨b,o,B,mm,rfl,rfl,hb,r0,r1,r2,r3,r4,lc,lcl,-⟩:=Jb8 (H.out.below bn) hx hnm;obtain⟨b',o',B',mm',rfl,rfl,hb',s0,s1,s2,s3,s4,lc',lcl',-⟩:=Jb8 (H'.out.below bn) hy hnm';have gk:(k:Int)<(l.length:Int):=by omega
   have gk':(k:Int)<(m.length:Int):=by have:=LM.out;omega
   go_wp2_with fail
   simp only [List.append_eq,List.cons_append,List.nil_append];by_cases e0:id=id'
   case neg =>
    have gs:=Jc8 (a:=nm) (b:=nm') (fun g=>e0 (Jh7 (by rw [hnm,hnm',g])));have R:Hid (V=false):=Lib.hid (by rw [←HV.out];exact Jb1 hx hy (Jkq (fun g=>e0 g.1)));clear hx hy hnm hnm' hall bn hk hlt hb hb' lc lc' HV e0;go_quiet (fail)
    have hq:=Ja4 HN nq;generalize wr.drewN nq=w9 at hq ⊢;go_wp2_with fail
    go_ret;exact⟨Jaa R.out.symm,hq.out⟩
   have gs:=Jc9 (a:=nm) (b:=nm') (by rw [←hnm,←hnm',e0]);by_cases e1:r=r'
   case neg =>
    have g1:(r != r')=true:=Jae e1;have R:Hid (V=false):=Lib.hid (by rw [←HV.out];exact Jb1 hx hy (Jkq (fun g=>e1 g.2.1)));clear hx hy hnm hnm' hall bn hk hlt hb hb' lc lc' HV e0 e1;go_quiet (fail)
    have hq:=Ja4 HN nq;generalize wr.drewN nq=w9 at hq ⊢;go_wp2_with fail
    go_ret;exact⟨Jaa R.out.symm,hq.out⟩
   have g1:(r != r')=false:=Jar e1;by_cases e2:ca=ca'
   case neg =>
    have g2:(ca != ca')=true:=Jae e2;have R:Hid (V=false):=Lib.hid (by rw [←HV.out];exact Jb1 hx hy (Jkq (fun g=>e2 g.2.2.1)));clear hx hy hnm hnm' hall bn hk hlt hb hb' lc lc' HV e0 e1 e2;go_quiet (fail)
    have hq:=Ja4 HN nq;generalize wr.drewN nq=w9 at hq ⊢;go_wp2_with fail
    go_ret;exact⟨Jaa R.out.symm,hq.out⟩
   have g2:(ca != ca')=false:=Jar e2;by_cases e3:f=f'
   case neg =>
    have g3:(!(f==f'))=true:=by cases f <;> cases f' <;> simp at e3 ⊢
    have R:Hid (V=false):=Lib.hid (by rw [←HV.out];exact Jb1 hx hy (Jkq (fun g=>e3 g.2.2.2)));clear hx hy hnm hnm' hall bn hk hlt hb hb' lc lc' HV e0 e1 e2 e3;go_quiet (fail)
    have hq:=Ja4 HN nq;generalize wr.drewN nq=w9 at hq ⊢;go_wp2_with fail
    go_ret;exact⟨Jaa R.out.symm,hq.out⟩
   have g3:(!(f==f'))=false:=by rw [e3];cases f' <;> rfl
   by_cases e4:cl.length=cl'.length
   case neg =>
    have g4:((cl.length:Int) != (cl'.length:Int))=true:=Jae (by omega);have R:Hid (V=false):=Lib.hid (by rw [←HV.out];exact Jb1 hx hy (Jq1 (Jec e4)));clear hx hy hnm hnm' hall bn hk hlt hb hb' lc lc' HV e0 e1 e2 e3 e4;go_quiet (fail)
    have hq:=Ja4 HN nq;generalize wr.drewN nq=w9 at hq ⊢;go_wp2_with fail
    go_ret;exact⟨Jaa R.out.symm,hq.out⟩
   have g4:((cl.length:Int) != (cl'.length:Int))=false:=Jar (by omega);have RC:=Lib.hid (fun (h:eqB eCc cl cl'=false)=>(Jb1 hx hy (Jq1 h):eqB eTr l m=false));have NC:=Lib.hid (fun (h:eqB eCc cl cl'=true)=>Jc1 hall.out hx hy (J8s (x:=(id,r,ca,f,.slice B cl.length mm,cl)) (y:=(id',r',ca',f',.slice B' cl'.length mm',cl')) ⟨e0,e1,e2,e3⟩ h));have E4:=Lib.hid e4;have LC:=Lib.hid lc;have LC':=Lib.hid lc';have R4:=Lib.hid r4;have S4:=Lib.hid s4;have HB:=Lib.hid hb;have HB':=Lib.hid hb';clear hx hy hnm hnm' hall bn hk hlt hb hb' lc lc' e0 e1 e2 e3 e4;go_quiet (fail)
   have hq:=Ja4 HN nq;have hw9:∃q,wr.drewN nq=wr.drewN q:=⟨nq,rfl⟩;generalize wr.drewN nq=w9 at hq hw9 ⊢;have W9:=Lib.hid hw9;clear hw9 r0 r1 r2 r3 r4 s0 s1 s2 s3 s4 gs g1 g2 g3 g4;go_wp2_with fail
   go_loopw [6] (fun i wx=>∃j:Nat,i=.int .i64 j∧j≤cl.length∧Hid (∀(t:Nat) x y,t<j→cl[t]?=some x→cl'[t]?=some y→eCc x y=true)∧Hid (∃n,wx=wr.drewN n)) (fun i _=>cl.length - (intOf i).toNat)
   case atStart=>exact⟨0,rfl,Nat.zero_le _,Lib.hid (fun j x y h=>absurd h (Nat.not_lt_zero _)),W9⟩
   case round =>
    clear hq W9;obtain⟨j,rfl,hj,hjall,HX⟩:=hrel;have bx:=Jah HX.out;have r4:=(bx.cell (p:=⟨b,o+k*5+4,none⟩) HB.out).trans R4.out;have s4:=(bx.cell (p:=⟨b',o'+k*5+4,none⟩) HB'.out).trans S4.out;by_cases hjl:j<cl.length
    ·obtain⟨⟨x0,x1,x2,x3,x4⟩,hx⟩:=Jao hjl
     obtain⟨⟨y0,y1,y2,y3,y4⟩,hy⟩:=Jao (show j<cl'.length by have:=E4.out;omega);obtain⟨cb,co,rfl,-,c0,c1,c2,c3,c4⟩:=Jbp (LC.out.below bx) hx;obtain⟨db,dd,rfl,-,d0,d1,d2,d3,d4⟩:=Jbp (LC'.out.below bx) hy;have gj:(j:Int)<(cl.length:Int):=by omega
     have gj':(j:Int)<(cl'.length:Int):=by have:=E4.out;omega
     by_cases he:x0=y0∧x1=y1∧x2=y2∧x3=y3∧x4=y4
     ·obtain⟨rfl,rfl,rfl,rfl,rfl⟩:=he
      have E:=fun W=>Joj x0 x1 x2 x3 x4 W
      have N:=Lib.hid (Jc1 hjall.out hx hy (J6u _));clear hx hy hjall bx hj hjl;go_wp2_with fail
      go_quiet (fail)
      have hz:=Ja4 HX nq;generalize wr.drewN nq=w10 at hz ⊢;clear HX;go_wp2_with fail
      go_roundw
      case rel=>exact⟨j+1,by go_num,by omega,N,hz⟩
      case measure=>simp [intOf];omega
     ·have E:=fun W=>Jx5 x0 y0 x1 y1 x2 y2 x3 y3 x4 y4 he W
      have R:Hid (V=false):=Lib.hid (by rw [←HV.out];exact RC.out (Jb1 hx hy (decide_eq_false (fun g=>he (by cases g;exact⟨rfl,rfl,rfl,rfl,rfl⟩)))));clear hx hy hjall bx hj hjl he RC NC HV;go_wp2_with fail
      go_quiet (fail)
      have hz:=Ja4 HX nq;generalize wr.drewN nq=w10 at hz ⊢;go_wp2_with fail
      go_ret;obtain⟨n1,e1⟩:=HN.out;obtain⟨n2,e2⟩:=hz.out;exact⟨Jaa R.out.symm,n1+n2,by rw [e2,e1,World.drewN_drewN]⟩
    ·have dj:decide (j<cl.length)=false:=by rw [decide_eq_false_iff_not];exact hjl
     have N:=Lib.hid (NC.out (Jdn E4.out (fun t x y ht=>hjall.out t x y (by omega))));have HZ:Hid (∃n,wr=w.drewN n):=Lib.hid (by
      obtain⟨n1,e1⟩:=HN.out;obtain⟨n2,e2⟩:=HX.out;exact⟨n1+n2,by rw [e2,e1,World.drewN_drewN]⟩)
     clear hjall bx hj hjl RC NC;go_wp2_with fail
     go_roundw
     case rel=>exact⟨k+1,by go_num,by omega,N,HZ⟩
     case measure=>simp [intOf];omega
  ·have dk:decide (k<l.length)=false:=by rw [decide_eq_false_iff_not];exact hlt
   have R:Hid (V=true):=Lib.hid (by rw [←HV.out];exact Jdn LM.out (fun j x y hj=>hall.out j x y (by omega)));clear hlt hall bn;go_wp2_with fail
   go_ret;exact⟨Jaa R.out.symm,HN.out⟩
end
end Go.Proofs.YtpifdbphmnifdaaGreatDoor
