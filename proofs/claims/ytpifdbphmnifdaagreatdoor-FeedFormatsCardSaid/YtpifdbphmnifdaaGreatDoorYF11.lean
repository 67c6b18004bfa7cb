/-
  Facts. Condition: each theorem's own.
-/
import Derived.Test.YtpifdbphmnifdaaGreatDoorYF10
set_option maxRecDepth 100000
set_option maxHeartbeats 8000000
section
variable {p:Prop}
theorem Y2(h:p:=by first | assumption | (apply Below.drew;assumption)):p:=h
theorem Y3(h:p:=by go_enter func307,ntmps307;go_wp2_with fail;go_ret2;exact⟨by rw[e.out];rfl,rfl⟩):p:=h
theorem Y5(h:p:=by go_wp2_with fail;go_ret;exact⟨Jac HV.out.symm,rfl⟩):p:=h
theorem Y6(h:p:=by rintro e w1 ⟨rfl,b1⟩;go_wp2_with fail;go_ret2;exact⟨rfl,b1⟩):p:=h
theorem Y8(h:p:=by have h2:(s.data.toList.take pos).length<=6:=Nat.le_trans (List.length_take_le _ _) Ka;exact Ps h1 (Nat.pow_le_pow_right Kd h2)):p:=h
theorem Y9(h:p:=by go_ret;exact⟨rfl,Ja5 _ _ _⟩):p:=h
theorem Wb(h:p:=by rw[beq_iff_eq];omega):p:=h
theorem Wc(h:p:=by go_wp2_with fail;go_ret2;exact⟨rfl,Kn⟩):p:=h
theorem Wd(h:p:=by simp at h2;omega):p:=h
theorem We(h:p:=by rw[hc];rfl):p:=h
end
open Go.Proofs.Tryz
namespace Go.Proofs.YtpifdbphmnifdaaGreatDoor
section
open Go.RowKit
theorem Jex(r:Int)(h0:48<=r)(h1:r<=57)(w:World):
  Pb 352 #[.int .i32 r] w (.bool true):=by
 go_enter func352,ntmps352;go_wp2;exact Yt
theorem Jhm(r:Int)(h:r<48\/57<r)(w:World):
  Pb 352 #[.int .i32 r] w (.bool false):=by
 rcases h with h | h
 ·go_enter func352,ntmps352
  go_wp2
  exact Yt
 ·have h0:48<=r:=Ka
  have hd:decide (r<=57)=false:=Kb;go_enter func352,ntmps352;go_wp2;exact Yt
theorem allDigits_yes(s:ByteArray)(hd:digs s.data.toList=true)(w:World):
  Pc 370 #[.string s] w (.bool true):=by
 have HD:=Pe hd;clear hd;go_enter func370,ntmps370;go_wp2;go_loopw [] (fun w'=>∃pos:Nat,w'=w.iter s pos) (fun w'=>s.size - w'.iterPos w.heap.size)
 case atStart=>exact⟨0,rfl⟩
 case round =>
  obtain⟨pos,rfl⟩:=hrel;by_cases hp:pos<s.size
  ·have hc:=Jll s pos hp HD.out
   have hnx:∀ty,(Instr.next (.pointer (some ⟨w.heap.size,0,none⟩)) true ty).run prog (w.iter s pos)=_:=fun ty=>run_next_ascii w s pos ty hp Ka
   go_wp2_with (go_at_call 352;refine Pf (Jex _ Ka Ka _) ?_)
   go_roundw
   case rel=>exact⟨pos+1,rfl⟩
   case measure=>exact Kb
  ·have hnx:∀ty,(Instr.next (.pointer (some ⟨w.heap.size,0,none⟩)) true ty).run prog (w.iter s pos)=_:=fun ty=>run_next_end w s pos ty hp
   go_wp2
   exact Y9
theorem allDigits_no(s:ByteArray)(hd:digs s.data.toList=false)(w:World):
  Pc 370 #[.string s] w (.bool false):=by
 have HD:=Pe hd;clear hd;go_enter func370,ntmps370;go_wp2;go_loopw [] (fun w'=>∃pos:Nat,w'=w.iter s pos/\Hid (digs (s.data.toList.take pos)=true)) (fun w'=>s.size - w'.iterPos w.heap.size)
 case atStart=>exact⟨0,rfl,Pe rfl⟩
 case round =>
  obtain⟨pos,rfl,ht⟩:=hrel;by_cases hp:pos<s.size
  ·by_cases hc:48<=s[pos].toNat/\s[pos].toNat<=57
   ·have hst:=Pe (Jnl s pos hp ht.out hc)
    have hnx:∀ty,(Instr.next (.pointer (some ⟨w.heap.size,0,none⟩)) true ty).run prog (w.iter s pos)=_:=fun ty=>run_next_ascii w s pos ty hp Ka
    go_wp2_with (go_at_call 352;refine Pf (Jex _ Ka Ka _) ?_)
    go_roundw
    case rel=>exact⟨pos+1,rfl,hst⟩
    case measure=>exact Kb
   ·by_cases ha:s[pos].toNat<128
    ·have hnx:∀ty,(Instr.next (.pointer (some ⟨w.heap.size,0,none⟩)) true ty).run prog (w.iter s pos)=_:=fun ty=>run_next_ascii w s pos ty hp ha
     go_wp2_with (go_at_call 352;refine Pf (Jhm _ Ka _) ?_)
     exact Y9
    ·have hh:=(decode_high s pos hp Ka).1
     have hnx:∀ty,(Instr.next (.pointer (some ⟨w.heap.size,0,none⟩)) true ty).run prog (w.iter s pos)=_:=fun ty=>run_next_any w s pos ty hp
     go_wp2_with (go_at_call 352;refine Pf (Jhm _ Ka _) ?_)
     exact Y9
  ·have hf:=Jhy s pos hp ht.out
   rw[HD.out] at hf;cases hf
theorem Jpd(s:ByteArray)(hd:digs s.data.toList=true)(hl:s.size<=6)(w:World):
  Pc 322 #[.string s] w (.int .i64 (valN s.data.toList)):=by
 have HD:=Pe hd;clear hd;go_enter func322,ntmps322;go_wp2;go_loopw [3] (fun n w'=>∃pos:Nat,w'=w.iter s pos/\n=.int .i64 (valN (s.data.toList.take pos))/\pos<=s.size) (fun _ w'=>s.size - w'.iterPos w.heap.size)
 case atStart=>exact⟨0,rfl,rfl,Nat.zero_le _⟩
 case round =>
  obtain⟨pos,rfl,rfl,hle⟩:=hrel;by_cases hp:pos<s.size
  ·have hc:=Jll s pos hp HD.out
   have hv:valN (s.data.toList.take pos)<1000000:=by
    have h1:=Jlk _ (Jnk _ pos HD.out);exact Y8
   have hs:=Pe (Jnj (s.data.toList.take pos) s[pos]);have ht:=Pe (Jf7 s pos hp);have hnx:∀ty,(Instr.next (.pointer (some ⟨w.heap.size,0,none⟩)) true ty).run prog (w.iter s pos)=_:=fun ty=>run_next_ascii w s pos ty hp Ka
   go_wp2
   go_roundw
   case rel=>exact⟨pos+1,rfl,by rw[ht.out,hs.out];go_num,Ka⟩
   case measure=>exact Kb
  ·have hnx:∀ty,(Instr.next (.pointer (some ⟨w.heap.size,0,none⟩)) true ty).run prog (w.iter s pos)=_:=fun ty=>run_next_end w s pos ty hp
   have he:=Pe (List.take_of_length_le (l:=s.data.toList) (i:=pos) (by simpa using hp));go_wp2;go_ret;exact⟨by rw[he.out];rfl,Ja5 _ _ _⟩
theorem Jrj(s:ByteArray)(h8:s.size≠8)(w:World):
  Pc 320 #[.string s] w (.bool false):=by
 have h:((s.size:Int)==8)=false:=Vr;have h':((s.size:Int) != 8)=true:=by rw[bne,h];rfl
 go_enter func320,ntmps320;go_wp2;all_goals go_ret
 all_goals exact⟨rfl,Pg⟩
theorem Jgp(s:ByteArray)(pos:Nat)(hp:pos<s.size)(ho:okAt pos s[pos]=true):s[pos].toNat<128/\(pos=2\/pos=5->s[pos].toNat=58)/\(¬(pos=2\/pos=5)->48<=s[pos].toNat/\s[pos].toNat<=57):=by
 by_cases hk:pos=2\/pos=5
 ·have:=(Jk4 pos _ hk).1 ho
  exact⟨Ka,fun _=>this,fun h=>absurd hk h⟩
 ·have:=(Jhl pos _ hk).1 ho
  exact⟨Ka,fun h=>absurd h hk,fun _=>this⟩
theorem Jjc(s:ByteArray)(hf:Jch s.data.toList=true)(w:World):
  Pc 320 #[.string s] w (.bool true):=by
 have h8:s.size=8:=(Jhk _ hf).1;have HD:=Pe (Jhk _ hf).2;clear hf;have h:((s.size:Int)==8)=true:=Wb;have h':((s.size:Int) != 8)=false:=by rw[bne,h];rfl
 have H8:=Pe h8;clear h8;go_enter func320,ntmps320;go_wp2;go_loopw [] (fun w'=>∃pos:Nat,w'=w.iter s pos) (fun w'=>s.size - w'.iterPos w.heap.size)
 case atStart=>exact⟨0,rfl⟩
 case round =>
  clear h h';obtain⟨pos,rfl⟩:=hrel;by_cases hp:pos<s.size
  ·obtain⟨ha,hc,hd⟩:=Jgp s pos hp (HD.out pos _ (Jd4 s pos hp))
   have hnx:∀ty,(Instr.next (.pointer (some ⟨w.heap.size,0,none⟩)) true ty).run prog (w.iter s pos)=_:=fun ty=>run_next_ascii w s pos ty hp ha
   by_cases h2:pos=2
   ·have hc:=hc (Or.inl h2)
    have b2:((pos:Int)==2)=true:=Wb;have b3:(((s[pos].toNat:Nat):Int) != 58)=false:=We;have HH:=Pe (And.intro h2 hc);clear h2 hc hd;go_wp2;go_roundw
    case rel=>exact⟨pos+1,rfl⟩
    case measure=>exact Kb
   ·by_cases h5:pos=5
    ·have hc:=hc (Or.inr h5)
     have b2:((pos:Int)==2)=false:=Jaa Ka;have b5:((pos:Int)==5)=true:=Wb;have b3:(((s[pos].toNat:Nat):Int) != 58)=false:=We;have HH:=Pe (And.intro h5 hc);clear h2 h5 hc hd;go_wp2;go_roundw
     case rel=>exact⟨pos+1,rfl⟩
     case measure=>exact Kb
    ·have hd:=hd Ka
     have b2:((pos:Int)==2)=false:=Jaa Ka;have b5:((pos:Int)==5)=false:=Jaa Ka;clear hc;go_wp2_with (go_at_call 352;refine Pf (Jex _ Ka Ka _) ?_);go_roundw
     case rel=>exact⟨pos+1,rfl⟩
     case measure=>exact Kb
  ·have hnx:∀ty,(Instr.next (.pointer (some ⟨w.heap.size,0,none⟩)) true ty).run prog (w.iter s pos)=_:=fun ty=>run_next_end w s pos ty hp
   go_wp2
   exact Y9
theorem J4y(s:ByteArray)(pos:Nat)(hp:pos<s.size)(hx:okAt pos s[pos]=false):
  (pos=2\/pos=5->(Utf8.decode s pos).1≠58)/\(¬(pos=2\/pos=5)->(Utf8.decode s pos).1<48\/57<(Utf8.decode s pos).1):=by
 by_cases ha:s[pos].toNat<128
 ·rw[decode_ascii s pos hp ha]
  refine⟨fun hk he=>?_,fun hk=>?_⟩
  ·rw[(Jk4 pos _ hk).2 he] at hx;cases hx
  ·by_cases hd:48<=s[pos].toNat/\s[pos].toNat<=57
   ·rw[(Jhl pos _ hk).2 hd] at hx;cases hx
   ·show s[pos].toNat<48\/57<s[pos].toNat
    omega
 ·have:=(decode_high s pos hp Ka).1
  exact⟨fun _=>Ka,fun _=>Ka⟩
theorem Jvu(s:ByteArray)(hf:Jch s.data.toList=false)(w:World):
  Pc 320 #[.string s] w (.bool false):=by
 by_cases h8:s.size≠8
 ·exact Jrj s h8 w
 have h8:s.size=8:=Ka;have HD:=Pe hf;clear hf;have h:((s.size:Int)==8)=true:=Wb;have h':((s.size:Int) != 8)=false:=by rw[bne,h];rfl
 have H8:=Pe h8;clear h8;go_enter func320,ntmps320;go_wp2;go_loopw [] (fun w'=>∃pos:Nat,w'=w.iter s pos/\Hid (∀k c,k<pos->s.data.toList[k]?=some c->okAt k c=true)) (fun w'=>s.size - w'.iterPos w.heap.size)
 case atStart=>exact⟨0,rfl,Pe (fun k c hk=>absurd hk (Nat.not_lt_zero _))⟩
 case round =>
  clear h h';obtain⟨pos,rfl,ht⟩:=hrel;by_cases hp:pos<s.size
  ·cases hx:okAt pos s[pos] with
   | true =>
    obtain⟨ha,hc,hd⟩:=Jgp s pos hp hx;have hst:Hid (∀k c,k<pos+1->s.data.toList[k]?=some c->okAt k c=true):=by
     intro k c hk hl;by_cases hkp:k<pos
     ·exact ht.out k c hkp hl
     ·obtain rfl:k=pos:=Ka
      rw[Jd4 s k hp] at hl;cases hl;exact hx
    clear hx;have hnx:∀ty,(Instr.next (.pointer (some ⟨w.heap.size,0,none⟩)) true ty).run prog (w.iter s pos)=_:=fun ty=>run_next_ascii w s pos ty hp ha
    by_cases h2:pos=2
    ·have hc:=hc (Or.inl h2)
     have b2:((pos:Int)==2)=true:=Wb;have b3:(((s[pos].toNat:Nat):Int) != 58)=false:=We;have HH:=Pe (And.intro h2 hc);clear h2 hc hd;go_wp2;go_roundw
     case rel=>exact⟨pos+1,rfl,hst⟩
     case measure=>exact Kb
    ·by_cases h5:pos=5
     ·have hc:=hc (Or.inr h5)
      have b2:((pos:Int)==2)=false:=Jaa Ka;have b5:((pos:Int)==5)=true:=Wb;have b3:(((s[pos].toNat:Nat):Int) != 58)=false:=We;have HH:=Pe (And.intro h5 hc);clear h2 h5 hc hd;go_wp2;go_roundw
      case rel=>exact⟨pos+1,rfl,hst⟩
      case measure=>exact Kb
     ·have hd:=hd Ka
      have b2:((pos:Int)==2)=false:=Jaa Ka;have b5:((pos:Int)==5)=false:=Jaa Ka;clear hc;go_wp2_with (go_at_call 352;refine Pf (Jex _ Ka Ka _) ?_);go_roundw
      case rel=>exact⟨pos+1,rfl,hst⟩
      case measure=>exact Kb
   | false =>
    obtain⟨hc,hd⟩:=J4y s pos hp hx;clear hx;have hnx:∀ty,(Instr.next (.pointer (some ⟨w.heap.size,0,none⟩)) true ty).run prog (w.iter s pos)=_:=fun ty=>run_next_any w s pos ty hp
    by_cases h2:pos=2
    ·have hc:=hc (Or.inl h2)
     have b2:((pos:Int)==2)=true:=Wb;have b3:((((Utf8.decode s pos).1:Nat):Int) != 58)=true:=Jaf Ka;have HH:=Pe (And.intro h2 hc);clear h2 hc hd;go_wp2;exact Y9
    ·by_cases h5:pos=5
     ·have hc:=hc (Or.inr h5)
      have b2:((pos:Int)==2)=false:=Jaa Ka;have b5:((pos:Int)==5)=true:=Wb;have b3:((((Utf8.decode s pos).1:Nat):Int) != 58)=true:=Jaf Ka;have HH:=Pe (And.intro h5 hc);clear h2 h5 hc hd;go_wp2;exact Y9
     ·have hd:=hd Ka
      have b2:((pos:Int)==2)=false:=Jaa Ka;have b5:((pos:Int)==5)=false:=Jaa Ka;clear hc;go_wp2_with (go_at_call 352;refine Pf (Jhm _ Ka _) ?_);exact Y9
  ·have hfm:=Qap s.data.toList H8.out (fun k c hl=>ht.out k c (by have:=(Pm hl).1;have h9:k<s.size:=this;omega) hl)
   rw[HD.out] at hfm;cases hfm
theorem J0i(s:ByteArray)(hf:Jch s.data.toList=true)(a:Nat)(ha:a=0\/a=3\/a=6):digs ((s.data.toList.drop a).take 2)=true:=by
 obtain⟨h8,h⟩:=Jhk _ hf;unfold digs;rw[List.all_eq_true];intro x hx;obtain⟨i,hi⟩:=List.mem_iff_getElem?.1 hx;have hi2:i<2:=by
  have:=(Pm hi).1;exact Q6
 rw[List.getElem?_take_of_lt hi2,List.getElem?_drop] at hi;exact(Jcu _).2 ((Jhl _ _ Ka).1 (h _ _ hi))
theorem J4z(s:ByteArray)(a:Nat)(b:Nat)(hb:b=a+2)(hd:digs ((s.data.toList.drop a).take 2)=true)(hs:a+2<=s.size)(w:World):
  Pc 322 #[.string (s.extract a b)] w (.int .i64 (Jcc s.data.toList a)):=by
 subst hb;have he:(s.extract a (a+2)).data.toList=(s.data.toList.drop a).take 2:=by rw[Lib.extract_data];congr 1;omega
 have h:=Jpd (s.extract a (a+2)) (by rw[he];exact hd) Kb w;rw[he] at h;exact h
theorem Jk5(s:ByteArray)(hf:Jch s.data.toList=true)(a b:Nat)(hb:b=a+2)(ha:a=0\/a=3\/a=6)(w:World):
  Calls prog 322 #[.string (s.extract a b)] w fun e w'=>e=.returned (.int .i64 (Jcc s.data.toList a))/\Po w w' :=
 J4z s a b hb (J0i s hf a ha) (by have:s.size=8:=(Jhk _ hf).1;omega) w
theorem J0j(s:ByteArray)(hf:Jch s.data.toList=true)(hp:Jj1 (Jcc s.data.toList 0) (Jcc s.data.toList 3) (Jcc s.data.toList 6))(w:World):
  Pc 254 #[.string s] w (.tuple #[.int .i64 ((Jcc s.data.toList 0:Int)*3600+(Jcc s.data.toList 3:Int)*60+(Jcc s.data.toList 6:Int)),.int .i64 0]):=by
 have h8:s.size=8:=(Jhk _ hf).1;have HF:=Pe hf;have HP:=Pe hp;clear hf hp;have g2:2<=s.size:=Ka;have g5:5<=s.size:=Ka;have g8:8<=s.size:=Ka;have i2:(2:Int)<=(s.size:Int):=Ka;have i5:(5:Int)<=(s.size:Int):=Ka;have i8:(8:Int)<=(s.size:Int):=Ka;clear h8;go_enter func254,ntmps254;go_wp2_with fail;refine(Jjc s HF.out _).mono ?_;rintro e w1 ⟨rfl,b1⟩;go_wp2_with fail;go_region_held3 (fun _=>True) (exact trivial) (first | (go_at_call 322;refine(rel (W:=w) (Jk5 s HF.out _ _ Ka Ka _) Y2).mono ?_;rintro e wa ⟨rfl,ba⟩) | (go_at_call 321;refine(J4t _ _ _ HP.out _).mono ?_;rintro e wd ⟨rfl,rfl⟩));exact Wc
theorem Jvv(s:ByteArray)(hf:Jch s.data.toList=true)(hp:¬Jj1 (Jcc s.data.toList 0) (Jcc s.data.toList 3) (Jcc s.data.toList 6))(w:World):
  Pc 254 #[.string s] w (.tuple #[.int .i64 0,.int .i64 10]):=by
 have h8:s.size=8:=(Jhk _ hf).1;have HF:=Pe hf;have HP:=Pe hp;clear hf hp;have g2:2<=s.size:=Ka;have g5:5<=s.size:=Ka;have g8:8<=s.size:=Ka;have i2:(2:Int)<=(s.size:Int):=Ka;have i5:(5:Int)<=(s.size:Int):=Ka;have i8:(8:Int)<=(s.size:Int):=Ka;clear h8;go_enter func254,ntmps254;go_wp2_with fail;refine(Jjc s HF.out _).mono ?_;rintro e w1 ⟨rfl,b1⟩;go_wp2_with fail;go_region_held3 (fun _=>True) (exact trivial) (first | (go_at_call 322;refine(rel (W:=w) (Jk5 s HF.out _ _ Ka Ka _) Y2).mono ?_;rintro e wa ⟨rfl,ba⟩) | (go_at_call 321;refine(Qaq _ _ _ HP.out _).mono ?_;rintro e wd ⟨rfl,rfl⟩));exact Wc
theorem Jpe(s:ByteArray)(hf:Jch s.data.toList=false)(w:World):
  Pc 254 #[.string s] w (.tuple #[.int .i64 0,.int .i64 3]):=by
 have HF:=Pe hf;clear hf;go_enter func254,ntmps254;go_wp2_with fail;refine(Jvu s HF.out _).mono ?_;exact Y6
end
namespace S2
def Jpf(q:Nat):Nat:=if q % 4=0 then 1 else 0
def cumN:Nat->Nat
 | 0=>0 | 1=>31 | 2=>59 | 3=>90 | 4=>120 | 5=>151 | 6=>181 | 7=>212 | 8=>243 | 9=>273 | 10=>304 | _=>334
def monN(q r:Nat):Nat:=if r=1 then 28+Jpf q else if r=3\/r=5\/r=8\/r=10 then 30 else 31
def befN(q r:Nat):Nat:=q*365+(q+3) / 4+cumN r+(if 2<=r then Jpf q else 0)
theorem Jmj(q r:Nat)(h:r+1<12):befN q (r+1)=befN q r+monN q r:=by
 unfold befN monN Jpf;match r,h with
 | 0,_ | 1,_ | 2,_ | 3,_ | 4,_ | 5,_ | 6,_ | 7,_ | 8,_ | 9,_ | 10,_=>simp[cumN];try omega
theorem J40(q:Nat):befN (q+1) 0=befN q 11+monN q 11:=by
 unfold befN monN Jpf;simp[cumN];by_cases h:q % 4=0
 ·rw[if_pos h];omega
 ·rw[if_neg h];omega
theorem Jdr(q r:Nat):28<=monN q r/\monN q r<=31:=by
 unfold monN Jpf;repeat' split
 all_goals omega
def bef(i:Nat):Nat:=befN (i / 12) (i % 12)
def mon(i:Nat):Nat:=monN (i / 12) (i % 12)
theorem bef_succ(i:Nat):bef (i+1)=bef i+mon i:=by
 unfold bef mon;by_cases h:i % 12=11
 ·rw[show(i+1) / 12=i / 12+1 by omega,show(i+1) % 12=0 by omega,h,J40]
 ·rw[show(i+1) / 12=i / 12 by omega,show(i+1) % 12=i % 12+1 by omega,Jmj _ _ Ka]
theorem Qdx(i:Nat):bef i<bef (i+1):=by
 have:=bef_succ i;have:=(Jdr (i / 12) (i % 12)).1;unfold mon at *;omega
variable {i d:Nat} {w:World}
theorem bef_le{j:Nat}(h:i<=j):bef i<=bef j:=by
 induction j with
 | zero=>rw[show i=0 by omega];exact Nat.le_refl _
 | succ j ih =>
  by_cases hi:i<=j
  ·exact Nat.le_trans (ih hi) (Nat.le_of_lt (Qdx j))
  ·rw[show i=j+1 by omega];exact Nat.le_refl _
theorem bef_at(q r:Nat)(h:r<12):bef (12*q+r)=befN q r:=by
 unfold bef;rw[show(12*q+r) / 12=q by omega,show(12*q+r) % 12=r by omega]
theorem Jmk:bef 0=0:=Kd
theorem bef_end:bef 1200=36525:=Kd
theorem Qau(q:Nat):bef (12*q)=q*365+(q+3) / 4:=by
 have:=bef_at q 0 Kd;rw[Nat.add_zero] at this;rw[this];simp[befN,cumN]
def Jh6(i d:Nat):Prop:=bef i<=d/\d<bef (i+1)
theorem Jds(h:Jh6 i d)(j:Nat):bef j<=d↔j<=i:=by
 constructor
 ·intro hj
  by_cases hji:j<=i
  ·exact hji
  ·have:=bef_le (show i+1<=j by omega)
   have:=h.2;omega
 ·intro hj
  exact Nat.le_trans (bef_le hj) h.1
theorem Jpg(h:Jh6 i d)(hi:i<1200):d<=36524:=by
 have:=bef_le (show i+1<=1200 by omega);have:=h.2;rw[bef_end] at *;omega
theorem Jhn(h:Jh6 i d):d - bef i<mon i:=by
 have:=bef_succ i;obtain⟨h1,h2⟩:=h;omega
theorem J0k(h:Jh6 i d)(y:Nat):((y+1)*365+(y+1+3) / 4<=d)↔y<i / 12:=by
 rw[<-Qau,Jds h];omega
theorem J41(h:Jh6 i d)(k:Nat)(hk:k<=i % 12):(monN (i / 12) k<=d - bef (12*(i / 12)+k))↔k<i % 12:=by
 have e:=bef_succ (12*(i / 12)+k);have m:mon (12*(i / 12)+k)=monN (i / 12) k:=by
  unfold mon;rw[show(12*(i / 12)+k) / 12=i / 12 by omega,show(12*(i / 12)+k) % 12=k by omega]
 have b:=(Jds h (12*(i / 12)+k+1));have b0:=(Jds h (12*(i / 12)+k)).2 Ka;rw[e,m] at b;constructor
 ·intro hx
  have:=b.1 Ka;omega
 ·intro hx
  have:=b.2 Ka;omega
theorem J42(h:Jh6 i d)(k:Nat)(hk:k<=i):(d - bef k<mon k)↔k=i:=by
 have e:=bef_succ k;have b:=(Jds h (k+1));have b0:=(Jds h k).2 hk;rw[e] at b;constructor
 ·intro hx
  by_cases hki:k=i
  ·exact hki
  ·have:=b.2 Ka
   omega
 ·rintro rfl
  exact Jhn h
open Go
def okP(p c:UInt8):Bool:=if p=48 then dig c else c==p
def fits:List UInt8->List UInt8->Bool
 | [],[]=>true
 | p::ps,c::cs=>okP p c&&fits ps cs
 | _,_=>false
def dayP:List UInt8:=[48,48,48,48,45,48,48,45,48,48]
theorem Jph(c:UInt8):okP 48 c=dig c:=by unfold okP;rw[if_pos rfl]
theorem Jpi(p c:UInt8)(h:p≠48):okP p c=(c==p):=by unfold okP;rw[if_neg h]
theorem Jt5:∀(p l:List UInt8),fits p l=true->l.length=p.length
 | [],[],_=>rfl
 | p::ps,c::cs,h=>by
  have:=Jt5 ps cs (by simp only[fits,Bool.and_eq_true] at h;exact h.2);simp[this]
 | [],_::_,h=>Qi
 | _::_,[],h=>Qi
theorem fits_iff:∀(p l:List UInt8),fits p l=true↔l.length=p.length/\∀(k:Nat) a c,p[k]?=some a->l[k]?=some c->okP a c=true
 | [],[]=>by simp[fits]
 | p::ps,c::cs=>by
  have ih:=fits_iff ps cs;simp only[fits,Bool.and_eq_true,ih,List.length_cons];constructor
  ·rintro⟨h1,h2,h3⟩
   refine⟨Ka,fun k a b ha hb=>?_⟩;cases k with
   | zero=>cases ha;cases hb;exact h1
   | succ k=>exact h3 k a b (by simpa using ha) Zh
  ·rintro⟨h1,h2⟩
   exact⟨h2 0 p c rfl rfl,Ka,fun k a b ha hb=>h2 (k+1) a b (by simpa using ha) Zh⟩
 | [],c::cs=>by simp[fits]
 | p::ps,[]=>by simp[fits]
theorem Jvw(p l:List UInt8)(h:l.length≠p.length):fits p l=false:=by
 cases hf:fits p l with
 | false=>rfl
 | true=>exact absurd (Jt5 p l hf) h
def Jfc(y m d:Int):Prop:=2000<=y/\y<=2099/\1<=m/\m<=12/\1<=d/\d<=monN (y - 2000).toNat (m - 1).toNat
instance (y m d:Int):Decidable (Jfc y m d):=by unfold Jfc;infer_instance
def dayOf(y m d:Int):Int:=(befN (y - 2000).toNat (m - 1).toNat:Int)+d - 1
def val4(l:List UInt8):Nat:=valN (l.take 4)
def dayR(l:List UInt8):Int×Int :=
 if fits dayP l=true then
  if Jfc (val4 l) (Jcc l 5) (Jcc l 8) then(dayOf (val4 l) (Jcc l 5) (Jcc l 8),0) else(0,11)
 else(0,3)
theorem J43(l:List UInt8)(hf:fits dayP l=true)(hp:Jfc (val4 l) (Jcc l 5) (Jcc l 8)):dayR l=(dayOf (val4 l) (Jcc l 5) (Jcc l 8),0):=by
 unfold dayR;rw[if_pos hf,if_pos hp]
theorem J0l(l:List UInt8)(hf:fits dayP l=true)(hp:¬Jfc (val4 l) (Jcc l 5) (Jcc l 8)):dayR l=(0,11):=by
 unfold dayR;rw[if_pos hf,if_neg hp]
theorem Jrk(l:List UInt8)(hf:fits dayP l=false):dayR l=(0,3):=by
 unfold dayR;rw[hf];rfl
def four(y:Int):List UInt8:=two (y / 100)++two (y % 100)
def dateText(y m d:Int):List UInt8:=four y++[45]++two m++[45]++two d
def dText(i n:Nat):List UInt8:=dateText (2000+i / 12) (1+i % 12) ((n:Int) - bef i+1)
open Go.RowKit
def lens:List Int:=[31,28,31,30,31,30,31,31,30,31,30,31]
def Good(w:World):Prop:=Lib.TabIs prog w "transit/date.monthLengths" .i64 lens/\Lib.TabIs prog w "internal/strconv.uint64pow10" .u64 Lib.pow10Tab
theorem gLens:prog.globalNamed "transit/date.monthLengths"=some 5:=Kl
theorem gPow:prog.globalNamed "internal/strconv.uint64pow10"=some 9:=Kl
theorem var_size{n:String}{g:Nat}{cs:Array Value}(hg:prog.globalNamed n=some g)(h:w.var? prog n=some cs):g<w.heap.size:=by
 unfold World.var? at h;simp only[hg,Option.bind_some] at h;by_cases hs:g<w.heap.size
 ·exact hs
 ·rw[Array.getElem?_eq_none Ka] at h
  cases h
theorem Good.below{w':World}(h:Good w)(b:Po w w'):Good w' :=
 ⟨var?_below b gLens (var_size gLens h.1) h.1,var?_below b gPow (var_size gPow h.2) h.2⟩
theorem Good.month(h:Good w)(r:Nat)(hr:r<12):w.cell? ⟨5,r,none⟩=some (.int .i64 (lens.getD r 0)):=h.1.cell gLens r hr
theorem Jvx(n:Int)(h0:0<=n)(h1:n<=36524)(w:World):
  Pb 258 #[.int .i64 n] w (.bool true):=by
 go_enter func258,ntmps258;go_wp2;exact Yt
theorem Jrl(n:Int)(h0:0<=n)(h1:n<=36524)(w:World):
  Pb 159 #[.int .i64 n] w (.bool true):=by
 go_enter func159,ntmps159;go_wp2;exact Yt
theorem Jfj(y:Int)(h0:2000<=y)(h1:y<=2099)(w:World):
  Pb 369 #[.int .i64 y] w (.bool true):=by
 go_enter func369,ntmps369;go_wp2;exact Yt
theorem Jpj(y:Int)(h:y<2000\/2099<y)(w:World):
  Pb 369 #[.int .i64 y] w (.bool false):=by
 rcases h with h | h
 ·go_enter func369,ntmps369
  go_wp2
  exact Yt
 ·have h0:2000<=y:=Ka
  have hd:decide (y<=2099)=false:=Kb;go_enter func369,ntmps369;go_wp2;exact Yt
def Jj2(y:Int):Bool:=decide (2000<=y/\y<=2099/\y % 4=0)
theorem Jt6(y:Int)(h0:2000<=y)(h1:y<=2099):(y % 4==0)=Jj2 y:=by
 unfold Jj2;rw[Bool.eq_iff_iff,beq_iff_eq,decide_eq_true_eq];omega
theorem Jjd(y:Int)(h:y<2000\/2099<y):Jj2 y=false:=by
 unfold Jj2;exact Q8
theorem J44(y:Int)(w:World):
  Pb 362 #[.int .i64 y] w (.bool (Jj2 y)):=by
 by_cases h:2000<=y/\y<=2099
 ·obtain⟨h0,h1⟩:=h
  have hb:=Pe (Jt6 y h0 h1);go_enter func362,ntmps362;go_wp2_with (go_at_call 369;refine Pf (Jfj _ h0 h1 _) ?_);go_ret;exact⟨Jac hb.out,rfl⟩
 ·have h:y<2000\/2099<y:=Ka
  rw[Jjd y h];go_enter func362,ntmps362;go_wp2_with (go_at_call 369;refine Pf (Jpj _ h _) ?_);exact Yt
theorem J0m(y:Int)(w:World):
  Pb 347 #[.int .i64 y] w (.bool (Jj2 y)):=by
 by_cases h:2000<=y/\y<=2099
 ·obtain⟨h0,h1⟩:=h
  have hb:=Pe (Jt6 y h0 h1);have g1:decide (y<=2099)=true:=Kb;go_enter func347,ntmps347;go_wp2;go_ret;exact⟨Jac hb.out,rfl⟩
 ·by_cases h0:y<2000
  ·rw[Jjd y (Or.inl h0)]
   go_enter func347,ntmps347;go_wp2;exact Yt
  ·rw[Jjd y Ka]
   have h0:2000<=y:=Ka;have hd:decide (y<=2099)=false:=Kb;go_enter func347,ntmps347;go_wp2;exact Yt
theorem J0n(y:Int)(b:Bool)(h:Jj2 y=b)(w:World):
  Pb 362 #[.int .i64 y] w (.bool b):=by
 rw[<-h];exact J44 y w
theorem Jt7(y:Int)(b:Bool)(h:Jj2 y=b)(w:World):
  Pb 347 #[.int .i64 y] w (.bool b):=by
 rw[<-h];exact J0m y w
theorem J0o(y:Int)(q:Nat)(hy:y=2000+q)(hq:q<100):Jj2 y=decide (q % 4=0):=by
 unfold Jj2;rw[Bool.eq_iff_iff,decide_eq_true_eq,decide_eq_true_eq];omega
theorem Jt8(q r:Nat)(hr:r<12)(h:¬(r=1/\q % 4=0)):lens.getD r 0=(monN q r:Int):=by
 unfold monN Jpf;match r,hr with
 | 0,_ | 2,_ | 3,_ | 4,_ | 5,_ | 6,_ | 7,_ | 8,_ | 9,_ | 10,_ | 11,_=>rfl
 | 1,_=>rw[if_pos rfl,if_neg (fun hq=>h ⟨rfl,hq⟩)];rfl
theorem J0p(q:Nat)(h:q % 4=0):monN q 1=29:=by
 unfold monN Jpf;rw[if_pos rfl,if_pos h]
theorem Jcz(y m:Int)(q r:Nat)(hy:y=2000+q)(hq:q<100)(hm:m=1+r)(hr:r<12)(w:World)(hg:Good w):
  Pb 342 #[.int .i64 y,.int .i64 m] w (.int .i64 (monN q r)):=by
 have hc:=hg.month r hr;have hl:=J0o y q hy hq;clear hy;subst hm;by_cases h2:r=1
 ·subst h2
  by_cases h4:q % 4=0
  ·rw[show decide (q % 4=0)=true by simpa using h4] at hl
   have e:=Pe (J0p q h4);rw[show lens.getD 1 0=28 from rfl] at hc;go_enter func342,ntmps342;go_wp2_with (go_at_call 362;refine Pf (J0n _ _ hl _) ?_);go_ret;exact⟨by rw[e.out];rfl,rfl⟩
  ·rw[show decide (q % 4=0)=false by simpa using h4] at hl
   have e:=Pe (Jt8 q 1 hr Ka);rw[e.out] at hc;go_enter func342,ntmps342;go_wp2_with (go_at_call 362;refine Pf (J0n _ _ hl _) ?_);exact Yt
 ·have e:=Pe (Jt8 q r hr Ka)
  rw[e.out] at hc;have hn:(1+(r:Int)==2)=false:=Vr;clear hl;go_enter func342,ntmps342;exact Kc
theorem Jml(y m:Int)(q r:Nat)(hy:y=2000+q)(hq:q<100)(hm:m=1+r)(hr:r<12)(w:World)(hg:Good w):
  Pb 351 #[.int .i64 y,.int .i64 m] w (.tuple #[.int .i64 (monN q r),.bool true]):=by
 have h1:¬m<1:=Ka;have h2:¬12<m:=Ka;have y0:2000<=y:=Ka;have y1:y<=2099:=Ka;have HY:=Pe hy;have HM:=Pe hm;clear hy hm;go_enter func351,ntmps351;go_wp2_with (first | (go_at_call 369;refine Pf (Jfj y y0 y1 _) ?_) | (go_at_call 342;refine Pf (Jcz y m q r HY.out hq HM.out hr _ hg) ?_));exact Yv
theorem Qav(y m:Int)(h:y<2000\/2099<y\/m<1\/12<m)(w:World):
  Pb 351 #[.int .i64 y,.int .i64 m] w (.tuple #[.int .i64 0,.bool false]):=by
 by_cases hy:y<2000\/2099<y
 ·go_enter func351,ntmps351
  go_wp2_with (go_at_call 369;refine Pf (Jpj _ hy _) ?_)
  exact Yv
 ·by_cases hm:m<1
  ·go_enter func351,ntmps351
   go_wp2_with (go_at_call 369;refine Pf (Jfj _ Ka Ka _) ?_)
   exact Yv
  ·have hm2:12<m:=Ka
   go_enter func351,ntmps351;go_wp2_with (go_at_call 369;refine Pf (Jfj _ Ka Ka _) ?_);exact Yv
theorem J0q(y m:Int)(q r:Nat)(hy:y=2000+q)(hq:q<100)(hm:m=1+r)(hr:r<12)(w:World):
  Pb 307 #[.int .i64 y,.int .i64 m] w (.tuple #[.int .i64 (monN q r),.bool true]):=by
 have g1:¬y<2000:=Ka;have g2:¬2099<y:=Ka;have g3:¬m<1:=Ka;have g4:¬12<m:=Ka;have hl:=J0o y q hy hq;clear hy;by_cases h2:r=1
 ·subst h2
  have t2:(m==2)=true:=Jag Ka;clear hm;by_cases h4:q % 4=0
  ·rw[show decide (q % 4=0)=true by simpa using h4] at hl
   have e:=Pe (show monN q 1=29 from J0p q h4);go_enter func307,ntmps307;go_wp2_with (go_at_call 347;refine Pf (Jt7 _ _ hl _) ?_);go_ret2;exact⟨by rw[e.out];rfl,rfl⟩
  ·rw[show decide (q % 4=0)=false by simpa using h4] at hl
   have e:=Pe (show monN q 1=28 by unfold monN Jpf;rw[if_pos rfl,if_neg h4]);go_enter func307,ntmps307;go_wp2_with (go_at_call 347;refine Pf (Jt7 _ _ hl _) ?_);go_ret2;exact⟨by rw[e.out];rfl,rfl⟩
 ·clear hl
  have t2:(m==2)=false:=Jaa Ka;by_cases h30:r=3\/r=5\/r=8\/r=10
  ·have e:=Pe (show monN q r=30 by unfold monN;rw[if_neg h2,if_pos h30])
   rcases h30 with rfl | rfl | rfl | rfl
   ·obtain rfl:m=4:=Ka
    exact Y3
   ·obtain rfl:m=6:=Ka
    exact Y3
   ·obtain rfl:m=9:=Ka
    exact Y3
   ·obtain rfl:m=11:=Ka
    exact Y3
  ·have e:=Pe (show monN q r=31 by unfold monN;rw[if_neg h2,if_neg h30])
   have t4:(m==4)=false:=Jaa Ka;have t6:(m==6)=false:=Jaa Ka;have t9:(m==9)=false:=Jaa Ka;have t11:(m==11)=false:=Jaa Ka;clear hm;exact Y3
theorem Jdb(y:Int)(q:Nat)(hy:y=2000+q)(hq:q<=100)(w:World):
  Pb 341 #[.int .i64 y] w (.int .i64 (befN q 0)):=by
 have h0:0<=y - 2000:=Ka;have h1:y - 2000<=100:=Ka;have e:(y - 2000)*365+(y - 2000+3) / 4=(befN q 0:Int):=by
  have e0:befN q 0=q*365+(q+3) / 4:=by simp[befN,cumN]
  omega
 have E:=Pe e;clear e hy;go_enter func341,ntmps341;go_wp2_with fail;go_ret;exact⟨Jad E.out,rfl⟩
theorem Jmm(y m d:Int)(hp:Jfc y m d)(w:World)(hg:Good w):
  Pb 318 #[.int .i64 y,.int .i64 m,.int .i64 d] w (.tuple #[.int .i64 (dayOf y m d),.bool true]):=by
 obtain⟨h1,h2,h3,h4,h5,h6⟩:=hp;obtain⟨q,hq,rfl⟩:∃q:Nat,q<100/\y=2000+q:=⟨(y - 2000).toNat,Ka,Ka⟩;obtain⟨r,hr,rfl⟩:∃r:Nat,r<12/\m=1+r:=⟨(m - 1).toNat,Ka,Ka⟩;rw[show(2000+(q:Int) - 2000).toNat=q by omega,show(1+(r:Int) - 1).toNat=r by omega] at h6;have hb:∀k,k<=r->befN q k<=40000:=by
  intro k hk;have:=bef_le (show 12*q+k<=1200 by omega);rw[bef_at q k Ka,bef_end] at this;omega
 have hd:dayOf (2000+(q:Int)) (1+(r:Int)) d=(befN q r:Int)+d - 1:=by
  unfold dayOf;rw[show(2000+(q:Int) - 2000).toNat=q by omega,show(1+(r:Int) - 1).toNat=r by omega]
 have hd31:d<=31:=by have:=(Jdr q r).2;omega
 have HD:=Pe hd;have HB:=Pe hb;have t1:¬d<1:=Ka;have t2:¬(monN q r:Int)<d:=Ka;clear hd hb h1 h2 h3 h4 h6;go_enter func318,ntmps318;go_wp2_with (first | (go_at_call 351;refine Pf (Jml _ _ q r rfl hq rfl hr _ hg) ?_) | (go_at_call 341;refine Pf (Jdb _ q rfl Ka _) ?_));go_loop [10,11] (fun n i=>∃k:Nat,k<=r/\n=.int .i64 (befN q k)/\i=.int .i64 (1+k)) (fun _ i=>12 - (intOf i).toNat)
 case atStart=>exact⟨0,Ka,rfl,rfl⟩
 case round =>
  obtain⟨k,hk,rfl,rfl⟩:=hrel;have hbk:=HB.out k hk;by_cases hlt:k<r
  ·have hn:=Pe (Jmj q k Ka)
   have hr31:=(Jdr q k).2;go_wp2_with (go_at_call 342;refine Pf (Jcz _ _ q k rfl hq rfl Ka _ hg) ?_);go_round
   case rel=>exact⟨k+1,Ka,by rw[hn.out];go_num,Kj⟩
   case measure=>exact Q7
  ·obtain rfl:k=r:=Ka
   go_wp2_with fail;go_ret2;exact⟨J27 HD.out.symm,rfl⟩
theorem Jpk(y m d:Int)(hp:¬Jfc y m d)(w:World)(hg:Good w):
  Pb 318 #[.int .i64 y,.int .i64 m,.int .i64 d] w (.tuple #[.int .i64 0,.bool false]):=by
 by_cases hym:y<2000\/2099<y\/m<1\/12<m
 ·clear hp
  go_enter func318,ntmps318;go_wp2_with (go_at_call 351;refine Pf (Qav _ _ hym _) ?_);exact Yv
 ·obtain⟨q,hq,rfl⟩:∃q:Nat,q<100/\y=2000+q:=⟨(y - 2000).toNat,Ka,Ka⟩
  obtain⟨r,hr,rfl⟩:∃r:Nat,r<12/\m=1+r:=⟨(m - 1).toNat,Ka,Ka⟩;unfold Jfc at hp;rw[show(2000+(q:Int) - 2000).toNat=q by omega,show(1+(r:Int) - 1).toNat=r by omega] at hp;have hd:d<1\/¬d<1/\(monN q r:Int)<d:=Ka;clear hp hym;rcases hd with hd | ⟨hd,hd2⟩
  ·go_enter func318,ntmps318
   go_wp2_with (go_at_call 351;refine Pf (Jml _ _ q r rfl hq rfl hr _ hg) ?_)
   exact Yv
  ·go_enter func318,ntmps318
   go_wp2_with (go_at_call 351;refine Pf (Jml _ _ q r rfl hq rfl hr _ hg) ?_)
   exact Yv
theorem J0r(i n:Nat)(hi:i<1200)(h:Jh6 i n)(w:World)(hg:Good w):
  Pb 296 #[.int .i64 n] w (.tuple #[.int .i64 (2000+i / 12),.int .i64 (1+i % 12),.int .i64 ((n:Int) - bef i+1),.bool true]):=by
 have hn:=Jpg h hi;have HI:=Pe h;have HY:=Pe (fun y=>J0k h y);have HM:=Pe (fun k hk=>J41 h k hk);have HB:=Pe (fun j=>Jds h j);have n0:(0:Int)<=n:=Ka;have n1:(n:Int)<=36524:=Ka;clear h hn;go_enter func296,ntmps296;go_wp2_with (go_at_call 258;refine Pf (Jvx _ n0 n1 _) ?_);go_loop [6] (fun y=>∃q:Nat,q<=i / 12/\y=.int .i64 (2000+q)) (fun y=>2100 - (intOf y).toNat)
 case atStart=>exact⟨0,Ka,rfl⟩
 case round =>
  obtain⟨q,hq,rfl⟩:=hrel;have hs:=HY.out q;have e0:befN (q+1) 0=(q+1)*365+(q+1+3) / 4:=by simp[befN,cumN]
  by_cases hlt:q<i / 12
  ·have ht:(befN (q+1) 0:Int)<=n:=Ka
   clear hs e0;go_wp2_with (go_at_call 341;refine Pf (Jdb _ (q+1) Ka Ka _) ?_);go_round
   case rel=>exact⟨q+1,Ka,Kj⟩
   case measure=>exact Q7
  ·have ht:¬(befN (q+1) 0:Int)<=n:=Ka
   clear hs e0;obtain rfl:q=i / 12:=Ka;have hb0:=bef_at (i / 12) 0 Kd;have hb1:=(HB.out (12*(i / 12)+0)).2 Ka;rw[hb0] at hb1;clear hb0;go_wp2_with (first | (go_at_call 341;refine Pf (Jdb _ (i / 12+1) Ka Ka _) ?_) | (go_at_call 341;refine Pf (Jdb _ (i / 12) Ka Ka _) ?_));clear ht hlt;go_loop [7,8] (fun l m=>∃k:Nat,k<=i % 12/\l=.int .i64 ((n:Int) - befN (i / 12) k)/\m=.int .i64 (1+k)) (fun _ m=>20 - (intOf m).toNat);case atStart=>exact⟨0,Ka,rfl,rfl⟩
   case round =>
    obtain⟨k,hk,rfl,rfl⟩:=hrel;have hs:=HM.out k hk;have hb:=bef_at (i / 12) k Ka;have hb2:=(HB.out (12*(i / 12)+k)).2 Ka;rw[hb] at hs hb2;by_cases hlt:k<i % 12
    ·have ht:(monN (i / 12) k:Int)<=(n:Int) - befN (i / 12) k:=Ka
     have hx:=Pe (Jmj (i / 12) k Ka);have hr31:=(Jdr (i / 12) k).2;clear hs hb;go_wp2_with (go_at_call 342;refine Pf (Jcz _ _ (i / 12) k Ka Ka rfl Ka _ hg) ?_);go_round
     case rel=>exact⟨k+1,Ka,by rw[hx.out];go_num,Kj⟩
     case measure=>exact Q7
    ·have ht:¬(monN (i / 12) k:Int)<=(n:Int) - befN (i / 12) k:=Ka
     obtain rfl:k=i % 12:=Ka;have hE:=Pe (show bef i=befN (i / 12) (i % 12) from rfl);clear hs hb;go_wp2_with (go_at_call 342;refine Pf (Jcz _ _ (i / 12) (i % 12) Ka Ka rfl Ka _ hg) ?_);refine bodyPost_ret (Je6 rfl _ _ _) rfl ?_;exact⟨Jw7 Ka Ka (by rw[hE.out]),rfl⟩
theorem Jvy(i n:Nat)(hi:i<1200)(h:Jh6 i n)(w:World):
  Pb 228 #[.int .i64 n] w (.tuple #[.int .i64 (2000+i / 12),.int .i64 (1+i % 12),.int .i64 ((n:Int) - bef i+1),.bool true]):=by
 have hn:=Jpg h hi;have HI:=Pe h;have HM:=Pe (fun k hk=>J42 h k hk);have HB:=Pe (fun j=>Jds h j);have n0:(0:Int)<=n:=Ka;have n1:(n:Int)<=36524:=Ka;clear h hn;go_enter func228,ntmps228;go_wp2_with (go_at_call 159;refine Pf (Jrl _ n0 n1 _) ?_);go_loop [6,7] (fun l m=>∃(k:Nat) (L:Int),k<=i/\Hid (L=(n:Int) - bef k)/\l=.int .i64 L/\m=.int .i64 k) (fun _ m=>1200 - (intOf m).toNat)
 case atStart=>exact⟨0,n,Ka,Pe (by rw[Jmk];omega),rfl,rfl⟩
 case round =>
  obtain⟨k,L,hk,hL,rfl,rfl⟩:=hrel;have hs:=HM.out k hk;have hb2:=(HB.out k).2 hk;have hm:mon k=monN (k / 12) (k % 12):=rfl;have hLL:=hL.out;have hr31:=(Jdr (k / 12) (k % 12)).2;have k1:(k:Int)<1200:=Ka;have D:=Pe (fun w=>J0q (2000+(k:Int) / 12) (1+(k:Int) % 12) (k / 12) (k % 12) Ka Ka Ka Ka w);rw[hm] at hs;have hx:=bef_succ k;rw[hm] at hx;generalize monN (k / 12) (k % 12)=M at hs hr31 D hm hx;have l0:0<=L:=Ka;have l1:L<=36524:=Ka;have HX:=Pe hx;by_cases hlt:k=i
  ·have ht:L<(M:Int):=Ka
   have HK:=Pe hlt;clear hs hm hlt hLL hx;go_wp2_with (go_at_call 307;refine Pf (D.out _) ?_);refine bodyPost_ret (Je6 rfl _ _ _) rfl ?_;have hlt:=HK.out;have hL:=hL.out;exact⟨Jw7 Ka Ka (by rw[hL,hlt]),rfl⟩
  ·have ht:decide (L<(M:Int))=false:=Kb
   have HN:=Pe hlt;clear hs hm hlt hLL hx;go_wp2_with (go_at_call 307;refine Pf (D.out _) ?_);go_round
   case rel=>exact⟨k+1,L - M,by have:=HN.out;omega,Pe (by have:=hL.out;have:=HX.out;omega),rfl,Kj⟩
   case measure=>exact Q7
theorem Jt9(y:Int):(four y).length=4:=rfl
theorem J0s(q:Nat)(hq:q<100):Lib.itoa (2000+(q:Int))=four (2000+(q:Int)):=by
 have e:(2000+(q:Int)).toNat=2000+q:=Ka;unfold Lib.itoa four two;rw[if_neg Ka,e,Lib.decDigits,dif_neg Ka,Lib.decDigits,dif_neg Ka,Lib.decDigits_two Ka Ka];rw[show(2000+q) / 10 / 10 / 10=((2000+(q:Int)) / 100).toNat / 10 by omega,show(2000+q) / 10 / 10 % 10=((2000+(q:Int)) / 100).toNat % 10 by omega,
  show(2000+q) / 10 % 10=((2000+(q:Int)) % 100).toNat / 10 by omega,show(2000+q) % 10=((2000+(q:Int)) % 100).toNat % 10 by omega]
 rfl
theorem J0t(q:Nat)(hq:q<100)(w:World)(hg:Good w):
  Pc 297 #[.int .i64 (2000+(q:Int))] w (.string (str (four (2000+(q:Int))))):=by
 rw[<-J0s q hq];refine(Tryz.strconv_Itoa (2000+(q:Int)) Ka Ka w hg.2).mono ?_;rintro e w' ⟨rfl,k,os,rfl⟩;exact⟨rfl,Ju1 w k os⟩
theorem Jua(x:Int)(h0:0<=x)(h1:x<100)(w:World):
  Pb 298 #[.int .i64 x] w (.string (str (two x))):=by
 have l1:=Jis (x / 10) Ka;have l2:=Jis (x % 10) Ka;have E:=Pe (show str (dec (x / 10))++str (dec (x % 10))=str (two x) by rw[Jas,Jw1 x h0 h1]);go_enter func298,ntmps298;go_wp2_with (go_at_call 297;refine Pf (Jgo _ Ka Ka _) ?_);go_ret;exact⟨Jcv E.out,rfl⟩
theorem Jub(y m d:Int):str (four y)++str [45]++str (two m)++str [45]++str (two d)=str (dateText y m d):=by
 rw[Jas,Jas,Jas,Jas];rfl
theorem dformat_yes(i n:Nat)(hi:i<1200)(h:Jh6 i n)(w:World)(hg:Good w):
  Pc 222 #[.int .i64 n] w (.tuple #[.string (str (dText i n)),.int .i64 0]):=by
 have C:=Pe (J0r i n hi h w hg);have hl:=Jhn h;have h1:=h.1;have hr:=(Jdr (i / 12) (i % 12)).2;unfold mon at hl;have Y:=Pe (fun w hg=>J0t (i / 12) Ka w hg);have e1:(2000+((i / 12:Nat):Int))=2000+(i:Int) / 12:=Ka;rw[e1] at Y;have m0:0<=1+(i:Int) % 12:=Ka;have m1:1+(i:Int) % 12<100:=Ka;have M:=Pe (fun w=>Jua (1+(i:Int) % 12) m0 m1 w);have d0:0<=(n:Int) - bef i+1:=Ka;have d1:(n:Int) - bef i+1<100:=Ka;have D:=Pe (fun w=>Jua ((n:Int) - bef i+1) d0 d1 w);have E:=Pe (Jub (2000+(i:Int) / 12) (1+(i:Int) % 12) ((n:Int) - bef i+1));have lY:=Jt9 (2000+(i:Int) / 12);have lM:=Jir (1+(i:Int) % 12);have lD:=Jir ((n:Int) - bef i+1);clear h hl h1 hr e1 m0 m1 d0 d1 hi;go_enter func222,ntmps222;go_wp2_with (go_at_call 296;refine Pf C.out ?_);go_wp2_with fail;refine(Y.out _ hg).mono ?_;rintro e w1 ⟨rfl,b1⟩;go_wp2_with fail;refine(M.out _).mono ?_;rintro e w2 ⟨rfl,rfl⟩;go_wp2_with fail;refine(D.out _).mono ?_;rintro e w2 ⟨rfl,rfl⟩;go_wp2_with fail;go_ret2;exact⟨Je8 E.out,b1⟩
theorem Jvz(x:Int):str [UInt8.ofNat (48+x / 10 % 10).toNat]++(str [UInt8.ofNat (48+x % 10).toNat]++str [])=str (two (x % 100)):=by
 rw[Jas,Jas];unfold two;rw[show(48+x / 10 % 10).toNat=48+(x % 100).toNat / 10 by omega,show(48+x % 10).toNat=48+(x % 100).toNat % 10 by omega];rfl
theorem Juc(x:Int)(h0:0<=x)(h1:x<100)(w:World):
  Pc 229 #[.int .i64 x,.int .i64 2] w (.string (str (two x))):=by
 have hk:=Jln (48+x % 10) w;have hk2:=Jln (48+x / 10 % 10) (w.alloc (.cells #[.int .u8 (48+x % 10)] 5));simp at hk2;have E:=Pe (Jvz x);rw[show x % 100=x by omega] at E;go_enter func229,ntmps229;go_wp2_with fail;refine wp_loop_rounds 3 ?_;rw[rounds_succ];go_wp2_with fail;rw[rounds_succ];go_wp2_with fail;rw[rounds_succ];go_wp2_with fail;go_ret;exact⟨Jcv E.out,((Below.refl _ _).alloc Ph _).alloc Ke _⟩
theorem Jrm(x:Int)(h0:0<=x)(h1:x<10000):
  str [UInt8.ofNat (48+x / 10 / 10 / 10 % 10).toNat]++(str [UInt8.ofNat (48+x / 10 / 10 % 10).toNat]++(str [UInt8.ofNat (48+x / 10 % 10).toNat]++(str [UInt8.ofNat (48+x % 10).toNat]++str [])))=str (four x):=by
 rw[Jas,Jas,Jas,Jas];unfold four two;rw[show(48+x / 10 / 10 / 10 % 10).toNat=48+(x / 100).toNat / 10 by omega,show(48+x / 10 / 10 % 10).toNat=48+(x / 100).toNat % 10 by omega,
  show(48+x / 10 % 10).toNat=48+(x % 100).toNat / 10 by omega,show(48+x % 10).toNat=48+(x % 100).toNat % 10 by omega]
 rfl
theorem J45(x:Int)(h0:0<=x)(h1:x<10000)(w:World):
  Pc 229 #[.int .i64 x,.int .i64 4] w (.string (str (four x))):=by
 have hk:=Jln (48+x % 10) w;have hk2:=Jln (48+x / 10 % 10) (w.alloc (.cells #[.int .u8 (48+x % 10)] 5));have hk3:=Jln (48+x / 10 / 10 % 10) ((w.alloc (.cells #[.int .u8 (48+x % 10)] 5)).alloc (.cells #[.int .u8 (48+x / 10 % 10)] 5));have hk4:=Jln (48+x / 10 / 10 / 10 % 10) (((w.alloc (.cells #[.int .u8 (48+x % 10)] 5)).alloc (.cells #[.int .u8 (48+x / 10 % 10)] 5)).alloc (.cells #[.int .u8 (48+x / 10 / 10 % 10)] 5));simp at hk2 hk3 hk4;have E:=Pe (Jrm x h0 h1);go_enter func229,ntmps229;go_wp2_with fail;refine wp_loop_rounds 5 ?_;rw[rounds_succ];go_wp2_with fail;rw[rounds_succ];go_wp2_with fail;rw[rounds_succ];go_wp2_with fail;rw[rounds_succ];go_wp2_with fail;rw[rounds_succ];go_wp2_with fail;go_ret;exact⟨Jcv E.out,((((Below.refl _ _).alloc Ph _).alloc Ke _).alloc Kb _).alloc Kb _⟩
theorem rdformat_yes(i n:Nat)(hi:i<1200)(h:Jh6 i n)(w:World):
  Pc 149 #[.int .i64 n] w (.tuple #[.string (str (dText i n)),.int .i64 0]):=by
 have C:=Pe (Jvy i n hi h w);have hl:=Jhn h;have h1:=h.1;have hr:=(Jdr (i / 12) (i % 12)).2;unfold mon at hl;have y0:0<=2000+(i:Int) / 12:=Ka;have y1:2000+(i:Int) / 12<10000:=Ka;have Y:=Pe (fun w=>J45 (2000+(i:Int) / 12) y0 y1 w);have m0:0<=1+(i:Int) % 12:=Ka;have m1:1+(i:Int) % 12<100:=Ka;have M:=Pe (fun w=>Juc (1+(i:Int) % 12) m0 m1 w);have d0:0<=(n:Int) - bef i+1:=Ka;have d1:(n:Int) - bef i+1<100:=Ka;have D:=Pe (fun w=>Juc ((n:Int) - bef i+1) d0 d1 w);have E:=Pe (Jub (2000+(i:Int) / 12) (1+(i:Int) % 12) ((n:Int) - bef i+1));have lY:=Jt9 (2000+(i:Int) / 12);have lM:=Jir (1+(i:Int) % 12);have lD:=Jir ((n:Int) - bef i+1);clear h hl h1 hr y0 y1 m0 m1 d0 d1 hi;go_enter func149,ntmps149;go_wp2_with (go_at_call 228;refine Pf C.out ?_);go_wp2_with fail;refine(Y.out _).mono ?_;rintro e w1 ⟨rfl,b1⟩;go_wp2_with fail;refine(M.out _).mono ?_;rintro e w2 ⟨rfl,b2⟩;go_wp2_with fail;refine(D.out _).mono ?_;rintro e w3 ⟨rfl,b3⟩;go_wp2_with fail;go_ret2;exact⟨Je8 E.out,b1.trans ((b2.trans (b3.mono b2.size)).mono b1.size)⟩
def okD(i:Nat)(c:UInt8):Bool:=if i=4\/i=7 then c==45 else dig c
theorem Jgq(l:List UInt8):fits dayP l=true↔l.length=10/\∀(k:Nat) c,l[k]?=some c->okD k c=true:=by
 rw[fits_iff];constructor
 ·rintro⟨h,hf⟩
  have h:l.length=10:=h;refine⟨h,fun k c hc=>?_⟩;have hk:k<10:=by have:=(Pm hc).1;omega
  unfold okD;match k,hk with
  | 0,_ | 1,_ | 2,_ | 3,_ | 5,_ | 6,_ | 8,_ | 9,_=>have:=hf _ 48 c rfl hc;rw[if_neg Kd];rwa [Jph] at this
  | 4,_ | 7,_=>have:=hf _ 45 c rfl hc;rw[if_pos Kd];rwa [Jpi _ _ Kd] at this
 ·rintro⟨h,hf⟩
  refine⟨h,fun k a c ha hc=>?_⟩;have hk:k<10:=by have:=(Pm hc).1;omega
  have ho:=hf k c hc;unfold okD at ho;match k,hk,ha with
  | 0,_,ha | 1,_,ha | 2,_,ha | 3,_,ha | 5,_,ha | 6,_,ha | 8,_,ha | 9,_,ha=>cases ha;rw[Jph];rwa [if_neg Kd] at ho
  | 4,_,ha | 7,_,ha=>cases ha;rw[Jpi _ _ Kd];rwa [if_pos Kd] at ho
theorem Jud(k:Nat)(c:UInt8)(hk:k=4\/k=7):okD k c=true↔c.toNat=45:=by
 unfold okD;exact Yy
theorem Jje(k:Nat)(c:UInt8)(hk:¬(k=4\/k=7)):okD k c=true↔48<=c.toNat/\c.toNat<=57:=by
 unfold okD;rw[if_neg hk,Jcu]
theorem Jv0(s:ByteArray)(pos:Nat)(hp:pos<=s.size)(hl:s.size<=6)(hd:digs s.data.toList=true):valN (s.data.toList.take pos)<1000000:=by
 have h1:=Jlk _ (Jnk _ pos hd);exact Y8
theorem Jv1(s:ByteArray)(hd:digs s.data.toList=true)(hl:s.size<=6)(w:World):
  Pb 319 #[.string s] w (.int .i64 (valN s.data.toList)):=by
 have HD:=Pe hd;clear hd;go_enter func319,ntmps319;go_wp2;go_loop [3,7] (fun n i=>∃k:Nat,k<=s.size/\n=.int .i64 (valN (s.data.toList.take k))/\i=.int .i64 k) (fun _ i=>s.size - (intOf i).toNat)
 case atStart=>exact⟨0,Ka,rfl,rfl⟩
 case round =>
  obtain⟨k,hk,rfl,rfl⟩:=hrel;by_cases hp:k<s.size
  ·have hc:=Jll s k hp HD.out
   have hv:=Jv0 s k hk hl HD.out;have hs:=Pe (Jnj (s.data.toList.take k) s[k]);have ht:=Pe (Jf7 s k hp);have kk:=Je7 s k hp;go_wp2_with fail;go_round;case rel=>exact⟨k+1,Ka,by rw[ht.out,hs.out];go_num,Kj⟩
   case measure=>exact Q7
  ·have he:=Pe (List.take_of_length_le (l:=s.data.toList) (i:=k) (by simpa using hp))
   go_wp2_with fail;go_ret;exact⟨by rw[he.out];rfl,rfl⟩
theorem Jho(s:ByteArray)(w:World):
  Pb 317 #[.string s] w (.bool (fits dayP s.data.toList)):=by
 by_cases h10:s.size=10
 ·have n10:((s.size:Int) != 10)=false:=by rw[h10];rfl
  have H10:=Pe h10;have HF:=Pe (Jgq s.data.toList);have hs:s.size<=10:=Ka;clear h10;go_enter func317,ntmps317;go_wp2_with fail;go_loop [9] (fun i=>∃k:Nat,k<=s.size/\i=.int .i64 k/\Hid (∀j c,j<k->s.data.toList[j]?=some c->okD j c=true)) (fun i=>s.size - (intOf i).toNat);case atStart=>exact⟨0,Ka,rfl,Pe (fun j c hj=>absurd hj (Nat.not_lt_zero _))⟩
  case round =>
   clear n10;obtain⟨k,hk,rfl,ht⟩:=hrel;by_cases hlt:k<s.size
   ·have kk:=Je7 s k hlt
    cases hx:okD k s[k] with
    | true =>
     have hst:Hid (∀j c,j<k+1->s.data.toList[j]?=some c->okD j c=true):=by
      intro j c hj hl;by_cases hjk:j<k
      ·exact ht.out j c hjk hl
      ·obtain rfl:j=k:=Ka
       rw[Jd4 s j hlt] at hl;cases hl;exact hx
     by_cases h47:k=4\/k=7
     ·have hc:=(Jud k _ h47).1 hx
      have b3:(((s[k].toNat:Nat):Int) != 45)=false:=We;clear hx hc;by_cases h4:k=4
      ·have b4:((k:Int)==4)=true:=Jag Ka
       have HH:=Pe h4;clear h4 h47;go_wp2_with fail;go_round;case rel=>exact⟨k+1,Ka,Kj,hst⟩
       case measure=>exact Q7
      ·have b4:((k:Int)==4)=false:=Jaa Ka
       have b7:((k:Int)==7)=true:=Jag Ka;clear h4 h47;go_wp2_with fail;go_round;case rel=>exact⟨k+1,Ka,Kj,hst⟩
       case measure=>exact Q7
     ·have hc:=(Jje k _ h47).1 hx
      have b4:((k:Int)==4)=false:=Jaa Ka;have b7:((k:Int)==7)=false:=Jaa Ka;have c1:¬((s[k].toNat:Nat):Int)<48:=Ka;have c2:¬(57:Int)<((s[k].toNat:Nat):Int):=Ka;clear hx h47;go_wp2_with fail;go_round;case rel=>exact⟨k+1,Ka,Kj,hst⟩
      case measure=>exact Q7
    | false =>
     have hv:fits dayP s.data.toList=false:=by
      cases hv:fits dayP s.data.toList with
      | false=>rfl
      | true=>rw[(HF.out.1 hv).2 k _ (Jd4 s k hlt)] at hx;cases hx
     have HV:=Pe hv;clear hv;by_cases h47:k=4\/k=7
     ·have b3:(((s[k].toNat:Nat):Int) != 45)=true:=Jaf (by
       intro hc;rw[(Jud k _ h47).2 Ka] at hx;cases hx)
      clear hx;by_cases h4:k=4
      ·have b4:((k:Int)==4)=true:=Jag Ka
       have HH:=Pe h4;clear h4 h47;exact Y5
      ·have b4:((k:Int)==4)=false:=Jaa Ka
       have b7:((k:Int)==7)=true:=Jag Ka;clear h4 h47;exact Y5
     ·have hc:¬(48<=s[k].toNat/\s[k].toNat<=57):=by
       intro hc;rw[(Jje k _ h47).2 hc] at hx;cases hx
      have b4:((k:Int)==4)=false:=Jaa Ka;have b7:((k:Int)==7)=false:=Jaa Ka;clear hx h47;by_cases c1:((s[k].toNat:Nat):Int)<48
      ·clear hc
       exact Y5
      ·have c2:(57:Int)<((s[k].toNat:Nat):Int):=Ka
       clear hc;exact Y5
   ·have hv:=HF.out.2 ⟨H10.out,fun j c hl=>ht.out j c (by have:=(Pm hl).1;have h9:j<s.size:=this;omega) hl⟩
    have HV:=Pe hv;clear hv;exact Y5
 ·have n10:((s.size:Int) != 10)=true:=Jaf Ka
  have hv:=Pe (Jvw dayP s.data.toList h10);clear h10;go_enter func317,ntmps317;go_wp2_with fail;go_ret;exact⟨Jac hv.out.symm,rfl⟩
def vAt(l:List UInt8)(a:Nat):Nat:=if a=0 then val4 l else Jcc l a
theorem Jhp(s:ByteArray)(hf:fits dayP s.data.toList=true)(a n:Nat)(ha:∀i,i<n->¬(a+i=4\/a+i=7)):digs ((s.data.toList.drop a).take n)=true:=by
 obtain⟨-,h⟩:=(Jgq _).1 hf;unfold digs;rw[List.all_eq_true];intro x hx;obtain⟨i,hi⟩:=List.mem_iff_getElem?.1 hx;have hi2:i<n:=by
  have:=(Pm hi).1;exact Q6
 rw[List.getElem?_take_of_lt hi2,List.getElem?_drop] at hi;exact(Jcu _).2 ((Jje _ _ (ha i hi2)).1 (h _ _ hi))
theorem Jrn(s:ByteArray)(a b n:Nat)(hb:b=a+n)(hn:n<=4)(hd:digs ((s.data.toList.drop a).take n)=true)(w:World):
  Pb 319 #[.string (s.extract a b)] w (.int .i64 (valN ((s.data.toList.drop a).take n))):=by
 subst hb;have he:(s.extract a (a+n)).data.toList=(s.data.toList.drop a).take n:=by rw[Lib.extract_data];congr 1;omega
 have h:=Jv1 (s.extract a (a+n)) (by rw[he];exact hd) Kb w;rw[he] at h;exact h
theorem Jpl(s:ByteArray)(hf:fits dayP s.data.toList=true)(a b:Nat)(h:(a=0/\b=4)\/(a=5/\b=7)\/(a=8/\b=10))(w:World):
  Pb 319 #[.string (s.extract a b)] w (.int .i64 (vAt s.data.toList a)):=by
 rcases h with⟨rfl,rfl⟩ | ⟨rfl,rfl⟩ | ⟨rfl,rfl⟩
 ·exact Jrn s 0 4 4 rfl Kd (Jhp s hf 0 4 Ka) w
 ·exact Jrn s 5 7 2 rfl Kd (Jhp s hf 5 2 Ka) w
 ·exact Jrn s 8 10 2 rfl Kd (Jhp s hf 8 2 Ka) w
theorem Jv2(s:ByteArray)(hf:fits dayP s.data.toList=true)(hp:Jfc (vAt s.data.toList 0) (vAt s.data.toList 5) (vAt s.data.toList 8))(w:World)(hg:Good w):
  Pc 253 #[.string s] w (.tuple #[.int .i64 (dayOf (vAt s.data.toList 0) (vAt s.data.toList 5) (vAt s.data.toList 8)),.int .i64 0]):=by
 have h10:s.size=10:=((Jgq _).1 hf).1;have HD:=Pe (fun w=>Jho s w);rw[hf] at HD;have HF:=Pe hf;have HP:=Pe hp;clear hf hp;have i4:(4:Int)<=(s.size:Int):=Ka;have i7:(7:Int)<=(s.size:Int):=Ka;have i10:(10:Int)<=(s.size:Int):=Ka;have b0:=Below.refl w.heap.size w;clear h10;go_enter func253,ntmps253;go_wp2_with fail;refine(HD.out _).mono ?_;rintro e w1 ⟨rfl,rfl⟩;go_wp2_with fail;go_region_held3 (fun _=>True) (exact trivial) (first | (go_at_call 319;refine(rel (W:=w) (Jqk (Jpl s HF.out _ _ Ka _)) Y2).mono ?_;rintro e wa ⟨rfl,ba⟩) | (go_at_call 318;refine(rel (W:=w) (Jqk (Jmm _ _ _ HP.out _ (hg.below Y2))) Y2).mono ?_;rintro e wd ⟨rfl,bd⟩));exact Wc
theorem Jro(s:ByteArray)(hf:fits dayP s.data.toList=true)(hp:¬Jfc (vAt s.data.toList 0) (vAt s.data.toList 5) (vAt s.data.toList 8))(w:World)(hg:Good w):
  Pc 253 #[.string s] w (.tuple #[.int .i64 0,.int .i64 11]):=by
 have h10:s.size=10:=((Jgq _).1 hf).1;have HD:=Pe (fun w=>Jho s w);rw[hf] at HD;have HF:=Pe hf;have HP:=Pe hp;clear hf hp;have i4:(4:Int)<=(s.size:Int):=Ka;have i7:(7:Int)<=(s.size:Int):=Ka;have i10:(10:Int)<=(s.size:Int):=Ka;have b0:=Below.refl w.heap.size w;clear h10;go_enter func253,ntmps253;go_wp2_with fail;refine(HD.out _).mono ?_;rintro e w1 ⟨rfl,rfl⟩;go_wp2_with fail;go_region_held3 (fun _=>True) (exact trivial) (first | (go_at_call 319;refine(rel (W:=w) (Jqk (Jpl s HF.out _ _ Ka _)) Y2).mono ?_;rintro e wa ⟨rfl,ba⟩) | (go_at_call 318;refine(rel (W:=w) (Jqk (Jpk _ _ _ HP.out _ (hg.below Y2))) Y2).mono ?_;rintro e wd ⟨rfl,bd⟩));exact Wc
theorem Jmn(s:ByteArray)(hf:fits dayP s.data.toList=false)(w:World):
  Pb 253 #[.string s] w (.tuple #[.int .i64 0,.int .i64 3]):=by
 have HD:=Pe (Jho s w);rw[hf] at HD;clear hf;go_enter func253,ntmps253;go_wp2_with fail;refine HD.out.mono ?_;rintro e w1 ⟨rfl,rfl⟩;exact V8
theorem dparse_any(s:ByteArray)(w:World)(hg:Good w):
  Pc 253 #[.string s] w (.tuple #[.int .i64 (dayR s.data.toList).1,.int .i64 (dayR s.data.toList).2]):=by
 cases hf:fits dayP s.data.toList with
 | false=>rw[Jrk _ hf];exact Jqk (Jmn s hf w)
 | true =>
  by_cases hp:Jfc (val4 s.data.toList) (Jcc s.data.toList 5) (Jcc s.data.toList 8)
  ·rw[J43 _ hf hp];exact Jv2 s hf hp w hg
  ·rw[J0l _ hf hp];exact Jro s hf hp w hg
end S2
section
open Go
theorem Jue(s:ByteArray)(pos:Nat):∀j,1<=j->j<(Utf8.decode s pos).2->pos+j<s.size/\(s.get! (pos+j)).toNat / 64=2:=by
 intro j h1 h2;simp only[Utf8.decode] at h2;split at h2
 ·omega
 ·split at h2
  ·next h =>
   split at h2
   ·have:j=1:=Wd
    subst this;simp at h;exact h.2
   ·exact Wd
  ·split at h2
   ·next h =>
    split at h2
    ·have:j=1\/j=2:=Wd
     simp at h;rcases this with rfl | rfl
     ·exact h.1.2
     ·exact h.2
    ·exact Wd
   ·split at h2
    ·next h =>
     split at h2
     ·have:j=1\/j=2\/j=3:=Wd
      simp at h;rcases this with rfl | rfl | rfl
      ·exact h.1.1.2
      ·exact h.1.2
      ·exact h.2
     ·exact Wd
    ·exact Wd
theorem J0u(s:ByteArray)(pos j:Nat)(h1:1<=j)(h2:j<(Utf8.decode s pos).2):∃c,s.data.toList[pos+j]?=some c/\128<=c.toNat:=by
 obtain⟨h3,h4⟩:=Jue s pos j h1 h2;refine⟨s[pos+j],?_,?_⟩
 ·rw[List.getElem?_eq_getElem (by simpa using h3)];rfl
 ·have:=get_at s (pos+j) h3
  rw[Nat.add_zero] at this;rw[this] at h4;omega
theorem J0v(s:ByteArray)(pos:Nat)(h:pos<s.size):pos+(Utf8.decode s pos).2<=s.size:=by
 rcases Nat.lt_or_ge 1 (Utf8.decode s pos).2 with hk | hk
 ·have:=(Jue s pos ((Utf8.decode s pos).2 - 1) Ka Ka).1
  omega
 ·omega
theorem Jpm(p:UInt8->Bool)(hp:∀c:UInt8,128<=c.toNat->p c=true)(s:ByteArray)(pos:Nat)(h:pos<s.size)(ha:128<=s[pos].toNat)(ht:(s.data.toList.take pos).all p=true):
  (s.data.toList.take (pos+(Utf8.decode s pos).2)).all p=true:=by
 rw[List.all_eq_true] at *;intro c hc;obtain⟨i,hi⟩:=List.mem_iff_getElem?.1 hc;rw[List.getElem?_take] at hi;split at hi
 ·next hlt =>
  rcases Nat.lt_or_ge i pos with h1 | h1
  ·exact ht c (List.mem_iff_getElem?.2 ⟨i,by rw[List.getElem?_take,if_pos h1];exact hi⟩)
  ·by_cases he:i=pos
   ·subst he
    rw[List.getElem?_eq_getElem Kt] at hi;obtain rfl:=Pp hi;exact hp _ ha
   ·obtain⟨d,hd,h128⟩:=J0u s pos (i - pos) Ka Ka
    rw[show pos+(i - pos)=i by omega] at hd;rw[hd] at hi;obtain rfl:=Pp hi;exact hp _ h128
 ·cases hi
end
end Go.Proofs.YtpifdbphmnifdaaGreatDoor
