/-
  Facts of the proof. Condition: each theorem's own.
-/
import Derived.Test.YtpifdbphmnifdaaGreatDoorYR11
set_option maxRecDepth 100000
set_option maxHeartbeats 8000000
open Go.Proofs.Tryz
namespace Go.Proofs.YtpifdbphmnifdaaGreatDoor
section
open Go.RowKit
theorem Jed (r:Int) (h0:48≤r) (h1:r≤57) (w:World) :
  Calls prog 352 #[.int .i32 r] w fun e w'=>e=.returned (.bool true)∧w=w':=by
 go_enter func352,ntmps352
 go_wp2
 go_ret;exact⟨rfl,rfl⟩
theorem Jgs (r:Int) (h:r<48∨57<r) (w:World) :
  Calls prog 352 #[.int .i32 r] w fun e w'=>e=.returned (.bool false)∧w=w':=by
 rcases h with h | h
 ·go_enter func352,ntmps352
  go_wp2
  go_ret;exact⟨rfl,rfl⟩
 ·have h0:48≤r:=by omega
  have hd:decide (r≤57)=false:=by simp;omega
  go_enter func352,ntmps352
  go_wp2
  go_ret;exact⟨rfl,rfl⟩
theorem allDigits_yes (s:ByteArray) (hd:digs s.data.toList=true) (w:World) :
  Calls prog 370 #[.string s] w fun e w'=>e=.returned (.bool true)∧Below w.heap.size w w':=by
 have HD:=Lib.hid hd;clear hd;go_enter func370,ntmps370
 go_wp2
 go_loopw [] (fun w'=>∃pos:Nat,w'=w.iter s pos) (fun w'=>s.size - w'.iterPos w.heap.size)
 case atStart=>exact⟨0,rfl⟩
 case round =>
  obtain⟨pos,rfl⟩:=hrel;by_cases hp:pos<s.size
  ·have hc:=Jj0 s pos hp HD.out
   have hnx:∀ty,(Instr.next (.pointer (some ⟨w.heap.size,0,none⟩)) true ty).run prog (w.iter s pos)=_:=fun ty=>run_next_ascii w s pos ty hp (by omega)
   go_wp2_with (go_at_call 352;refine (Jed _ (by omega) (by omega) _).mono ?_;rintro e w' ⟨rfl,rfl⟩)
   go_roundw
   case rel=>exact⟨pos+1,rfl⟩
   case measure=>simp;omega
  ·have hnx:∀ty,(Instr.next (.pointer (some ⟨w.heap.size,0,none⟩)) true ty).run prog (w.iter s pos)=_:=fun ty=>run_next_end w s pos ty hp
   go_wp2
   go_ret;exact⟨rfl,Ja1 _ _ _⟩
theorem allDigits_no (s:ByteArray) (hd:digs s.data.toList=false) (w:World) :
  Calls prog 370 #[.string s] w fun e w'=>e=.returned (.bool false)∧Below w.heap.size w w':=by
 have HD:=Lib.hid hd;clear hd;go_enter func370,ntmps370
 go_wp2
 go_loopw [] (fun w'=>∃pos:Nat,w'=w.iter s pos∧Hid (digs (s.data.toList.take pos)=true)) (fun w'=>s.size - w'.iterPos w.heap.size)
 case atStart=>exact⟨0,rfl,Lib.hid rfl⟩
 case round =>
  obtain⟨pos,rfl,ht⟩:=hrel;by_cases hp:pos<s.size
  ·by_cases hc:48≤s[pos].toNat∧s[pos].toNat≤57
   ·have hst:=Lib.hid (Jlf s pos hp ht.out hc)
    have hnx:∀ty,(Instr.next (.pointer (some ⟨w.heap.size,0,none⟩)) true ty).run prog (w.iter s pos)=_:=fun ty=>run_next_ascii w s pos ty hp (by omega)
    go_wp2_with (go_at_call 352;refine (Jed _ (by omega) (by omega) _).mono ?_;rintro e w' ⟨rfl,rfl⟩)
    go_roundw
    case rel=>exact⟨pos+1,rfl,hst⟩
    case measure=>simp;omega
   ·by_cases ha:s[pos].toNat<128
    ·have hnx:∀ty,(Instr.next (.pointer (some ⟨w.heap.size,0,none⟩)) true ty).run prog (w.iter s pos)=_:=fun ty=>run_next_ascii w s pos ty hp ha
     go_wp2_with (go_at_call 352;refine (Jgs _ (by omega) _).mono ?_;rintro e w' ⟨rfl,rfl⟩)
     go_ret;exact⟨rfl,Ja1 _ _ _⟩
    ·have hh:=(decode_high s pos hp (by omega)).1
     have hnx:∀ty,(Instr.next (.pointer (some ⟨w.heap.size,0,none⟩)) true ty).run prog (w.iter s pos)=_:=fun ty=>run_next_any w s pos ty hp
     go_wp2_with (go_at_call 352;refine (Jgs _ (by omega) _).mono ?_;rintro e w' ⟨rfl,rfl⟩)
     go_ret;exact⟨rfl,Ja1 _ _ _⟩
  ·have hf:=Jg2 s pos hp ht.out
   rw [HD.out] at hf;cases hf
theorem Jmg (s:ByteArray) (hd:digs s.data.toList=true) (hl:s.size≤6) (w:World) :
  Calls prog 322 #[.string s] w fun e w'=>e=.returned (.int .i64 (valN s.data.toList))∧Below w.heap.size w w':=by
 have HD:=Lib.hid hd;clear hd;go_enter func322,ntmps322
 go_wp2
 go_loopw [3] (fun n w'=>∃pos:Nat,w'=w.iter s pos∧n=.int .i64 (valN (s.data.toList.take pos))∧pos≤s.size) (fun _ w'=>s.size - w'.iterPos w.heap.size)
 case atStart=>exact⟨0,rfl,rfl,Nat.zero_le _⟩
 case round =>
  obtain⟨pos,rfl,rfl,hle⟩:=hrel;by_cases hp:pos<s.size
  ·have hc:=Jj0 s pos hp HD.out
   have hv:valN (s.data.toList.take pos)<1000000:=by
    have h1:=Jjz _ (Jle _ pos HD.out);have h2:(s.data.toList.take pos).length≤6:=Nat.le_trans (List.length_take_le _ _) (by omega);exact Nat.lt_of_lt_of_le h1 (Nat.pow_le_pow_right (by decide) h2)
   have hs:=Lib.hid (Jhu (s.data.toList.take pos) s[pos]);have ht:=Lib.hid (Jff s pos hp);have hnx:∀ty,(Instr.next (.pointer (some ⟨w.heap.size,0,none⟩)) true ty).run prog (w.iter s pos)=_:=fun ty=>run_next_ascii w s pos ty hp (by omega)
   go_wp2
   go_roundw
   case rel=>exact⟨pos+1,rfl,by rw [ht.out,hs.out];go_num,by omega⟩
   case measure=>simp;omega
  ·have hnx:∀ty,(Instr.next (.pointer (some ⟨w.heap.size,0,none⟩)) true ty).run prog (w.iter s pos)=_:=fun ty=>run_next_end w s pos ty hp
   have he:=Lib.hid (List.take_of_length_le (l:=s.data.toList) (i:=pos) (by simpa using hp));go_wp2
   go_ret;exact⟨by rw [he.out];rfl,Ja1 _ _ _⟩
theorem Jod (s:ByteArray) (h8:s.size≠8) (w:World) :
  Calls prog 320 #[.string s] w fun e w'=>e=.returned (.bool false)∧Below w.heap.size w w':=by
 have h:((s.size:Int)==8)=false:=by rw [beq_eq_false_iff_ne];omega
 have h':((s.size:Int) != 8)=true:=by rw [bne,h];rfl
 go_enter func320,ntmps320
 go_wp2
 all_goals go_ret
 all_goals exact⟨rfl,Below.refl _ _⟩
theorem Jfw (s:ByteArray) (pos:Nat) (hp:pos<s.size) (ho:okAt pos s[pos]=true):s[pos].toNat<128∧(pos=2∨pos=5→s[pos].toNat=58)∧(¬(pos=2∨pos=5)→48≤s[pos].toNat∧s[pos].toNat≤57):=by
 by_cases hk:pos=2∨pos=5
 ·have:=(Jjk pos _ hk).1 ho
  exact⟨by omega,fun _=>this,fun h=>absurd hk h⟩
 ·have:=(Jgr pos _ hk).1 ho
  exact⟨by omega,fun h=>absurd h hk,fun _=>this⟩
theorem Jic (s:ByteArray) (hf:Jbt s.data.toList=true) (w:World) :
  Calls prog 320 #[.string s] w fun e w'=>e=.returned (.bool true)∧Below w.heap.size w w':=by
 have h8:s.size=8:=(Jgq _ hf).1;have HD:=Lib.hid (Jgq _ hf).2;clear hf;have h:((s.size:Int)==8)=true:=by rw [beq_iff_eq];omega
 have h':((s.size:Int) != 8)=false:=by rw [bne,h];rfl
 have H8:=Lib.hid h8;clear h8;go_enter func320,ntmps320
 go_wp2
 go_loopw [] (fun w'=>∃pos:Nat,w'=w.iter s pos) (fun w'=>s.size - w'.iterPos w.heap.size)
 case atStart=>exact⟨0,rfl⟩
 case round =>
  clear h h';obtain⟨pos,rfl⟩:=hrel;by_cases hp:pos<s.size
  ·obtain⟨ha,hc,hd⟩:=Jfw s pos hp (HD.out pos _ (Jdq s pos hp))
   have hnx:∀ty,(Instr.next (.pointer (some ⟨w.heap.size,0,none⟩)) true ty).run prog (w.iter s pos)=_:=fun ty=>run_next_ascii w s pos ty hp ha
   by_cases h2:pos=2
   ·have hc:=hc (Or.inl h2)
    have b2:((pos:Int)==2)=true:=by rw [beq_iff_eq];omega
    have b3:(((s[pos].toNat:Nat):Int) != 58)=false:=by rw [hc];rfl
    have HH:=Lib.hid (And.intro h2 hc);clear h2 hc hd;go_wp2
    go_roundw
    case rel=>exact⟨pos+1,rfl⟩
    case measure=>simp;omega
   ·by_cases h5:pos=5
    ·have hc:=hc (Or.inr h5)
     have b2:((pos:Int)==2)=false:=Jac (by omega);have b5:((pos:Int)==5)=true:=by rw [beq_iff_eq];omega
     have b3:(((s[pos].toNat:Nat):Int) != 58)=false:=by rw [hc];rfl
     have HH:=Lib.hid (And.intro h5 hc);clear h2 h5 hc hd;go_wp2
     go_roundw
     case rel=>exact⟨pos+1,rfl⟩
     case measure=>simp;omega
    ·have hd:=hd (by omega)
     have b2:((pos:Int)==2)=false:=Jac (by omega);have b5:((pos:Int)==5)=false:=Jac (by omega);clear hc;go_wp2_with (go_at_call 352;refine (Jed _ (by omega) (by omega) _).mono ?_;rintro e w' ⟨rfl,rfl⟩)
     go_roundw
     case rel=>exact⟨pos+1,rfl⟩
     case measure=>simp;omega
  ·have hnx:∀ty,(Instr.next (.pointer (some ⟨w.heap.size,0,none⟩)) true ty).run prog (w.iter s pos)=_:=fun ty=>run_next_end w s pos ty hp
   go_wp2
   go_ret;exact⟨rfl,Ja1 _ _ _⟩
theorem J1q (s:ByteArray) (pos:Nat) (hp:pos<s.size) (hx:okAt pos s[pos]=false) :
  (pos=2∨pos=5→(Utf8.decode s pos).1≠58)∧(¬(pos=2∨pos=5)→(Utf8.decode s pos).1<48∨57<(Utf8.decode s pos).1):=by
 by_cases ha:s[pos].toNat<128
 ·rw [decode_ascii s pos hp ha]
  refine⟨fun hk he=>?_,fun hk=>?_⟩
  ·rw [(Jjk pos _ hk).2 he] at hx;cases hx
  ·by_cases hd:48≤s[pos].toNat∧s[pos].toNat≤57
   ·rw [(Jgr pos _ hk).2 hd] at hx;cases hx
   ·show s[pos].toNat<48∨57<s[pos].toNat
    omega
 ·have:=(decode_high s pos hp (by omega)).1
  exact⟨fun _=>by omega,fun _=>by omega⟩
theorem Jsn (s:ByteArray) (hf:Jbt s.data.toList=false) (w:World) :
  Calls prog 320 #[.string s] w fun e w'=>e=.returned (.bool false)∧Below w.heap.size w w':=by
 by_cases h8:s.size≠8
 ·exact Jod s h8 w
 have h8:s.size=8:=by omega
 have HD:=Lib.hid hf;clear hf;have h:((s.size:Int)==8)=true:=by rw [beq_iff_eq];omega
 have h':((s.size:Int) != 8)=false:=by rw [bne,h];rfl
 have H8:=Lib.hid h8;clear h8;go_enter func320,ntmps320
 go_wp2
 go_loopw [] (fun w'=>∃pos:Nat,w'=w.iter s pos∧Hid (∀k c,k<pos→s.data.toList[k]?=some c→okAt k c=true)) (fun w'=>s.size - w'.iterPos w.heap.size)
 case atStart=>exact⟨0,rfl,Lib.hid (fun k c hk=>absurd hk (Nat.not_lt_zero _))⟩
 case round =>
  clear h h';obtain⟨pos,rfl,ht⟩:=hrel;by_cases hp:pos<s.size
  ·cases hx:okAt pos s[pos] with
   | true =>
    obtain⟨ha,hc,hd⟩:=Jfw s pos hp hx;have hst:Hid (∀k c,k<pos+1→s.data.toList[k]?=some c→okAt k c=true):=by
     intro k c hk hl;by_cases hkp:k<pos
     ·exact ht.out k c hkp hl
     ·obtain rfl:k=pos:=by omega
      rw [Jdq s k hp] at hl;cases hl
      exact hx
    clear hx;have hnx:∀ty,(Instr.next (.pointer (some ⟨w.heap.size,0,none⟩)) true ty).run prog (w.iter s pos)=_:=fun ty=>run_next_ascii w s pos ty hp ha
    by_cases h2:pos=2
    ·have hc:=hc (Or.inl h2)
     have b2:((pos:Int)==2)=true:=by rw [beq_iff_eq];omega
     have b3:(((s[pos].toNat:Nat):Int) != 58)=false:=by rw [hc];rfl
     have HH:=Lib.hid (And.intro h2 hc);clear h2 hc hd;go_wp2
     go_roundw
     case rel=>exact⟨pos+1,rfl,hst⟩
     case measure=>simp;omega
    ·by_cases h5:pos=5
     ·have hc:=hc (Or.inr h5)
      have b2:((pos:Int)==2)=false:=Jac (by omega);have b5:((pos:Int)==5)=true:=by rw [beq_iff_eq];omega
      have b3:(((s[pos].toNat:Nat):Int) != 58)=false:=by rw [hc];rfl
      have HH:=Lib.hid (And.intro h5 hc);clear h2 h5 hc hd;go_wp2
      go_roundw
      case rel=>exact⟨pos+1,rfl,hst⟩
      case measure=>simp;omega
     ·have hd:=hd (by omega)
      have b2:((pos:Int)==2)=false:=Jac (by omega);have b5:((pos:Int)==5)=false:=Jac (by omega);clear hc;go_wp2_with (go_at_call 352;refine (Jed _ (by omega) (by omega) _).mono ?_;rintro e w' ⟨rfl,rfl⟩)
      go_roundw
      case rel=>exact⟨pos+1,rfl,hst⟩
      case measure=>simp;omega
   | false =>
    obtain⟨hc,hd⟩:=J1q s pos hp hx;clear hx;have hnx:∀ty,(Instr.next (.pointer (some ⟨w.heap.size,0,none⟩)) true ty).run prog (w.iter s pos)=_:=fun ty=>run_next_any w s pos ty hp
    by_cases h2:pos=2
    ·have hc:=hc (Or.inl h2)
     have b2:((pos:Int)==2)=true:=by rw [beq_iff_eq];omega
     have b3:((((Utf8.decode s pos).1:Nat):Int) != 58)=true:=Jae (by omega);have HH:=Lib.hid (And.intro h2 hc);clear h2 hc hd;go_wp2
     go_ret;exact⟨rfl,Ja1 _ _ _⟩
    ·by_cases h5:pos=5
     ·have hc:=hc (Or.inr h5)
      have b2:((pos:Int)==2)=false:=Jac (by omega);have b5:((pos:Int)==5)=true:=by rw [beq_iff_eq];omega
      have b3:((((Utf8.decode s pos).1:Nat):Int) != 58)=true:=Jae (by omega);have HH:=Lib.hid (And.intro h5 hc);clear h2 h5 hc hd;go_wp2
      go_ret;exact⟨rfl,Ja1 _ _ _⟩
     ·have hd:=hd (by omega)
      have b2:((pos:Int)==2)=false:=Jac (by omega);have b5:((pos:Int)==5)=false:=Jac (by omega);clear hc;go_wp2_with (go_at_call 352;refine (Jgs _ (by omega) _).mono ?_;rintro e w' ⟨rfl,rfl⟩)
      go_ret;exact⟨rfl,Ja1 _ _ _⟩
  ·have hfm:=Jwx s.data.toList H8.out (fun k c hl=>ht.out k c (by have:=(List.getElem?_eq_some_iff.1 hl).1;have h9:k<s.size:=this;omega) hl)
   rw [HD.out] at hfm;cases hfm
theorem Jw2 (s:ByteArray) (hf:Jbt s.data.toList=true) (a:Nat) (ha:a=0∨a=3∨a=6):digs ((s.data.toList.drop a).take 2)=true:=by
 obtain⟨h8,h⟩:=Jgq _ hf;unfold digs;rw [List.all_eq_true];intro x hx;obtain⟨i,hi⟩:=List.mem_iff_getElem?.1 hx;have hi2:i<2:=by
  have:=(List.getElem?_eq_some_iff.1 hi).1;simp at this;omega
 rw [List.getElem?_take_of_lt hi2,List.getElem?_drop] at hi;exact (Jcb _).2 ((Jgr _ _ (by omega)).1 (h _ _ hi))
theorem J1r (s:ByteArray) (a:Nat) (b:Nat) (hb:b=a+2) (hd:digs ((s.data.toList.drop a).take 2)=true) (hs:a+2≤s.size) (w:World) :
  Calls prog 322 #[.string (s.extract a b)] w fun e w'=>e=.returned (.int .i64 (Jbk s.data.toList a))∧Below w.heap.size w w':=by
 subst hb;have he:(s.extract a (a+2)).data.toList=(s.data.toList.drop a).take 2:=by rw [Lib.extract_data];congr 1;omega
 have h:=Jmg (s.extract a (a+2)) (by rw [he];exact hd) (by simp;omega) w;rw [he] at h;exact h
theorem Jjl (s:ByteArray) (hf:Jbt s.data.toList=true) (a b:Nat) (hb:b=a+2) (ha:a=0∨a=3∨a=6) (w:World) :
  Calls prog 322 #[.string (s.extract a b)] w fun e w'=>e=.returned (.int .i64 (Jbk s.data.toList a))∧Below w.heap.size w w' :=
 J1r s a b hb (Jw2 s hf a ha) (by have:s.size=8:=(Jgq _ hf).1;omega) w
theorem Jw3 (s:ByteArray) (hf:Jbt s.data.toList=true) (hp:Jh9 (Jbk s.data.toList 0) (Jbk s.data.toList 3) (Jbk s.data.toList 6)) (w:World) :
  Calls prog 254 #[.string s] w fun e w'=>e=.returned (.tuple #[.int .i64 ((Jbk s.data.toList 0:Int)*3600+(Jbk s.data.toList 3:Int)*60+(Jbk s.data.toList 6:Int)),.int .i64 0])∧Below w.heap.size w w':=by
 have h8:s.size=8:=(Jgq _ hf).1;have HF:=Lib.hid hf;have HP:=Lib.hid hp;clear hf hp;have g2:2≤s.size:=by omega
 have g5:5≤s.size:=by omega
 have g8:8≤s.size:=by omega
 have i2:(2:Int)≤(s.size:Int):=by omega
 have i5:(5:Int)≤(s.size:Int):=by omega
 have i8:(8:Int)≤(s.size:Int):=by omega
 clear h8;go_enter func254,ntmps254
 go_wp2_with fail
 refine (Jic s HF.out _).mono ?_;rintro e w1 ⟨rfl,b1⟩;go_wp2_with fail
 go_region_held3 (fun _=>True) (exact trivial) (first | (go_at_call 322;refine (rel (W:=w) (Jjl s HF.out _ _ (by omega) (by omega) _) (by first | assumption | (apply Below.drew;assumption))).mono ?_;rintro e wa ⟨rfl,ba⟩) | (go_at_call 321;refine (J1m _ _ _ HP.out _).mono ?_;rintro e wd ⟨rfl,rfl⟩))
 go_wp2_with fail
 go_ret2;exact⟨rfl,by assumption⟩
theorem Jso (s:ByteArray) (hf:Jbt s.data.toList=true) (hp:¬Jh9 (Jbk s.data.toList 0) (Jbk s.data.toList 3) (Jbk s.data.toList 6)) (w:World) :
  Calls prog 254 #[.string s] w fun e w'=>e=.returned (.tuple #[.int .i64 0,.int .i64 10])∧Below w.heap.size w w':=by
 have h8:s.size=8:=(Jgq _ hf).1;have HF:=Lib.hid hf;have HP:=Lib.hid hp;clear hf hp;have g2:2≤s.size:=by omega
 have g5:5≤s.size:=by omega
 have g8:8≤s.size:=by omega
 have i2:(2:Int)≤(s.size:Int):=by omega
 have i5:(5:Int)≤(s.size:Int):=by omega
 have i8:(8:Int)≤(s.size:Int):=by omega
 clear h8;go_enter func254,ntmps254
 go_wp2_with fail
 refine (Jic s HF.out _).mono ?_;rintro e w1 ⟨rfl,b1⟩;go_wp2_with fail
 go_region_held3 (fun _=>True) (exact trivial) (first | (go_at_call 322;refine (rel (W:=w) (Jjl s HF.out _ _ (by omega) (by omega) _) (by first | assumption | (apply Below.drew;assumption))).mono ?_;rintro e wa ⟨rfl,ba⟩) | (go_at_call 321;refine (J7s _ _ _ HP.out _).mono ?_;rintro e wd ⟨rfl,rfl⟩))
 go_wp2_with fail
 go_ret2;exact⟨rfl,by assumption⟩
theorem Jmh (s:ByteArray) (hf:Jbt s.data.toList=false) (w:World) :
  Calls prog 254 #[.string s] w fun e w'=>e=.returned (.tuple #[.int .i64 0,.int .i64 3])∧Below w.heap.size w w':=by
 have HF:=Lib.hid hf;clear hf;go_enter func254,ntmps254
 go_wp2_with fail
 refine (Jsn s HF.out _).mono ?_;rintro e w1 ⟨rfl,b1⟩;go_wp2_with fail
 go_ret2;exact⟨rfl,b1⟩
end
end Go.Proofs.YtpifdbphmnifdaaGreatDoor
