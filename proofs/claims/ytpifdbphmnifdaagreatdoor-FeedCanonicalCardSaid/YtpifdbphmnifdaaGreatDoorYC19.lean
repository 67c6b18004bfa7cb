/-
  Facts. Condition: each theorem's own.
-/
import Derived.Lib.SplitLaws
import Derived.Lib.Join
import Derived.Lib.IndexBytes
import Derived.Deep.LoopGhost
import Derived.Test.YtpifdbphmnifdaaGreatDoorYC18
set_option maxRecDepth 100000
set_option maxHeartbeats 8000000
section
variable {p:Prop}
theorem Uu (h:p:=by go_wp2_with fail;go_ret;exact⟨Jab (by rw [←EP.out,hres.out]),Ja6 _ _ _⟩):p:=h
theorem Uv (h:p:=by rintro e w1 ⟨rfl,b1⟩;go_wp2_with fail;go_ret2;exact⟨Jck Va Va,b1⟩):p:=h
theorem Uw (h:p:=by rintro e w1 ⟨rfl,b1⟩;go_wp2_with fail;go_ret2;exact⟨Jck (by rw [R.out,Ja5]) Va,b1⟩):p:=h
theorem Ux (h:p:=by rw [Jcn];simpa using h0):p:=h
theorem Uy (h:p:=by have:=BB2.out.size;simp;omega):p:=h
theorem Uz (h:p:=by have:=HZ.out;simp;omega):p:=h
theorem U0 (h:p:=by go_simp):p:=h
theorem U1 (h:p:=by go_ret;exact⟨rfl,Pg⟩):p:=h
theorem U2 (h:p:=by go_wp2_with fail;go_ret2;exact Jfk.err R.out Pg):p:=h
theorem U3 (h:p:=by rw [←hn,←hu];exact hud):p:=h
theorem U8 (h:p:=by have:=R.out;omega):p:=h
theorem U9 (h:p:=by rw [hG];intro e;exact hqs (by rw [←hq,e,Ja5])):p:=h
end
open Go.Proofs.Tryz
namespace Go.Proofs.YtpifdbphmnifdaaGreatDoor
namespace S4
open Go
theorem Jv1 (l:List UInt8) (c:UInt8):Ja9 (l++[c])=Ja9 l++esc c:=Yx
theorem Jv2 (l:List UInt8) (k:Nat) (c:UInt8) (h:l[k]?=some c):Ja9 (l.take (k+1))=Ja9 (l.take k)++esc c:=by rw [Jbv l k c h,Jv1]
theorem Qe2 (c:UInt8):(esc c).length≤4:=by
 unfold esc;split
 ·simp
 ·split <;> simp
theorem Jik:∀l:List UInt8,(Ja9 l).length≤4*l.length
 | []=>Yx
 | c::l=>by
  have e:Ja9 (c::l)=esc c++Ja9 l:=Yx;have h1:=Qe2 c;have h2:=Jik l;rw [e,Pp,List.length_cons];omega
theorem Jmq (l:List UInt8) (k:Nat):(Ja9 (l.take k)).length≤4*l.length:=by
 have h1:=Jik (l.take k);have h2:(l.take k).length≤l.length:=J6;omega
theorem Jt5 (l:List UInt8):(Jam l).length≤4*l.length+2:=by
 unfold Jam;split
 ·omega
 ·have:=Jik l
  exact Ke
theorem Jlc (c:UInt8) (h:ctl c=true):esc c=[92,120,hexD (c.toNat / 16),hexD (c.toNat % 16)]:=by unfold esc;rw [if_pos h]
theorem Jjo (c:UInt8) (h:ctl c=false) (h2:c=34∨c=92):esc c=[92,c]:=by
 unfold esc;rw [if_neg X5,if_pos (by rcases h2 with rfl | rfl <;> rfl)]
theorem Jjp (c:UInt8) (h:ctl c=false) (h2:c≠34) (h3:c≠92):esc c=[c]:=by
 unfold esc;rw [if_neg X5,if_neg (by simp [h2,h3])]
theorem J0w (c:UInt8):pln c=true↔c.toNat≠44∧c.toNat≠34∧c.toNat≠92∧¬(c.toNat<32)∧c.toNat≠127:=by
 have e:∀k:UInt8,(c=k)=(c.toNat=k.toNat):=fun k=>propext ⟨fun h=>Qj,fun h=>UInt8.toNat_inj.1 h⟩
 unfold pln ctl;simp only [Bool.not_eq_true',Bool.or_eq_false_iff,beq_eq_false_iff_ne,decide_eq_false_iff_not,ne_eq,e,not_or];simp [and_assoc]
theorem J5g (c:UInt8) (h:128≤c.toNat):pln c=true:=(J0w c).2 ⟨Kd,Kd,Kd,Kd,Kd⟩
theorem Jpk (l:List UInt8):Jbz l=true↔l.all pln=true∧l≠[]∧l[0]?≠some 32∧l[l.length - 1]?≠some 32:=by
 unfold Jbz;rw [Bool.and_eq_true,Bool.and_eq_true,Bool.and_eq_true,List.head?_eq_getElem?,List.getLast?_eq_getElem?];simp [and_assoc]
theorem Jpl (l:List UInt8) (h:l.all pln=false):Jbz l=false:=by
 cases hp:Jbz l with
 | false=>rfl
 | true=>rw [((Jpk l).1 hp).1] at h;cases h
def digV (c:UInt8):Nat:=(Lib.indexByte [48,49,50,51,52,53,54,55,56,57,97,98,99,100,101,102] c % 256).toNat
theorem J0x (c:UInt8):digV c<256:=by unfold digV;omega
theorem Jpm:∀n,n<16→digV (hexD n)=n:=Kl
def cutQ:List UInt8→List UInt8
 | []=>[]
 | c::r=>if c≠92 then c::cutQ r else match r with
  | []=>[]
  | d::q=>match q with
   | x::y::z=>if d=120 then UInt8.ofNat (digV x*16+digV y)::cutQ z else d::cutQ (x::y::z)
   | [x]=>d::cutQ [x]
   | []=>[d]
theorem Jgt:cutQ []=[]:=by rw [cutQ.eq_def]
theorem Jho (c:UInt8) (r:List UInt8) (h:c≠92):cutQ (c::r)=c::cutQ r:=by rw [cutQ.eq_def];simp [h]
theorem Jt6:cutQ [92]=[]:=by rw [cutQ.eq_def];rfl
theorem Jmr (x y:UInt8) (z:List UInt8):cutQ (92::120::x::y::z)=UInt8.ofNat (digV x*16+digV y)::cutQ z:=by rw [cutQ.eq_def];rfl
theorem Jjq (d:UInt8) (q:List UInt8) (h:d≠120∨q.length<2):cutQ (92::d::q)=d::cutQ q:=by
 rw [cutQ.eq_def];simp only [ne_eq,not_true_eq_false,if_false];match q,h with
 | [],_=>simp [Jgt]
 | [x],_=>rfl
 | x::y::z,h =>
  have:d≠120:=by rcases h with h | h;exact h;simp at h;omega
  simp [this]
theorem Jms:∀(p r:List UInt8),(92:UInt8) ∉ p→cutQ (p++r)=p++cutQ r
 | [],_,_=>rfl
 | c::p,r,h=>by
  have h1:c≠92:=fun e=>h (by simp [e])
  rw [List.cons_append,Jho _ _ h1,Jms p r (fun hm=>h (by simp [hm]))];rfl
theorem J5h (c:UInt8) (r:List UInt8):cutQ (esc c++r)=c::cutQ r:=by
 have hc:=c.toNat_lt;cases h:ctl c with
 | true =>
  rw [Jlc c h];show cutQ (92::120::hexD (c.toNat / 16)::hexD (c.toNat % 16)::r)=_
  rw [Jmr,Jpm _ Kd,Jpm _ Kd,show c.toNat / 16*16+c.toNat % 16=c.toNat by omega,UInt8.ofNat_toNat]
 | false =>
  by_cases h2:c=34∨c=92
  ·rw [Jjo c h h2]
   show cutQ (92::c::r)=_
   rw [Jjq c r (Or.inl (by rcases h2 with rfl | rfl <;> decide))]
  ·rw [Jjp c h (fun e=>h2 (Or.inl e)) (fun e=>h2 (Or.inr e))]
   exact Jho c r (fun e=>h2 (Or.inr e))
theorem Jld:∀l:List UInt8,cutQ (Ja9 l)=l
 | []=>Jgt
 | c::l=>by
  have e:Ja9 (c::l)=esc c++Ja9 l:=Yx;rw [e,J5h,Jld l]
theorem Jmt:∀(n:Nat) (l:List UInt8),l.length≤n→(cutQ l).length≤l.length
 | 0,l,h=>by
  rw [List.length_eq_zero_iff.1 (Nat.le_zero.1 h),Jgt];exact Nat.le_refl _
 | n+1,[],_=>by rw [Jgt];exact Nat.le_refl _
 | n+1,c::r,h=>by
  simp only [List.length_cons] at h;by_cases hc:c=92
  ·subst hc
   match r,h with
   | [],_=>rw [Jt6];simp
   | d::q,h =>
    simp only [List.length_cons] at h;by_cases hd:d≠120∨q.length<2
    ·rw [Jjq d q hd]
     have:=Jmt n q Kd;exact Vn
    ·obtain⟨rfl,hq⟩:d=120∧2≤q.length:=⟨Classical.byContradiction fun h=>hd (Or.inl h),by rcases Nat.lt_or_ge q.length 2 with h | h;exact absurd (Or.inr h) hd;exact h⟩
     match q,hq,h with
     | x::y::z,_,h =>
      simp only [List.length_cons] at h;rw [Jmr];have:=Jmt n z Kd;exact Vn
  ·rw [Jho c r hc]
   have:=Jmt n r Kd;exact Vn
def Jek (s:List UInt8):List UInt8:=if 2≤s.length∧s[0]?=some 34∧s[s.length - 1]?=some 34 then cutQ ((s.drop 1).take (s.length - 2)) else s
theorem J5i (s:List UInt8):(Jek s).length≤s.length:=by
 unfold Jek;split
 ·have:=Jmt _ ((s.drop 1).take (s.length - 2)) Ph
  rw [List.length_take,List.length_drop] at this;omega
 ·exact Nat.le_refl _
theorem Jrd (t:List UInt8):Jek (Jam t)=t:=by
 unfold Jek Jam;cases h:Jbz t with
 | true =>
  rw [if_pos rfl,if_neg];rintro⟨_,h2,_⟩;obtain⟨c,r,rfl,hc⟩:=Jky h;simp at h2;exact hc h2
 | false =>
  simp only [Bool.false_eq_true,if_false];have hl:(34::(Ja9 t++[34])).length=(Ja9 t).length+2:=Kj;rw [if_pos ⟨Kd,rfl,by rw [hl];simp⟩,hl];rw [show ((34::(Ja9 t++[34])).drop 1).take ((Ja9 t).length+2 - 2)=Ja9 t by simp];exact Jld t
theorem Jpn (s:List UInt8):unq s=if Jam (Jek s)=s then some (Jek s) else none:=by
 split
 ·next h=>exact (Jzh _ _).2 h
 ·next h =>
  cases hu:unq s with
  | none=>rfl
  | some t =>
   have:=(Jzh _ _).1 hu;rw [←this,Jrd] at h;exact absurd rfl h
theorem Jjr:∀(l:List (List UInt8)),Lib.join (l.map Jam) [44]=Jas l
 | []=>rfl
 | [x]=>by rw [List.map_cons,List.map_nil,Lib.join_one];rfl
 | x::y::l=>by
  have ih:=Jjr (y::l);rw [List.map_cons,Lib.join_cons] at ih ⊢;have e2:Jas (x::y::l)=Jam x++44::Jas (y::l):=rfl;rw [e2,←ih];simp [Lib.joinTail]
theorem line_le (B:Nat):∀(l:List (List UInt8)),(∀x∈l,x.length≤B)→(Jas l).length≤l.length*(4*B+3)
 | [],_=>by simp [Jas]
 | [x],h=>by
  have:=h x Kj;have h2:=Jt5 x;show (Jam x).length≤_
  exact Ke
 | x::y::l,h=>by
  have ih:=line_le B (y::l) (fun z hz=>h z (by simp [hz]));have e2:Jas (x::y::l)=Jam x++44::Jas (y::l):=rfl;have:=h x Kj;have h2:=Jt5 x;rw [e2,Pp,List.length_cons,List.length_cons,Nat.succ_mul];omega
theorem Jmu:∀(n:Nat) (l:List UInt8),l.length≤n→qend l≤l.length
 | 0,l,h=>by rw [List.length_eq_zero_iff.1 (Nat.le_zero.1 h)];exact Nat.le_refl _
 | n+1,[],_=>Nat.le_refl _
 | n+1,c::r,h=>by
  simp only [List.length_cons] at h;by_cases h1:c=34
  ·subst h1;rw [Jqo];simp
  ·by_cases h2:c=92
   ·subst h2
    match r,h with
    | [],_=>rw [qend.eq_def];simp
    | d::q,h =>
     simp only [List.length_cons] at h;rw [Jl9];have:=Jmu n q Kd;exact Vn
   ·rw [Jed c r h1 h2]
    have:=Jmu n r Kd;exact Vn
theorem Qe3 (l:List UInt8):endL l≤l.length:=by
 unfold endL;split
 ·exact Nat.le_refl _
 ·next c r =>
  split
  ·have:=Jmu _ r Ph
   exact Vn
  ·exact (List.takeWhile_prefix _).length_le
theorem end_q (r:List UInt8):endL (34::r)=1+qend r:=by unfold endL;rw [if_pos rfl]
theorem end_p (l:List UInt8) (h:l[0]?≠some 34):endL l=(l.takeWhile (· != 44)).length:=by
 unfold endL;cases l with
 | nil=>rfl
 | cons c r =>
  simp at h;simp only [];rw [if_neg h]
theorem Qa7 (l:List UInt8) (k:Nat) (c:UInt8) (h:l[k]?=some c) (hc:c≠44):((l.drop k).takeWhile (· != 44)).length=1+((l.drop (k+1)).takeWhile (· != 44)).length:=by
 rw [Jbd l k c h,List.takeWhile_cons_of_pos (by simpa using hc),List.length_cons];omega
theorem Qa8 (l:List UInt8) (k:Nat) (h:l[k]?=some 44):((l.drop k).takeWhile (· != 44)).length=0:=by
 rw [Jbd l k 44 h,List.takeWhile_cons_of_neg Kl];rfl
theorem Qa9 (l:List UInt8) (k:Nat) (h:l[k]?=some 34):qend (l.drop k)=1:=by rw [Jbd l k 34 h,Jqo]
theorem Qba (l:List UInt8) (k:Nat) (c:UInt8) (h:l[k]?=some c) (h1:c≠34) (h2:c≠92):qend (l.drop k)=1+qend (l.drop (k+1)):=by rw [Jbd l k c h,Jed c _ h1 h2]
theorem Qe4 (l:List UInt8) (k:Nat) (h:l[k]?=some 92) (hk:k+1<l.length):qend (l.drop k)=2+qend (l.drop (k+2)):=by
 obtain⟨d,hd⟩:=Jah hk;rw [Jbd l k 92 h,Jbd l (k+1) d hd,Jl9]
theorem Qbb (l:List UInt8) (k:Nat) (h:l[k]?=some 92) (hk:¬k+1<l.length):qend (l.drop k)=1:=by
 rw [Jbd l k 92 h,List.drop_eq_nil_of_le Kd,qend.eq_def];rfl
theorem J7w (l:List UInt8) (k:Nat) (h:¬k<l.length):qend (l.drop k)=0:=by
 rw [List.drop_eq_nil_of_le Kd,qend.eq_def]
theorem J0y (l:List (List UInt8)) (k:Nat) (x:List UInt8) (h:l[k]?=some x):Jay (l.take (k+1))=Jay (l.take k)++x++[10]:=by rw [Jbv l k x h];simp [Jay]
theorem Jpo:∀(l:List (List UInt8)),l≠[]→Lib.join l [10]++[10]=Jay l
 | [],h=>absurd rfl h
 | [x],_=>by rw [Lib.join_one];simp [Jay]
 | x::y::l,_=>by
  have ih:=Jpo (y::l) Kj;rw [Lib.join_cons] at ih ⊢;have e:Jay (x::y::l)=x++10::Jay (y::l):=by simp [Jay]
  rw [e,←ih];simp [Lib.joinTail]
theorem J5j (l:List (List UInt8)) (h:(Jay l).length=0):l=[]:=by
 cases l with
 | nil=>rfl
 | cons x l=>simp [Jay] at h
theorem Jgu (o:List (List UInt8)):∀(l c:List UInt8),l.foldl (fun s b=>if b==10 then (s.1++[s.2],[]) else (s.1,s.2++[b])) (o,c)=(o++(l.foldl (fun s b=>if b==10 then (s.1++[s.2],[]) else (s.1,s.2++[b])) (([]:List (List UInt8)),c)).1,(l.foldl (fun s b=>if b==10 then (s.1++[s.2],[]) else (s.1,s.2++[b])) (([]:List (List UInt8)),c)).2)
 | [],c=>Kj
 | b::l,c=>by
  rw [List.foldl_cons,List.foldl_cons];by_cases hb:(b==10)=true
  ·simp only [hb,if_true]
   rw [Jgu (o++[c]) l [],Jgu ([]++[c]) l []];simp
  ·simp only [hb]
   exact Jgu o l (c++[b])
theorem Jpp:∀(k:Nat) (l:List UInt8),Lib.count l [10]=k→cutL (l++[10])=(Lib.splitK [10] 0 k l,[])
 | k,l,hk=>by
  rcases Lib.index_spec l [10] with ⟨hm,hn⟩ | ⟨i,hi,hil,ho,hf⟩
  ·have h0:k=0:=by rw [←hk,Lib.count_miss hm]
   subst h0;have hno:∀b∈l,b≠10:=by
    intro b hb e;subst e;have h1:Lib.indexByte l 10=-1:=by rw [←Lib.index_one];exact hm
    obtain⟨j,hj⟩:=List.mem_iff_getElem?.1 hb;exact Lib.indexByte_none h1 j hj
   have e:=Jgf l [] [] hno;rw [Jge];unfold cutL;rw [e];rfl
  ·obtain⟨j,rfl⟩:∃j,k=j+1:=⟨k - 1,by rw [←hk,Lib.count_hit Kj hi];omega⟩
   have hj:Lib.count (l.drop (i+1)) [10]=j:=by
    have:=Lib.count_hit Kj hi;rw [hk] at this;exact Qy
   have hb:Lib.indexByte l 10=i:=by rw [←Lib.index_one];exact hi
   obtain⟨hat,hbef⟩:=Lib.indexByte_some hb;have hlt:=(Pl hat).1;have ih:=Jpp j (l.drop (i+1)) hj;have el:l=l.take i++10::l.drop (i+1):=by
    rw [←Jbd l i 10 hat,List.take_append_drop]
   have hno:∀b∈l.take i,b≠10:=by
    intro b hb e;subst e;obtain⟨m,hm⟩:=List.mem_iff_getElem?.1 hb;rw [List.getElem?_take] at hm;split at hm
    ·next hmi=>exact hbef m hmi hm
    ·cases hm
   have e1:=Jgf (l.take i) [] [] hno;have e2:cutL (l++[10])=([l.take i]++(cutL (l.drop (i+1)++[10])).1,(cutL (l.drop (i+1)++[10])).2):=by
    conv=>lhs;rw [el]
    unfold cutL;rw [List.append_assoc,List.foldl_append,e1,List.cons_append,List.foldl_cons];have:=Jgu [l.take i] (l.drop (i+1)++[10]) [];simp at this ⊢;exact this
   have e3:Lib.splitK [10] 0 (j+1) l=if Lib.index l [10]==-1 then [l] else l.take ((Lib.index l [10]).toNat+0)::Lib.splitK [10] 0 j (l.drop ((Lib.index l [10]).toNat+[10].length)):=rfl
   rw [e2,ih,e3];have hm:¬(Lib.index l [10]==-1)=true:=by rw [hi];simp
   rw [if_neg hm,hi];simp
 termination_by k=>k
 decreasing_by all_goals omega
open Go.RowKit
theorem Jgv (c:Int) (h:c<32∨c=127) (w:World):Pb 313 #[.int .i32 c] w (.bool true):=by
 by_cases h0:c<32
 ·go_enter func313,ntmps313
  exact Ki
 ·have h1:c=127:=Kd
  subst h1;go_enter func313,ntmps313;exact Ki
theorem Jhw (c:Int) (h0:32≤c) (h1:c≠127) (w:World):Pb 313 #[.int .i32 c] w (.bool false):=by
 have d:decide (c<32)=false:=Ke;have q:(c==127)=false:=Jaa h1;go_enter func313,ntmps313;exact Ki
def badR (r:Nat):Bool:=decide (r=44∨r=34∨r=92∨r<32∨r=127)
theorem Jt7 (c:UInt8):pln c=!(badR c.toNat):=by
 rw [Bool.eq_iff_iff,J0w];unfold badR;simp
theorem J0z (s:ByteArray) (pos:Nat) (hp:pos<s.size) (ht:(s.data.toList.take pos).all pln=true) (w:World) :
  ∃r p:Nat,(∀ty,(Instr.next (.pointer (some ⟨w.heap.size,0,none⟩)) true ty).run prog (w.iter s pos)=.ok (.tuple #[.bool true,.int .i64 pos,.int .i32 r]) (w.iter s p))∧pos<p∧p≤s.size∧r≤2147483647 ∧
   (badR r=true→s.data.toList.all pln=false)∧(badR r=false→(s.data.toList.take p).all pln=true):=by
 have hat:=Jd8 s pos hp;by_cases ha:s[pos].toNat<128
 ·refine⟨s[pos].toNat,pos+1,fun ty=>run_next_ascii w s pos ty hp ha,Kd,Kd,Kd,fun hb=>?_,fun hb=>?_⟩
  ·exact Jbb hat (by rw [Jt7,hb];rfl)
  ·exact Ja4 pln _ pos _ hat ht (by rw [Jt7,hb];rfl)
 ·have hh:=decode_high s pos hp Kd
  have hle:=decode_le s pos;have hin:=Jz8 s pos hp;refine⟨(Utf8.decode s pos).1,pos+(Utf8.decode s pos).2,fun ty=>run_next_any w s pos ty hp,Kd,hin,hle,fun hb=>?_,fun _=>?_⟩
  ·have:badR (Utf8.decode s pos).1=false:=by unfold badR;simp;omega
   rw [this] at hb;cases hb
  ·exact Jo2 pln J5g s pos hp Kd ht
theorem Jre (s:ByteArray) (hs:s.size≤1099511627776) (w:World):Pc 247 #[.string s] w (.bool (Jbz s.data.toList)):=by
 have hpl:=Jpk s.data.toList;rw [Ja1] at hpl;have hem:=Jcn s;by_cases h0:s.size=0
 ·have e:Jbz s.data.toList=false:=by
   cases hq:Jbz s.data.toList with
   | false=>rfl
   | true=>exact absurd (List.length_eq_zero_iff.1 (by rw [Ja1];exact h0)) (hpl.1 hq).2.1
  have he:s.toList.isEmpty=true:=Qc;clear hem hpl h0;rw [e];go_enter func247,ntmps247;go_wp2;exact U1
 have he:s.toList.isEmpty=false:=Qc;have h1:1≤s.size:=Kd;obtain⟨c,hc⟩:=Jdr s 0 Kd;obtain⟨d,hd⟩:=Jdr s (s.size - 1) Kd;rw [hc,hd] at hpl;have k1:=fun W=>Jb2 s 0 c hc 0 rfl W
 have k2:=fun W=>Jb2 s (s.size - 1) d hd ((s.size:Int) - 1) Kd W
 have hcb:=c.toNat_lt;have hdb:=d.toNat_lt;have eq32:∀x:UInt8,x.toNat=32→x=32:=fun x h=>UInt8.toNat_inj.1 h
 have HP:=Pe hpl;have E32:=Pe eq32;clear hpl eq32 hem h0 hc hd;by_cases hc32:c.toNat=32
 ·have e:Jbz s.data.toList=false:=by
   cases hq:Jbz s.data.toList with
   | false=>rfl
   | true=>exact absurd (by rw [E32.out c hc32]) (HP.out.1 hq).2.2.1
  have q:((c.toNat:Int)==32)=true:=Jai Kd;clear hc32;rw [e];go_enter func247,ntmps247;go_wp2;exact U1
 have q:((c.toNat:Int)==32)=false:=Jaa Kd;by_cases hd32:d.toNat=32
 ·have e:Jbz s.data.toList=false:=by
   cases hq:Jbz s.data.toList with
   | false=>rfl
   | true=>exact absurd (by rw [E32.out d hd32]) (HP.out.1 hq).2.2.2
  have q2:((d.toNat:Int)==32)=true:=Jai Kd;clear hd32 hc32;rw [e];go_enter func247,ntmps247;go_wp2;exact U1
 have q2:((d.toNat:Int)==32)=false:=Jaa Kd;have EP:Hid (s.data.toList.all pln=Jbz s.data.toList):=by
  show _=_
  cases hq:s.data.toList.all pln with
  | false=>rw [Jpl _ hq]
  | true =>
   refine (HP.out.2 ⟨hq,fun e=>?_,fun e=>?_,fun e=>?_⟩).symm
   ·have:=Ja1 s;rw [e] at this;exact Qy
   ·have:=Po e;rw [this] at hc32;exact hc32 rfl
   ·have:=Po e;rw [this] at hd32;exact hd32 rfl
 clear HP E32 hc32 hd32;go_enter func247,ntmps247;go_wp2;go_loopw [] (fun w'=>∃pos:Nat,w'=w.iter s pos∧pos≤s.size∧Hid ((s.data.toList.take pos).all pln=true)) (fun w'=>s.size - w'.iterPos w.heap.size)
 case atStart=>exact⟨0,rfl,Nat.zero_le _,Pe rfl⟩
 case round =>
  clear he k1 k2 q q2;obtain⟨pos,rfl,hle,ht⟩:=hrel;by_cases hp:pos<s.size
  ·obtain⟨r,p,hnx,hpp,hps,hrl,hbad,hgood⟩:=J0z s pos hp ht.out w
   cases hb:badR r with
   | true =>
    have hres:=Pe (hbad hb);clear hbad hgood;unfold badR at hb;rw [decide_eq_true_iff] at hb;by_cases r1:r=44
    ·have q1:((r:Int)==44)=true:=Jai Kd
     clear hb r1;exact Uu
    have q1:((r:Int)==44)=false:=Jaa Kd;by_cases r2:r=34
    ·have q2:((r:Int)==34)=true:=Jai Kd
     clear hb r1 r2;exact Uu
    have q2:((r:Int)==34)=false:=Jaa Kd;by_cases r3:r=92
    ·have q3:((r:Int)==92)=true:=Jai Kd
     clear hb r1 r2 r3;exact Uu
    have q3:((r:Int)==92)=false:=Jaa Kd;have C:=Pe (fun w=>Jgv (r:Int) Kd w);clear hb r1 r2 r3;go_wp2_with fail;refine Pf (C.out _) ?_;exact Uu
   | false =>
    have hst:=Pe (hgood hb);clear hbad hgood;unfold badR at hb;rw [decide_eq_false_iff_not] at hb;have q1:((r:Int)==44)=false:=Jaa Kd;have q2:((r:Int)==34)=false:=Jaa Kd;have q3:((r:Int)==92)=false:=Jaa Kd;have C:=Pe (fun w=>Jhw (r:Int) Kd Kd w);clear hb;go_wp2_with fail;refine Pf (C.out _) ?_;go_wp2_with fail;go_roundw;case rel=>exact⟨p,rfl,hps,hst⟩
    case measure=>exact Ke
  ·have hnx:∀ty,(Instr.next (.pointer (some ⟨w.heap.size,0,none⟩)) true ty).run prog (w.iter s pos)=_:=fun ty=>run_next_end w s pos ty hp
   have hall:=Pe (show s.data.toList.all pln=true by have:=ht.out;rwa [List.take_of_length_le (by rw [Ja1];omega)] at this);go_wp2_with fail;go_ret;exact⟨Jab (by rw [←EP.out,hall.out]),Ja6 _ _ _⟩
theorem OwnB.alloc {w:World} {base:Nat} {v:Value} {l:List UInt8} (h:OwnB w base v l) (o:Obj):OwnB (w.alloc o) base v l:=World.ownsRow.alloc h o
theorem OwnB.below {w w':World} {base:Nat} {v:Value} {l:List UInt8} (h:OwnB w base v l) (hb:Pn w w'):OwnB w' base v l:=Jir h hb
theorem Qbc (s:ByteArray) (i:Nat) (c:UInt8) (h:s.data.toList[i]?=some c) (e:Int) (he:e=i) (W:World):(Instr.index 9 (.string s) (.int .u8 e)).run prog W=.ok (.int .u8 c.toNat) W:=by
 subst he;have hi:i<s.size:=by have:=(Pl h).1;simpa using this
 have h1:(Instr.index 9 (.string s) (.int .u8 i)).run prog W=.ok (.int .u8 s[i].toNat) W:=U0;rw [h1];have:=Jd8 s i hi;rw [h] at this;rw [Po this]
theorem J5k:∀n,n<16→([48,49,50,51,52,53,54,55,56,57,97,98,99,100,101,102]:List UInt8)[n]?=some (hexD n):=Kl
theorem J00 (n:Nat) (h:n<16) (e:Int) (he:e=n) (W:World):(Instr.index 9 (.string ⟨#[48,49,50,51,52,53,54,55,56,57,97,98,99,100,101,102]⟩) (.int .u8 e)).run prog W=.ok (.int .u8 (hexD n).toNat) W :=
 Qbc _ n _ (J5k n h) e he W
theorem Qe5 (c:UInt8):IntKind.u8.wrap ((c.toNat:Int) / 16)=((c.toNat / 16:Nat):Int):=by
 have:=c.toNat_lt;simp only [IntKind.wrap,IntKind.signed,IntKind.bits];exact Ke
theorem Qe6 (c:UInt8):(c.toNat:Int).tmod 16=((c.toNat % 16:Nat):Int):=by
 rw [Int.tmod_eq_emod_of_nonneg Kd];omega
theorem Jrf (s:ByteArray) (hs:s.size≤1099511627776) (w:World):Pc 248 #[.string s] w (.string (str (Ja9 s.data.toList))):=by
 go_enter func248,ntmps248;go_wp2_with fail;go_loopw [3,8] (fun v i wr=>∃k:Nat,i=.int .i64 k∧k≤s.size∧OwnB wr w.heap.size v (Ja9 (s.data.toList.take k))∧Pn w wr) (fun _ i _=>s.size - (intOf i).toNat);case atStart=>exact⟨0,rfl,Nat.zero_le _,OwnB.nil _ _,Pg⟩
 case round =>
  obtain⟨k,rfl,hle,hown,hb⟩:=hrel;have hlen:=Jmq s.data.toList k;rw [Ja1] at hlen;have hz:=hb.size;by_cases hp:k<s.size
  ·obtain⟨c,hc⟩:=Jdr s k hp
   have k1:=fun W=>Jb2 s k c hc k rfl W
   have hcb:=c.toNat_lt;have E:=Jv2 _ k c hc;have HO:=Pe hown;have HB:=Pe hb;clear hown hb;cases hctl:ctl c with
   | true =>
    have hcc:=(Jzf c).1 hctl;rw [Jlc c hctl] at E;have EE:=Pe E;have q1:((c.toNat:Int)==34)=false:=Jaa Kd;have q2:((c.toNat:Int)==92)=false:=Jaa Kd;have C:=Pe (fun w=>Jgv (c.toNat:Int) Kd w);have d1:=fun W=>J00 (c.toNat / 16) Kd (IntKind.u8.wrap ((c.toNat:Int) / 16)) (Qe5 c) W
    have d2:=fun W=>J00 (c.toNat % 16) Kd ((c.toNat:Int).tmod 16) (Qe6 c) W
    clear E hc hctl hcc;go_wp2_with fail;refine Pf (C.out _) ?_;go_wp2_with fail;go_region_law (first | (refine Juo _ rfl _ _ rfl w.heap.size _ _ [92,120,hexD (c.toNat / 16),hexD (c.toNat % 16)] rfl (OwnB.alloc HO.out _) wr.heap.size _ (heap_alloc_new _ _) rfl rfl Ke Ke ?_;intro v1 w1 own1 b1));all_goals
     go_wp2_with fail;go_roundw;case rel=>exact⟨k+1,Kg,Kd,by rw [EE.out];exact own1,((HB.out.drew).alloc hz _).trans b1⟩
     case measure=>exact Qz
   | false =>
    have hcc:¬(c.toNat<32∨c.toNat=127):=fun h=>by rw [(Jzf c).2 h] at hctl;cases hctl
    by_cases h2:c=34∨c=92
    ·rw [Jjo c hctl h2] at E
     have EE:=Pe E;clear E hc hctl hcc;have hq:((c.toNat:Int)==34)=true∨(((c.toNat:Int)==34)=false∧((c.toNat:Int)==92)=true):=by
      rcases h2 with rfl | rfl
      ·exact Or.inl rfl
      ·exact Or.inr ⟨rfl,rfl⟩
     clear h2;rcases hq with q1 | ⟨q1,q2⟩
     all_goals
      go_wp2_with (at_builtin;refine Jf3 _ rfl _ _ rfl w.heap.size _ _ [92,c] rfl (OwnB.alloc HO.out _) wr.heap.size _ (heap_alloc_new _ _) rfl rfl Ke Ke ?_;intro v1 w1 own1 b1)
      go_roundw
      case rel=>exact⟨k+1,Kg,Kd,by rw [EE.out];exact own1,(HB.out.alloc hz _).trans b1⟩
      case measure=>exact Qz
    ·rw [Jjp c hctl (fun e=>h2 (Or.inl e)) (fun e=>h2 (Or.inr e))] at E
     have EE:=Pe E;have q1:((c.toNat:Int)==34)=false:=Jaa (fun e=>h2 (Or.inl (UInt8.toNat_inj.1 (show c.toNat=34 by omega))));have q2:((c.toNat:Int)==92)=false:=Jaa (fun e=>h2 (Or.inr (UInt8.toNat_inj.1 (show c.toNat=92 by omega))));have C:=Pe (fun w=>Jhw (c.toNat:Int) Kd Kd w);clear E hc hctl hcc h2;go_wp2_with fail;refine Pf (C.out _) ?_;go_wp2_with (at_builtin;refine Jf3 _ rfl _ _ rfl w.heap.size _ _ [c] rfl (OwnB.alloc HO.out _) wr.heap.size _ (heap_alloc_new _ _) rfl rfl Ke Ke ?_;intro v1 w1 own1 b1);go_roundw
     case rel=>exact⟨k+1,Kg,Kd,by rw [EE.out];exact own1,(HB.out.alloc hz _).trans b1⟩
     case measure=>exact Qz
  ·have EE:s.data.toList.take k=s.data.toList:=List.take_of_length_le (by rw [Ja1];omega)
   rw [EE] at hown;have cv:=Jlk hown;clear EE hlen;have HB:=Pe hb;clear hb hown;go_wp2_with fail;go_ret;exact⟨rfl,HB.out⟩
theorem join_flat (xs:List (List UInt8)):Lib.join xs []=xs.flatten:=by
 simp [Lib.join,List.intercalate];induction xs with
 | nil=>rfl
 | cons a t ih=>cases t <;> simp_all [List.intersperse]
theorem Jmv (sep:List UInt8) (xs:List (List UInt8)) (A:Option Addr) (c:Nat) (w:World) (hc:xs.length≤c) (hN:xs.length≤1099511627776) (hlen:(Lib.join xs sep).length≤140737488355328)
  (hcells:0<xs.length→∃b o,A=some ⟨b,o,none⟩∧b<w.heap.size∧∀(j:Nat) x,(sts xs)[j]?=some x→w.cell? ⟨b,o+j,none⟩=some x) :
  Pc 53 #[.string (str sep),.slice A xs.length c] w (.string (str (Lib.join xs sep))):=by
 have J:Hid (Pc 133 #[.slice A xs.length c,.string (str sep)] w (.string (str (Lib.join xs sep)))):=by
  show Calls _ _ _ _ _
  by_cases h0:xs=[]
  ·subst h0
   exact (Tryz.strings_Join_none A c (str sep) w).mono fun e w' ⟨he,hw⟩=>⟨he,hw ▸ Pg⟩
  ·obtain⟨b,o,rfl,hb,hx⟩:=hcells (List.length_pos_iff.2 h0)
   have hm:(xs.map str).map (·.data.toList)=xs:=Jw;have h:=Tryz.strings_Join b o c (xs.map str) (str sep) w (by
    intro j x hj;refine hx j _ ?_;unfold sts;rw [List.getElem?_map] at hj ⊢;cases hq:xs[j]? with
    | none=>rw [hq] at hj;cases hj
    | some y=>rw [hq] at hj;simp at hj;simp [hj]) hb (by rw [Pq];omega) (by rw [Pq];exact hc) (by rw [hm];exact hlen)
   rw [hm,Pq] at h;exact h
 clear hcells;go_enter func53,ntmps53;go_wp2_with fail;refine (J.out).mono ?_;exact Zp
theorem Jt8 (sep:List UInt8) (xs:List (List UInt8)) (cells:Array Value) (hcs:cells.toList=sts xs) (n:Nat) (hn:n=xs.length) (w:World) (hN:xs.length≤1099511627776) (r:List UInt8) (hr:Lib.join xs sep=r) (hlen:r.length≤140737488355328) :
  Calls prog 53 #[.string (str sep),.slice (some ⟨w.heap.size,0,none⟩) n n] (w.alloc (.cells cells 9)) fun e w'=>e=.returned (.string (str r))∧Pn w w':=by
 subst hn;subst hr;refine (Jmv sep xs (some ⟨w.heap.size,0,none⟩) xs.length (w.alloc (.cells cells 9)) Ph hN hlen ?_).mono fun e w' ⟨he,hb⟩=>⟨he,((Below.refl _ _).alloc Ph _).trans (hb.mono Kj)⟩
 intro _;refine⟨w.heap.size,0,rfl,Kj,fun j x hj=>?_⟩;rw [Nat.zero_add,World.cell?_alloc_new,←hj,←hcs];simp
theorem Jhp (s:ByteArray) (hs:s.size≤1099511627776) (w:World):Pc 173 #[.string s] w (.string (str (Jam s.data.toList))):=by
 have P:=Pe (fun w=>Jre s hs w);cases h:Jbz s.data.toList with
 | true =>
  have R:=Pe (show str (Jam s.data.toList)=s by unfold Jam;rw [if_pos h]);rw [h] at P;clear h;go_enter func173,ntmps173;go_wp2_with fail;refine (P.out _).mono ?_;rintro e w1 ⟨rfl,b1⟩;go_wp2_with fail;go_ret;exact⟨Je9 R.out.symm,b1⟩
 | false =>
  have hq:Jam s.data.toList=34::(Ja9 s.data.toList++[34]):=by unfold Jam;rw [h];rfl
  have E:=Pe (fun w=>Jrf s hs w);have hi:=Jik s.data.toList;rw [Ja1] at hi;have J:=Pe (fun w=>Jt8 [] [[34],Ja9 s.data.toList,[34]] #[.string (str [34]),.string (str (Ja9 s.data.toList)),.string (str [34])] rfl 3 rfl w Kj (Jam s.data.toList) (by rw [join_flat,hq];simp) (by rw [hq];simp;omega));rw [h] at P;clear h hq hi;generalize Jam s.data.toList=q at J ⊢;generalize Ja9 s.data.toList=i at J E;go_enter func173,ntmps173;go_wp2_with fail;refine (P.out _).mono ?_;rintro e w1 ⟨rfl,b1⟩;go_wp2_with fail;refine (rel (W:=w) (E.out _) b1).mono ?_;rintro e w2 ⟨rfl,b2⟩;clear b1;go_wp2_with fail;refine (J.out w2).mono ?_;rintro e w3 ⟨rfl,b3⟩;go_wp2_with fail;go_ret;exact⟨rfl,b2.trans (b3.mono b2.size)⟩
theorem J01 (c:UInt8):IntKind.u8.wrap (Lib.indexByte [48,49,50,51,52,53,54,55,56,57,97,98,99,100,101,102] c)=(digV c:Int):=by
 unfold digV;generalize Lib.indexByte [48,49,50,51,52,53,54,55,56,57,97,98,99,100,101,102] c=x;simp only [IntKind.wrap,IntKind.signed,IntKind.bits];exact Ke
theorem Jjs (c:UInt8) (w:World):Pb 246 #[.int .u8 ((c.toNat:Nat):Int)] w (.int .u8 ((digV c:Nat):Int)):=by
 have h:=fun w=>Tryz.strings_IndexByte ⟨#[48,49,50,51,52,53,54,55,56,57,97,98,99,100,101,102]⟩ (c.toNat:Int) w
 have e:(c.toNat:Int).toNat.toUInt8=c:=Kj;rw [e] at h;have D:=Pe (J01 c);have hx:∀w,Pb 312 #[.string ⟨#[48,49,50,51,52,53,54,55,56,57,97,98,99,100,101,102]⟩,.int .u8 (c.toNat:Int)] w (.int .i64 (Lib.indexByte [48,49,50,51,52,53,54,55,56,57,97,98,99,100,101,102] c)):=fun w=>(h w).mono fun _ _ ⟨h1,h2⟩=>⟨h1,h2.symm⟩
 have H:=Pe hx;clear h hx e;generalize Lib.indexByte [48,49,50,51,52,53,54,55,56,57,97,98,99,100,101,102] c=x at *;go_enter func246,ntmps246;go_wp2_with fail;refine Pf (H.out _) ?_;go_wp2_with fail;go_ret;exact⟨Jad D.out,rfl⟩
theorem J7x (l:List UInt8) (c:UInt8) (h:c∈l):∃p q,l=p++c::q∧c ∉ p:=by
 induction l with
 | nil=>cases h
 | cons b l ih =>
  by_cases hb:b=c
  ·exact⟨[],l,by rw [hb];rfl,Kj⟩
  ·have hm:c∈l:=by
    rcases List.mem_cons.1 h with h | h
    ·exact absurd h.symm hb
    ·exact h
   obtain⟨p,q,e,hn⟩:=ih hm;exact⟨b::p,q,by rw [e];rfl,by intro hx;rcases List.mem_cons.1 hx with hx | hx;exact hb hx.symm;exact hn hx⟩
theorem J5l (s p q:ByteArray) (c:UInt8) (h:s.data.toList=p.data.toList++c::q.data.toList) (hn:c ∉ p.data.toList) (hs:s.size≤9223372036854775807) (w:World) :
  Pc 245 #[.string s,.string ⟨#[c]⟩] w (.tuple #[.string p,.string q,.bool true]):=by
 have h1:=Jmp c p.data.toList q.data.toList hn (by rw [←h,Ja1];exact hs) w;rw [←h,Ja5,Ja5,Ja5] at h1;exact h1
theorem J02 (s:ByteArray) (c:UInt8) (hn:c ∉ s.data.toList) (w:World) :
  Pc 245 #[.string s,.string ⟨#[c]⟩] w (.tuple #[.string s,.string (str []),.bool false]):=by
 have h1:=Jev c s.data.toList hn w;rw [Ja5] at h1;exact h1
theorem J03 (X Y:Nat):((X:Int)*16+(Y:Int)) % 256=((UInt8.ofNat (X*16+Y)).toNat:Int):=by
 rw [UInt8.toNat_ofNat'];omega
theorem Jjt {w0 w w':World} {v:Value} {l:List UInt8} (hb0:Pn w0 w) (h:OwnB w w0.heap.size v l) (hb:Pn w w'):OwnB w' w0.heap.size v l∧Pn w0 w':=⟨OwnB.below h hb,hb0.trans (hb.mono hb0.size)⟩
theorem Jmw (s:ByteArray) (hs:s.size≤1099511627776) (w:World):Pc 172 #[.string s] w (.string (str (cutQ s.data.toList))):=by
 go_enter func172,ntmps172;go_wp2_with fail;go_loopw [0,3] (fun t v wr=>∃(r:ByteArray) (out:List UInt8),t=.string r∧OwnB wr w.heap.size v out∧out.length+r.size≤s.size∧Hid (out++cutQ r.data.toList=cutQ s.data.toList)∧Pn w wr) (fun t _ _=>szOf t);case atStart=>exact⟨s,[],rfl,OwnB.nil _ _,Kj,Pe rfl,Pg⟩
 case round =>
  obtain⟨r,out,rfl,hown,hlen,hq,hb⟩:=hrel;have hz:=hb.size;by_cases hm:(92:UInt8)∈r.data.toList
  ·obtain⟨p,q,hpq,hn⟩:=J7x _ _ hm
   obtain⟨sp,hsp,hspz,-⟩:=Jdb p;obtain⟨sq,hsq,hsqz,-⟩:=Jdb q;have hrz:=congrArg List.length hpq;rw [Ja1,Pp,List.length_cons] at hrz;have C:=Pe (fun w=>J5l r sp sq 92 (by rw [hsp,hsq,hpq]) (by rw [hsp];exact hn) Kd w);have hq1:=hq.out;rw [hpq,Jms p _ hn] at hq1;have HO:=Pe hown;have HB:=Pe hb;have HP:=Pe hsp;have HSQ:=Pe hsq;have Z:=Pe (And.intro hspz (And.intro hsqz hrz));clear hown hb hm hpq hn hq hsp hspz hsqz hrz hsq;cases q with
   | nil =>
    have he:sq.toList.isEmpty=true:=by rw [Jcn];have:=Z.out.2.1;simp at this;simpa using this
    rw [Jt6,List.append_nil] at hq1;have HQ:=Pe hq1;clear hq1;go_wp2_with (first | (go_at_call 245;refine (C.out _).mono ?_;rintro e w1 ⟨rfl,b1⟩;obtain⟨o1,B1⟩:=Jjt HB.out HO.out b1;have O1:=Pe o1;have BB1:=Pe B1;clear b1 o1 B1) | (at_builtin;refine Jfa w1 rfl _ _ rfl w.heap.size _ _ sp rfl O1.out rfl BB1.out.size (by have:=Z.out;omega) ?_;intro v2 w2 own2 b2;rw [HP.out,HQ.out] at own2;have cv:=Jlk own2;have BB2:=Pe (BB1.out.trans b2);clear b2 own2));go_ret;exact⟨rfl,BB2.out⟩
   | cons d q =>
    have hqz:sq.size=q.length+1:=by have:=Z.out.2.1;simpa using this
    have he:sq.toList.isEmpty=false:=by rw [Jcn];simp;intro h;rw [h] at hqz;simp at hqz
    have k0:=fun W=>Jb2 sq 0 d (by rw [HSQ.out];rfl) 0 rfl W
    have q1s:1≤sq.size:=Kd;have hlo:1≤(sq.size:Int):=Kd;by_cases hx:d=120∧2≤q.length
    ·obtain⟨rfl,h2⟩:=hx
     match q,h2 with
     | x::y::z,_ =>
      obtain⟨st,hst,hstz,-⟩:=Jdb z;rw [Jmr] at hq1;have k1:=fun W=>Jb2 sq 1 x (by rw [HSQ.out];rfl) 1 rfl W
      have k2:=fun W=>Jb2 sq 2 y (by rw [HSQ.out];rfl) 2 rfl W
      have k3:=fun W=>Jll sq st 3 (by rw [hqz];simp) (by rw [HSQ.out,hst];rfl) 3 rfl W
      have U:=J03 (digV x) (digV y);have V1:=Pe (fun w=>Jjs x w);have V2:=Pe (fun w=>Jjs y w);have dx:=J0x x;have dy:=J0x y;have g3:3≤(sq.size:Int):=by simp at hqz;omega
      have q120:(((120:UInt8).toNat:Int)==120)=true:=rfl;generalize UInt8.ofNat (digV x*16+digV y)=b at U hq1;have HQ:=Pe (show out++sp.data.toList++[b]++cutQ st.data.toList=cutQ s.data.toList by rw [HP.out,hst,←hq1];simp);have HZ:=Pe (show st.size+4+sp.size≤r.size by have:=Z.out;simp at hqz;simp at this;omega);clear hq1 hst hstz hqz q1s;go_wp2_with (first | (go_at_call 245;refine (C.out _).mono ?_;rintro e w1 ⟨rfl,b1⟩;obtain⟨o1,B1⟩:=Jjt HB.out HO.out b1;have O1:=Pe o1;have BB1:=Pe B1;clear b1 o1 B1) | (at_builtin;refine Jfa w1 rfl _ _ rfl w.heap.size _ _ sp rfl O1.out rfl BB1.out.size (by have:=Z.out;omega) ?_;intro v2 w2 own2 b2;have O2:=Pe own2;have BB2:=Pe (BB1.out.trans b2);clear b2 own2));go_quiet (first | (go_at_call 246;exact Calls.quiet_of_same ((V1.out _).mono fun _ _ ⟨h1,h2⟩=>⟨h1,h2.symm⟩)) | (go_at_call 246;exact Calls.quiet_of_same ((V2.out _).mono fun _ _ ⟨h1,h2⟩=>⟨h1,h2.symm⟩)))
      have b3:=Jac (Below.refl w2.heap.size w2) nq;generalize w2.drewN nq=w3 at b3 ⊢;obtain⟨o3,B3⟩:=Jjt BB2.out O2.out b3;have O3:=Pe o3;have BB3:=Pe B3;clear b3 o3 B3;go_wp2_with (at_builtin;refine Jf3 _ rfl _ _ rfl w.heap.size _ _ [b] rfl (OwnB.alloc O3.out _) w3.heap.size _ (heap_alloc_new _ _) rfl rfl (by have:=BB3.out.size;simp;omega) Uz ?_;intro v4 w4 own4 b4);go_roundw
      case rel=>exact⟨st,_,rfl,own4,Uz,HQ,(BB3.out.alloc BB3.out.size _).trans b4⟩
      case measure=>have:=HZ.out;simp [szOf];omega
    ·obtain⟨st,hst,hstz,-⟩:=Jdb q
     have hd:d≠120∨q.length<2:=by
      by_cases h:d=120
      ·exact Or.inr (by rcases Nat.lt_or_ge q.length 2 with h2 | h2;exact h2;exact absurd ⟨h,h2⟩ hx)
      ·exact Or.inl h
     rw [Jjq d q hd] at hq1;have k3:=fun W=>Jll sq st 1 (by rw [hqz];simp) (by rw [HSQ.out,hst];rfl) 1 rfl W
     have HQ:=Pe (show out++sp.data.toList++[d]++cutQ st.data.toList=cutQ s.data.toList by rw [HP.out,hst,←hq1];simp);have HZ:=Pe (show st.size+2+sp.size≤r.size by have:=Z.out;simp at this;omega);have hg:((d.toNat:Int)==120)=false∨(((d.toNat:Int)==120)=true∧decide (3≤(sq.size:Int))=false):=by
      by_cases h:d=120
      ·refine Or.inr ⟨Yd,?_⟩
       rcases hd with hd | hd
       ·exact absurd h hd
       ·exact Ke
      ·exact Or.inl (Jaa (fun e=>h (UInt8.toNat_inj.1 (show d.toNat=120 by omega))))
     clear hq1 hst hstz hqz q1s hx hd;rcases hg with g1 | ⟨g1,g2⟩
     all_goals
      go_wp2_with (first | (go_at_call 245;refine (C.out _).mono ?_;rintro e w1 ⟨rfl,b1⟩;obtain⟨o1,B1⟩:=Jjt HB.out HO.out b1;have O1:=Pe o1;have BB1:=Pe B1;clear b1 o1 B1) | (at_builtin;refine Jfa w1 rfl (.tmp 15) (.tmp 16) rfl w.heap.size _ _ sp rfl O1.out rfl BB1.out.size (by have:=Z.out;omega) ?_;intro v2 w2 own2 b2;have O2:=Pe own2;have BB2:=Pe (BB1.out.trans b2);clear b2 own2) | (at_builtin;refine Jf3 _ rfl (.tmp 43) (.tmp 45) rfl w.heap.size _ _ [d] rfl (OwnB.alloc O2.out _) w2.heap.size _ (heap_alloc_new _ _) rfl rfl Uy Uz ?_;intro v4 w4 own4 b4))
      go_roundw
      case rel=>exact⟨st,_,rfl,own4,Uz,HQ,(BB2.out.alloc BB2.out.size _).trans b4⟩
      case measure=>have:=HZ.out;simp [szOf];omega
  ·have C:=Pe (fun w=>J02 r 92 hm w)
   have hq1:=hq.out;have h0:=Jms r.data.toList [] hm;rw [List.append_nil,Jgt,List.append_nil] at h0;rw [h0] at hq1;have HQ:=Pe hq1;have HO:=Pe hown;have HB:=Pe hb;clear hown hb hm hq hq1 h0;go_wp2_with (first | (go_at_call 245;refine (C.out _).mono ?_;rintro e w1 ⟨rfl,b1⟩;obtain⟨o1,B1⟩:=Jjt HB.out HO.out b1;have O1:=Pe o1;have BB1:=Pe B1;clear b1 o1 B1) | (at_builtin;refine Jfa w1 rfl _ _ rfl w.heap.size _ _ r rfl O1.out rfl BB1.out.size Kd ?_;intro v2 w2 own2 b2;rw [HQ.out] at own2;have cv:=Jlk own2;have BB2:=Pe (BB1.out.trans b2);clear b2 own2));go_ret;exact⟨rfl,BB2.out⟩
def unqR (s:List UInt8):List UInt8×Int:=match unq s with
 | some t=>(t,0)
 | none=>([],3)
theorem Jt9 (s:List UInt8) (h:Jam (Jek s)=s):unqR s=(Jek s,0):=by unfold unqR;rw [Jpn,if_pos h]
theorem J04 (s:List UInt8) (h:Jam (Jek s)≠s):unqR s=([],3):=by unfold unqR;rw [Jpn,if_neg h]
theorem Jck {a b:ByteArray} {n m:Int} (h:a=b) (k:n=m):Ending.returned (.tuple #[.string a,.int .i64 n])=Ending.returned (.tuple #[.string b,.int .i64 m]):=Qk
theorem J5m (s:ByteArray) (hs:s.size≤1099511627776) (w:World):Pc 82 #[.string s] w (.tuple #[.string (str (unqR s.data.toList).1),.int .i64 ((unqR s.data.toList).2)]):=by
 have hz:=Ja1 s;by_cases hg:2≤s.size∧s.data.toList[0]?=some 34∧s.data.toList[s.size - 1]?=some 34
 ·obtain⟨u,hu,huz,-⟩:=Jdb ((s.data.toList.drop 1).take (s.size - 2))
  obtain⟨t,ht,htz,hst⟩:=Jdb (cutQ u.data.toList);have hG:Jek s.data.toList=t.data.toList:=by unfold Jek;rw [hz,if_pos hg,ht,hu]
  have hgl:=J5i s.data.toList;rw [hG,Ja1,Ja1] at hgl;obtain⟨q,hq⟩:=Pi (str (Jam t.data.toList));have k0:=fun W=>Jb2 s 0 34 hg.2.1 0 rfl W
  have k1:=fun W=>Jb2 s (s.size - 1) 34 hg.2.2 ((s.size:Int) - 1) (by have:=hg.1;omega) W
  have k2:=fun W=>J6i s u 1 (s.size - 1) (by have:=hg.1;omega) Kd (by rw [hu,show s.size - 1 - 1=s.size - 2 by omega]) 1 ((s.size:Int) - 1) rfl (by have:=hg.1;omega) W
  have U:=Pe (fun w=>Jmw u (by rw [huz,List.length_take];omega) w);rw [hst] at U;have Q:=Pe (fun w=>Jhp t Kd w);rw [hq] at Q;have h2:=hg.1;have g2:2≤(s.size:Int):=Kd;have g3:1≤(s.size:Int):=Kd;by_cases hqs:q=s
  ·have R:=Pe (Jt9 s.data.toList (by rw [hG,←congrArg (·.data.toList) hqs,←hq]))
   rw [hG] at R;have ne:=Jby hqs;clear hg hG hgl hq huz htz hst hu ht hz hqs;go_enter func82,ntmps82;go_wp2_with fail;refine (U.out _).mono ?_;rintro e w1 ⟨rfl,b1⟩;go_wp2_with fail;refine (rel (W:=w) (Q.out _) b1).mono ?_;rintro e w2 ⟨rfl,b2⟩;clear b1;go_wp2_with fail;go_ret2;exact⟨Jck (by rw [R.out,Ja5]) Va,b2⟩
  ·have R:=Pe (J04 s.data.toList U9)
   have ne:=Jb7 hqs;clear hg hG hgl hq huz htz hst hu ht hz hqs;go_enter func82,ntmps82;go_wp2_with fail;refine (U.out _).mono ?_;rintro e w1 ⟨rfl,b1⟩;go_wp2_with fail;refine (rel (W:=w) (Q.out _) b1).mono ?_;rintro e w2 ⟨rfl,b2⟩;clear b1;go_wp2_with fail;go_ret2;exact⟨Jck Va Va,b2⟩
 ·have hG:Jek s.data.toList=s.data.toList:=by unfold Jek;rw [hz,if_neg hg]
  obtain⟨q,hq⟩:=Pi (str (Jam s.data.toList));have Q:=Pe (fun w=>Jhp s hs w);rw [hq] at Q;have hways:decide (2≤(s.size:Int))=false∨∃c:UInt8,s.data.toList[0]?=some c∧2≤s.size∧(((c.toNat:Int)==34)=false∨((c.toNat:Int)==34)=true∧∃d:UInt8,s.data.toList[s.size - 1]?=some d∧((d.toNat:Int)==34)=false):=by
   by_cases h2:2≤s.size
   ·obtain⟨c,hc⟩:=Jdr s 0 Kd
    obtain⟨d,hd⟩:=Jdr s (s.size - 1) Kd;refine Or.inr ⟨c,hc,h2,?_⟩;by_cases hc34:c=34
    ·refine Or.inr ⟨by rw [hc34];rfl,d,hd,Jaa (fun e=>hg ⟨h2,by rw [hc,hc34],by rw [hd,UInt8.toNat_inj.1 (show d.toNat=(34:UInt8).toNat by show _=34;omega)]⟩)⟩
    ·exact Or.inl (Jaa (fun e=>hc34 (UInt8.toNat_inj.1 (show c.toNat=(34:UInt8).toNat by show _=34;omega))))
   ·refine Or.inl ?_
    exact Ke
  by_cases hqs:q=s
  ·have R:=Pe (Jt9 s.data.toList (by rw [hG];exact congrArg (fun x:ByteArray=>x.data.toList) (hq.trans hqs)))
   rw [hG] at R;have ne:=Jby hqs;clear hg hG hq hqs;rcases hways with g1 | ⟨c,hc,h2,g1 | ⟨g1,d,hd,g3⟩⟩
   ·clear hz
    go_enter func82,ntmps82;go_wp2_with fail;refine (Q.out _).mono ?_;exact Uw
   ·have k0:=fun W=>Jb2 s 0 c hc 0 rfl W
    have g2:2≤(s.size:Int):=Kd;clear hc hz;go_enter func82,ntmps82;go_wp2_with fail;refine (Q.out _).mono ?_;exact Uw
   ·have k0:=fun W=>Jb2 s 0 c hc 0 rfl W
    have k1:=fun W=>Jb2 s (s.size - 1) d hd ((s.size:Int) - 1) Kd W
    have g2:2≤(s.size:Int):=Kd;clear hc hd hz;go_enter func82,ntmps82;go_wp2_with fail;refine (Q.out _).mono ?_;exact Uw
  ·have R:=Pe (J04 s.data.toList U9)
   have ne:=Jb7 hqs;clear hg hG hq hqs;rcases hways with g1 | ⟨c,hc,h2,g1 | ⟨g1,d,hd,g3⟩⟩
   ·clear hz
    go_enter func82,ntmps82;go_wp2_with fail;refine (Q.out _).mono ?_;exact Uv
   ·have k0:=fun W=>Jb2 s 0 c hc 0 rfl W
    have g2:2≤(s.size:Int):=Kd;clear hc hz;go_enter func82,ntmps82;go_wp2_with fail;refine (Q.out _).mono ?_;exact Uv
   ·have k0:=fun W=>Jb2 s 0 c hc 0 rfl W
    have k1:=fun W=>Jb2 s (s.size - 1) d hd ((s.size:Int) - 1) Kd W
    have g2:2≤(s.size:Int):=Kd;clear hc hd hz;go_enter func82,ntmps82;go_wp2_with fail;refine (Q.out _).mono ?_;exact Uv
theorem Jv3 (s:ByteArray) (w:World):Pb 41 #[.string s,.string ⟨#[34]⟩] w (.bool (decide (s.data.toList[0]?=some 34))):=by
 refine (Tryz.strings_HasPrefix s ⟨#[34]⟩ w).mono fun e w' ⟨he,hw⟩=>⟨?_,hw.symm⟩
 rw [he];have:Lib.hasPrefix s.data.toList (⟨#[34]⟩:ByteArray).data.toList=decide (s.data.toList[0]?=some 34):=by
  show List.isPrefixOf [34] s.data.toList=_
  cases s.data.toList with
  | nil=>rfl
  | cons c r =>
   rw [Bool.eq_iff_iff];simp [List.isPrefixOf];exact⟨fun h=>h.symm,fun h=>h.symm⟩
 rw [this]
theorem Jmx {c d:UInt8} (h:c≠d):((c.toNat:Int)==(d.toNat:Int))=false:=Jaa (fun e=>h (UInt8.toNat_inj.1 Kd))
theorem J5n {c d:UInt8} (h:c≠d):((c.toNat:Int) != (d.toNat:Int))=true:=Jaf (fun e=>h (UInt8.toNat_inj.1 Kd))
theorem Jv4 (s:ByteArray) (hs:s.size≤1099511627776) (w:World):Pb 81 #[.string s] w (.int .i64 ((endL s.data.toList:Nat):Int)):=by
 have hz:=Ja1 s;have P:=Pe (fun w=>Jv3 s w);by_cases hq:s.data.toList[0]?=some 34
 ·rw [Pk hq] at P
  have h1:1≤s.size:=by
   have:=(Pl hq).1;omega
  have hE:Hid (min (1+qend (s.data.toList.drop 1)) s.size=endL s.data.toList):=by
   show _=_
   have e:=Jbd _ 0 34 hq;rw [List.drop_zero] at e;have e2:endL s.data.toList=1+qend (s.data.toList.drop 1):=by conv=>lhs;rw [e,end_q]
   have:=Jmu _ (s.data.toList.drop 1) Ph;rw [List.length_drop] at this;omega
  clear hq;go_enter func81,ntmps81;go_wp2_with fail;go_step3;go_wp2_with fail;refine Pf (P.out _) ?_;go_wp2_with fail;go_step3;go_wp2_with fail;go_loop [4] (fun i=>∃k:Nat,i=.int .i64 k∧k≤s.size+1∧Hid (min (k+qend (s.data.toList.drop k)) s.size=endL s.data.toList)) (fun i=>s.size+2 - (intOf i).toNat);case atStart=>exact⟨1,rfl,Kd,hE⟩
  case round =>
   clear hE h1;obtain⟨k,rfl,hk,hE⟩:=hrel;by_cases hlt:k<s.size
   ·obtain⟨c,hc⟩:=Jdr s k hlt
    have k1:=fun W=>Jb2 s k c hc k rfl W
    by_cases h34:c=34
    ·subst h34
     have R:=Pe (show min (k+1) s.size=endL s.data.toList by have:=hE.out;rw [Qa9 _ k hc] at this;exact this);have q1:(((34:UInt8).toNat:Int)==34)=true:=rfl;clear hE hc hz;go_wp2_with fail;all_goals go_ret
     all_goals exact⟨Jad U8,rfl⟩
    ·have q1:((c.toNat:Int)==34)=false:=Jmx (d:=34) h34
     by_cases h92:c=92
     ·subst h92
      have R:=Pe (show min (k+2+qend (s.data.toList.drop (k+2))) s.size=endL s.data.toList by
       have:=hE.out;by_cases hl:k+1<s.data.toList.length
       ·rw [Qe4 _ k hc hl] at this
        rw [←this];omega
       ·rw [Qbb _ k hc hl] at this
        rw [J7w _ (k+2) Kd];omega)
      have q2:(((92:UInt8).toNat:Int)==92)=true:=rfl;clear hE hc hz h34;go_wp2_with fail;go_round;case rel=>exact⟨k+2,Kg,Kd,R⟩
      case measure=>exact Qz
     ·have q2:((c.toNat:Int)==92)=false:=Jmx (d:=92) h92
      have R:=Pe (show min (k+1+qend (s.data.toList.drop (k+1))) s.size=endL s.data.toList by
       have:=hE.out;rw [Qba _ k c hc h34 h92] at this;rw [←this];omega)
      clear hE hc hz h34 h92;go_wp2_with fail;go_round;case rel=>exact⟨k+1,Kg,Kd,R⟩
      case measure=>exact Qz
   ·have R:=Pe (show min k s.size=endL s.data.toList by have:=hE.out;rw [J7w _ k Kd] at this;exact this)
    have d:decide (k<s.size)=false:=Kb;clear hE hz hlt;go_wp2_with fail;all_goals (try rw [Exit.noGoto_ret])
    all_goals go_ret
    all_goals exact⟨Jad U8,rfl⟩
 ·rw [Pj hq] at P
  have hE:Hid (0+((s.data.toList.drop 0).takeWhile (· != 44)).length=endL s.data.toList):=by
   show _=_
   rw [end_p _ hq,List.drop_zero];omega
  clear hq;go_enter func81,ntmps81;go_wp2_with fail;go_step3;go_wp2_with fail;refine Pf (P.out _) ?_;go_wp2_with fail;go_step3;go_wp2_with fail;go_loop [4] (fun i=>∃k:Nat,i=.int .i64 k∧k≤s.size∧Hid (k+((s.data.toList.drop k).takeWhile (· != 44)).length=endL s.data.toList)) (fun i=>s.size+2 - (intOf i).toNat);case atStart=>exact⟨0,rfl,Kd,hE⟩
  case round =>
   clear hE;obtain⟨k,rfl,hk,hE⟩:=hrel;by_cases hlt:k<s.size
   ·obtain⟨c,hc⟩:=Jdr s k hlt
    have k1:=fun W=>Jb2 s k c hc k rfl W
    by_cases h44:c=44
    ·subst h44
     have R:=Pe (show k=endL s.data.toList by have:=hE.out;rw [Qa8 _ k hc] at this;exact this);have q1:(((44:UInt8).toNat:Int)==44)=true:=rfl;clear hE hc hz;go_wp2_with fail;all_goals go_ret
     all_goals exact⟨Jad U8,rfl⟩
    ·have q1:((c.toNat:Int)==44)=false:=Jmx (d:=44) h44
     have R:=Pe (show k+1+((s.data.toList.drop (k+1)).takeWhile (· != 44)).length=endL s.data.toList by
      have:=hE.out;rw [Qa7 _ k c hc h44] at this;rw [←this];omega)
     clear hE hc hz h44;go_wp2_with fail;go_round;case rel=>exact⟨k+1,Kg,Kd,R⟩
     case measure=>exact Qz
   ·have R:=Pe (show k=endL s.data.toList by
     have:=hE.out;rw [List.drop_eq_nil_of_le Kd] at this;exact this)
    have d:decide (k<s.size)=false:=Kb;clear hE hz hlt;go_wp2_with fail;all_goals (try rw [Exit.noGoto_ret])
    all_goals go_ret
    all_goals exact⟨Jad U8,rfl⟩
def splitR (l:List UInt8):List (List UInt8)×Int:=if 65536<l.length then ([],5) else if l=[] then ([],0) else Ja2 64 l
def cont (o:List (List UInt8)) (p:List (List UInt8)×Int):List (List UInt8)×Int:=if p.2=0 then (o++p.1,0) else ([],p.2)
def Jfk (w:World) (r:List (List UInt8)×Int) (e:Ending) (w':World):Prop:=∃v,e=.returned (.tuple #[v,.int .i64 r.2])∧OwnS w' w.heap.size v r.1∧Pn w w'
theorem Jfk.err {w w':World} {r:List (List UInt8)×Int} {x:Int} (hr:r=([],x)) (hb:Pn w w'):Jfk w r (.returned (.tuple #[.slice none 0 0,.int .i64 x])) w':=by
 subst hr;exact⟨_,rfl,OwnS.nil _ _,hb⟩
theorem Jfk.ok {w w':World} {r:List (List UInt8)×Int} {v:Value} {o:List (List UInt8)} (hr:r=(o,0)) (ho:OwnS w' w.heap.size v o) (hb:Pn w w'):Jfk w r (.returned (.tuple #[v,.int .i64 0])) w':=by
 subst hr;exact⟨_,rfl,ho,hb⟩
theorem OwnS.alloc {w:World} {base:Nat} {v:Value} {l:List (List UInt8)} (h:OwnS w base v l) (o:Obj):OwnS (w.alloc o) base v l:=World.ownsRow.alloc h o
theorem OwnS.below {w w':World} {base:Nat} {v:Value} {l:List (List UInt8)} (h:OwnS w base v l) (hb:Pn w w'):OwnS w' base v l:=Jir h hb
theorem Jmy {w0 w w':World} {v:Value} {l:List (List UInt8)} (hb0:Pn w0 w) (h:OwnS w w0.heap.size v l) (hb:Pn w w'):OwnS w' w0.heap.size v l∧Pn w0 w':=⟨OwnS.below h hb,hb0.trans (hb.mono hb0.size)⟩
def Qe7:Value→Nat | .slice _ n _=>n | _=>0
theorem J5o (n:Nat) (l:List UInt8):cont [] (Ja2 n l)=Ja2 n l:=by
 unfold cont;rcases Jop n l with h | ⟨h1,h2⟩
 ·rw [if_pos h,←h];rfl
 ·rw [if_neg Kd,←h1]
theorem J05 (n:Nat) (l:List UInt8) (h:unq (l.take (endL l))=none):Ja2 (n+1) l=([],3):=by
 unfold Ja2;rw [h]
theorem Jv5 (n:Nat) (l f:List UInt8) (h:unq (l.take (endL l))=some f) (hd:l.drop (endL l)=[]):Ja2 (n+1) l=([f],0):=by
 unfold Ja2;rw [h];simp only [];rw [hd]
theorem Jrg (n:Nat) (l f r:List UInt8) (c:UInt8) (h:unq (l.take (endL l))=some f) (hd:l.drop (endL l)=c::r) (hc:c≠44):Ja2 (n+1) l=([],3):=by
 unfold Ja2;rw [h];simp only [];rw [hd];simp only [];rw [if_neg hc]
theorem Jv6 (n:Nat) (l f r:List UInt8) (o:List (List UInt8)) (h:unq (l.take (endL l))=some f) (hd:l.drop (endL l)=44::r):cont o (Ja2 (n+1) l)=cont (o++[f]) (Ja2 n r):=by
 have e:Ja2 (n+1) l=if (Ja2 n r).2=0 then (f::(Ja2 n r).1,0) else ([],(Ja2 n r).2):=by
  conv=>lhs;unfold Ja2
  rw [h];simp only [];rw [hd];simp only [];rw [if_pos trivial]
 rw [e];unfold cont;by_cases h0:(Ja2 n r).2=0
 ·simp [h0]
 ·simp [h0]
theorem J06 (s t:List UInt8) (h:unq s=some t):unqR s=(t,0):=by unfold unqR;rw [h]
theorem J07 (s:List UInt8) (h:unq s=none):unqR s=([],3):=by unfold unqR;rw [h]
theorem fsplit_any (s:ByteArray) (hs:s.size≤1099511627776) (w:World):Calls prog 42 #[.string s] w (Jfk w (splitR s.data.toList)):=by
 have hz:=Ja1 s;by_cases h5:65536<s.size
 ·have R:=Pe (show splitR s.data.toList=([],5) by unfold splitR;rw [hz,if_pos h5])
  have g:(65536:Int)<(s.size:Int):=Kd;clear h5 hz;go_enter func42,ntmps42;exact U2
 have g:decide ((65536:Int)<(s.size:Int))=false:=Ke;by_cases h0:s.size=0
 ·have hnil:s.data.toList=[]:=List.length_eq_zero_iff.1 (by rw [hz];exact h0)
  have R:=Pe (show splitR s.data.toList=([],0) by unfold splitR;rw [hz,if_neg h5,if_pos hnil]);have he:s.toList.isEmpty=true:=Ux;clear h5 hz h0 hnil;go_enter func42,ntmps42;go_wp2_with fail;go_ret2;exact Jfk.ok R.out (OwnS.nil _ _) Pg
 have he:s.toList.isEmpty=false:=Ux;have hnn:s.data.toList≠[]:=fun e=>h0 (by rw [←hz,e];rfl)
 have R:=Pe (show splitR s.data.toList=Ja2 64 s.data.toList by unfold splitR;rw [hz,if_neg h5,if_neg hnn]);clear h5 hz h0 hnn;go_enter func42,ntmps42;go_wp2_with fail;go_loopw [0,4] (fun t v wr=>∃(r:ByteArray) (o:List (List UInt8)),t=.string r∧r.size≤s.size∧OwnS wr w.heap.size v o∧o.length≤64∧Hid (cont o (Ja2 (64 - o.length) r.data.toList)=splitR s.data.toList)∧Pn w wr) (fun _ v _=>65 - Qe7 v);case atStart=>exact⟨s,[],rfl,Nat.le_refl _,OwnS.nil _ _,Kj,Pe (by rw [R.out,J5o];rfl),Pg⟩
 case round =>
  clear g he R;obtain⟨r,o,rfl,hrs,hown,hol,hq,hb⟩:=hrel;obtain⟨A,c,rfl⟩:=Jdp hown;have hbs:=hb.size;have hrz:=Ja1 r;have HO:=Pe hown;have HB:=Pe hb;by_cases h64:o.length<64
  ·have g64:(o.length:Int)<64:=Kd
   obtain⟨m,hm⟩:∃m,64 - o.length=m+1:=⟨63 - o.length,Kd⟩;have hel:=Qe3 r.data.toList;rw [hrz] at hel;have X:=Pe (fun w=>Jv4 r Kd w);obtain⟨t,ht,htz,-⟩:=Jdb (r.data.toList.take (endL r.data.toList));obtain⟨u,hu,huz,-⟩:=Jdb (r.data.toList.drop (endL r.data.toList));obtain⟨n,hn⟩:∃n,n=endL r.data.toList:=⟨_,rfl⟩;rw [←hn] at X ht htz hu huz hel;have htz':t.size≤r.size:=by rw [htz,List.length_take,hrz];omega
   have huz':u.size=r.size - n:=by rw [huz,List.length_drop,hrz]
   have hn0:(n:Int)≤(r.size:Int):=Kd;have k1:=fun W=>sl_to r t n hel ht.symm n rfl W
   have k2:=fun W=>Jll r u n hel hu.symm n rfl W
   have U:=Pe (fun w=>J5m t Kd w);have hq1:=hq.out;rw [hm] at hq1;cases huq:unq t.data.toList with
   | none =>
    rw [J07 _ huq] at U;rw [J05 m r.data.toList (by rw [←hn,←ht];exact huq)] at hq1;have R:=Pe (show splitR s.data.toList=([],3) by rw [←hq1];rfl);clear hq1 hq huq hm hown hb ht htz hu huz hn;go_wp2_with fail;refine Pf (X.out _) ?_;go_wp2_with fail;refine (U.out _).mono ?_;rintro e w2 ⟨rfl,b2⟩;go_wp2_with fail;go_ret2;exact Jfk.err R.out (HB.out.trans (b2.mono hbs))
   | some f =>
    rw [J06 _ _ huq] at U;have hun:unq (r.data.toList.take (endL r.data.toList))=some f:=by rw [←hn,←ht];exact huq
    cases hud:u.data.toList with
    | nil =>
     rw [Jv5 m r.data.toList f hun U3] at hq1;have R:=Pe (show splitR s.data.toList=(o++[f],0) by rw [←hq1];rfl);have he:u.toList.isEmpty=true:=by rw [Jcn];have:=Ja1 u;rw [hud] at this;simp at this;simp [←this]
     clear hq1 hq huq hm hown hb ht htz hu huz hn hun hud;go_wp2_with (first | (go_at_call 81;refine Pf (X.out _) ?_) | (go_at_call 82;refine (U.out _).mono ?_;rintro e w2 ⟨rfl,b2⟩;obtain⟨o2,B2⟩:=Jmy HB.out HO.out b2;have O2:=Pe o2;have BB2:=Pe B2;clear b2 o2 B2) | (at_builtin;refine Jpz _ rfl _ _ rfl w.heap.size _ _ f rfl (OwnS.alloc O2.out _) w2.heap.size _ (heap_alloc_new _ _) rfl rfl Uy Kd ?_;intro v4 w4 own4 b4));go_ret2;exact Jfk.ok R.out own4 ((BB2.out.alloc BB2.out.size _).trans b4)
    | cons d q =>
     have k0:=fun W=>Jb2 u 0 d (by rw [hud];rfl) 0 rfl W
     have hus:u.size=q.length+1:=by have:=Ja1 u;rw [hud] at this;simpa using this.symm
     have he:u.toList.isEmpty=false:=by rw [Jcn];simp;intro e;rw [e] at hus;simp at hus
     by_cases hd44:d=44
     ·subst hd44
      obtain⟨x,hx,hxz,-⟩:=Jdb q;have k3:=fun W=>Jll u x 1 Kd (by rw [hud,hx];rfl) 1 rfl W
      rw [Jv6 m r.data.toList f q o hun U3] at hq1;have Q:=Pe (show cont (o++[f]) (Ja2 (64 - (o++[f]).length) x.data.toList)=splitR s.data.toList by rw [←hq1,hx,show 64 - (o++[f]).length=m by simp;omega]);have q44:(((44:UInt8).toNat:Int) != 44)=false:=rfl;have g1:1≤(u.size:Int):=Kd;have hxs:x.size≤s.size:=Kd;clear hq1 hq huq hm hown hb ht htz hu huz hn hun hud hx hxz hus;go_wp2_with (first | (go_at_call 81;refine Pf (X.out _) ?_) | (go_at_call 82;refine (U.out _).mono ?_;rintro e w2 ⟨rfl,b2⟩;obtain⟨o2,B2⟩:=Jmy HB.out HO.out b2;have O2:=Pe o2;have BB2:=Pe B2;clear b2 o2 B2) | (at_builtin;refine Jpz _ rfl _ _ rfl w.heap.size _ _ f rfl (OwnS.alloc O2.out _) w2.heap.size _ (heap_alloc_new _ _) rfl rfl Uy Kd ?_;intro v4 w4 own4 b4));have hc4:=Jdp own4;obtain⟨A4,c4,hv4⟩:=hc4;have HV:=Pe hv4;clear hv4;go_roundw;case rel=>exact⟨x,o++[f],rfl,hxs,own4,Ke,Q,(BB2.out.alloc BB2.out.size _).trans b4⟩
      case measure=>rw [HV.out];simp [Qe7];omega
     ·have q44:((d.toNat:Int) != 44)=true:=J5n (d:=44) hd44
      rw [Jrg m r.data.toList f q d hun U3 hd44] at hq1;have R:=Pe (show splitR s.data.toList=([],3) by rw [←hq1];rfl);have g1:1≤(u.size:Int):=Kd;clear hq1 hq huq hm hown hb ht htz hu huz hn hun hud hus hd44;go_wp2_with (first | (go_at_call 81;refine Pf (X.out _) ?_) | (go_at_call 82;refine (U.out _).mono ?_;rintro e w2 ⟨rfl,b2⟩;obtain⟨o2,B2⟩:=Jmy HB.out HO.out b2;have O2:=Pe o2;have BB2:=Pe B2;clear b2 o2 B2) | (at_builtin;refine Jpz _ rfl _ _ rfl w.heap.size _ _ f rfl (OwnS.alloc O2.out _) w2.heap.size _ (heap_alloc_new _ _) rfl rfl Uy Kd ?_;intro v4 w4 own4 b4));go_ret2;exact Jfk.err R.out ((BB2.out.alloc BB2.out.size _).trans b4)
  ·have g64:decide ((o.length:Int)<64)=false:=Ke
   have R:=Pe (show splitR s.data.toList=([],5) by rw [←hq.out,show 64 - o.length=0 by omega];rfl);clear hq hown hb hrz h64;go_wp2_with fail;go_ret2;exact Jfk.err R.out HB.out
def joinR (l:List (List UInt8)):List UInt8×Int:=if 64<l.length then ([],5) else if 65536<(Jas l).length then ([],5) else (Jas l,0)
theorem J08 {w:World} {B:Nat} {cs:Array Value} {t:TypeId} (h:w.heap[B]?=some (.cells cs t (0,0))) (j:Nat) (x:Value) (hx:cs[j]?=some x):w.cell? ⟨B,j,none⟩=some x:=by rw [cell_of_row w B j cs t (0,0) h,hx]
theorem fjoin_any (v:Value) (l:List (List UInt8)) (hn:l.length≤140737488355327) (hx:∀x∈l,x.length≤16384) (w:World) (h:Lst w v l):Pc 220 #[v] w (.tuple #[.string (str (joinR l).1),.int .i64 (joinR l).2]):=by
 obtain⟨A,c,rfl,_,hcl⟩:=h;by_cases h64:64<l.length
 ·have R:=Pe (show joinR l=([],5) by unfold joinR;rw [if_pos h64])
  have g:(64:Int)<(l.length:Int):=Kd;clear hcl h64 hx;go_enter func220,ntmps220;go_wp2_with fail;go_ret2;exact⟨Jck Va Va,Pg⟩
 have g:decide ((64:Int)<(l.length:Int))=false:=Ke;have R:=Pe (show joinR l=if 65536<(Jas l).length then ([],5) else (Jas l,0) by unfold joinR;rw [if_neg h64]);have HC:=Pe hcl;have HX:=Pe hx;have hl64:l.length≤64:=Kd;have hline:=line_le 16384 l hx;have hmk:=fun w=>run_make_row' (P:=prog) 66 9 (.string ByteArray.empty) 16 underlying66 Jh3 rfl .i64 .i64 l.length Kd Kd w
 have HL:=Pe hline;clear hcl h64 hx hline;go_enter func220,ntmps220;go_wp2_with fail;clear hmk;go_loopw [16] (fun i wr=>∃k:Nat,i=.int .i64 k∧k≤l.length∧Hid (wr.heap[w.heap.size]?=some (.cells (Lib.cellsOf ((l.take k).map fun x=>str (Jam x)) l.length) 9 (0,0)))∧Pn w wr) (fun i _=>l.length - (intOf i).toNat);case atStart =>
  refine⟨0,rfl,Nat.zero_le _,?_,(Below.refl _ _).alloc Ph _⟩;show _=_
  rw [List.take_zero,List.map_nil,Lib.cellsOf_nil];exact heap_alloc_new w _
 case round =>
  obtain⟨k,rfl,hk,hblk,hb⟩:=hrel;have hbs:=hb.size;by_cases hlt:k<l.length
  ·obtain⟨b,o,rfl,hbl,hcell⟩:=HC.out Kd
   obtain⟨x,hxk⟩:=Jah hlt;have hxl:=HX.out x (List.mem_iff_getElem?.2 ⟨k,hxk⟩);have m1:=(hb.cell (p:=⟨b,o+k,none⟩) hbl).trans (hcell k _ (J6j l k x hxk));obtain⟨s,hs,hsz,hst⟩:=Jdb x;rw [hst] at m1;have Q:=Pe (fun w=>Jhp s Kd w);rw [hs] at Q;have g6:decide ((65536:Int)<(s.size:Int))=false:=Ke;have gk:(k:Int)<(l.length:Int):=Kd;have hdl:((l.take k).map fun x=>str (Jam x)).length=k:=Jp;have hnx:=Lib.cellsOf_next (done:=(l.take k).map fun x=>str (Jam x)) (N:=l.length) (by rw [hdl];exact hlt);have hset:=Lib.cellsOf_set (done:=(l.take k).map fun x=>str (Jam x)) (N:=l.length) (by rw [hdl];exact hlt) (str (Jam x));rw [hdl] at hnx hset;have hst2:((l.take k).map fun x=>str (Jam x))++[str (Jam x)]=(l.take (k+1)).map fun x=>str (Jam x):=by rw [Jbv l k x hxk,List.map_append];rfl
   rw [hst2] at hset;have HS:=Pe hset;have HN:=Pe hnx;have HB:=Pe hb;generalize str (Jam x)=q at Q HS;clear hcell hxk hs hsz hst hdl hnx hset hst2 hxl hb HC HX;go_wp2_with (go_at_call 173;refine (Q.out _).mono ?_;rintro e w2 ⟨rfl,b2⟩;have hb2:=(b2.block w.heap.size (by have:=(HB.out.trans (b2.mono hbs)).size;have h3:=(List.getElem?_eq_some_iff (l:=wr.heap.toList)).1 (by rw [Array.getElem?_toList];exact hblk.out);simpa using h3.1)).trans hblk.out;have c2:=J08 hb2 k _ HN.out;have f2:=frozen_of_row w2 w.heap.size k _ _ hb2;have HB2:=Pe (HB.out.trans (b2.mono hbs));have HK:=Pe hb2;clear b2 hb2);go_roundw
   case rel=>exact⟨k+1,Kg,Kd,(heap_setCell_same w2 w.heap.size k _ _ _ HK.out).trans (by rw [HS.out]),HB2.out.setCell Ph _⟩
   case measure=>exact Qz
  ·have e0:l.take k=l:=List.take_of_length_le Kd
   rw [e0] at hblk;have hmap:(l.map fun x=>str (Jam x))=(l.map Jam).map str:=by rw [List.map_map];rfl
   have hfull:(Lib.cellsOf (l.map fun x=>str (Jam x)) l.length).toList=sts (l.map Jam):=by
    have:=Lib.cellsOf_full (l.map fun x=>str (Jam x));rw [Pq] at this;rw [this,hmap];simp
   have hJ:=Jmv [44] (l.map Jam) (some ⟨w.heap.size,0,none⟩) l.length wr (by rw [Pq];exact Nat.le_refl _) (by rw [Pq];omega) (by rw [Jjr];have:=HL.out;omega) (fun h0=>⟨w.heap.size,0,rfl,by have h3:=(List.getElem?_eq_some_iff (l:=wr.heap.toList)).1 (by rw [Array.getElem?_toList];exact hblk.out);simpa using h3.1,fun j x hj=>by rw [Nat.zero_add,cell_of_row wr w.heap.size j _ _ _ hblk.out,←hj,←hfull];simp⟩);rw [Jjr,Pq] at hJ;obtain⟨q,hq,hqz,hqs⟩:=Jdb (Jas l);rw [hqs] at hJ;have J:=Pe hJ;have HB:=Pe hb;have d:decide (k<l.length)=false:=Kb;by_cases h6:65536<(Jas l).length
   ·have R2:=Pe (show joinR l=([],5) by rw [R.out,if_pos h6])
    have g6:(65536:Int)<(q.size:Int):=Kd;clear hJ hb hfull hmap hblk e0 hq hqz hqs h6 HC hlt R;go_wp2_with (go_at_call 53;refine J.out.mono ?_;rintro e w2 ⟨rfl,b2⟩;have HB2:=Pe (HB.out.trans (b2.mono hbs));clear b2);go_ret2;exact⟨Jck Xz Xz,HB2.out⟩
   ·have R2:=Pe (show joinR l=(Jas l,0) by rw [R.out,if_neg h6])
    have g6:decide ((65536:Int)<(q.size:Int))=false:=Ke;have HQ:=Pe hqs;clear hJ hb hfull hmap hblk e0 hq hqz hqs h6 HC hlt R;go_wp2_with (go_at_call 53;refine J.out.mono ?_;rintro e w2 ⟨rfl,b2⟩;have HB2:=Pe (HB.out.trans (b2.mono hbs));clear b2);go_ret2;exact⟨Jck (by rw [R2.out];exact HQ.out.symm) Xz,HB2.out⟩
theorem Jpq (s:ByteArray) (c:UInt8) (hs:s.size<4294967281) (w:World) :
  Calls prog 79 #[.string s,.string ⟨#[c]⟩,.int .i64 0,.int .i64 (-1)] w fun e w' =>
   e=.returned (.slice (some ⟨w.heap.size,0,none⟩) (Lib.countB s ⟨#[c]⟩+1) (Lib.countB s ⟨#[c]⟩+1))∧w'=w.alloc (.cells ((Lib.splitB ⟨#[c]⟩ 0 (Lib.countB s ⟨#[c]⟩) s).map Value.string).toArray 9):=by
 have h1:1≤(⟨#[c]⟩:ByteArray).size:=by show 1≤#[c].size;simp
 have hle:=Lib.countB_le ⟨#[c]⟩ h1 s.size s Ph;have hlen:=Lib.splitB_all ⟨#[c]⟩ h1 0 _ s rfl;have k:=Any.strings_genSplit_core Tryz.lays221 Kk s ⟨#[c]⟩ 0 (-1) (Lib.countB s ⟨#[c]⟩+1) w hs h1 (Nat.zero_le _)
  (fun x cs _=>(Tryz.strings_Index_one x c _).mono fun e w' ⟨he,hw⟩=>⟨by rw [he];exact congrArg (fun z=>Ending.returned (.int .i64 z)) (Lib.index_one x.data.toList c).symm,hw⟩)
  ((Tryz.strings_Count_one s c w).mono fun e w' ⟨he,hw⟩=>⟨by rw [he];exact congrArg (fun z:Nat=>Ending.returned (.int .i64 (z:Int))) (Lib.count_one c s.data.toList).symm,hw⟩)
  Kl Kl (by rw [if_pos Kl];omega)
 rw [Nat.add_sub_cancel,hlen] at k;have e2:Lib.cellsOf (Lib.splitB ⟨#[c]⟩ 0 (Lib.countB s ⟨#[c]⟩) s) (Lib.countB s ⟨#[c]⟩+1)=((Lib.splitB ⟨#[c]⟩ 0 (Lib.countB s ⟨#[c]⟩) s).map Value.string).toArray:=by rw [←hlen];exact Lib.cellsOf_full _
 rw [e2] at k;exact k
def Jju (c:UInt8) (l:List UInt8):List (List UInt8):=Lib.splitK [c] 0 (Lib.count l [c]) l
theorem Jv7 (s:ByteArray) (c:UInt8) (hs:s.size<4294967281) (w:World) :
  Calls prog 40 #[.string s,.string ⟨#[c]⟩] w fun e w'=>∃v,e=.returned v∧OwnS w' w.heap.size v (Jju c s.data.toList)∧Pn w w':=by
 have G:=Pe (Jpq s c hs w);have hown:Hid (OwnS (w.alloc (.cells ((Lib.splitB ⟨#[c]⟩ 0 (Lib.countB s ⟨#[c]⟩) s).map Value.string).toArray 9)) w.heap.size (.slice (some ⟨w.heap.size,0,none⟩) (Lib.countB s ⟨#[c]⟩+1) (Lib.countB s ⟨#[c]⟩+1)) (Jju c s.data.toList)):=by
  have h1:1≤(⟨#[c]⟩:ByteArray).size:=by show 1≤#[c].size;simp
  have hlen:=Lib.splitB_all ⟨#[c]⟩ h1 0 _ s rfl;have hd:=Lib.splitB_data ⟨#[c]⟩ 0 (Lib.countB s ⟨#[c]⟩) s;have hle:=Lib.countB_le ⟨#[c]⟩ h1 s.size s Ph;have hp:Jju c s.data.toList=(Lib.splitB ⟨#[c]⟩ 0 (Lib.countB s ⟨#[c]⟩) s).map (·.data.toList):=by rw [hd];rfl
  have hs1:((Lib.splitB ⟨#[c]⟩ 0 (Lib.countB s ⟨#[c]⟩) s).map Value.string)=sts (Jju c s.data.toList):=by
   rw [hp];unfold sts;rw [List.map_map];apply List.map_congr_left;intro x _;simp only [Function.comp]
  have hpl:(Jju c s.data.toList).length=Lib.countB s ⟨#[c]⟩+1:=by rw [hp,Pq,hlen]
  have h:=World.ownsRow_lit (base:=w.heap.size) (e:=9) (size:=1) w ((Lib.splitB ⟨#[c]⟩ 0 (Lib.countB s ⟨#[c]⟩) s).map Value.string).toArray (Lib.countB s ⟨#[c]⟩+1) Ph Kr (by simp [hlen]);show World.ownsRow _ _ _ _ _ _ _
  rw [hpl,←hs1];exact h
 generalize Lib.countB s ⟨#[c]⟩+1=N at G hown;generalize ((Lib.splitB ⟨#[c]⟩ 0 (Lib.countB s ⟨#[c]⟩) s).map Value.string).toArray=cs at G hown;go_enter func40,ntmps40;go_wp2_with fail;refine (G.out).mono ?_;rintro e w1 ⟨rfl,rfl⟩;go_wp2_with fail;go_ret;exact⟨_,rfl,hown.out,(Below.refl _ _).alloc Ph _⟩
def linesR (l:List UInt8):List (List UInt8)×Int:=if 65536<l.length then ([],5) else if l=[] then ([],0) else if l[l.length - 1]?=some 10 then ((cutL l).1,0) else ([],4)
theorem Jv8 (l:List UInt8):(cutL (l++[10])).1=Jju 10 l:=by rw [Jpp _ l rfl];rfl
theorem J09 (l:List UInt8) (c:UInt8) (h:l[l.length - 1]?=some c):∃q,l=q++[c]:=by
 rcases List.eq_nil_or_concat l with rfl | ⟨q,b,rfl⟩
 ·exact Qt
 ·rw [List.concat_eq_append] at *
  simp at h;exact⟨q,Qj⟩
theorem flines_any (s:ByteArray) (hs:s.size≤1099511627776) (w:World):Calls prog 19 #[.string s] w (Jfk w (linesR s.data.toList)):=by
 have hz:=Ja1 s;by_cases h5:65536<s.size
 ·have R:=Pe (show linesR s.data.toList=([],5) by unfold linesR;rw [hz,if_pos h5])
  have g:(65536:Int)<(s.size:Int):=Kd;clear h5 hz;go_enter func19,ntmps19;exact U2
 have g:decide ((65536:Int)<(s.size:Int))=false:=Ke;by_cases h0:s.size=0
 ·have hnil:s.data.toList=[]:=List.length_eq_zero_iff.1 (by rw [hz];exact h0)
  have R:=Pe (show linesR s.data.toList=([],0) by unfold linesR;rw [hz,if_neg h5,if_pos hnil]);have he:s.toList.isEmpty=true:=Ux;clear h5 hz h0 hnil;go_enter func19,ntmps19;go_wp2_with fail;go_ret2;exact Jfk.ok R.out (OwnS.nil _ _) Pg
 have he:s.toList.isEmpty=false:=Ux;have hnn:s.data.toList≠[]:=fun e=>h0 (by rw [←hz,e];rfl)
 by_cases hl:s.data.toList[s.size - 1]?=some 10
 ·obtain⟨q,hq⟩:=J09 s.data.toList 10 (by rw [hz];exact hl)
  have hql:q.length+1=s.size:=by rw [←hz,hq];simp
  obtain⟨b,hb,hbz,hbs⟩:=Jdb q;have R:=Pe (show linesR s.data.toList=(Jju 10 b.data.toList,0) by unfold linesR;rw [hz,if_neg h5,if_neg hnn,if_pos hl,hq,hb,Jv8]);have C:=Pe (fun w=>Jlb 10 q (by rw [Pp,List.length_singleton];omega) w);rw [←hq,Ja5,hbs] at C;have S:=Pe (fun w=>Jv7 b 10 Kd w);clear h5 hz h0 hnn hl hq hql hb hbz hbs;go_enter func19,ntmps19;go_wp2_with fail;refine Pf (C.out _) ?_;go_wp2_with fail;refine (S.out _).mono ?_;rintro e w1 ⟨v,rfl,o1,b1⟩;have O1:=Pe o1;clear o1;go_wp2_with fail;go_ret2;exact Jfk.ok R.out O1.out b1
 ·have R:=Pe (show linesR s.data.toList=([],4) by unfold linesR;rw [hz,if_neg h5,if_neg hnn,if_neg hl])
  have C:=Pe (fun w=>Jjn 10 s.data.toList (by
   cases hp:List.isSuffixOf [10] s.data.toList with
   | false=>rfl
   | true =>
    rw [List.isSuffixOf_iff_suffix] at hp;obtain⟨t,ht⟩:=hp;exact absurd (show s.data.toList[s.size - 1]?=some 10 by rw [←hz,←ht];simp) hl) (by rw [hz];omega) w)
  rw [Ja5] at C;clear h5 hz h0 hnn hl;go_enter func19,ntmps19;go_wp2_with fail;refine Pf (C.out _) ?_;exact U2
def fed (x:List UInt8):Bool:=decide ((10:UInt8)∈x)
def textR (l:List (List UInt8)):List UInt8×Int:=if l.any fed then ([],3) else if 65536<(Jay l).length then ([],5) else (Jay l,0)
theorem Qbd (l:List (List UInt8)) (k:Nat) (x:List UInt8) (h:l[k]?=some x) (hf:fed x=true):l.any fed=true:=by
 rw [List.any_eq_true];exact⟨x,List.mem_iff_getElem?.2 ⟨k,h⟩,hf⟩
theorem J5p (l:List (List UInt8)) (h:∀(j:Nat) x,j<l.length→l[j]?=some x→fed x=false):l.any fed=false:=by
 cases ha:l.any fed with
 | false=>rfl
 | true =>
  rw [List.any_eq_true] at ha;obtain⟨x,hm,hx⟩:=ha;obtain⟨j,hj⟩:=List.mem_iff_getElem?.1 hm;rw [h j x (Pl hj).1 hj] at hx;cases hx
theorem Jmz (s:ByteArray) (w:World):Pb 52 #[.string s,.string ⟨#[10]⟩] w (.bool (fed s.data.toList)):=by
 refine (Tryz.strings_Contains_one s 10 w).mono fun e w' ⟨he,hw⟩=>⟨?_,hw.symm⟩
 rw [he];have:decide (0≤Lib.indexByte s.data.toList 10)=fed s.data.toList:=by
  unfold fed;by_cases h:(10:UInt8)∈s.data.toList
  ·obtain⟨p,q,e,hn⟩:=J7x _ _ h
   rw [e,Jjm 10 q p hn];simp
  ·rw [Jhn 10 _ h]
   simp [h]
 rw [this]
theorem J1a (B:Nat):∀(l:List (List UInt8)),(∀x∈l,x.length≤B)→(Jay l).length≤l.length*(B+1)
 | [],_=>by simp [Jay]
 | x::l,h=>by
  have ih:=J1a B l (fun y hy=>h y (by simp [hy]));have e:Jay (x::l)=x++10::Jay l:=by simp [Jay]
  have:=h x Kj;rw [e,Pp,List.length_cons,List.length_cons,Nat.succ_mul];omega
theorem ftext_any (v:Value) (l:List (List UInt8)) (hn:l.length≤20000) (hx:∀x∈l,x.length≤16384) (w:World) (h:Lst w v l):Pc 33 #[v] w (.tuple #[.string (str (textR l).1),.int .i64 (textR l).2]):=by
 have hL:=h;obtain⟨A,c,rfl,hcap,hcl⟩:=h;have HT:=Pe (fun k=>J1a 16384 (l.take k) (fun x hm=>hx x (List.mem_of_mem_take hm)));have HC:=Pe hcl;have HX:=Pe hx;have HCAP:=Pe hcap;clear hcl hx hL hcap;go_enter func33,ntmps33;go_wp2_with fail;go_loop [4,9] (fun n i=>∃k:Nat,i=.int .i64 k∧k≤l.length∧n=.int .i64 ((Jay (l.take k)).length:Int)∧Hid (∀(j:Nat) x,j<k→l[j]?=some x→fed x=false)) (fun _ i=>l.length - (intOf i).toNat);case atStart=>exact⟨0,rfl,Nat.zero_le _,rfl,Pe (fun j x hj=>absurd hj (Nat.not_lt_zero _))⟩
 case round =>
  obtain⟨k,rfl,hk,rfl,hall⟩:=hrel;have htl:=HT.out k;have htk:(l.take k).length≤20000:=J6;have htl2:(Jay (l.take k)).length≤20000*16385:=Nat.le_trans htl (Nat.mul_le_mul_right _ htk);by_cases hlt:k<l.length
  ·obtain⟨b,o,rfl,hbl,hcell⟩:=HC.out Kd
   obtain⟨x,hxk⟩:=Jah hlt;have hxl:=HX.out x (List.mem_iff_getElem?.2 ⟨k,hxk⟩);have m1:=hcell k _ (J6j l k x hxk);obtain⟨s,hs,hsz,hst⟩:=Jdb x;rw [hst] at m1;have C:=Pe (fun w=>Jmz s w);rw [hs] at C;have gk:(k:Int)<(l.length:Int):=Kd;cases hf:fed x with
   | true =>
    rw [hf] at C;have R:=Pe (show textR l=([],3) by unfold textR;rw [Qbd l k x hxk hf];rfl);clear hcell hxk hs hsz hst hf hall htl htk hxl;go_wp2_with fail;refine Pf (C.out _) ?_;go_wp2_with fail;go_ret2;exact⟨Jck Va Va,Pg⟩
   | false =>
    rw [hf] at C;have hT:=J0y l k x hxk;have T:=Pe (show ((Jay (l.take (k+1))).length:Int)=(Jay (l.take k)).length+((s.size:Int)+1) by rw [hT];simp;omega);have hall2:Hid (∀(j:Nat) y,j<k+1→l[j]?=some y→fed y=false):=by
     intro j y hj hy;by_cases hjk:j<k
     ·exact hall.out j y hjk hy
     ·obtain rfl:j=k:=Kd
      rw [hxk] at hy;obtain rfl:=Po hy;exact hf
    have hs16:s.size≤16384:=Kd;clear hcell hxk hs hsz hst hf hall htl htk hT hxl;go_wp2_with fail;refine Pf (C.out _) ?_;go_wp2_with fail;go_round;case rel=>exact⟨k+1,Kg,Kd,by rw [T.out],hall2⟩
    case measure=>exact Qz
  ·have e0:l.take k=l:=List.take_of_length_le Kd
   have hnf:=J5p l (fun j x hj=>hall.out j x Kd);have d:decide (k<l.length)=false:=Kb;rw [e0] at htl2;rw [e0];have R:=Pe (show textR l=if 65536<(Jay l).length then ([],5) else (Jay l,0) by unfold textR;rw [hnf];rfl);by_cases h6:65536<(Jay l).length
   ·have R2:=Pe (show textR l=([],5) by rw [R.out,if_pos h6])
    have g6:(65536:Int)<((Jay l).length:Int):=Kd;clear e0 hnf hall htl htk hlt R h6;go_wp2_with fail;go_ret2;exact⟨Jck Xz Xz,Pg⟩
   have R2:=Pe (show textR l=(Jay l,0) by rw [R.out,if_neg h6]);have g6:decide ((65536:Int)<((Jay l).length:Int))=false:=Ke;by_cases h0:(Jay l).length=0
   ·have hnil:=J5j l h0
    have R3:=Pe (show textR l=([],0) by rw [R2.out,List.length_eq_zero_iff.1 h0]);have q0:(((Jay l).length:Int)==0)=true:=Jai Kd;have q0':((Jay l).length==0)=true:=by rw [beq_iff_eq];exact h0
    have q0'':Jay l=[]:=List.length_eq_zero_iff.1 h0;clear e0 hnf hall htl htk hlt R R2 h6 h0 hnil q0'';go_wp2_with fail;go_ret2;exact⟨Jck (by rw [R3.out]) (by rw [R3.out]),Pg⟩
   have q0:(((Jay l).length:Int)==0)=false:=Jaa Kd;have q0':((Jay l).length==0)=false:=Ky;have hne:l≠[]:=by intro e;rw [e] at h0;exact h0 rfl
   have hne2:¬Jay l=[]:=by intro e;rw [e] at h0;exact h0 rfl
   have hTJ:=Jpo l hne;have hjl:(Lib.join l [10]).length+1=(Jay l).length:=by rw [←hTJ];simp
   have J1:=Pe (Jmv [10] l A c w HCAP.out.1 Kd Kd HC.out);obtain⟨q,hq,hqz,hqs⟩:=Jdb (Lib.join l [10]);rw [hqs] at J1;have J2:=Pe (fun w=>Jt8 [] [q.data.toList,[10]] #[.string q,.string (str [10])] (by show [Value.string q,Value.string (str [10])]=[Value.string (str q.data.toList),Value.string (str [10])];rw [Ja5]) 2 rfl w Kj (Jay l) (by rw [join_flat,hq,←hTJ];simp) Kd);obtain⟨t,ht,htz,hts⟩:=Jdb (Jay l);rw [hts] at J2;have HTS:=Pe hts;clear e0 hnf hall htl htk hlt R h6 h0 hne hTJ hjl hq hqz hqs ht htz hts;go_wp2_with fail;refine (J1.out).mono ?_;rintro e w1 ⟨rfl,b1⟩;go_wp2_with fail;refine (J2.out w1).mono ?_;rintro e w2 ⟨rfl,b2⟩;go_wp2_with fail;go_ret2;exact⟨Jck (by rw [R2.out];exact HTS.out.symm) Xz,b1.trans (b2.mono b1.size)⟩
end S4
end Go.Proofs.YtpifdbphmnifdaaGreatDoor
