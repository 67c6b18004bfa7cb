/-
  Facts. Condition: each theorem's own.
-/
import Derived.Lib.SplitLaws
import Derived.Lib.Join
import Derived.Lib.IndexBytes
import Derived.Deep.LoopGhost
import Derived.Test.YtpifdbphmnifdaaGreatDoorYF12
set_option maxRecDepth 100000
set_option maxHeartbeats 8000000
section
variable {p:Prop}
theorem Wl(h:p:=by go_wp2_with fail;go_ret;exact⟨Jac (by rw[<-EP.out,hres.out]),Ja5 _ _ _⟩):p:=h
theorem Wm(h:p:=by rintro e w1 ⟨rfl,b1⟩;go_wp2_with fail;go_ret2;exact⟨Jcb Va Va,b1⟩):p:=h
theorem Wn(h:p:=by rintro e w1 ⟨rfl,b1⟩;go_wp2_with fail;go_ret2;exact⟨Jcb (by rw[R.out,Jaw]) Va,b1⟩):p:=h
theorem Wo(h:p:=by go_wp2_with fail;go_ret;exact⟨Jac e.out.symm,Pg⟩):p:=h
theorem Wp(h:p:=by go_wp2_with fail;go_ret;exact⟨Jac hres.out.symm,Pg⟩):p:=h
theorem Wq(h:p:=by go_wp2_with fail;go_ret2;exact⟨Jcb Va Va,Pg⟩):p:=h
theorem Wr(h:p:=by rw[Jca];simpa using h0):p:=h
theorem Ws(h:p:=by have:=BB2.out.size;simp;omega):p:=h
theorem Wt(h:p:=by have:=HZ.out;simp;omega):p:=h
theorem Wu(h:p:=by rw[EE.out];exact own1):p:=h
theorem Wv(h:p:=by go_enter func209,ntmps209;go_wp2_with fail;go_ret;exact⟨Jad (by have:=HX.out;omega),rfl⟩):p:=h
theorem Ww(h:p:=by go_wp2_with fail;go_ret2;exact Jfn.err R.out Pg):p:=h
theorem Wx(h:p:=by rintro e w1 ⟨rfl,b1⟩;go_wp2_with fail;go_ret;exact⟨Jcv R.out.symm,b1⟩):p:=h
theorem Wy(h:p:=by rw[<-hn,<-hu];exact hud):p:=h
theorem Wz(h:p:=by have:=R.out;omega):p:=h
theorem Ua(h:p:=by rw[hG];intro e;exact hqs (by rw[<-hq,e,Jaw])):p:=h
end
open Go.Proofs.Tryz
namespace Go.Proofs.YtpifdbphmnifdaaGreatDoor
namespace S4
open Go
theorem Jwb(l:List UInt8)(c:UInt8):Ja1 (l++[c])=Ja1 l++esc c:=Y1
theorem Jlc(l:List UInt8)(k:Nat)(c:UInt8)(h:l[k]?=some c):Ja1 (l.take (k+1))=Ja1 (l.take k)++esc c:=by rw[Jbx l k c h,Jwb]
theorem Qd7(c:UInt8):(esc c).length<=4:=by
 unfold esc;split
 ·simp
 ·split <;> simp
theorem Jgu:∀l:List UInt8,(Ja1 l).length<=4*l.length
 | []=>Y1
 | c::l=>by
  have e:Ja1 (c::l)=esc c++Ja1 l:=Y1;have h1:=Qd7 c;have h2:=Jgu l;rw[e,Pq,List.length_cons];omega
theorem Jgv(l:List UInt8)(k:Nat):(Ja1 (l.take k)).length<=4*l.length:=by
 have h1:=Jgu (l.take k);have h2:(l.take k).length<=l.length:=J8;omega
theorem Jmx(l:List UInt8):(Jaj l).length<=4*l.length+2:=by
 unfold Jaj;split
 ·omega
 ·have:=Jgu l
  exact Kb
theorem Jhs(c:UInt8)(h:ctl c=true):esc c=[92,120,hexD (c.toNat / 16),hexD (c.toNat % 16)]:=by unfold esc;rw[if_pos h]
theorem Jf3(c:UInt8)(h:ctl c=false)(h2:c=34\/c=92):esc c=[92,c]:=by
 unfold esc;rw[if_neg X7,if_pos (by rcases h2 with rfl | rfl <;> rfl)]
theorem Jf4(c:UInt8)(h:ctl c=false)(h2:c≠34)(h3:c≠92):esc c=[c]:=by
 unfold esc;rw[if_neg X7,if_neg (by simp[h2,h3])]
theorem J05(c:UInt8):pln c=true↔c.toNat≠44/\c.toNat≠34/\c.toNat≠92/\¬(c.toNat<32)/\c.toNat≠127:=by
 have e:∀k:UInt8,(c=k)=(c.toNat=k.toNat):=fun k=>propext ⟨fun h=>Qc,fun h=>UInt8.toNat_inj.1 h⟩
 unfold pln ctl;simp only[Bool.not_eq_true',Bool.or_eq_false_iff,beq_eq_false_iff_ne,decide_eq_false_iff_not,ne_eq,e,not_or];simp[and_assoc]
theorem J5g(c:UInt8)(h:128<=c.toNat):pln c=true:=(J05 c).2 ⟨Ka,Ka,Ka,Ka,Ka⟩
theorem Jjj(l:List UInt8):Jbe l=true↔l.all pln=true/\l≠[]/\l[0]?≠some 32/\l[l.length - 1]?≠some 32:=by
 unfold Jbe;rw[Bool.and_eq_true,Bool.and_eq_true,Bool.and_eq_true,List.head?_eq_getElem?,List.getLast?_eq_getElem?];simp[and_assoc]
theorem Jh3(l:List UInt8)(h:l.all pln=false):Jbe l=false:=by
 cases hp:Jbe l with
 | false=>rfl
 | true=>rw[((Jjj l).1 hp).1] at h;cases h
def digV(c:UInt8):Nat:=(Lib.indexByte [48,49,50,51,52,53,54,55,56,57,97,98,99,100,101,102] c % 256).toNat
theorem J06(c:UInt8):digV c<256:=by unfold digV;omega
theorem Jpx:∀n,n<16->digV (hexD n)=n:=Kd
def cutQ:List UInt8->List UInt8
 | []=>[]
 | c::r=>if c≠92 then c::cutQ r else match r with
  | []=>[]
  | d::q=>match q with
   | x::y::z=>if d=120 then UInt8.ofNat (digV x*16+digV y)::cutQ z else d::cutQ (x::y::z)
   | [x]=>d::cutQ [x]
   | []=>[d]
theorem Jgw:cutQ []=[]:=by rw[cutQ.eq_def]
theorem Jht(c:UInt8)(r:List UInt8)(h:c≠92):cutQ (c::r)=c::cutQ r:=by rw[cutQ.eq_def];simp[h]
theorem Juj:cutQ [92]=[]:=by rw[cutQ.eq_def];rfl
theorem Jmy(x y:UInt8)(z:List UInt8):cutQ (92::120::x::y::z)=UInt8.ofNat (digV x*16+digV y)::cutQ z:=by rw[cutQ.eq_def];rfl
theorem Jjk(d:UInt8)(q:List UInt8)(h:d≠120\/q.length<2):cutQ (92::d::q)=d::cutQ q:=by
 rw[cutQ.eq_def];simp only[ne_eq,not_true_eq_false,if_false];match q,h with
 | [],_=>simp[Jgw]
 | [x],_=>rfl
 | x::y::z,h =>
  have:d≠120:=by rcases h with h | h;exact h;simp at h;omega
  simp[this]
theorem Jmz:∀(p r:List UInt8),(92:UInt8) ∉ p->cutQ (p++r)=p++cutQ r
 | [],_,_=>rfl
 | c::p,r,h=>by
  have h1:c≠92:=fun e=>h (by simp[e])
  rw[List.cons_append,Jht _ _ h1,Jmz p r (fun hm=>h (by simp[hm]))];rfl
theorem J5h(c:UInt8)(r:List UInt8):cutQ (esc c++r)=c::cutQ r:=by
 have hc:=c.toNat_lt;cases h:ctl c with
 | true =>
  rw[Jhs c h];show cutQ (92::120::hexD (c.toNat / 16)::hexD (c.toNat % 16)::r)=_
  rw[Jmy,Jpx _ Ka,Jpx _ Ka,show c.toNat / 16*16+c.toNat % 16=c.toNat by omega,UInt8.ofNat_toNat]
 | false =>
  by_cases h2:c=34\/c=92
  ·rw[Jf3 c h h2]
   show cutQ (92::c::r)=_
   rw[Jjk c r (Or.inl (by rcases h2 with rfl | rfl <;> decide))]
  ·rw[Jf4 c h (fun e=>h2 (Or.inl e)) (fun e=>h2 (Or.inr e))]
   exact Jht c r (fun e=>h2 (Or.inr e))
theorem Jld:∀l:List UInt8,cutQ (Ja1 l)=l
 | []=>Jgw
 | c::l=>by
  have e:Ja1 (c::l)=esc c++Ja1 l:=Y1;rw[e,J5h,Jld l]
theorem Jm0:∀(n:Nat) (l:List UInt8),l.length<=n->(cutQ l).length<=l.length
 | 0,l,h=>by
  rw[List.length_eq_zero_iff.1 (Nat.le_zero.1 h),Jgw];exact Nat.le_refl _
 | n+1,[],_=>by rw[Jgw];exact Nat.le_refl _
 | n+1,c::r,h=>by
  simp only[List.length_cons] at h;by_cases hc:c=92
  ·subst hc
   match r,h with
   | [],_=>rw[Juj];simp
   | d::q,h =>
    simp only[List.length_cons] at h;by_cases hd:d≠120\/q.length<2
    ·rw[Jjk d q hd]
     have:=Jm0 n q Ka;exact Ku
    ·obtain⟨rfl,hq⟩:d=120/\2<=q.length:=⟨Classical.byContradiction fun h=>hd (Or.inl h),by rcases Nat.lt_or_ge q.length 2 with h | h;exact absurd (Or.inr h) hd;exact h⟩
     match q,hq,h with
     | x::y::z,_,h =>
      simp only[List.length_cons] at h;rw[Jmy];have:=Jm0 n z Ka;exact Ku
  ·rw[Jht c r hc]
   have:=Jm0 n r Ka;exact Ku
def Jeg(s:List UInt8):List UInt8:=if 2<=s.length/\s[0]?=some 34/\s[s.length - 1]?=some 34 then cutQ ((s.drop 1).take (s.length - 2)) else s
theorem J5i(s:List UInt8):(Jeg s).length<=s.length:=by
 unfold Jeg;split
 ·have:=Jm0 _ ((s.drop 1).take (s.length - 2)) Ph
  rw[List.length_take,List.length_drop] at this;omega
 ·exact Nat.le_refl _
theorem Jrw(t:List UInt8):Jeg (Jaj t)=t:=by
 unfold Jeg Jaj;cases h:Jbe t with
 | true =>
  rw[if_pos rfl,if_neg];rintro⟨_,h2,_⟩;obtain⟨c,r,rfl,hc⟩:=Jk1 h;simp at h2;exact hc h2
 | false =>
  simp only[Bool.false_eq_true,if_false];have hl:(34::(Ja1 t++[34])).length=(Ja1 t).length+2:=Ke;rw[if_pos ⟨Ka,rfl,by rw[hl];simp⟩,hl];rw[show((34::(Ja1 t++[34])).drop 1).take ((Ja1 t).length+2 - 2)=Ja1 t by simp];exact Jld t
theorem Jpy(s:List UInt8):unq s=if Jaj (Jeg s)=s then some (Jeg s) else none:=by
 split
 ·next h=>exact(Jz4 _ _).2 h
 ·next h =>
  cases hu:unq s with
  | none=>rfl
  | some t =>
   have:=(Jz4 _ _).1 hu;rw[<-this,Jrw] at h;exact absurd rfl h
theorem Jpz:∀(l:List (List UInt8)) (x:List UInt8),l≠[]->Jan (l++[x])=Jan l++44::Jaj x
 | [],_,h=>absurd rfl h
 | [y],x,_=>rfl
 | y::z::l,x,_=>by
  have ih:=Jpz (z::l) x Ke;have e1:Jan (y::z::l++[x])=Jaj y++44::Jan (z::l++[x]):=rfl;have e2:Jan (y::z::l)=Jaj y++44::Jan (z::l):=rfl;rw[e1,e2,ih];simp
theorem J07(l:List (List UInt8))(k:Nat)(x:List UInt8)(h:l[k]?=some x):Jan (l.take (k+1))=if k=0 then Jaj x else Jan (l.take k)++44::Jaj x:=by
 have hk:=(Pm h).1;rw[Jbx l k x h];split
 ·next h0=>subst h0;rfl
 ·next h0=>exact Jpz _ _ (by intro e;have:=congrArg List.length e;rw[List.length_take,List.length_nil] at this;omega)
theorem Jjl:∀(l:List (List UInt8)),Lib.join (l.map Jaj) [44]=Jan l
 | []=>rfl
 | [x]=>by rw[List.map_cons,List.map_nil,Lib.join_one];rfl
 | x::y::l=>by
  have ih:=Jjl (y::l);rw[List.map_cons,Lib.join_cons] at ih |-;have e2:Jan (x::y::l)=Jaj x++44::Jan (y::l):=rfl;rw[e2,<-ih];simp[Lib.joinTail]
theorem line_le(B:Nat):∀(l:List (List UInt8)),(∀x∈l,x.length<=B)->(Jan l).length<=l.length*(4*B+3)
 | [],_=>by simp[Jan]
 | [x],h=>by
  have:=h x Ke;have h2:=Jmx x;show(Jaj x).length<=_
  exact Kb
 | x::y::l,h=>by
  have ih:=line_le B (y::l) (fun z hz=>h z (by simp[hz]));have e2:Jan (x::y::l)=Jaj x++44::Jan (y::l):=rfl;have:=h x Ke;have h2:=Jmx x;rw[e2,Pq,List.length_cons,List.length_cons,Nat.succ_mul];omega
theorem Jm1:∀(n:Nat) (l:List UInt8),l.length<=n->qend l<=l.length
 | 0,l,h=>by rw[List.length_eq_zero_iff.1 (Nat.le_zero.1 h)];exact Nat.le_refl _
 | n+1,[],_=>Nat.le_refl _
 | n+1,c::r,h=>by
  simp only[List.length_cons] at h;by_cases h1:c=34
  ·subst h1;rw[Jra];simp
  ·by_cases h2:c=92
   ·subst h2
    match r,h with
    | [],_=>rw[qend.eq_def];simp
    | d::q,h =>
     simp only[List.length_cons] at h;rw[Jmf];have:=Jm1 n q Ka;exact Ku
   ·rw[Jea c r h1 h2]
    have:=Jm1 n r Ka;exact Ku
theorem Qd8(l:List UInt8):endL l<=l.length:=by
 unfold endL;split
 ·exact Nat.le_refl _
 ·next c r =>
  split
  ·have:=Jm1 _ r Ph
   exact Ku
  ·exact(List.takeWhile_prefix _).length_le
theorem end_q(r:List UInt8):endL (34::r)=1+qend r:=by unfold endL;rw[if_pos rfl]
theorem end_p(l:List UInt8)(h:l[0]?≠some 34):endL l=(l.takeWhile (· != 44)).length:=by
 unfold endL;cases l with
 | nil=>rfl
 | cons c r =>
  simp at h;simp only[];rw[if_neg h]
theorem Qa9(l:List UInt8)(k:Nat)(c:UInt8)(h:l[k]?=some c)(hc:c≠44):((l.drop k).takeWhile (· != 44)).length=1+((l.drop (k+1)).takeWhile (· != 44)).length:=by
 rw[Jbg l k c h,List.takeWhile_cons_of_pos (by simpa using hc),List.length_cons];omega
theorem Qba(l:List UInt8)(k:Nat)(h:l[k]?=some 44):((l.drop k).takeWhile (· != 44)).length=0:=by
 rw[Jbg l k 44 h,List.takeWhile_cons_of_neg Kd];rfl
theorem Qbb(l:List UInt8)(k:Nat)(h:l[k]?=some 34):qend (l.drop k)=1:=by rw[Jbg l k 34 h,Jra]
theorem Qbc(l:List UInt8)(k:Nat)(c:UInt8)(h:l[k]?=some c)(h1:c≠34)(h2:c≠92):qend (l.drop k)=1+qend (l.drop (k+1)):=by rw[Jbg l k c h,Jea c _ h1 h2]
theorem Qd9(l:List UInt8)(k:Nat)(h:l[k]?=some 92)(hk:k+1<l.length):qend (l.drop k)=2+qend (l.drop (k+2)):=by
 obtain⟨d,hd⟩:=Jah hk;rw[Jbg l k 92 h,Jbg l (k+1) d hd,Jmf]
theorem Qbd(l:List UInt8)(k:Nat)(h:l[k]?=some 92)(hk:¬k+1<l.length):qend (l.drop k)=1:=by
 rw[Jbg l k 92 h,List.drop_eq_nil_of_le Ka,qend.eq_def];rfl
theorem J8j(l:List UInt8)(k:Nat)(h:¬k<l.length):qend (l.drop k)=0:=by
 rw[List.drop_eq_nil_of_le Ka,qend.eq_def]
theorem J08(l:List (List UInt8))(k:Nat)(x:List UInt8)(h:l[k]?=some x):Jax (l.take (k+1))=Jax (l.take k)++x++[10]:=by rw[Jbx l k x h];simp[Jax]
theorem Jp0:∀(l:List (List UInt8)),l≠[]->Lib.join l [10]++[10]=Jax l
 | [],h=>absurd rfl h
 | [x],_=>by rw[Lib.join_one];simp[Jax]
 | x::y::l,_=>by
  have ih:=Jp0 (y::l) Ke;rw[Lib.join_cons] at ih |-;have e:Jax (x::y::l)=x++10::Jax (y::l):=by simp[Jax]
  rw[e,<-ih];simp[Lib.joinTail]
theorem J5j(l:List (List UInt8))(h:(Jax l).length=0):l=[]:=by
 cases l with
 | nil=>rfl
 | cons x l=>simp[Jax] at h
theorem Jgx(o:List (List UInt8)):∀(l c:List UInt8),l.foldl (fun s b=>if b==10 then(s.1++[s.2],[]) else(s.1,s.2++[b])) (o,c)=(o++(l.foldl (fun s b=>if b==10 then(s.1++[s.2],[]) else(s.1,s.2++[b])) (([]:List (List UInt8)),c)).1,(l.foldl (fun s b=>if b==10 then(s.1++[s.2],[]) else(s.1,s.2++[b])) (([]:List (List UInt8)),c)).2)
 | [],c=>Ke
 | b::l,c=>by
  rw[List.foldl_cons,List.foldl_cons];by_cases hb:(b==10)=true
  ·simp only[hb,if_true]
   rw[Jgx (o++[c]) l [],Jgx ([]++[c]) l []];simp
  ·simp only[hb]
   exact Jgx o l (c++[b])
theorem Jp1:∀(k:Nat) (l:List UInt8),Lib.count l [10]=k->cutL (l++[10])=(Lib.splitK [10] 0 k l,[])
 | k,l,hk=>by
  rcases Lib.index_spec l [10] with⟨hm,hn⟩ | ⟨i,hi,hil,ho,hf⟩
  ·have h0:k=0:=by rw[<-hk,Lib.count_miss hm]
   subst h0;have hno:∀b∈l,b≠10:=by
    intro b hb e;subst e;have h1:Lib.indexByte l 10=-1:=by rw[<-Lib.index_one];exact hm
    obtain⟨j,hj⟩:=List.mem_iff_getElem?.1 hb;exact Lib.indexByte_none h1 j hj
   have e:=Ji8 l [] [] hno;rw[Jgm];unfold cutL;rw[e];rfl
  ·obtain⟨j,rfl⟩:∃j,k=j+1:=⟨k - 1,by rw[<-hk,Lib.count_hit Ke hi];omega⟩
   have hj:Lib.count (l.drop (i+1)) [10]=j:=by
    have:=Lib.count_hit Ke hi;rw[hk] at this;exact Q6
   have hb:Lib.indexByte l 10=i:=by rw[<-Lib.index_one];exact hi
   obtain⟨hat,hbef⟩:=Lib.indexByte_some hb;have hlt:=(Pm hat).1;have ih:=Jp1 j (l.drop (i+1)) hj;have el:l=l.take i++10::l.drop (i+1):=by
    rw[<-Jbg l i 10 hat,List.take_append_drop]
   have hno:∀b∈l.take i,b≠10:=by
    intro b hb e;subst e;obtain⟨m,hm⟩:=List.mem_iff_getElem?.1 hb;rw[List.getElem?_take] at hm;split at hm
    ·next hmi=>exact hbef m hmi hm
    ·cases hm
   have e1:=Ji8 (l.take i) [] [] hno;have e2:cutL (l++[10])=([l.take i]++(cutL (l.drop (i+1)++[10])).1,(cutL (l.drop (i+1)++[10])).2):=by
    conv=>lhs;rw[el]
    unfold cutL;rw[List.append_assoc,List.foldl_append,e1,List.cons_append,List.foldl_cons];have:=Jgx [l.take i] (l.drop (i+1)++[10]) [];simp at this |-;exact this
   have e3:Lib.splitK [10] 0 (j+1) l=if Lib.index l [10]==-1 then[l] else l.take ((Lib.index l [10]).toNat+0)::Lib.splitK [10] 0 j (l.drop ((Lib.index l [10]).toNat+[10].length)):=rfl
   rw[e2,ih,e3];have hm:¬(Lib.index l [10]==-1)=true:=by rw[hi];simp
   rw[if_neg hm,hi];simp
 termination_by k=>k
 decreasing_by all_goals omega
open Go.RowKit
theorem Jgy(c:Int)(h:c<32\/c=127)(w:World):Pb 313 #[.int .i32 c] w (.bool true):=by
 by_cases h0:c<32
 ·go_enter func313,ntmps313
  exact Kc
 ·have h1:c=127:=Ka
  subst h1;go_enter func313,ntmps313;exact Kc
theorem Jh4(c:Int)(h0:32<=c)(h1:c≠127)(w:World):Pb 313 #[.int .i32 c] w (.bool false):=by
 have d:decide (c<32)=false:=Kb;have q:(c==127)=false:=Jaa h1;go_enter func313,ntmps313;exact Kc
theorem Jjm(c:Int)(h:c<32\/c=127)(w:World):Pb 207 #[.int .u8 c] w (.bool true):=by
 by_cases h0:c<32
 ·go_enter func207,ntmps207
  exact Kc
 ·have h1:c=127:=Ka
  subst h1;go_enter func207,ntmps207;exact Kc
theorem Jle(c:Int)(h0:32<=c)(h1:c≠127)(w:World):Pb 207 #[.int .u8 c] w (.bool false):=by
 have d:decide (c<32)=false:=Kb;have q:(c==127)=false:=Jaa h1;go_enter func207,ntmps207;exact Kc
theorem Qbe(n:Nat)(h:n<16)(w:World):Pb 209 #[.int .u8 (n:Int)] w (.int .u8 ((hexD n).toNat:Int)):=by
 have hx:=Jij n h;by_cases h0:n<10
 ·rw[if_pos h0] at hx
  have HX:=Pe hx;clear hx;have h1:(n:Int)<10:=Ka;exact Wv
 ·rw[if_neg h0] at hx
  have HX:=Pe hx;clear hx;have h1:decide ((n:Int)<10)=false:=Kb;have h2:(10:Int)<=n:=Ka;have h3:(n:Int)<=15:=Ka;clear h0 h;exact Wv
def badR(r:Nat):Bool:=decide (r=44\/r=34\/r=92\/r<32\/r=127)
theorem Jm2(c:UInt8):pln c=!(badR c.toNat):=by
 rw[Bool.eq_iff_iff,J05];unfold badR;simp
theorem J09(s:ByteArray)(pos:Nat)(hp:pos<s.size)(ht:(s.data.toList.take pos).all pln=true)(w:World):
  ∃r p:Nat,(∀ty,(Instr.next (.pointer (some ⟨w.heap.size,0,none⟩)) true ty).run prog (w.iter s pos)=.ok (.tuple #[.bool true,.int .i64 pos,.int .i32 r]) (w.iter s p))/\pos<p/\p<=s.size/\r<=2147483647 /\
   (badR r=true->s.data.toList.all pln=false)/\(badR r=false->(s.data.toList.take p).all pln=true):=by
 have hat:=Jd4 s pos hp;by_cases ha:s[pos].toNat<128
 ·refine⟨s[pos].toNat,pos+1,fun ty=>run_next_ascii w s pos ty hp ha,Ka,Ka,Ka,fun hb=>?_,fun hb=>?_⟩
  ·exact Jbc hat (by rw[Jm2,hb];rfl)
  ·exact Ja3 pln _ pos _ hat ht (by rw[Jm2,hb];rfl)
 ·have hh:=decode_high s pos hp Ka
  have hle:=decode_le s pos;have hin:=J0v s pos hp;refine⟨(Utf8.decode s pos).1,pos+(Utf8.decode s pos).2,fun ty=>run_next_any w s pos ty hp,Ka,hin,hle,fun hb=>?_,fun _=>?_⟩
  ·have:badR (Utf8.decode s pos).1=false:=by unfold badR;simp;omega
   rw[this] at hb;cases hb
  ·exact Jpm pln J5g s pos hp Ka ht
theorem Jrx(s:ByteArray)(hs:s.size<=1099511627776)(w:World):Pc 247 #[.string s] w (.bool (Jbe s.data.toList)):=by
 have hpl:=Jjj s.data.toList;rw[Jau] at hpl;have hem:=Jca s;by_cases h0:s.size=0
 ·have e:Jbe s.data.toList=false:=by
   cases hq:Jbe s.data.toList with
   | false=>rfl
   | true=>exact absurd (List.length_eq_zero_iff.1 (by rw[Jau];exact h0)) (hpl.1 hq).2.1
  have he:s.toList.isEmpty=true:=Qg;clear hem hpl h0;rw[e];go_enter func247,ntmps247;go_wp2;go_ret;exact Js
 have he:s.toList.isEmpty=false:=Qg;have h1:1<=s.size:=Ka;obtain⟨c,hc⟩:=Jcq s 0 Ka;obtain⟨d,hd⟩:=Jcq s (s.size - 1) Ka;rw[hc,hd] at hpl;have k1:=fun W=>Jby s 0 c hc 0 rfl W
 have k2:=fun W=>Jby s (s.size - 1) d hd ((s.size:Int) - 1) Ka W
 have hcb:=c.toNat_lt;have hdb:=d.toNat_lt;have eq32:∀x:UInt8,x.toNat=32->x=32:=fun x h=>UInt8.toNat_inj.1 h
 have HP:=Pe hpl;have E32:=Pe eq32;clear hpl eq32 hem h0 hc hd;by_cases hc32:c.toNat=32
 ·have e:Jbe s.data.toList=false:=by
   cases hq:Jbe s.data.toList with
   | false=>rfl
   | true=>exact absurd (by rw[E32.out c hc32]) (HP.out.1 hq).2.2.1
  have q:((c.toNat:Int)==32)=true:=Jag Ka;clear hc32;rw[e];go_enter func247,ntmps247;go_wp2;go_ret;exact Js
 have q:((c.toNat:Int)==32)=false:=Jaa Ka;by_cases hd32:d.toNat=32
 ·have e:Jbe s.data.toList=false:=by
   cases hq:Jbe s.data.toList with
   | false=>rfl
   | true=>exact absurd (by rw[E32.out d hd32]) (HP.out.1 hq).2.2.2
  have q2:((d.toNat:Int)==32)=true:=Jag Ka;clear hd32 hc32;rw[e];go_enter func247,ntmps247;go_wp2;go_ret;exact Js
 have q2:((d.toNat:Int)==32)=false:=Jaa Ka;have EP:Hid (s.data.toList.all pln=Jbe s.data.toList):=by
  show _=_
  cases hq:s.data.toList.all pln with
  | false=>rw[Jh3 _ hq]
  | true =>
   refine(HP.out.2 ⟨hq,fun e=>?_,fun e=>?_,fun e=>?_⟩).symm
   ·have:=Jau s;rw[e] at this;exact Q6
   ·have:=Pp e;rw[this] at hc32;exact hc32 rfl
   ·have:=Pp e;rw[this] at hd32;exact hd32 rfl
 clear HP E32 hc32 hd32;go_enter func247,ntmps247;go_wp2;go_loopw [] (fun w'=>∃pos:Nat,w'=w.iter s pos/\pos<=s.size/\Hid ((s.data.toList.take pos).all pln=true)) (fun w'=>s.size - w'.iterPos w.heap.size)
 case atStart=>exact⟨0,rfl,Nat.zero_le _,Pe rfl⟩
 case round =>
  clear he k1 k2 q q2;obtain⟨pos,rfl,hle,ht⟩:=hrel;by_cases hp:pos<s.size
  ·obtain⟨r,p,hnx,hpp,hps,hrl,hbad,hgood⟩:=J09 s pos hp ht.out w
   cases hb:badR r with
   | true =>
    have hres:=Pe (hbad hb);clear hbad hgood;unfold badR at hb;rw[decide_eq_true_iff] at hb;by_cases r1:r=44
    ·have q1:((r:Int)==44)=true:=Jag Ka
     clear hb r1;exact Wl
    have q1:((r:Int)==44)=false:=Jaa Ka;by_cases r2:r=34
    ·have q2:((r:Int)==34)=true:=Jag Ka
     clear hb r1 r2;exact Wl
    have q2:((r:Int)==34)=false:=Jaa Ka;by_cases r3:r=92
    ·have q3:((r:Int)==92)=true:=Jag Ka
     clear hb r1 r2 r3;exact Wl
    have q3:((r:Int)==92)=false:=Jaa Ka;have C:=Pe (fun w=>Jgy (r:Int) Ka w);clear hb r1 r2 r3;go_wp2_with fail;refine Pf (C.out _) ?_;exact Wl
   | false =>
    have hst:=Pe (hgood hb);clear hbad hgood;unfold badR at hb;rw[decide_eq_false_iff_not] at hb;have q1:((r:Int)==44)=false:=Jaa Ka;have q2:((r:Int)==34)=false:=Jaa Ka;have q3:((r:Int)==92)=false:=Jaa Ka;have C:=Pe (fun w=>Jh4 (r:Int) Ka Ka w);clear hb;go_wp2_with fail;refine Pf (C.out _) ?_;go_wp2_with fail;go_roundw;case rel=>exact⟨p,rfl,hps,hst⟩
    case measure=>exact Kb
  ·have hnx:∀ty,(Instr.next (.pointer (some ⟨w.heap.size,0,none⟩)) true ty).run prog (w.iter s pos)=_:=fun ty=>run_next_end w s pos ty hp
   have hall:=Pe (show s.data.toList.all pln=true by have:=ht.out;rwa [List.take_of_length_le (by rw[Jau];omega)] at this);go_wp2_with fail;go_ret;exact⟨Jac (by rw[<-EP.out,hall.out]),Ja5 _ _ _⟩
theorem J1a(s:ByteArray)(hs:s.size<=1099511627776)(w:World):Pc 116 #[.string s] w (.bool (Jbe s.data.toList)):=by
 have hpl:=Pe (Jjj s.data.toList);go_enter func116,ntmps116;go_wp2_with fail;go_loop [3] (fun i=>∃k:Nat,i=.int .i64 k/\k<=s.size/\Hid ((s.data.toList.take k).all pln=true)) (fun i=>s.size - (intOf i).toNat);case atStart=>exact⟨0,rfl,Nat.zero_le _,Pe rfl⟩
 case round =>
  obtain⟨k,rfl,hle,ht⟩:=hrel;by_cases hp:k<s.size
  ·obtain⟨c,hc⟩:=Jcq s k hp
   have k1:=fun W=>Jby s k c hc k rfl W
   have hcb:=c.toNat_lt;have hbp:=Jm2 c;cases hb:badR c.toNat with
   | true =>
    have hres:=Pe (Jh3 _ (Jbc hc (by rw[hbp,hb];rfl)));clear hbp hc;unfold badR at hb;rw[decide_eq_true_iff] at hb;by_cases r1:c.toNat=44
    ·have q1:((c.toNat:Int)==44)=true:=Jag Ka
     clear hb r1;exact Wp
    have q1:((c.toNat:Int)==44)=false:=Jaa Ka;by_cases r2:c.toNat=34
    ·have q2:((c.toNat:Int)==34)=true:=Jag Ka
     clear hb r1 r2;exact Wp
    have q2:((c.toNat:Int)==34)=false:=Jaa Ka;by_cases r3:c.toNat=92
    ·have q3:((c.toNat:Int)==92)=true:=Jag Ka
     clear hb r1 r2 r3;exact Wp
    have q3:((c.toNat:Int)==92)=false:=Jaa Ka;have C:=Pe (fun w=>Jjm (c.toNat:Int) Ka w);clear hb r1 r2 r3;go_wp2_with fail;refine Pf (C.out _) ?_;exact Wp
   | false =>
    have hst:=Pe (Ja3 pln _ k _ hc ht.out (by rw[hbp,hb];rfl));clear hbp hc;unfold badR at hb;rw[decide_eq_false_iff_not] at hb;have q1:((c.toNat:Int)==44)=false:=Jaa Ka;have q2:((c.toNat:Int)==34)=false:=Jaa Ka;have q3:((c.toNat:Int)==92)=false:=Jaa Ka;have C:=Pe (fun w=>Jle (c.toNat:Int) Ka Ka w);clear hb;go_wp2_with fail;refine Pf (C.out _) ?_;go_wp2_with fail;go_round;case rel=>exact⟨k+1,Kj,Ka,hst⟩
    case measure=>exact Q7
  ·have hall:=Pe (show s.data.toList.all pln=true by have:=ht.out;rwa [List.take_of_length_le (by rw[Jau];omega)] at this)
   have hz:=Jau s;by_cases h0:s.size=0
   ·have e:Hid (Jbe s.data.toList=false):=by
     show _=_
     cases hq:Jbe s.data.toList with
     | false=>rfl
     | true=>exact absurd (List.length_eq_zero_iff.1 (by rw[Jau];exact h0)) (hpl.out.1 hq).2.1
    have g0:decide (0<s.size)=false:=Q8;clear hz h0 hpl;exact Wo
   have g0:0<s.size:=Ka;obtain⟨c,hc⟩:=Jcq s 0 Ka;obtain⟨d,hd⟩:=Jcq s (s.size - 1) Ka;have k1:=fun W=>Jby s 0 c hc 0 rfl W
   have k2:=fun W=>Jby s (s.size - 1) d hd ((s.size:Int) - 1) Ka W
   have P:=Pe (show(Jbe s.data.toList=true↔c≠32/\d≠32) by
    rw[hpl.out,Jau,hc,hd,hall.out];have:s.data.toList≠[]:=fun e=>by rw[e] at hz;simp at hz;omega
    simp[this])
   have E32:=Pe (show ∀x:UInt8,(x=32↔x.toNat=32) from fun x=>⟨fun h=>Yd,fun h=>UInt8.toNat_inj.1 h⟩);have hcb:=c.toNat_lt;have hdb:=d.toNat_lt;clear hpl hz h0 hc hd hall ht hle;by_cases hc32:c.toNat=32
   ·have q:((c.toNat:Int) != 32)=false:=Jap Ka
    have e:=Pe (show Jbe s.data.toList=false by
     cases hq:Jbe s.data.toList with
     | false=>rfl
     | true=>exact absurd ((E32.out c).2 hc32) (P.out.1 hq).1)
    clear hc32;exact Wo
   have q:((c.toNat:Int) != 32)=true:=Jaf Ka;by_cases hd32:d.toNat=32
   ·have q2:((d.toNat:Int) != 32)=false:=Jap Ka
    have e:=Pe (show Jbe s.data.toList=false by
     cases hq:Jbe s.data.toList with
     | false=>rfl
     | true=>exact absurd ((E32.out d).2 hd32) (P.out.1 hq).2)
    clear hc32 hd32;exact Wo
   have q2:((d.toNat:Int) != 32)=true:=Jaf Ka;have e:=Pe (show Jbe s.data.toList=true from P.out.2 ⟨fun h=>hc32 ((E32.out c).1 h),fun h=>hd32 ((E32.out d).1 h)⟩);clear hc32 hd32;exact Wo
variable {w w':World} {v:Value} {base:Nat} {l:List UInt8}
theorem OwnB.alloc(h:OwnB w base v l)(o:Obj):OwnB (w.alloc o) base v l:=World.ownsRow.alloc h o
theorem OwnB.below(h:OwnB w base v l)(hb:Po w w'):OwnB w' base v l:=Jiw h hb
theorem OwnB.lit(w:World)(base:Nat)(hb:base<=w.heap.size)(cells:Array Value)(l:List UInt8)(hc:cells.toList=bts l)(n:Nat)(hn:n=l.length)(hm:l.length<=1099511627776):
  OwnB (w.alloc (.cells cells 5)) base (.slice (some ⟨w.heap.size,0,none⟩) n n) l:=by
 subst hn;have hs:cells.size=l.length:=by rw[<-Array.length_toList,hc,Pr]
 have:=World.ownsRow_lit (base:=base) (e:=5) (size:=1) w cells l.length hb Kr Ka;unfold OwnB;rw[<-hc];exact this
theorem Qbf(s:ByteArray)(i:Nat)(c:UInt8)(h:s.data.toList[i]?=some c)(e:Int)(he:e=i)(W:World):(Instr.index 9 (.string s) (.int .u8 e)).run prog W=.ok (.int .u8 c.toNat) W:=by
 subst he;have hi:i<s.size:=by have:=(Pm h).1;simpa using this
 have h1:(Instr.index 9 (.string s) (.int .u8 i)).run prog W=.ok (.int .u8 s[i].toNat) W:=by go_simp
 rw[h1];have:=Jd4 s i hi;rw[h] at this;rw[Pp this]
theorem J5k:∀n,n<16->([48,49,50,51,52,53,54,55,56,57,97,98,99,100,101,102]:List UInt8)[n]?=some (hexD n):=Kd
theorem J1b(n:Nat)(h:n<16)(e:Int)(he:e=n)(W:World):(Instr.index 9 (.string ⟨#[48,49,50,51,52,53,54,55,56,57,97,98,99,100,101,102]⟩) (.int .u8 e)).run prog W=.ok (.int .u8 (hexD n).toNat) W :=
 Qbf _ n _ (J5k n h) e he W
theorem J8k(c:UInt8):IntKind.u8.wrap ((c.toNat:Int) / 16)=((c.toNat / 16:Nat):Int):=by
 have:=c.toNat_lt;simp only[IntKind.wrap,IntKind.signed,IntKind.bits];exact Kb
theorem J8l(c:UInt8):(c.toNat:Int).tmod 16=((c.toNat % 16:Nat):Int):=by
 rw[Int.tmod_eq_emod_of_nonneg Ka];omega
theorem Jry(s:ByteArray)(hs:s.size<=1099511627776)(w:World):Pc 248 #[.string s] w (.string (str (Ja1 s.data.toList))):=by
 go_enter func248,ntmps248;go_wp2_with fail;go_loopw [3,8] (fun v i wr=>∃k:Nat,i=.int .i64 k/\k<=s.size/\OwnB wr w.heap.size v (Ja1 (s.data.toList.take k))/\Po w wr) (fun _ i _=>s.size - (intOf i).toNat);case atStart=>exact⟨0,rfl,Nat.zero_le _,OwnB.nil _ _,Pg⟩
 case round =>
  obtain⟨k,rfl,hle,hown,hb⟩:=hrel;have hlen:=Jgv s.data.toList k;rw[Jau] at hlen;have hz:=hb.size;by_cases hp:k<s.size
  ·obtain⟨c,hc⟩:=Jcq s k hp
   have k1:=fun W=>Jby s k c hc k rfl W
   have hcb:=c.toNat_lt;have E:=Jlc _ k c hc;have HO:=Pe hown;have HB:=Pe hb;clear hown hb;cases hctl:ctl c with
   | true =>
    have hcc:=(Jme c).1 hctl;rw[Jhs c hctl] at E;have EE:=Pe E;have q1:((c.toNat:Int)==34)=false:=Jaa Ka;have q2:((c.toNat:Int)==92)=false:=Jaa Ka;have C:=Pe (fun w=>Jgy (c.toNat:Int) Ka w);have d1:=fun W=>J1b (c.toNat / 16) Ka (IntKind.u8.wrap ((c.toNat:Int) / 16)) (J8k c) W
    have d2:=fun W=>J1b (c.toNat % 16) Ka ((c.toNat:Int).tmod 16) (J8l c) W
    clear E hc hctl hcc;go_wp2_with fail;refine Pf (C.out _) ?_;go_wp2_with fail;go_region_law (first | (refine Jj6 _ rfl _ _ rfl w.heap.size _ _ [92,120,hexD (c.toNat / 16),hexD (c.toNat % 16)] rfl (OwnB.alloc HO.out _) wr.heap.size _ (heap_alloc_new _ _) rfl rfl Kb Kb ?_;intro v1 w1 own1 b1));all_goals
     go_wp2_with fail;go_roundw;case rel=>exact⟨k+1,Kj,Ka,Wu,((HB.out.drew).alloc hz _).trans b1⟩
     case measure=>exact Q7
   | false =>
    have hcc:¬(c.toNat<32\/c.toNat=127):=fun h=>by rw[(Jme c).2 h] at hctl;cases hctl
    by_cases h2:c=34\/c=92
    ·rw[Jf3 c hctl h2] at E
     have EE:=Pe E;clear E hc hctl hcc;have hq:((c.toNat:Int)==34)=true\/(((c.toNat:Int)==34)=false/\((c.toNat:Int)==92)=true):=by
      rcases h2 with rfl | rfl
      ·exact Or.inl rfl
      ·exact Or.inr ⟨rfl,rfl⟩
     clear h2;rcases hq with q1 | ⟨q1,q2⟩
     all_goals
      go_wp2_with (at_builtin;refine Jcw _ rfl _ _ rfl w.heap.size _ _ [92,c] rfl (OwnB.alloc HO.out _) wr.heap.size _ (heap_alloc_new _ _) rfl rfl Kb Kb ?_;intro v1 w1 own1 b1)
      go_roundw
      case rel=>exact⟨k+1,Kj,Ka,Wu,(HB.out.alloc hz _).trans b1⟩
      case measure=>exact Q7
    ·rw[Jf4 c hctl (fun e=>h2 (Or.inl e)) (fun e=>h2 (Or.inr e))] at E
     have EE:=Pe E;have q1:((c.toNat:Int)==34)=false:=Jaa (fun e=>h2 (Or.inl (UInt8.toNat_inj.1 (show c.toNat=34 by omega))));have q2:((c.toNat:Int)==92)=false:=Jaa (fun e=>h2 (Or.inr (UInt8.toNat_inj.1 (show c.toNat=92 by omega))));have C:=Pe (fun w=>Jh4 (c.toNat:Int) Ka Ka w);clear E hc hctl hcc h2;go_wp2_with fail;refine Pf (C.out _) ?_;go_wp2_with (at_builtin;refine Jcw _ rfl _ _ rfl w.heap.size _ _ [c] rfl (OwnB.alloc HO.out _) wr.heap.size _ (heap_alloc_new _ _) rfl rfl Kb Kb ?_;intro v1 w1 own1 b1);go_roundw
     case rel=>exact⟨k+1,Kj,Ka,Wu,(HB.out.alloc hz _).trans b1⟩
     case measure=>exact Q7
  ·have EE:s.data.toList.take k=s.data.toList:=List.take_of_length_le (by rw[Jau];omega)
   rw[EE] at hown;have cv:=Jgb hown;clear EE hlen;have HB:=Pe hb;clear hb hown;go_wp2_with fail;go_ret;exact⟨rfl,HB.out⟩
theorem join_flat(xs:List (List UInt8)):Lib.join xs []=xs.flatten:=by
 simp[Lib.join,List.intercalate];induction xs with
 | nil=>rfl
 | cons a t ih=>cases t <;> simp_all [List.intersperse]
theorem Jm3(sep:List UInt8)(xs:List (List UInt8))(A:Option Addr)(c:Nat)(w:World)(hc:xs.length<=c)(hN:xs.length<=1099511627776)(hlen:(Lib.join xs sep).length<=140737488355328)
  (hcells:0<xs.length->∃b o,A=some ⟨b,o,none⟩/\b<w.heap.size/\∀(j:Nat) x,(sts xs)[j]?=some x->w.cell? ⟨b,o+j,none⟩=some x) :
  Pc 53 #[.string (str sep),.slice A xs.length c] w (.string (str (Lib.join xs sep))):=by
 have J:Hid (Pc 133 #[.slice A xs.length c,.string (str sep)] w (.string (str (Lib.join xs sep)))):=by
  show Calls _ _ _ _ _
  by_cases h0:xs=[]
  ·subst h0
   exact(Tryz.strings_Join_none A c (str sep) w).mono fun e w' ⟨he,hw⟩=>⟨he,hw ▸ Pg⟩
  ·obtain⟨b,o,rfl,hb,hx⟩:=hcells (List.length_pos_iff.2 h0)
   have hm:(xs.map str).map (·.data.toList)=xs:=Jy;have h:=Tryz.strings_Join b o c (xs.map str) (str sep) w (by
    intro j x hj;refine hx j _ ?_;unfold sts;rw[List.getElem?_map] at hj |-;cases hq:xs[j]? with
    | none=>rw[hq] at hj;cases hj
    | some y=>rw[hq] at hj;simp at hj;simp[hj]) hb (by rw[Pr];omega) (by rw[Pr];exact hc) (by rw[hm];exact hlen)
   rw[hm,Pr] at h;exact h
 clear hcells;go_enter func53,ntmps53;go_wp2_with fail;refine(J.out).mono ?_;exact Zt
theorem Juk(sep:List UInt8)(xs:List (List UInt8))(cells:Array Value)(hcs:cells.toList=sts xs)(n:Nat)(hn:n=xs.length)(w:World)(hN:xs.length<=1099511627776)(r:List UInt8)(hr:Lib.join xs sep=r)(hlen:r.length<=140737488355328):
  Calls prog 53 #[.string (str sep),.slice (some ⟨w.heap.size,0,none⟩) n n] (w.alloc (.cells cells 9)) fun e w'=>e=.returned (.string (str r))/\Po w w':=by
 subst hn;subst hr;refine(Jm3 sep xs (some ⟨w.heap.size,0,none⟩) xs.length (w.alloc (.cells cells 9)) Ph hN hlen ?_).mono fun e w' ⟨he,hb⟩=>⟨he,((Below.refl _ _).alloc Ph _).trans (hb.mono Ke)⟩
 intro _;refine⟨w.heap.size,0,rfl,Ke,fun j x hj=>?_⟩;rw[Nat.zero_add,World.cell?_alloc_new,<-hj,<-hcs];simp
theorem J8m(n:Nat)(h:n<16)(e:Int)(he:e=n)(w:World):Pb 209 #[.int .u8 e] w (.int .u8 ((hexD n).toNat:Int)):=by
 subst he;exact Qbe n h w
theorem Jhu(s:ByteArray)(hs:s.size<=1099511627776)(w:World):Pc 173 #[.string s] w (.string (str (Jaj s.data.toList))):=by
 have P:=Pe (fun w=>Jrx s hs w);cases h:Jbe s.data.toList with
 | true =>
  have R:=Pe (show str (Jaj s.data.toList)=s by unfold Jaj;rw[if_pos h]);rw[h] at P;clear h;go_enter func173,ntmps173;go_wp2_with fail;refine(P.out _).mono ?_;exact Wx
 | false =>
  have hq:Jaj s.data.toList=34::(Ja1 s.data.toList++[34]):=by unfold Jaj;rw[h];rfl
  have E:=Pe (fun w=>Jry s hs w);have hi:=Jgu s.data.toList;rw[Jau] at hi;have J:=Pe (fun w=>Juk [] [[34],Ja1 s.data.toList,[34]] #[.string (str [34]),.string (str (Ja1 s.data.toList)),.string (str [34])] rfl 3 rfl w Ke (Jaj s.data.toList) (by rw[join_flat,hq];simp) (by rw[hq];simp;omega));rw[h] at P;clear h hq hi;generalize Jaj s.data.toList=q at J |-;generalize Ja1 s.data.toList=i at J E;go_enter func173,ntmps173;go_wp2_with fail;refine(P.out _).mono ?_;rintro e w1 ⟨rfl,b1⟩;go_wp2_with fail;refine(rel (W:=w) (E.out _) b1).mono ?_;rintro e w2 ⟨rfl,b2⟩;clear b1;go_wp2_with fail;refine(J.out w2).mono ?_;rintro e w3 ⟨rfl,b3⟩;go_wp2_with fail;go_ret;exact⟨rfl,b2.trans (b3.mono b2.size)⟩
theorem Jwc(s:ByteArray)(hs:s.size<=1099511627776)(w:World):Pc 118 #[.string s] w (.string (str (Jaj s.data.toList))):=by
 have P:=Pe (fun w=>J1a s hs w);cases h:Jbe s.data.toList with
 | true =>
  have R:=Pe (show str (Jaj s.data.toList)=s by unfold Jaj;rw[if_pos h]);rw[h] at P;clear h;go_enter func118,ntmps118;go_wp2_with fail;refine(P.out _).mono ?_;exact Wx
 | false =>
  have HQ:=Pe (show Jaj s.data.toList=34::Ja1 s.data.toList++[34] by unfold Jaj;rw[h];rfl);rw[h] at P;clear h;go_enter func118,ntmps118;go_wp2_with fail;refine(P.out _).mono ?_;rintro e w1 ⟨rfl,b1⟩;go_wp2_with fail;have hb1:=b1.size;go_loopw [3,4] (fun v i wr=>∃k:Nat,i=.int .i64 k/\k<=s.size/\OwnB wr w.heap.size v (34::Ja1 (s.data.toList.take k))/\Po w wr) (fun _ i _=>s.size - (intOf i).toNat);case atStart=>exact⟨0,rfl,Nat.zero_le _,OwnB.lit w1 _ hb1 _ [34] rfl 1 rfl Ke,b1.alloc hb1 _⟩
  case round =>
   clear b1 hb1;obtain⟨k,rfl,hle,hown,hb⟩:=hrel;have hlen:=Jgv s.data.toList k;rw[Jau] at hlen;have hz:=hb.size;by_cases hp:k<s.size
   ·obtain⟨c,hc⟩:=Jcq s k hp
    have k1:=fun W=>Jby s k c hc k rfl W
    have hcb:=c.toNat_lt;have E:=Jlc _ k c hc;have HO:=Pe hown;have HB:=Pe hb;clear hown hb;cases hctl:ctl c with
    | true =>
     have hcc:=(Jme c).1 hctl;rw[Jhs c hctl] at E;have EE:=Pe (show 34::Ja1 (s.data.toList.take (k+1))=(34::Ja1 (s.data.toList.take k))++[92,120,hexD (c.toNat / 16),hexD (c.toNat % 16)] by rw[E];rfl);have C:=Pe (fun w=>Jjm (c.toNat:Int) Ka w);have d1:=Pe (fun w=>J8m (c.toNat / 16) Ka ((c.toNat:Int) / 16) Ka w);have d2:=Pe (fun w=>J8m (c.toNat % 16) Ka ((c.toNat:Int) % 16) Ka w);have u1:=J8k c;have u2:=J8l c;clear E hc hctl hcc;go_wp2_with fail;refine Pf (C.out _) ?_;go_wp2_with fail;go_region_law (first | (refine Jj6 _ rfl _ _ rfl w.heap.size _ _ [92,120,hexD (c.toNat / 16),hexD (c.toNat % 16)] rfl (OwnB.alloc HO.out _) wr.heap.size _ (heap_alloc_new _ _) rfl rfl Kb Kb ?_;intro v1 w1 own1 b1) | (go_simp;go_at_call 209;with_reducible refine Pf (d1.out _) ?_) | (go_simp;go_at_call 209;with_reducible refine Pf (d2.out _) ?_));all_goals
      go_wp2_with fail;go_roundw;case rel=>exact⟨k+1,Kj,Ka,Wu,((HB.out.drew).alloc hz _).trans b1⟩
      case measure=>exact Q7
    | false =>
     have hcc:¬(c.toNat<32\/c.toNat=127):=fun h=>by rw[(Jme c).2 h] at hctl;cases hctl
     have C:=Pe (fun w=>Jle (c.toNat:Int) Ka Ka w);by_cases h2:c=34\/c=92
     ·rw[Jf3 c hctl h2] at E
      have EE:=Pe (show 34::Ja1 (s.data.toList.take (k+1))=(34::Ja1 (s.data.toList.take k))++[92]++[c] by rw[E];simp);clear E hc hctl hcc;have hq:((c.toNat:Int)==34)=true\/(((c.toNat:Int)==34)=false/\((c.toNat:Int)==92)=true):=by
       rcases h2 with rfl | rfl
       ·exact Or.inl rfl
       ·exact Or.inr ⟨rfl,rfl⟩
      clear h2;rcases hq with q1 | ⟨q1,q2⟩
      all_goals
       go_wp2_with fail;refine Pf (C.out _) ?_;go_wp2_with (first | (at_builtin;refine Jcw _ rfl (.tmp 42) (.tmp 43) rfl w.heap.size _ _ [92] rfl (OwnB.alloc HO.out _) wr.heap.size _ (heap_alloc_new _ _) rfl rfl Kb Kb ?_;intro v1 w1 own1 b1;have HO1:=Pe own1;have HB1:=Pe ((HB.out.alloc hz _).trans b1);clear own1 b1) | (at_builtin;refine Jcw _ rfl (.tmp 45) (.tmp 49) rfl w.heap.size _ _ [c] rfl (OwnB.alloc HO1.out _) w1.heap.size _ (heap_alloc_new _ _) rfl rfl (by have:=HB1.out.size;simp;omega) Kb ?_;intro v2 w2 own2 b2));go_roundw
       case rel=>exact⟨k+1,Kj,Ka,by rw[EE.out];exact own2,(HB1.out.alloc HB1.out.size _).trans b2⟩
       case measure=>exact Q7
     ·rw[Jf4 c hctl (fun e=>h2 (Or.inl e)) (fun e=>h2 (Or.inr e))] at E
      have EE:=Pe (show 34::Ja1 (s.data.toList.take (k+1))=(34::Ja1 (s.data.toList.take k))++[c] by rw[E];rfl);have q1:((c.toNat:Int)==34)=false:=Jaa (fun e=>h2 (Or.inl (UInt8.toNat_inj.1 (show c.toNat=34 by omega))));have q2:((c.toNat:Int)==92)=false:=Jaa (fun e=>h2 (Or.inr (UInt8.toNat_inj.1 (show c.toNat=92 by omega))));clear E hc hctl hcc h2;go_wp2_with fail;refine Pf (C.out _) ?_;go_wp2_with (at_builtin;refine Jcw _ rfl _ _ rfl w.heap.size _ _ [c] rfl (OwnB.alloc HO.out _) wr.heap.size _ (heap_alloc_new _ _) rfl rfl Kb Kb ?_;intro v1 w1 own1 b1);go_roundw
      case rel=>exact⟨k+1,Kj,Ka,Wu,(HB.out.alloc hz _).trans b1⟩
      case measure=>exact Q7
   ·have EE:s.data.toList.take k=s.data.toList:=List.take_of_length_le (by rw[Jau];omega)
    rw[EE] at hown;have hlen2:=Jgu s.data.toList;rw[Jau] at hlen2;have HO:=Pe hown;have HB:=Pe hb;clear hb hown EE hlen;go_wp2_with (at_builtin;refine Jcw _ rfl _ _ rfl w.heap.size _ _ [34] rfl (OwnB.alloc HO.out _) wr.heap.size _ (heap_alloc_new _ _) rfl rfl Kb Kb ?_;intro v1 w1 own1 b1;have cv:=Jgb own1;rw[<-HQ.out] at cv;have HB1:=Pe ((HB.out.alloc hz _).trans b1);clear b1 own1);go_ret;exact⟨rfl,HB1.out⟩
theorem J1c(c:UInt8):IntKind.u8.wrap (Lib.indexByte [48,49,50,51,52,53,54,55,56,57,97,98,99,100,101,102] c)=(digV c:Int):=by
 unfold digV;generalize Lib.indexByte [48,49,50,51,52,53,54,55,56,57,97,98,99,100,101,102] c=x;simp only[IntKind.wrap,IntKind.signed,IntKind.bits];exact Kb
theorem Jjn(c:UInt8)(w:World):Pb 246 #[.int .u8 ((c.toNat:Nat):Int)] w (.int .u8 ((digV c:Nat):Int)):=by
 have h:=fun w=>Tryz.strings_IndexByte ⟨#[48,49,50,51,52,53,54,55,56,57,97,98,99,100,101,102]⟩ (c.toNat:Int) w
 have e:(c.toNat:Int).toNat.toUInt8=c:=Ke;rw[e] at h;have D:=Pe (J1c c);have hx:∀w,Pb 312 #[.string ⟨#[48,49,50,51,52,53,54,55,56,57,97,98,99,100,101,102]⟩,.int .u8 (c.toNat:Int)] w (.int .i64 (Lib.indexByte [48,49,50,51,52,53,54,55,56,57,97,98,99,100,101,102] c)):=fun w=>(h w).mono fun _ _ ⟨h1,h2⟩=>⟨h1,h2.symm⟩
 have H:=Pe hx;clear h hx e;generalize Lib.indexByte [48,49,50,51,52,53,54,55,56,57,97,98,99,100,101,102] c=x at *;go_enter func246,ntmps246;go_wp2_with fail;refine Pf (H.out _) ?_;go_wp2_with fail;go_ret;exact⟨Jad D.out,rfl⟩
theorem J8n(l:List UInt8)(c:UInt8)(h:c∈l):∃p q,l=p++c::q/\c ∉ p:=by
 induction l with
 | nil=>cases h
 | cons b l ih =>
  by_cases hb:b=c
  ·exact⟨[],l,by rw[hb];rfl,Ke⟩
  ·have hm:c∈l:=by
    rcases List.mem_cons.1 h with h | h
    ·exact absurd h.symm hb
    ·exact h
   obtain⟨p,q,e,hn⟩:=ih hm;exact⟨b::p,q,by rw[e];rfl,by intro hx;rcases List.mem_cons.1 hx with hx | hx;exact hb hx.symm;exact hn hx⟩
theorem J5l(s p q:ByteArray)(c:UInt8)(h:s.data.toList=p.data.toList++c::q.data.toList)(hn:c ∉ p.data.toList)(hs:s.size<=9223372036854775807)(w:World):
  Pc 245 #[.string s,.string ⟨#[c]⟩] w (.tuple #[.string p,.string q,.bool true]):=by
 have h1:=Jmw c p.data.toList q.data.toList hn (by rw[<-h,Jau];exact hs) w;rw[<-h,Jaw,Jaw,Jaw] at h1;exact h1
theorem J1d(s:ByteArray)(c:UInt8)(hn:c ∉ s.data.toList)(w:World):
  Pc 245 #[.string s,.string ⟨#[c]⟩] w (.tuple #[.string s,.string (str []),.bool false]):=by
 have h1:=Jez c s.data.toList hn w;rw[Jaw] at h1;exact h1
theorem J1e(X Y:Nat):((X:Int)*16+(Y:Int)) % 256=((UInt8.ofNat (X*16+Y)).toNat:Int):=by
 rw[UInt8.toNat_ofNat'];omega
theorem Jf5{w0:World}(hb0:Po w0 w)(h:OwnB w w0.heap.size v l)(hb:Po w w'):OwnB w' w0.heap.size v l/\Po w0 w':=⟨OwnB.below h hb,hb0.trans (hb.mono hb0.size)⟩
theorem Jm4(s:ByteArray)(hs:s.size<=1099511627776)(w:World):Pc 172 #[.string s] w (.string (str (cutQ s.data.toList))):=by
 go_enter func172,ntmps172;go_wp2_with fail;go_loopw [0,3] (fun t v wr=>∃(r:ByteArray) (out:List UInt8),t=.string r/\OwnB wr w.heap.size v out/\out.length+r.size<=s.size/\Hid (out++cutQ r.data.toList=cutQ s.data.toList)/\Po w wr) (fun t _ _=>szOf t);case atStart=>exact⟨s,[],rfl,OwnB.nil _ _,Ke,Pe rfl,Pg⟩
 case round =>
  obtain⟨r,out,rfl,hown,hlen,hq,hb⟩:=hrel;have hz:=hb.size;by_cases hm:(92:UInt8)∈r.data.toList
  ·obtain⟨p,q,hpq,hn⟩:=J8n _ _ hm
   obtain⟨sp,hsp,hspz,-⟩:=Jc3 p;obtain⟨sq,hsq,hsqz,-⟩:=Jc3 q;have hrz:=congrArg List.length hpq;rw[Jau,Pq,List.length_cons] at hrz;have C:=Pe (fun w=>J5l r sp sq 92 (by rw[hsp,hsq,hpq]) (by rw[hsp];exact hn) Ka w);have hq1:=hq.out;rw[hpq,Jmz p _ hn] at hq1;have HO:=Pe hown;have HB:=Pe hb;have HP:=Pe hsp;have HSQ:=Pe hsq;have Z:=Pe (And.intro hspz (And.intro hsqz hrz));clear hown hb hm hpq hn hq hsp hspz hsqz hrz hsq;cases q with
   | nil =>
    have he:sq.toList.isEmpty=true:=by rw[Jca];have:=Z.out.2.1;simp at this;simpa using this
    rw[Juj,List.append_nil] at hq1;have HQ:=Pe hq1;clear hq1;go_wp2_with (first | (go_at_call 245;refine(C.out _).mono ?_;rintro e w1 ⟨rfl,b1⟩;obtain⟨o1,B1⟩:=Jf5 HB.out HO.out b1;have O1:=Pe o1;have BB1:=Pe B1;clear b1 o1 B1) | (at_builtin;refine Jdn w1 rfl _ _ rfl w.heap.size _ _ sp rfl O1.out rfl BB1.out.size (by have:=Z.out;omega) ?_;intro v2 w2 own2 b2;rw[HP.out,HQ.out] at own2;have cv:=Jgb own2;have BB2:=Pe (BB1.out.trans b2);clear b2 own2));go_ret;exact⟨rfl,BB2.out⟩
   | cons d q =>
    have hqz:sq.size=q.length+1:=by have:=Z.out.2.1;simpa using this
    have he:sq.toList.isEmpty=false:=by rw[Jca];simp;intro h;rw[h] at hqz;simp at hqz
    have k0:=fun W=>Jby sq 0 d (by rw[HSQ.out];rfl) 0 rfl W
    have q1s:1<=sq.size:=Ka;have hlo:1<=(sq.size:Int):=Ka;by_cases hx:d=120/\2<=q.length
    ·obtain⟨rfl,h2⟩:=hx
     match q,h2 with
     | x::y::z,_ =>
      obtain⟨st,hst,hstz,-⟩:=Jc3 z;rw[Jmy] at hq1;have k1:=fun W=>Jby sq 1 x (by rw[HSQ.out];rfl) 1 rfl W
      have k2:=fun W=>Jby sq 2 y (by rw[HSQ.out];rfl) 2 rfl W
      have k3:=fun W=>Jlp sq st 3 (by rw[hqz];simp) (by rw[HSQ.out,hst];rfl) 3 rfl W
      have U:=J1e (digV x) (digV y);have V1:=Pe (fun w=>Jjn x w);have V2:=Pe (fun w=>Jjn y w);have dx:=J06 x;have dy:=J06 y;have g3:3<=(sq.size:Int):=by simp at hqz;omega
      have q120:(((120:UInt8).toNat:Int)==120)=true:=rfl;generalize UInt8.ofNat (digV x*16+digV y)=b at U hq1;have HQ:=Pe (show out++sp.data.toList++[b]++cutQ st.data.toList=cutQ s.data.toList by rw[HP.out,hst,<-hq1];simp);have HZ:=Pe (show st.size+4+sp.size<=r.size by have:=Z.out;simp at hqz;simp at this;omega);clear hq1 hst hstz hqz q1s;go_wp2_with (first | (go_at_call 245;refine(C.out _).mono ?_;rintro e w1 ⟨rfl,b1⟩;obtain⟨o1,B1⟩:=Jf5 HB.out HO.out b1;have O1:=Pe o1;have BB1:=Pe B1;clear b1 o1 B1) | (at_builtin;refine Jdn w1 rfl _ _ rfl w.heap.size _ _ sp rfl O1.out rfl BB1.out.size (by have:=Z.out;omega) ?_;intro v2 w2 own2 b2;have O2:=Pe own2;have BB2:=Pe (BB1.out.trans b2);clear b2 own2));go_quiet (first | (go_at_call 246;exact Calls.quiet_of_same ((V1.out _).mono fun _ _ ⟨h1,h2⟩=>⟨h1,h2.symm⟩)) | (go_at_call 246;exact Calls.quiet_of_same ((V2.out _).mono fun _ _ ⟨h1,h2⟩=>⟨h1,h2.symm⟩)))
      have b3:=Jab (Below.refl w2.heap.size w2) nq;generalize w2.drewN nq=w3 at b3 |-;obtain⟨o3,B3⟩:=Jf5 BB2.out O2.out b3;have O3:=Pe o3;have BB3:=Pe B3;clear b3 o3 B3;go_wp2_with (at_builtin;refine Jcw _ rfl _ _ rfl w.heap.size _ _ [b] rfl (OwnB.alloc O3.out _) w3.heap.size _ (heap_alloc_new _ _) rfl rfl (by have:=BB3.out.size;simp;omega) Wt ?_;intro v4 w4 own4 b4);go_roundw
      case rel=>exact⟨st,_,rfl,own4,Wt,HQ,(BB3.out.alloc BB3.out.size _).trans b4⟩
      case measure=>have:=HZ.out;simp[szOf];omega
    ·obtain⟨st,hst,hstz,-⟩:=Jc3 q
     have hd:d≠120\/q.length<2:=by
      by_cases h:d=120
      ·exact Or.inr (by rcases Nat.lt_or_ge q.length 2 with h2 | h2;exact h2;exact absurd ⟨h,h2⟩ hx)
      ·exact Or.inl h
     rw[Jjk d q hd] at hq1;have k3:=fun W=>Jlp sq st 1 (by rw[hqz];simp) (by rw[HSQ.out,hst];rfl) 1 rfl W
     have HQ:=Pe (show out++sp.data.toList++[d]++cutQ st.data.toList=cutQ s.data.toList by rw[HP.out,hst,<-hq1];simp);have HZ:=Pe (show st.size+2+sp.size<=r.size by have:=Z.out;simp at this;omega);have hg:((d.toNat:Int)==120)=false\/(((d.toNat:Int)==120)=true/\decide (3<=(sq.size:Int))=false):=by
      by_cases h:d=120
      ·refine Or.inr ⟨Yd,?_⟩
       rcases hd with hd | hd
       ·exact absurd h hd
       ·exact Kb
      ·exact Or.inl (Jaa (fun e=>h (UInt8.toNat_inj.1 (show d.toNat=120 by omega))))
     clear hq1 hst hstz hqz q1s hx hd;rcases hg with g1 | ⟨g1,g2⟩
     all_goals
      go_wp2_with (first | (go_at_call 245;refine(C.out _).mono ?_;rintro e w1 ⟨rfl,b1⟩;obtain⟨o1,B1⟩:=Jf5 HB.out HO.out b1;have O1:=Pe o1;have BB1:=Pe B1;clear b1 o1 B1) | (at_builtin;refine Jdn w1 rfl (.tmp 15) (.tmp 16) rfl w.heap.size _ _ sp rfl O1.out rfl BB1.out.size (by have:=Z.out;omega) ?_;intro v2 w2 own2 b2;have O2:=Pe own2;have BB2:=Pe (BB1.out.trans b2);clear b2 own2) | (at_builtin;refine Jcw _ rfl (.tmp 43) (.tmp 45) rfl w.heap.size _ _ [d] rfl (OwnB.alloc O2.out _) w2.heap.size _ (heap_alloc_new _ _) rfl rfl Ws Wt ?_;intro v4 w4 own4 b4))
      go_roundw
      case rel=>exact⟨st,_,rfl,own4,Wt,HQ,(BB2.out.alloc BB2.out.size _).trans b4⟩
      case measure=>have:=HZ.out;simp[szOf];omega
  ·have C:=Pe (fun w=>J1d r 92 hm w)
   have hq1:=hq.out;have h0:=Jmz r.data.toList [] hm;rw[List.append_nil,Jgw,List.append_nil] at h0;rw[h0] at hq1;have HQ:=Pe hq1;have HO:=Pe hown;have HB:=Pe hb;clear hown hb hm hq hq1 h0;go_wp2_with (first | (go_at_call 245;refine(C.out _).mono ?_;rintro e w1 ⟨rfl,b1⟩;obtain⟨o1,B1⟩:=Jf5 HB.out HO.out b1;have O1:=Pe o1;have BB1:=Pe B1;clear b1 o1 B1) | (at_builtin;refine Jdn w1 rfl _ _ rfl w.heap.size _ _ r rfl O1.out rfl BB1.out.size Ka ?_;intro v2 w2 own2 b2;rw[HQ.out] at own2;have cv:=Jgb own2;have BB2:=Pe (BB1.out.trans b2);clear b2 own2));go_ret;exact⟨rfl,BB2.out⟩
def unqR(s:List UInt8):List UInt8×Int:=match unq s with
 | some t=>(t,0)
 | none=>([],3)
theorem Jul(s:List UInt8)(h:Jaj (Jeg s)=s):unqR s=(Jeg s,0):=by unfold unqR;rw[Jpy,if_pos h]
theorem J1f(s:List UInt8)(h:Jaj (Jeg s)≠s):unqR s=([],3):=by unfold unqR;rw[Jpy,if_neg h]
theorem Jcb{a b:ByteArray}{n m:Int}(h:a=b)(k:n=m):Ending.returned (.tuple #[.string a,.int .i64 n])=Ending.returned (.tuple #[.string b,.int .i64 m]):=Qm
theorem J5m(s:ByteArray)(hs:s.size<=1099511627776)(w:World):Pc 82 #[.string s] w (.tuple #[.string (str (unqR s.data.toList).1),.int .i64 ((unqR s.data.toList).2)]):=by
 have hz:=Jau s;by_cases hg:2<=s.size/\s.data.toList[0]?=some 34/\s.data.toList[s.size - 1]?=some 34
 ·obtain⟨u,hu,huz,-⟩:=Jc3 ((s.data.toList.drop 1).take (s.size - 2))
  obtain⟨t,ht,htz,hst⟩:=Jc3 (cutQ u.data.toList);have hG:Jeg s.data.toList=t.data.toList:=by unfold Jeg;rw[hz,if_pos hg,ht,hu]
  have hgl:=J5i s.data.toList;rw[hG,Jau,Jau] at hgl;obtain⟨q,hq⟩:=Pi (str (Jaj t.data.toList));have k0:=fun W=>Jby s 0 34 hg.2.1 0 rfl W
  have k1:=fun W=>Jby s (s.size - 1) 34 hg.2.2 ((s.size:Int) - 1) (by have:=hg.1;omega) W
  have k2:=fun W=>J7b s u 1 (s.size - 1) (by have:=hg.1;omega) Ka (by rw[hu,show s.size - 1 - 1=s.size - 2 by omega]) 1 ((s.size:Int) - 1) rfl (by have:=hg.1;omega) W
  have U:=Pe (fun w=>Jm4 u (by rw[huz,List.length_take];omega) w);rw[hst] at U;have Q:=Pe (fun w=>Jhu t Ka w);rw[hq] at Q;have h2:=hg.1;have g2:2<=(s.size:Int):=Ka;have g3:1<=(s.size:Int):=Ka;by_cases hqs:q=s
  ·have R:=Pe (Jul s.data.toList (by rw[hG,<-congrArg (·.data.toList) hqs,<-hq]))
   rw[hG] at R;have ne:=Jcn hqs;clear hg hG hgl hq huz htz hst hu ht hz hqs;go_enter func82,ntmps82;go_wp2_with fail;refine(U.out _).mono ?_;rintro e w1 ⟨rfl,b1⟩;go_wp2_with fail;refine(rel (W:=w) (Q.out _) b1).mono ?_;rintro e w2 ⟨rfl,b2⟩;clear b1;go_wp2_with fail;go_ret2;exact⟨Jcb (by rw[R.out,Jaw]) Va,b2⟩
  ·have R:=Pe (J1f s.data.toList Ua)
   have ne:=Jcx hqs;clear hg hG hgl hq huz htz hst hu ht hz hqs;go_enter func82,ntmps82;go_wp2_with fail;refine(U.out _).mono ?_;rintro e w1 ⟨rfl,b1⟩;go_wp2_with fail;refine(rel (W:=w) (Q.out _) b1).mono ?_;rintro e w2 ⟨rfl,b2⟩;clear b1;go_wp2_with fail;go_ret2;exact⟨Jcb Va Va,b2⟩
 ·have hG:Jeg s.data.toList=s.data.toList:=by unfold Jeg;rw[hz,if_neg hg]
  obtain⟨q,hq⟩:=Pi (str (Jaj s.data.toList));have Q:=Pe (fun w=>Jhu s hs w);rw[hq] at Q;have hways:decide (2<=(s.size:Int))=false\/∃c:UInt8,s.data.toList[0]?=some c/\2<=s.size/\(((c.toNat:Int)==34)=false\/((c.toNat:Int)==34)=true/\∃d:UInt8,s.data.toList[s.size - 1]?=some d/\((d.toNat:Int)==34)=false):=by
   by_cases h2:2<=s.size
   ·obtain⟨c,hc⟩:=Jcq s 0 Ka
    obtain⟨d,hd⟩:=Jcq s (s.size - 1) Ka;refine Or.inr ⟨c,hc,h2,?_⟩;by_cases hc34:c=34
    ·refine Or.inr ⟨by rw[hc34];rfl,d,hd,Jaa (fun e=>hg ⟨h2,by rw[hc,hc34],by rw[hd,UInt8.toNat_inj.1 (show d.toNat=(34:UInt8).toNat by show _=34;omega)]⟩)⟩
    ·exact Or.inl (Jaa (fun e=>hc34 (UInt8.toNat_inj.1 (show c.toNat=(34:UInt8).toNat by show _=34;omega))))
   ·refine Or.inl ?_
    exact Kb
  by_cases hqs:q=s
  ·have R:=Pe (Jul s.data.toList (by rw[hG];exact congrArg (fun x:ByteArray=>x.data.toList) (hq.trans hqs)))
   rw[hG] at R;have ne:=Jcn hqs;clear hg hG hq hqs;rcases hways with g1 | ⟨c,hc,h2,g1 | ⟨g1,d,hd,g3⟩⟩
   ·clear hz
    go_enter func82,ntmps82;go_wp2_with fail;refine(Q.out _).mono ?_;exact Wn
   ·have k0:=fun W=>Jby s 0 c hc 0 rfl W
    have g2:2<=(s.size:Int):=Ka;clear hc hz;go_enter func82,ntmps82;go_wp2_with fail;refine(Q.out _).mono ?_;exact Wn
   ·have k0:=fun W=>Jby s 0 c hc 0 rfl W
    have k1:=fun W=>Jby s (s.size - 1) d hd ((s.size:Int) - 1) Ka W
    have g2:2<=(s.size:Int):=Ka;clear hc hd hz;go_enter func82,ntmps82;go_wp2_with fail;refine(Q.out _).mono ?_;exact Wn
  ·have R:=Pe (J1f s.data.toList Ua)
   have ne:=Jcx hqs;clear hg hG hq hqs;rcases hways with g1 | ⟨c,hc,h2,g1 | ⟨g1,d,hd,g3⟩⟩
   ·clear hz
    go_enter func82,ntmps82;go_wp2_with fail;refine(Q.out _).mono ?_;exact Wm
   ·have k0:=fun W=>Jby s 0 c hc 0 rfl W
    have g2:2<=(s.size:Int):=Ka;clear hc hz;go_enter func82,ntmps82;go_wp2_with fail;refine(Q.out _).mono ?_;exact Wm
   ·have k0:=fun W=>Jby s 0 c hc 0 rfl W
    have k1:=fun W=>Jby s (s.size - 1) d hd ((s.size:Int) - 1) Ka W
    have g2:2<=(s.size:Int):=Ka;clear hc hd hz;go_enter func82,ntmps82;go_wp2_with fail;refine(Q.out _).mono ?_;exact Wm
theorem Jwd(s:ByteArray)(w:World):Pb 41 #[.string s,.string ⟨#[34]⟩] w (.bool (decide (s.data.toList[0]?=some 34))):=by
 refine(Tryz.strings_HasPrefix s ⟨#[34]⟩ w).mono fun e w' ⟨he,hw⟩=>⟨?_,hw.symm⟩
 rw[he];have:Lib.hasPrefix s.data.toList (⟨#[34]⟩:ByteArray).data.toList=decide (s.data.toList[0]?=some 34):=by
  show List.isPrefixOf [34] s.data.toList=_
  cases s.data.toList with
  | nil=>rfl
  | cons c r =>
   rw[Bool.eq_iff_iff];simp[List.isPrefixOf];exact⟨fun h=>h.symm,fun h=>h.symm⟩
 rw[this]
theorem Jm5{c d:UInt8}(h:c≠d):((c.toNat:Int)==(d.toNat:Int))=false:=Jaa (fun e=>h (UInt8.toNat_inj.1 Ka))
theorem J5n{c d:UInt8}(h:c≠d):((c.toNat:Int) != (d.toNat:Int))=true:=Jaf (fun e=>h (UInt8.toNat_inj.1 Ka))
theorem Jwe(s:ByteArray)(hs:s.size<=1099511627776)(w:World):Pb 81 #[.string s] w (.int .i64 ((endL s.data.toList:Nat):Int)):=by
 have hz:=Jau s;have P:=Pe (fun w=>Jwd s w);by_cases hq:s.data.toList[0]?=some 34
 ·rw[Pk hq] at P
  have h1:1<=s.size:=by
   have:=(Pm hq).1;omega
  have hE:Hid (min (1+qend (s.data.toList.drop 1)) s.size=endL s.data.toList):=by
   show _=_
   have e:=Jbg _ 0 34 hq;rw[List.drop_zero] at e;have e2:endL s.data.toList=1+qend (s.data.toList.drop 1):=by conv=>lhs;rw[e,end_q]
   have:=Jm1 _ (s.data.toList.drop 1) Ph;rw[List.length_drop] at this;omega
  clear hq;go_enter func81,ntmps81;go_wp2_with fail;go_step3;go_wp2_with fail;refine Pf (P.out _) ?_;go_wp2_with fail;go_step3;go_wp2_with fail;go_loop [4] (fun i=>∃k:Nat,i=.int .i64 k/\k<=s.size+1/\Hid (min (k+qend (s.data.toList.drop k)) s.size=endL s.data.toList)) (fun i=>s.size+2 - (intOf i).toNat);case atStart=>exact⟨1,rfl,Ka,hE⟩
  case round =>
   clear hE h1;obtain⟨k,rfl,hk,hE⟩:=hrel;by_cases hlt:k<s.size
   ·obtain⟨c,hc⟩:=Jcq s k hlt
    have k1:=fun W=>Jby s k c hc k rfl W
    by_cases h34:c=34
    ·subst h34
     have R:=Pe (show min (k+1) s.size=endL s.data.toList by have:=hE.out;rw[Qbb _ k hc] at this;exact this);have q1:(((34:UInt8).toNat:Int)==34)=true:=rfl;clear hE hc hz;go_wp2_with fail;all_goals go_ret
     all_goals exact⟨Jad Wz,rfl⟩
    ·have q1:((c.toNat:Int)==34)=false:=Jm5 (d:=34) h34
     by_cases h92:c=92
     ·subst h92
      have R:=Pe (show min (k+2+qend (s.data.toList.drop (k+2))) s.size=endL s.data.toList by
       have:=hE.out;by_cases hl:k+1<s.data.toList.length
       ·rw[Qd9 _ k hc hl] at this
        rw[<-this];omega
       ·rw[Qbd _ k hc hl] at this
        rw[J8j _ (k+2) Ka];omega)
      have q2:(((92:UInt8).toNat:Int)==92)=true:=rfl;clear hE hc hz h34;go_wp2_with fail;go_round;case rel=>exact⟨k+2,Kj,Ka,R⟩
      case measure=>exact Q7
     ·have q2:((c.toNat:Int)==92)=false:=Jm5 (d:=92) h92
      have R:=Pe (show min (k+1+qend (s.data.toList.drop (k+1))) s.size=endL s.data.toList by
       have:=hE.out;rw[Qbc _ k c hc h34 h92] at this;rw[<-this];omega)
      clear hE hc hz h34 h92;go_wp2_with fail;go_round;case rel=>exact⟨k+1,Kj,Ka,R⟩
      case measure=>exact Q7
   ·have R:=Pe (show min k s.size=endL s.data.toList by have:=hE.out;rw[J8j _ k Ka] at this;exact this)
    have d:decide (k<s.size)=false:=Kg;clear hE hz hlt;go_wp2_with fail;all_goals (try rw[Exit.noGoto_ret])
    all_goals go_ret
    all_goals exact⟨Jad Wz,rfl⟩
 ·rw[Pj hq] at P
  have hE:Hid (0+((s.data.toList.drop 0).takeWhile (· != 44)).length=endL s.data.toList):=by
   show _=_
   rw[end_p _ hq,List.drop_zero];omega
  clear hq;go_enter func81,ntmps81;go_wp2_with fail;go_step3;go_wp2_with fail;refine Pf (P.out _) ?_;go_wp2_with fail;go_step3;go_wp2_with fail;go_loop [4] (fun i=>∃k:Nat,i=.int .i64 k/\k<=s.size/\Hid (k+((s.data.toList.drop k).takeWhile (· != 44)).length=endL s.data.toList)) (fun i=>s.size+2 - (intOf i).toNat);case atStart=>exact⟨0,rfl,Ka,hE⟩
  case round =>
   clear hE;obtain⟨k,rfl,hk,hE⟩:=hrel;by_cases hlt:k<s.size
   ·obtain⟨c,hc⟩:=Jcq s k hlt
    have k1:=fun W=>Jby s k c hc k rfl W
    by_cases h44:c=44
    ·subst h44
     have R:=Pe (show k=endL s.data.toList by have:=hE.out;rw[Qba _ k hc] at this;exact this);have q1:(((44:UInt8).toNat:Int)==44)=true:=rfl;clear hE hc hz;go_wp2_with fail;all_goals go_ret
     all_goals exact⟨Jad Wz,rfl⟩
    ·have q1:((c.toNat:Int)==44)=false:=Jm5 (d:=44) h44
     have R:=Pe (show k+1+((s.data.toList.drop (k+1)).takeWhile (· != 44)).length=endL s.data.toList by
      have:=hE.out;rw[Qa9 _ k c hc h44] at this;rw[<-this];omega)
     clear hE hc hz h44;go_wp2_with fail;go_round;case rel=>exact⟨k+1,Kj,Ka,R⟩
     case measure=>exact Q7
   ·have R:=Pe (show k=endL s.data.toList by
     have:=hE.out;rw[List.drop_eq_nil_of_le Ka] at this;exact this)
    have d:decide (k<s.size)=false:=Kg;clear hE hz hlt;go_wp2_with fail;all_goals (try rw[Exit.noGoto_ret])
    all_goals go_ret
    all_goals exact⟨Jad Wz,rfl⟩
def splitR(l:List UInt8):List (List UInt8)×Int:=if 65536<l.length then([],5) else if l=[] then([],0) else Ja2 64 l
def cont(o:List (List UInt8))(p:List (List UInt8)×Int):List (List UInt8)×Int:=if p.2=0 then(o++p.1,0) else([],p.2)
def Jfn(w:World)(r:List (List UInt8)×Int)(e:Ending)(w':World):Prop:=∃v,e=.returned (.tuple #[v,.int .i64 r.2])/\OwnS w' w.heap.size v r.1/\Po w w'
theorem Jfn.err{r:List (List UInt8)×Int}{x:Int}(hr:r=([],x))(hb:Po w w'):Jfn w r (.returned (.tuple #[.slice none 0 0,.int .i64 x])) w':=by
 subst hr;exact⟨_,rfl,OwnS.nil _ _,hb⟩
theorem Jfn.ok{r:List (List UInt8)×Int}{o:List (List UInt8)}(hr:r=(o,0))(ho:OwnS w' w.heap.size v o)(hb:Po w w'):Jfn w r (.returned (.tuple #[v,.int .i64 0])) w':=by
 subst hr;exact⟨_,rfl,ho,hb⟩
theorem OwnS.alloc{l:List (List UInt8)}(h:OwnS w base v l)(o:Obj):OwnS (w.alloc o) base v l:=World.ownsRow.alloc h o
theorem OwnS.below{l:List (List UInt8)}(h:OwnS w base v l)(hb:Po w w'):OwnS w' base v l:=Jiw h hb
theorem Jm6{w0:World}{l:List (List UInt8)}(hb0:Po w0 w)(h:OwnS w w0.heap.size v l)(hb:Po w w'):OwnS w' w0.heap.size v l/\Po w0 w':=⟨OwnS.below h hb,hb0.trans (hb.mono hb0.size)⟩
def Qea:Value->Nat | .slice _ n _=>n | _=>0
theorem J5o(n:Nat)(l:List UInt8):cont [] (Ja2 n l)=Ja2 n l:=by
 unfold cont;rcases Jo7 n l with h | ⟨h1,h2⟩
 ·rw[if_pos h,<-h];rfl
 ·rw[if_neg Ka,<-h1]
theorem J1g(n:Nat)(l:List UInt8)(h:unq (l.take (endL l))=none):Ja2 (n+1) l=([],3):=by
 unfold Ja2;rw[h]
theorem Jwf(n:Nat)(l f:List UInt8)(h:unq (l.take (endL l))=some f)(hd:l.drop (endL l)=[]):Ja2 (n+1) l=([f],0):=by
 unfold Ja2;rw[h];simp only[];rw[hd]
theorem Jrz(n:Nat)(l f r:List UInt8)(c:UInt8)(h:unq (l.take (endL l))=some f)(hd:l.drop (endL l)=c::r)(hc:c≠44):Ja2 (n+1) l=([],3):=by
 unfold Ja2;rw[h];simp only[];rw[hd];simp only[];rw[if_neg hc]
theorem Jwg(n:Nat)(l f r:List UInt8)(o:List (List UInt8))(h:unq (l.take (endL l))=some f)(hd:l.drop (endL l)=44::r):cont o (Ja2 (n+1) l)=cont (o++[f]) (Ja2 n r):=by
 have e:Ja2 (n+1) l=if(Ja2 n r).2=0 then(f::(Ja2 n r).1,0) else([],(Ja2 n r).2):=by
  conv=>lhs;unfold Ja2
  rw[h];simp only[];rw[hd];simp only[];rw[if_pos trivial]
 rw[e];unfold cont;by_cases h0:(Ja2 n r).2=0
 ·simp[h0]
 ·simp[h0]
theorem J1h(s t:List UInt8)(h:unq s=some t):unqR s=(t,0):=by unfold unqR;rw[h]
theorem J1i(s:List UInt8)(h:unq s=none):unqR s=([],3):=by unfold unqR;rw[h]
theorem fsplit_any(s:ByteArray)(hs:s.size<=1099511627776)(w:World):Calls prog 42 #[.string s] w (Jfn w (splitR s.data.toList)):=by
 have hz:=Jau s;by_cases h5:65536<s.size
 ·have R:=Pe (show splitR s.data.toList=([],5) by unfold splitR;rw[hz,if_pos h5])
  have g:(65536:Int)<(s.size:Int):=Ka;clear h5 hz;go_enter func42,ntmps42;exact Ww
 have g:decide ((65536:Int)<(s.size:Int))=false:=Kb;by_cases h0:s.size=0
 ·have hnil:s.data.toList=[]:=List.length_eq_zero_iff.1 (by rw[hz];exact h0)
  have R:=Pe (show splitR s.data.toList=([],0) by unfold splitR;rw[hz,if_neg h5,if_pos hnil]);have he:s.toList.isEmpty=true:=Wr;clear h5 hz h0 hnil;go_enter func42,ntmps42;go_wp2_with fail;go_ret2;exact Jfn.ok R.out (OwnS.nil _ _) Pg
 have he:s.toList.isEmpty=false:=Wr;have hnn:s.data.toList≠[]:=fun e=>h0 (by rw[<-hz,e];rfl)
 have R:=Pe (show splitR s.data.toList=Ja2 64 s.data.toList by unfold splitR;rw[hz,if_neg h5,if_neg hnn]);clear h5 hz h0 hnn;go_enter func42,ntmps42;go_wp2_with fail;go_loopw [0,4] (fun t v wr=>∃(r:ByteArray) (o:List (List UInt8)),t=.string r/\r.size<=s.size/\OwnS wr w.heap.size v o/\o.length<=64/\Hid (cont o (Ja2 (64 - o.length) r.data.toList)=splitR s.data.toList)/\Po w wr) (fun _ v _=>65 - Qea v);case atStart=>exact⟨s,[],rfl,Nat.le_refl _,OwnS.nil _ _,Ke,Pe (by rw[R.out,J5o];rfl),Pg⟩
 case round =>
  clear g he R;obtain⟨r,o,rfl,hrs,hown,hol,hq,hb⟩:=hrel;obtain⟨A,c,rfl⟩:=Jc4 hown;have hbs:=hb.size;have hrz:=Jau r;have HO:=Pe hown;have HB:=Pe hb;by_cases h64:o.length<64
  ·have g64:(o.length:Int)<64:=Ka
   obtain⟨m,hm⟩:∃m,64 - o.length=m+1:=⟨63 - o.length,Ka⟩;have hel:=Qd8 r.data.toList;rw[hrz] at hel;have X:=Pe (fun w=>Jwe r Ka w);obtain⟨t,ht,htz,-⟩:=Jc3 (r.data.toList.take (endL r.data.toList));obtain⟨u,hu,huz,-⟩:=Jc3 (r.data.toList.drop (endL r.data.toList));obtain⟨n,hn⟩:∃n,n=endL r.data.toList:=⟨_,rfl⟩;rw[<-hn] at X ht htz hu huz hel;have htz':t.size<=r.size:=by rw[htz,List.length_take,hrz];omega
   have huz':u.size=r.size - n:=by rw[huz,List.length_drop,hrz]
   have hn0:(n:Int)<=(r.size:Int):=Ka;have k1:=fun W=>sl_to r t n hel ht.symm n rfl W
   have k2:=fun W=>Jlp r u n hel hu.symm n rfl W
   have U:=Pe (fun w=>J5m t Ka w);have hq1:=hq.out;rw[hm] at hq1;cases huq:unq t.data.toList with
   | none =>
    rw[J1i _ huq] at U;rw[J1g m r.data.toList (by rw[<-hn,<-ht];exact huq)] at hq1;have R:=Pe (show splitR s.data.toList=([],3) by rw[<-hq1];rfl);clear hq1 hq huq hm hown hb ht htz hu huz hn;go_wp2_with fail;refine Pf (X.out _) ?_;go_wp2_with fail;refine(U.out _).mono ?_;rintro e w2 ⟨rfl,b2⟩;go_wp2_with fail;go_ret2;exact Jfn.err R.out (HB.out.trans (b2.mono hbs))
   | some f =>
    rw[J1h _ _ huq] at U;have hun:unq (r.data.toList.take (endL r.data.toList))=some f:=by rw[<-hn,<-ht];exact huq
    cases hud:u.data.toList with
    | nil =>
     rw[Jwf m r.data.toList f hun Wy] at hq1;have R:=Pe (show splitR s.data.toList=(o++[f],0) by rw[<-hq1];rfl);have he:u.toList.isEmpty=true:=by rw[Jca];have:=Jau u;rw[hud] at this;simp at this;simp[<-this]
     clear hq1 hq huq hm hown hb ht htz hu huz hn hun hud;go_wp2_with (first | (go_at_call 81;refine Pf (X.out _) ?_) | (go_at_call 82;refine(U.out _).mono ?_;rintro e w2 ⟨rfl,b2⟩;obtain⟨o2,B2⟩:=Jm6 HB.out HO.out b2;have O2:=Pe o2;have BB2:=Pe B2;clear b2 o2 B2) | (at_builtin;refine Jqm _ rfl _ _ rfl w.heap.size _ _ f rfl (OwnS.alloc O2.out _) w2.heap.size _ (heap_alloc_new _ _) rfl rfl Ws Ka ?_;intro v4 w4 own4 b4));go_ret2;exact Jfn.ok R.out own4 ((BB2.out.alloc BB2.out.size _).trans b4)
    | cons d q =>
     have k0:=fun W=>Jby u 0 d (by rw[hud];rfl) 0 rfl W
     have hus:u.size=q.length+1:=by have:=Jau u;rw[hud] at this;simpa using this.symm
     have he:u.toList.isEmpty=false:=by rw[Jca];simp;intro e;rw[e] at hus;simp at hus
     by_cases hd44:d=44
     ·subst hd44
      obtain⟨x,hx,hxz,-⟩:=Jc3 q;have k3:=fun W=>Jlp u x 1 Ka (by rw[hud,hx];rfl) 1 rfl W
      rw[Jwg m r.data.toList f q o hun Wy] at hq1;have Q:=Pe (show cont (o++[f]) (Ja2 (64 - (o++[f]).length) x.data.toList)=splitR s.data.toList by rw[<-hq1,hx,show 64 - (o++[f]).length=m by simp;omega]);have q44:(((44:UInt8).toNat:Int) != 44)=false:=rfl;have g1:1<=(u.size:Int):=Ka;have hxs:x.size<=s.size:=Ka;clear hq1 hq huq hm hown hb ht htz hu huz hn hun hud hx hxz hus;go_wp2_with (first | (go_at_call 81;refine Pf (X.out _) ?_) | (go_at_call 82;refine(U.out _).mono ?_;rintro e w2 ⟨rfl,b2⟩;obtain⟨o2,B2⟩:=Jm6 HB.out HO.out b2;have O2:=Pe o2;have BB2:=Pe B2;clear b2 o2 B2) | (at_builtin;refine Jqm _ rfl _ _ rfl w.heap.size _ _ f rfl (OwnS.alloc O2.out _) w2.heap.size _ (heap_alloc_new _ _) rfl rfl Ws Ka ?_;intro v4 w4 own4 b4));have hc4:=Jc4 own4;obtain⟨A4,c4,hv4⟩:=hc4;have HV:=Pe hv4;clear hv4;go_roundw;case rel=>exact⟨x,o++[f],rfl,hxs,own4,Kb,Q,(BB2.out.alloc BB2.out.size _).trans b4⟩
      case measure=>rw[HV.out];simp[Qea];omega
     ·have q44:((d.toNat:Int) != 44)=true:=J5n (d:=44) hd44
      rw[Jrz m r.data.toList f q d hun Wy hd44] at hq1;have R:=Pe (show splitR s.data.toList=([],3) by rw[<-hq1];rfl);have g1:1<=(u.size:Int):=Ka;clear hq1 hq huq hm hown hb ht htz hu huz hn hun hud hus hd44;go_wp2_with (first | (go_at_call 81;refine Pf (X.out _) ?_) | (go_at_call 82;refine(U.out _).mono ?_;rintro e w2 ⟨rfl,b2⟩;obtain⟨o2,B2⟩:=Jm6 HB.out HO.out b2;have O2:=Pe o2;have BB2:=Pe B2;clear b2 o2 B2) | (at_builtin;refine Jqm _ rfl _ _ rfl w.heap.size _ _ f rfl (OwnS.alloc O2.out _) w2.heap.size _ (heap_alloc_new _ _) rfl rfl Ws Ka ?_;intro v4 w4 own4 b4));go_ret2;exact Jfn.err R.out ((BB2.out.alloc BB2.out.size _).trans b4)
  ·have g64:decide ((o.length:Int)<64)=false:=Kb
   have R:=Pe (show splitR s.data.toList=([],5) by rw[<-hq.out,show 64 - o.length=0 by omega];rfl);clear hq hown hb hrz h64;go_wp2_with fail;go_ret2;exact Jfn.err R.out HB.out
def joinR(l:List (List UInt8)):List UInt8×Int:=if 64<l.length then([],5) else if 65536<(Jan l).length then([],5) else(Jan l,0)
theorem J1j{B:Nat}{cs:Array Value}{t:TypeId}(h:w.heap[B]?=some (.cells cs t (0,0)))(j:Nat)(x:Value)(hx:cs[j]?=some x):w.cell? ⟨B,j,none⟩=some x:=by rw[cell_of_row w B j cs t (0,0) h,hx]
theorem fjoin_any(v:Value)(l:List (List UInt8))(hn:l.length<=140737488355327)(hx:∀x∈l,x.length<=16384)(w:World)(h:Lst w v l):Pc 220 #[v] w (.tuple #[.string (str (joinR l).1),.int .i64 (joinR l).2]):=by
 obtain⟨A,c,rfl,_,hcl⟩:=h;by_cases h64:64<l.length
 ·have R:=Pe (show joinR l=([],5) by unfold joinR;rw[if_pos h64])
  have g:(64:Int)<(l.length:Int):=Ka;clear hcl h64 hx;go_enter func220,ntmps220;exact Wq
 have g:decide ((64:Int)<(l.length:Int))=false:=Kb;have R:=Pe (show joinR l=if 65536<(Jan l).length then([],5) else(Jan l,0) by unfold joinR;rw[if_neg h64]);have HC:=Pe hcl;have HX:=Pe hx;have hl64:l.length<=64:=Ka;have hline:=line_le 16384 l hx;have hmk:=fun w=>run_make_row' (P:=prog) 66 9 (.string ByteArray.empty) 16 underlying66 Jib rfl .i64 .i64 l.length Ka Ka w
 have HL:=Pe hline;clear hcl h64 hx hline;go_enter func220,ntmps220;go_wp2_with fail;clear hmk;go_loopw [16] (fun i wr=>∃k:Nat,i=.int .i64 k/\k<=l.length/\Hid (wr.heap[w.heap.size]?=some (.cells (Lib.cellsOf ((l.take k).map fun x=>str (Jaj x)) l.length) 9 (0,0)))/\Po w wr) (fun i _=>l.length - (intOf i).toNat);case atStart =>
  refine⟨0,rfl,Nat.zero_le _,?_,(Below.refl _ _).alloc Ph _⟩;show _=_
  rw[List.take_zero,List.map_nil,Lib.cellsOf_nil];exact heap_alloc_new w _
 case round =>
  obtain⟨k,rfl,hk,hblk,hb⟩:=hrel;have hbs:=hb.size;by_cases hlt:k<l.length
  ·obtain⟨b,o,rfl,hbl,hcell⟩:=HC.out Ka
   obtain⟨x,hxk⟩:=Jah hlt;have hxl:=HX.out x (List.mem_iff_getElem?.2 ⟨k,hxk⟩);have m1:=(hb.cell (p:=⟨b,o+k,none⟩) hbl).trans (hcell k _ (Jxd l k x hxk));obtain⟨s,hs,hsz,hst⟩:=Jc3 x;rw[hst] at m1;have Q:=Pe (fun w=>Jhu s Ka w);rw[hs] at Q;have g6:decide ((65536:Int)<(s.size:Int))=false:=Kb;have gk:(k:Int)<(l.length:Int):=Ka;have hdl:((l.take k).map fun x=>str (Jaj x)).length=k:=Jp;have hnx:=Lib.cellsOf_next (done:=(l.take k).map fun x=>str (Jaj x)) (N:=l.length) (by rw[hdl];exact hlt);have hset:=Lib.cellsOf_set (done:=(l.take k).map fun x=>str (Jaj x)) (N:=l.length) (by rw[hdl];exact hlt) (str (Jaj x));rw[hdl] at hnx hset;have hst2:((l.take k).map fun x=>str (Jaj x))++[str (Jaj x)]=(l.take (k+1)).map fun x=>str (Jaj x):=by rw[Jbx l k x hxk,List.map_append];rfl
   rw[hst2] at hset;have HS:=Pe hset;have HN:=Pe hnx;have HB:=Pe hb;generalize str (Jaj x)=q at Q HS;clear hcell hxk hs hsz hst hdl hnx hset hst2 hxl hb HC HX;go_wp2_with (go_at_call 173;refine(Q.out _).mono ?_;rintro e w2 ⟨rfl,b2⟩;have hb2:=(b2.block w.heap.size (by have:=(HB.out.trans (b2.mono hbs)).size;have h3:=(List.getElem?_eq_some_iff (l:=wr.heap.toList)).1 (by rw[Array.getElem?_toList];exact hblk.out);simpa using h3.1)).trans hblk.out;have c2:=J1j hb2 k _ HN.out;have f2:=frozen_of_row w2 w.heap.size k _ _ hb2;have HB2:=Pe (HB.out.trans (b2.mono hbs));have HK:=Pe hb2;clear b2 hb2);go_roundw
   case rel=>exact⟨k+1,Kj,Ka,(heap_setCell_same w2 w.heap.size k _ _ _ HK.out).trans (by rw[HS.out]),HB2.out.setCell Ph _⟩
   case measure=>exact Q7
  ·have e0:l.take k=l:=List.take_of_length_le Ka
   rw[e0] at hblk;have hmap:(l.map fun x=>str (Jaj x))=(l.map Jaj).map str:=by rw[List.map_map];rfl
   have hfull:(Lib.cellsOf (l.map fun x=>str (Jaj x)) l.length).toList=sts (l.map Jaj):=by
    have:=Lib.cellsOf_full (l.map fun x=>str (Jaj x));rw[Pr] at this;rw[this,hmap];simp
   have hJ:=Jm3 [44] (l.map Jaj) (some ⟨w.heap.size,0,none⟩) l.length wr (by rw[Pr];exact Nat.le_refl _) (by rw[Pr];omega) (by rw[Jjl];have:=HL.out;omega) (fun h0=>⟨w.heap.size,0,rfl,by have h3:=(List.getElem?_eq_some_iff (l:=wr.heap.toList)).1 (by rw[Array.getElem?_toList];exact hblk.out);simpa using h3.1,fun j x hj=>by rw[Nat.zero_add,cell_of_row wr w.heap.size j _ _ _ hblk.out,<-hj,<-hfull];simp⟩);rw[Jjl,Pr] at hJ;obtain⟨q,hq,hqz,hqs⟩:=Jc3 (Jan l);rw[hqs] at hJ;have J:=Pe hJ;have HB:=Pe hb;have d:decide (k<l.length)=false:=Kg;by_cases h6:65536<(Jan l).length
   ·have R2:=Pe (show joinR l=([],5) by rw[R.out,if_pos h6])
    have g6:(65536:Int)<(q.size:Int):=Ka;clear hJ hb hfull hmap hblk e0 hq hqz hqs h6 HC hlt R;go_wp2_with (go_at_call 53;refine J.out.mono ?_;rintro e w2 ⟨rfl,b2⟩;have HB2:=Pe (HB.out.trans (b2.mono hbs));clear b2);go_ret2;exact⟨Jcb Xu Xu,HB2.out⟩
   ·have R2:=Pe (show joinR l=(Jan l,0) by rw[R.out,if_neg h6])
    have g6:decide ((65536:Int)<(q.size:Int))=false:=Kb;have HQ:=Pe hqs;clear hJ hb hfull hmap hblk e0 hq hqz hqs h6 HC hlt R;go_wp2_with (go_at_call 53;refine J.out.mono ?_;rintro e w2 ⟨rfl,b2⟩;have HB2:=Pe (HB.out.trans (b2.mono hbs));clear b2);go_ret2;exact⟨Jcb (by rw[R2.out];exact HQ.out.symm) Xu,HB2.out⟩
theorem rjoin_any(v:Value)(l:List (List UInt8))(hn:l.length<=140737488355327)(hx:∀x∈l,x.length<=16384)(w:World)(h:Lst w v l):Pc 147 #[v] w (.tuple #[.string (str (joinR l).1),.int .i64 (joinR l).2]):=by
 obtain⟨A,c,rfl,_,hcl⟩:=h;by_cases h64:64<l.length
 ·have R:=Pe (show joinR l=([],5) by unfold joinR;rw[if_pos h64])
  have g:(64:Int)<(l.length:Int):=Ka;clear hcl h64 hx;go_enter func147,ntmps147;exact Wq
 have g:decide ((64:Int)<(l.length:Int))=false:=Kb;have R:=Pe (show joinR l=if 65536<(Jan l).length then([],5) else(Jan l,0) by unfold joinR;rw[if_neg h64]);have HC:=Pe hcl;have HX:=Pe hx;have hl64:l.length<=64:=Ka;have HT:=Pe (fun k=>line_le 16384 (l.take k) (fun x hm=>hx x (List.mem_of_mem_take hm)));clear hcl h64 hx;go_enter func147,ntmps147;go_wp2_with fail;go_loopw [4,5] (fun u i wr=>∃k:Nat,i=.int .i64 k/\k<=l.length/\OwnB wr w.heap.size u (Jan (l.take k))/\Po w wr) (fun _ i _=>l.length - (intOf i).toNat);case atStart=>exact⟨0,rfl,Nat.zero_le _,OwnB.nil _ _,Pg⟩
 case round =>
  clear g;obtain⟨k,rfl,hk,hown,hb⟩:=hrel;have hbs:=hb.size;have hll:=HT.out k;have hlk:(l.take k).length<=64:=J8;have hll2:(Jan (l.take k)).length<=64*65539:=Nat.le_trans hll (Nat.mul_le_mul_right _ hlk);by_cases hlt:k<l.length
  ·obtain⟨b,o,rfl,hbl,hcell⟩:=HC.out Ka
   obtain⟨x,hxk⟩:=Jah hlt;have hxl:=HX.out x (List.mem_iff_getElem?.2 ⟨k,hxk⟩);have m1:=(hb.cell (p:=⟨b,o+k,none⟩) hbl).trans (hcell k _ (Jxd l k x hxk));obtain⟨s,hs,hsz,hst⟩:=Jc3 x;rw[hst] at m1;have Q:=Pe (fun w=>Jwc s Ka w);rw[hs] at Q;have hqx:=Jmx x;obtain⟨q,hq,hqz,hqs⟩:=Jc3 (Jaj x);rw[hqs] at Q;have hq16:q.size<=65538:=Ka;have gk:(k:Int)<(l.length:Int):=Ka;have hT:=J07 l k x hxk;have HO:=Pe hown;have HB:=Pe hb;by_cases h0:k=0
   ·rw[if_pos h0] at hT
    have h0':decide ((0:Int)<(k:Int))=false:=Kb;have h0n:decide (0<k)=false:=Q8;have T:=Pe (show Jan (l.take (k+1))=Jan (l.take k)++q.data.toList by rw[hT,hq,h0];rfl);clear hT hcell hxk hs hsz hst hxl hb hown HC HX hq hqs h0 hll hqz hqx;go_wp2_with (first | (go_at_call 118;refine(Q.out _).mono ?_;rintro e w2 ⟨rfl,b2⟩;obtain⟨o2,B2⟩:=Jf5 HB.out HO.out b2;have O2:=Pe o2;have BB2:=Pe B2;clear b2 o2 B2) | (at_builtin;refine Jdn w2 rfl _ _ rfl w.heap.size _ _ q rfl O2.out rfl BB2.out.size Ka ?_;intro v3 w3 own3 b3));go_roundw
    case rel=>exact⟨k+1,Kj,Ka,by rw[T.out];exact own3,BB2.out.trans b3⟩
    case measure=>exact Q7
   ·rw[if_neg h0] at hT
    have h0':(0:Int)<(k:Int):=Ka;have h0n:0<k:=Ka;have T:=Pe (show Jan (l.take (k+1))=Jan (l.take k)++[44]++q.data.toList by rw[hT,hq];simp);clear hT hcell hxk hs hsz hst hxl hb hown HC HX hq hqs h0 hll hqz hqx;have m2:=m1;go_wp2_with (first | (at_builtin;refine Jcw _ rfl (.tmp 17) (.tmp 18) rfl w.heap.size _ _ [44] rfl (OwnB.alloc HO.out _) wr.heap.size _ (heap_alloc_new _ _) rfl rfl Kb Kb ?_;intro v1 w1 own1 b1;have m3:=((HB.out.alloc hbs _).trans b1).cell (p:=⟨b,o+k,none⟩) hbl;have m4:=m3.trans ((HB.out.cell (p:=⟨b,o+k,none⟩) hbl).symm.trans m2);have HO1:=Pe own1;have HB1:=Pe ((HB.out.alloc hbs _).trans b1);clear own1 b1 m3) | (go_at_call 118;refine(Q.out _).mono ?_;rintro e w2 ⟨rfl,b2⟩;obtain⟨o2,B2⟩:=Jf5 HB1.out HO1.out b2;have O2:=Pe o2;have BB2:=Pe B2;clear b2 o2 B2) | (at_builtin;refine Jdn w2 rfl (.tmp 20) (.tmp 25) rfl w.heap.size _ _ q rfl O2.out rfl BB2.out.size Kb ?_;intro v3 w3 own3 b3));go_roundw
    case rel=>exact⟨k+1,Kj,Ka,by rw[T.out];exact own3,BB2.out.trans b3⟩
    case measure=>exact Q7
  ·have e0:l.take k=l:=List.take_of_length_le Ka
   rw[e0] at hown;obtain⟨A2,c2,rfl⟩:=Jc4 hown;have cv:=Jgb hown;have HB:=Pe hb;have d:decide (k<l.length)=false:=Kg;by_cases h6:65536<(Jan l).length
   ·have R2:=Pe (show joinR l=([],5) by rw[R.out,if_pos h6])
    have g6:(65536:Int)<((Jan l).length:Int):=Ka;clear hown e0 hb h6 HC hlt R hll hll2 cv;go_wp2_with fail;go_ret2;exact⟨Jcb Xu Xu,HB.out⟩
   ·have R2:=Pe (show joinR l=(Jan l,0) by rw[R.out,if_neg h6])
    have g6:decide ((65536:Int)<((Jan l).length:Int))=false:=Kb;clear hown e0 hb h6 HC hlt R hll hll2;go_wp2_with fail;go_ret2;exact⟨Jcb Xu Xu,HB.out⟩
theorem Jp2(s:ByteArray)(c:UInt8)(hs:s.size<4294967281)(w:World):
  Calls prog 79 #[.string s,.string ⟨#[c]⟩,.int .i64 0,.int .i64 (-1)] w fun e w' =>
   e=.returned (.slice (some ⟨w.heap.size,0,none⟩) (Lib.countB s ⟨#[c]⟩+1) (Lib.countB s ⟨#[c]⟩+1))/\w'=w.alloc (.cells ((Lib.splitB ⟨#[c]⟩ 0 (Lib.countB s ⟨#[c]⟩) s).map Value.string).toArray 9):=by
 have h1:1<=(⟨#[c]⟩:ByteArray).size:=by show 1<=#[c].size;simp
 have hle:=Lib.countB_le ⟨#[c]⟩ h1 s.size s Ph;have hlen:=Lib.splitB_all ⟨#[c]⟩ h1 0 _ s rfl;have k:=Any.strings_genSplit_core Tryz.lays221 Kl s ⟨#[c]⟩ 0 (-1) (Lib.countB s ⟨#[c]⟩+1) w hs h1 (Nat.zero_le _)
  (fun x cs _=>(Tryz.strings_Index_one x c _).mono fun e w' ⟨he,hw⟩=>⟨by rw[he];exact congrArg (fun z=>Ending.returned (.int .i64 z)) (Lib.index_one x.data.toList c).symm,hw⟩)
  ((Tryz.strings_Count_one s c w).mono fun e w' ⟨he,hw⟩=>⟨by rw[he];exact congrArg (fun z:Nat=>Ending.returned (.int .i64 (z:Int))) (Lib.count_one c s.data.toList).symm,hw⟩)
  Kd Kd (by rw[if_pos Kd];omega)
 rw[Nat.add_sub_cancel,hlen] at k;have e2:Lib.cellsOf (Lib.splitB ⟨#[c]⟩ 0 (Lib.countB s ⟨#[c]⟩) s) (Lib.countB s ⟨#[c]⟩+1)=((Lib.splitB ⟨#[c]⟩ 0 (Lib.countB s ⟨#[c]⟩) s).map Value.string).toArray:=by rw[<-hlen];exact Lib.cellsOf_full _
 rw[e2] at k;exact k
def Jjo(c:UInt8)(l:List UInt8):List (List UInt8):=Lib.splitK [c] 0 (Lib.count l [c]) l
theorem Jwh(s:ByteArray)(c:UInt8)(hs:s.size<4294967281)(w:World):
  Calls prog 40 #[.string s,.string ⟨#[c]⟩] w fun e w'=>∃v,e=.returned v/\OwnS w' w.heap.size v (Jjo c s.data.toList)/\Po w w':=by
 have G:=Pe (Jp2 s c hs w);have hown:Hid (OwnS (w.alloc (.cells ((Lib.splitB ⟨#[c]⟩ 0 (Lib.countB s ⟨#[c]⟩) s).map Value.string).toArray 9)) w.heap.size (.slice (some ⟨w.heap.size,0,none⟩) (Lib.countB s ⟨#[c]⟩+1) (Lib.countB s ⟨#[c]⟩+1)) (Jjo c s.data.toList)):=by
  have h1:1<=(⟨#[c]⟩:ByteArray).size:=by show 1<=#[c].size;simp
  have hlen:=Lib.splitB_all ⟨#[c]⟩ h1 0 _ s rfl;have hd:=Lib.splitB_data ⟨#[c]⟩ 0 (Lib.countB s ⟨#[c]⟩) s;have hle:=Lib.countB_le ⟨#[c]⟩ h1 s.size s Ph;have hp:Jjo c s.data.toList=(Lib.splitB ⟨#[c]⟩ 0 (Lib.countB s ⟨#[c]⟩) s).map (·.data.toList):=by rw[hd];rfl
  have hs1:((Lib.splitB ⟨#[c]⟩ 0 (Lib.countB s ⟨#[c]⟩) s).map Value.string)=sts (Jjo c s.data.toList):=by
   rw[hp];unfold sts;rw[List.map_map];apply List.map_congr_left;intro x _;simp only[Function.comp]
  have hpl:(Jjo c s.data.toList).length=Lib.countB s ⟨#[c]⟩+1:=by rw[hp,Pr,hlen]
  have h:=World.ownsRow_lit (base:=w.heap.size) (e:=9) (size:=1) w ((Lib.splitB ⟨#[c]⟩ 0 (Lib.countB s ⟨#[c]⟩) s).map Value.string).toArray (Lib.countB s ⟨#[c]⟩+1) Ph Kr (by simp[hlen]);show World.ownsRow _ _ _ _ _ _ _
  rw[hpl,<-hs1];exact h
 generalize Lib.countB s ⟨#[c]⟩+1=N at G hown;generalize ((Lib.splitB ⟨#[c]⟩ 0 (Lib.countB s ⟨#[c]⟩) s).map Value.string).toArray=cs at G hown;go_enter func40,ntmps40;go_wp2_with fail;refine(G.out).mono ?_;rintro e w1 ⟨rfl,rfl⟩;go_wp2_with fail;go_ret;exact⟨_,rfl,hown.out,(Below.refl _ _).alloc Ph _⟩
def linesR(l:List UInt8):List (List UInt8)×Int:=if 65536<l.length then([],5) else if l=[] then([],0) else if l[l.length - 1]?=some 10 then((cutL l).1,0) else([],4)
theorem Jwi(l:List UInt8):(cutL (l++[10])).1=Jjo 10 l:=by rw[Jp1 _ l rfl];rfl
theorem J1k(l:List UInt8)(c:UInt8)(h:l[l.length - 1]?=some c):∃q,l=q++[c]:=by
 rcases List.eq_nil_or_concat l with rfl | ⟨q,b,rfl⟩
 ·exact Qv
 ·rw[List.concat_eq_append] at *
  simp at h;exact⟨q,Qc⟩
theorem flines_any(s:ByteArray)(hs:s.size<=1099511627776)(w:World):Calls prog 19 #[.string s] w (Jfn w (linesR s.data.toList)):=by
 have hz:=Jau s;by_cases h5:65536<s.size
 ·have R:=Pe (show linesR s.data.toList=([],5) by unfold linesR;rw[hz,if_pos h5])
  have g:(65536:Int)<(s.size:Int):=Ka;clear h5 hz;go_enter func19,ntmps19;exact Ww
 have g:decide ((65536:Int)<(s.size:Int))=false:=Kb;by_cases h0:s.size=0
 ·have hnil:s.data.toList=[]:=List.length_eq_zero_iff.1 (by rw[hz];exact h0)
  have R:=Pe (show linesR s.data.toList=([],0) by unfold linesR;rw[hz,if_neg h5,if_pos hnil]);have he:s.toList.isEmpty=true:=Wr;clear h5 hz h0 hnil;go_enter func19,ntmps19;go_wp2_with fail;go_ret2;exact Jfn.ok R.out (OwnS.nil _ _) Pg
 have he:s.toList.isEmpty=false:=Wr;have hnn:s.data.toList≠[]:=fun e=>h0 (by rw[<-hz,e];rfl)
 by_cases hl:s.data.toList[s.size - 1]?=some 10
 ·obtain⟨q,hq⟩:=J1k s.data.toList 10 (by rw[hz];exact hl)
  have hql:q.length+1=s.size:=by rw[<-hz,hq];simp
  obtain⟨b,hb,hbz,hbs⟩:=Jc3 q;have R:=Pe (show linesR s.data.toList=(Jjo 10 b.data.toList,0) by unfold linesR;rw[hz,if_neg h5,if_neg hnn,if_pos hl,hq,hb,Jwi]);have C:=Pe (fun w=>Jlb 10 q (by rw[Pq,List.length_singleton];omega) w);rw[<-hq,Jaw,hbs] at C;have S:=Pe (fun w=>Jwh b 10 Ka w);clear h5 hz h0 hnn hl hq hql hb hbz hbs;go_enter func19,ntmps19;go_wp2_with fail;refine Pf (C.out _) ?_;go_wp2_with fail;refine(S.out _).mono ?_;rintro e w1 ⟨v,rfl,o1,b1⟩;have O1:=Pe o1;clear o1;go_wp2_with fail;go_ret2;exact Jfn.ok R.out O1.out b1
 ·have R:=Pe (show linesR s.data.toList=([],4) by unfold linesR;rw[hz,if_neg h5,if_neg hnn,if_neg hl])
  have C:=Pe (fun w=>Jji 10 s.data.toList (by
   cases hp:List.isSuffixOf [10] s.data.toList with
   | false=>rfl
   | true =>
    rw[List.isSuffixOf_iff_suffix] at hp;obtain⟨t,ht⟩:=hp;exact absurd (show s.data.toList[s.size - 1]?=some 10 by rw[<-hz,<-ht];simp) hl) (by rw[hz];omega) w)
  rw[Jaw] at C;clear h5 hz h0 hnn hl;go_enter func19,ntmps19;go_wp2_with fail;refine Pf (C.out _) ?_;exact Ww
def fed(x:List UInt8):Bool:=decide ((10:UInt8)∈x)
def textR(l:List (List UInt8)):List UInt8×Int:=if l.any fed then([],3) else if 65536<(Jax l).length then([],5) else(Jax l,0)
theorem Qbg(l:List (List UInt8))(k:Nat)(x:List UInt8)(h:l[k]?=some x)(hf:fed x=true):l.any fed=true:=by
 rw[List.any_eq_true];exact⟨x,List.mem_iff_getElem?.2 ⟨k,h⟩,hf⟩
theorem J5p(l:List (List UInt8))(h:∀(j:Nat) x,j<l.length->l[j]?=some x->fed x=false):l.any fed=false:=by
 cases ha:l.any fed with
 | false=>rfl
 | true =>
  rw[List.any_eq_true] at ha;obtain⟨x,hm,hx⟩:=ha;obtain⟨j,hj⟩:=List.mem_iff_getElem?.1 hm;rw[h j x (Pm hj).1 hj] at hx;cases hx
theorem Jm7(s:ByteArray)(w:World):Pb 52 #[.string s,.string ⟨#[10]⟩] w (.bool (fed s.data.toList)):=by
 refine(Tryz.strings_Contains_one s 10 w).mono fun e w' ⟨he,hw⟩=>⟨?_,hw.symm⟩
 rw[he];have:decide (0<=Lib.indexByte s.data.toList 10)=fed s.data.toList:=by
  unfold fed;by_cases h:(10:UInt8)∈s.data.toList
  ·obtain⟨p,q,e,hn⟩:=J8n _ _ h
   rw[e,Jjh 10 q p hn];simp
  ·rw[Jhr 10 _ h]
   simp[h]
 rw[this]
theorem J1l(B:Nat):∀(l:List (List UInt8)),(∀x∈l,x.length<=B)->(Jax l).length<=l.length*(B+1)
 | [],_=>by simp[Jax]
 | x::l,h=>by
  have ih:=J1l B l (fun y hy=>h y (by simp[hy]));have e:Jax (x::l)=x++10::Jax l:=by simp[Jax]
  have:=h x Ke;rw[e,Pq,List.length_cons,List.length_cons,Nat.succ_mul];omega
theorem ftext_any(v:Value)(l:List (List UInt8))(hn:l.length<=20000)(hx:∀x∈l,x.length<=16384)(w:World)(h:Lst w v l):Pc 33 #[v] w (.tuple #[.string (str (textR l).1),.int .i64 (textR l).2]):=by
 have hL:=h;obtain⟨A,c,rfl,hcap,hcl⟩:=h;have HT:=Pe (fun k=>J1l 16384 (l.take k) (fun x hm=>hx x (List.mem_of_mem_take hm)));have HC:=Pe hcl;have HX:=Pe hx;have HCAP:=Pe hcap;clear hcl hx hL hcap;go_enter func33,ntmps33;go_wp2_with fail;go_loop [4,9] (fun n i=>∃k:Nat,i=.int .i64 k/\k<=l.length/\n=.int .i64 ((Jax (l.take k)).length:Int)/\Hid (∀(j:Nat) x,j<k->l[j]?=some x->fed x=false)) (fun _ i=>l.length - (intOf i).toNat);case atStart=>exact⟨0,rfl,Nat.zero_le _,rfl,Pe (fun j x hj=>absurd hj (Nat.not_lt_zero _))⟩
 case round =>
  obtain⟨k,rfl,hk,rfl,hall⟩:=hrel;have htl:=HT.out k;have htk:(l.take k).length<=20000:=J8;have htl2:(Jax (l.take k)).length<=20000*16385:=Nat.le_trans htl (Nat.mul_le_mul_right _ htk);by_cases hlt:k<l.length
  ·obtain⟨b,o,rfl,hbl,hcell⟩:=HC.out Ka
   obtain⟨x,hxk⟩:=Jah hlt;have hxl:=HX.out x (List.mem_iff_getElem?.2 ⟨k,hxk⟩);have m1:=hcell k _ (Jxd l k x hxk);obtain⟨s,hs,hsz,hst⟩:=Jc3 x;rw[hst] at m1;have C:=Pe (fun w=>Jm7 s w);rw[hs] at C;have gk:(k:Int)<(l.length:Int):=Ka;cases hf:fed x with
   | true =>
    rw[hf] at C;have R:=Pe (show textR l=([],3) by unfold textR;rw[Qbg l k x hxk hf];rfl);clear hcell hxk hs hsz hst hf hall htl htk hxl;go_wp2_with fail;refine Pf (C.out _) ?_;exact Wq
   | false =>
    rw[hf] at C;have hT:=J08 l k x hxk;have T:=Pe (show((Jax (l.take (k+1))).length:Int)=(Jax (l.take k)).length+((s.size:Int)+1) by rw[hT];simp;omega);have hall2:Hid (∀(j:Nat) y,j<k+1->l[j]?=some y->fed y=false):=by
     intro j y hj hy;by_cases hjk:j<k
     ·exact hall.out j y hjk hy
     ·obtain rfl:j=k:=Ka
      rw[hxk] at hy;obtain rfl:=Pp hy;exact hf
    have hs16:s.size<=16384:=Ka;clear hcell hxk hs hsz hst hf hall htl htk hT hxl;go_wp2_with fail;refine Pf (C.out _) ?_;go_wp2_with fail;go_round;case rel=>exact⟨k+1,Kj,Ka,by rw[T.out],hall2⟩
    case measure=>exact Q7
  ·have e0:l.take k=l:=List.take_of_length_le Ka
   have hnf:=J5p l (fun j x hj=>hall.out j x Ka);have d:decide (k<l.length)=false:=Kg;rw[e0] at htl2;rw[e0];have R:=Pe (show textR l=if 65536<(Jax l).length then([],5) else(Jax l,0) by unfold textR;rw[hnf];rfl);by_cases h6:65536<(Jax l).length
   ·have R2:=Pe (show textR l=([],5) by rw[R.out,if_pos h6])
    have g6:(65536:Int)<((Jax l).length:Int):=Ka;clear e0 hnf hall htl htk hlt R h6;go_wp2_with fail;go_ret2;exact⟨Jcb Xu Xu,Pg⟩
   have R2:=Pe (show textR l=(Jax l,0) by rw[R.out,if_neg h6]);have g6:decide ((65536:Int)<((Jax l).length:Int))=false:=Kb;by_cases h0:(Jax l).length=0
   ·have hnil:=J5j l h0
    have R3:=Pe (show textR l=([],0) by rw[R2.out,List.length_eq_zero_iff.1 h0]);have q0:(((Jax l).length:Int)==0)=true:=Jag Ka;have q0':((Jax l).length==0)=true:=by rw[beq_iff_eq];exact h0
    have q0'':Jax l=[]:=List.length_eq_zero_iff.1 h0;clear e0 hnf hall htl htk hlt R R2 h6 h0 hnil q0'';go_wp2_with fail;go_ret2;exact⟨Jcb (by rw[R3.out]) (by rw[R3.out]),Pg⟩
   have q0:(((Jax l).length:Int)==0)=false:=Jaa Ka;have q0':((Jax l).length==0)=false:=Qf;have hne:l≠[]:=by intro e;rw[e] at h0;exact h0 rfl
   have hne2:¬Jax l=[]:=by intro e;rw[e] at h0;exact h0 rfl
   have hTJ:=Jp0 l hne;have hjl:(Lib.join l [10]).length+1=(Jax l).length:=by rw[<-hTJ];simp
   have J1:=Pe (Jm3 [10] l A c w HCAP.out.1 Ka Ka HC.out);obtain⟨q,hq,hqz,hqs⟩:=Jc3 (Lib.join l [10]);rw[hqs] at J1;have J2:=Pe (fun w=>Juk [] [q.data.toList,[10]] #[.string q,.string (str [10])] (by show[Value.string q,Value.string (str [10])]=[Value.string (str q.data.toList),Value.string (str [10])];rw[Jaw]) 2 rfl w Ke (Jax l) (by rw[join_flat,hq,<-hTJ];simp) Ka);obtain⟨t,ht,htz,hts⟩:=Jc3 (Jax l);rw[hts] at J2;have HTS:=Pe hts;clear e0 hnf hall htl htk hlt R h6 h0 hne hTJ hjl hq hqz hqs ht htz hts;go_wp2_with fail;refine(J1.out).mono ?_;rintro e w1 ⟨rfl,b1⟩;go_wp2_with fail;refine(J2.out w1).mono ?_;rintro e w2 ⟨rfl,b2⟩;go_wp2_with fail;go_ret2;exact⟨Jcb (by rw[R2.out];exact HTS.out.symm) Xu,b1.trans (b2.mono b1.size)⟩
end S4
end Go.Proofs.YtpifdbphmnifdaaGreatDoor
