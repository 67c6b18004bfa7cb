/-
  Facts. Condition: each theorem's own.
-/
import Derived.Test.YtpifdbphmnifdaaGreatDoorYC9
set_option maxRecDepth 100000
set_option maxHeartbeats 8000000
section
variable {p:Prop}
theorem Yq (h:p:=by cases k):p:=h
theorem Yr (h:p:=by exact⟨r',h1,h2,by rw [h3];exact h.2⟩):p:=h
theorem Ys (h:p:=by show (T.tr.map nTr).map (fun x=>x.1)=_;rw [List.map_map];rfl):p:=h
theorem Yt (h:p:=by simp [kinds]):p:=h
theorem Yu (h:p:=by show (T.ca.map nCa).map (fun x=>x.1)=_;rw [List.map_map];rfl):p:=h
theorem Yv (h:p:=by simp at hb):p:=h
theorem Yw (h:p:=by unfold Jav;rw [Pq];exact a0.2):p:=h
theorem Yx (h:p:=by simp [Ja9]):p:=h
end
open Go.Proofs.Tryz
namespace Go.Proofs.YtpifdbphmnifdaaGreatDoor
section
open Go
def ctl (c:UInt8):Bool:=decide (c.toNat<32∨c.toNat=127)
def pln (c:UInt8):Bool:=!(c==44 || c==34 || c==92 || ctl c)
def Jbz (l:List UInt8):Bool:=l.all pln&&!l.isEmpty&&l.head? != some 32&&l.getLast? != some 32
def hexD (n:Nat):UInt8:=UInt8.ofNat (if n<10 then 48+n else 87+n)
def esc (c:UInt8):List UInt8:=if ctl c then [92,120,hexD (c.toNat / 16),hexD (c.toNat % 16)] else if c==34 || c==92 then [92,c] else [c]
def Ja9 (l:List UInt8):List UInt8:=l.flatMap esc
def Jam (l:List UInt8):List UInt8:=if Jbz l then l else 34::(Ja9 l++[34])
def Joj (c:UInt8):Nat:=if 48≤c.toNat∧c.toNat≤57 then c.toNat - 48 else if 97≤c.toNat∧c.toNat≤102 then c.toNat - 87 else 16
theorem Jzf (c:UInt8):ctl c=true↔c.toNat<32∨c.toNat=127:=by unfold ctl;exact decide_eq_true_iff
theorem Jl8 (n:Nat) (h:n<16):(hexD n).toNat=if n<10 then 48+n else 87+n:=by
 unfold hexD;rw [UInt8.toNat_ofNat'];split <;> omega
theorem Jkv (n:Nat) (h:n<16):Joj (hexD n)=n:=by
 unfold Joj;rw [Jl8 n h];by_cases h1:n<10
 ·rw [if_pos h1,if_pos Kd];omega
 ·rw [if_neg h1,if_neg Kd,if_pos Kd];omega
def J7k (a b:Nat):UInt8:=UInt8.ofNat (16*a+b)
def oneL:List UInt8→UInt8×Nat
 | []=>(0,0)
 | c::r =>
  if c≠92 then (c,1)
  else match r with
   | d::q =>
    if d=34∨d=92 then (d,2)
    else match q with
     | x::y::_=>if d=120∧Joj x<16∧Joj y<16 then (J7k (Joj x) (Joj y),4) else (0,0)
     | _=>(0,0)
   | []=>(0,0)
def Jzg:Nat→List UInt8→Option (List UInt8)
 | 0,_=>none
 | _+1,[]=>some []
 | f+1,c::r=>if (oneL (c::r)).2=0 then none else (Jzg f ((c::r).drop (oneL (c::r)).2)).map ((oneL (c::r)).1::·)
theorem J3v (c:UInt8) (r:List UInt8):oneL (esc c++r)=(c,(esc c).length):=by
 have hc:=c.toNat_lt;unfold esc;split
 ·next hctl =>
  have e1:Joj (hexD (c.toNat / 16))=c.toNat / 16:=Jkv _ Kd;have e2:Joj (hexD (c.toNat % 16))=c.toNat % 16:=Jkv _ Kd;simp [oneL,e1,e2];rw [if_pos ⟨Kd,Kd⟩];unfold J7k;rw [show 16*(c.toNat / 16)+c.toNat % 16=c.toNat by omega,UInt8.ofNat_toNat]
 ·split
  ·next h2 =>
   simp at h2;simp [oneL,h2]
  ·next h2 =>
   simp at h2;simp [oneL,h2]
theorem J7l (c:UInt8):1≤(esc c).length:=by
 unfold esc;split
 ·simp
 ·split <;> simp
theorem Jkw:∀(l:List UInt8) (f:Nat),(Ja9 l).length<f→Jzg f (Ja9 l)=some l
 | [],f+1,_=>rfl
 | c::l,f+1,h=>by
  have hn:=J7l c;have e:Ja9 (c::l)=esc c++Ja9 l:=Yx;rw [e] at h ⊢;rw [Pp] at h;have h1:=J3v c (Ja9 l);cases hx:esc c++Ja9 l with
  | nil=>simp at hx;rw [hx.1] at hn;simp at hn
  | cons d q =>
   rw [Jzg,←hx,h1,if_neg Kd];simp only [];rw [List.drop_left' rfl,Jkw l f Kd];rfl
def unq (s:List UInt8):Option (List UInt8) :=
 if Jbz s then some s
 else if 2≤s.length∧s.head?=some 34∧s.getLast?=some 34 then
  (Jzg (s.length+1) ((s.drop 1).take (s.length - 2))).bind fun t=>if Jam t=s then some t else none
 else none
theorem Ji4 (t:List UInt8):unq (Jam t)=some t:=by
 unfold unq Jam;by_cases h:Jbz t=true
 ·rw [if_pos h,if_pos h]
 ·rw [if_neg h]
  have hp:Jbz (34::(Ja9 t++[34]))=false:=by simp [Jbz,pln]
  rw [hp,if_neg Kl];have hl:(34::(Ja9 t++[34])).length=(Ja9 t).length+2:=Kj;rw [if_pos ⟨Kd,rfl,by rw [←List.cons_append,List.getLast?_concat]⟩,hl];rw [show ((34::(Ja9 t++[34])).drop 1).take ((Ja9 t).length+2 - 2)=Ja9 t by simp];rw [Jkw t _ Kd];simp [h]
theorem Jok (s t:List UInt8) (h:unq s=some t):Jam t=s:=by
 unfold unq at h;split at h
 ·next hp =>
  obtain rfl:=Po h;unfold Jam;rw [if_pos hp]
 ·split at h
  ·cases hr:Jzg (s.length+1) ((s.drop 1).take (s.length - 2)) with
   | none=>rw [hr] at h;cases h
   | some u =>
    rw [hr] at h;simp at h;exact h.2 ▸ h.1
  ·cases h
theorem Jzh (s t:List UInt8):unq s=some t↔Jam t=s:=⟨Jok s t,fun h=>h ▸ Ji4 t⟩
theorem J93 (c:UInt8):(esc c).all (fun b=>!ctl b)=true:=by
 have hc:=c.toNat_lt;have hx:∀n,n<16→ctl (hexD n)=false:=by
  intro n h;have:=Jl8 n h;unfold ctl;rw [this];split <;> simp <;> omega
 have h92:ctl 92=false:=rfl;have h120:ctl 120=false:=rfl;unfold esc;split
 ·simp [hx _ (show c.toNat / 16<16 by omega),hx _ (show c.toNat % 16<16 by omega),h92,h120]
 ·next h=>split <;> simp [h,h92]
theorem Jzi (l:List UInt8):(Jam l).all (fun b=>!ctl b)=true:=by
 unfold Jam;split
 ·next h =>
  unfold Jbz at h;rw [Bool.and_eq_true,Bool.and_eq_true,Bool.and_eq_true] at h;have h:=h.1.1.1;rw [List.all_eq_true] at *;intro c hc;have:=h c hc;unfold pln at this;simp at this;simp [this]
 ·rw [List.all_cons,List.all_append]
  have:(Ja9 l).all (fun b=>!ctl b)=true:=by
   unfold Ja9;rw [List.all_flatMap,List.all_eq_true];exact fun c _=>J93 c
  rw [this];simp [ctl]
def cutL (l:List UInt8):List (List UInt8)×List UInt8:=l.foldl (fun s b=>if b==10 then (s.1++[s.2],[]) else (s.1,s.2++[b])) ([],[])
def Jay (ls:List (List UInt8)):List UInt8:=ls.flatMap fun l=>l++[10]
theorem Jti:cutL []=([],[]):=rfl
theorem Jge (l:List UInt8):cutL (l++[10])=((cutL l).1++[(cutL l).2],[]):=by unfold cutL;rw [List.foldl_append];rfl
theorem Jol (l:List UInt8) (b:UInt8) (h:b≠10):cutL (l++[b])=((cutL l).1,(cutL l).2++[b]):=by
 unfold cutL;rw [List.foldl_append];simp [h]
theorem Jom:∀(n:Nat) (l:List UInt8),l.length=n→Jay (cutL l).1++(cutL l).2=l
 | 0,l,h=>by rw [List.length_eq_zero_iff.1 h];rfl
 | n+1,l,h=>by
  rcases List.eq_nil_or_concat l with rfl | ⟨q,b,rfl⟩
  ·exact Qt
  ·rw [List.concat_eq_append] at *
   have ih:=Jom n q Kt;by_cases hb:b=10
   ·subst hb
    rw [Jge];conv=>rhs;rw [←ih]
    simp [Jay]
   ·rw [Jol q b hb]
    conv=>rhs;rw [←ih]
    simp
theorem Jgf:∀(l:List UInt8) (o:List (List UInt8)) (c:List UInt8),(∀b∈l,b≠10)→l.foldl (fun s b=>if b==10 then (s.1++[s.2],[]) else (s.1,s.2++[b])) (o,c)=(o,c++l)
 | [],_,_,_=>Kj
 | b::l,o,c,h=>by
  have hb:b≠10:=h b Kj;have hb':(b==10)=false:=Zf;rw [List.foldl_cons,hb'];have ih:=Jgf l o (c++[b]) (fun x hx=>h x (by simp [hx]));rw [List.append_assoc] at ih;exact ih
theorem Jon:∀(ls:List (List UInt8)) (o:List (List UInt8)),(∀l∈ls,∀b∈l,b≠10)→(Jay ls).foldl (fun s b=>if b==10 then (s.1++[s.2],[]) else (s.1,s.2++[b])) (o,([]:List UInt8))=(o++ls,[])
 | [],o,_=>by simp [Jay]
 | l::ls,o,h=>by
  have e:Jay (l::ls)=l++10::Jay ls:=by simp [Jay]
  rw [e,List.foldl_append,Jgf l o [] (h l Kj),List.foldl_cons];have ih:=Jon ls (o++[l]) (fun x hx=>h x (by simp [hx]));simp at ih ⊢;exact ih
theorem Jva (ls:List (List UInt8)) (h:∀l∈ls,∀b∈l,b≠10):cutL (Jay ls)=(ls,[]):=by
 have:=Jon ls [] h;simpa [cutL] using this
theorem J3w (ls:List (List UInt8)) (h:ls≠[]):(Jay ls).getLast?=some 10:=by
 rcases List.eq_nil_or_concat ls with rfl | ⟨q,b,rfl⟩
 ·exact absurd rfl h
 ·simp [Jay,List.concat_eq_append]
def Jas:List (List UInt8)→List UInt8
 | []=>[]
 | x::l=>match l with
  | []=>Jam x
  | _::_=>Jam x++44::Jas l
def qend:List UInt8→Nat
 | []=>0
 | c::r=>if c=34 then 1 else if c=92 then (match r with
  | []=>1
  | _::q=>2+qend q) else 1+qend r
def endL:List UInt8→Nat
 | []=>0
 | c::r=>if c=34 then 1+qend r else ((c::r).takeWhile (· != 44)).length
def Ja2:Nat→List UInt8→List (List UInt8)×Int
 | 0,_=>([],5)
 | n+1,l=>match unq (l.take (endL l)) with
  | none=>([],3)
  | some f=>match l.drop (endL l) with
   | []=>([f],0)
   | c::r=>if c=44 then (if (Ja2 n r).2=0 then (f::(Ja2 n r).1,0) else ([],(Ja2 n r).2)) else ([],3)
theorem Jqo (r:List UInt8):qend (34::r)=1:=by rw [qend.eq_def];simp
theorem Jl9 (d:UInt8) (q:List UInt8):qend (92::d::q)=2+qend q:=by rw [qend.eq_def];simp
theorem Jed (c:UInt8) (r:List UInt8) (h1:c≠34) (h2:c≠92):qend (c::r)=1+qend r:=by rw [qend.eq_def];simp [h1,h2]
theorem J3x (c:UInt8) (r:List UInt8):qend (esc c++r)=(esc c).length+qend r:=by
 have hh:∀n,n<16→hexD n≠34∧hexD n≠92:=by
  intro n h;have:=Jl8 n h;constructor <;> (intro e;rw [e] at this;revert this;split <;> simp <;> omega)
 have hc:=c.toNat_lt;unfold esc;split
 ·have h1:=hh (c.toNat / 16) Kd
  have h2:=hh (c.toNat % 16) Kd;show qend (92::120::hexD (c.toNat / 16)::hexD (c.toNat % 16)::r)=_
  rw [Jl9,Jed _ _ h1.1 h1.2,Jed _ _ h2.1 h2.2];exact Ke
 ·split
  ·show qend (92::c::r)=_
   rw [Jl9];simp
  ·next h2 =>
   simp at h2;show qend (c::r)=_
   rw [Jed c r h2.1 h2.2];simp
theorem Jkx:∀(l r:List UInt8),qend (Ja9 l++34::r)=(Ja9 l).length+1
 | [],r=>by
  show qend (34::r)=0+1
  rw [Jqo]
 | c::l,r=>by
  have e:Ja9 (c::l)=esc c++Ja9 l:=Yx;rw [e,List.append_assoc,J3x,Jkx l r,Pp];omega
theorem Jky {l:List UInt8} (h:Jbz l=true):∃c r,l=c::r∧c≠34:=by
 unfold Jbz at h;rw [Bool.and_eq_true,Bool.and_eq_true,Bool.and_eq_true] at h;have ha:=h.1.1.1;rw [List.all_eq_true] at ha;cases l with
 | nil=>simp at h
 | cons c r =>
  refine⟨c,r,rfl,?_⟩;have:=ha c Kj;intro e;subst e;simp [pln] at this
theorem Joo (x r:List UInt8) (hr:r=[]∨∃q,r=44::q):endL (Jam x++r)=(Jam x).length:=by
 unfold Jam;by_cases h:Jbz x=true
 ·rw [if_pos h]
  obtain⟨c,t,rfl,hc⟩:=Jky h;have hall:∀a∈c::t,(a != 44)=true:=by
   unfold Jbz at h;rw [Bool.and_eq_true,Bool.and_eq_true,Bool.and_eq_true] at h;have ha:=h.1.1.1;rw [List.all_eq_true] at ha;intro a hm;have:=ha a hm;simp only [bne_iff_ne];intro e;subst e;simp [pln] at this
  show endL (c::(t++r))=_
  rw [endL.eq_def];simp only [];rw [if_neg hc,←List.cons_append,List.takeWhile_append_of_pos hall];rcases hr with rfl | ⟨q,rfl⟩ <;> simp
 ·rw [if_neg h]
  show endL (34::(Ja9 x++[34]++r))=_
  rw [endL.eq_def];simp only [if_true];rw [List.append_assoc];show 1+qend (Ja9 x++34::r)=_
  rw [Jkx];exact Ke
theorem Jkz:∀(l:List (List UInt8)) (n:Nat),l≠[]→l.length≤n→Ja2 n (Jas l)=(l,0)
 | [],_,h,_=>absurd rfl h
 | [x],n+1,_,_=>by
  have e:=Joo x [] (Or.inl rfl);rw [List.append_nil] at e;have e1:Jas [x]=Jam x:=rfl;rw [e1];unfold Ja2;rw [e,List.take_length,Ji4,List.drop_length]
 | x::y::l,n+1,_,h=>by
  have e:=Joo x (44::Jas (y::l)) (Or.inr ⟨_,rfl⟩);have e1:Jas (x::y::l)=Jam x++44::Jas (y::l):=rfl;have ih:=Jkz (y::l) n Kj (by simp at h ⊢;omega);rw [e1];unfold Ja2;rw [e,List.take_left' rfl,Ji4,List.drop_left' rfl];simp [ih]
theorem Jk0:∀(n:Nat) (l:List UInt8) (o:List (List UInt8)),Ja2 n l=(o,0)→Jas o=l∧o≠[]∧o.length≤n
 | 0,l,o,h=>by simp [Ja2] at h
 | n+1,l,o,h=>by
  unfold Ja2 at h;cases hu:unq (l.take (endL l)) with
  | none=>rw [hu] at h;simp at h
  | some f =>
   rw [hu] at h;have hq:=Jok _ _ hu;have ht:=List.take_append_drop (endL l) l;simp only [] at h;cases hd:l.drop (endL l) with
   | nil =>
    rw [hd] at h ht;simp at h;subst h;refine⟨?_,Kj,Kj⟩;rw [List.append_nil] at ht;show Jam f=l
    rw [hq,ht]
   | cons c r =>
    rw [hd] at h ht;simp only [] at h;split at h
    ·next hc =>
     split at h
     ·next he =>
      obtain⟨i1,i2,i3⟩:=Jk0 n r (Ja2 n r).1 (by rw [←he]);have ho:=(Prod.mk.inj h).1;subst ho;refine⟨?_,Kj,Ke⟩;have:Jas (f::(Ja2 n r).1)=Jam f++44::Jas (Ja2 n r).1:=by
       cases hs:(Ja2 n r).1 with
       | nil=>exact absurd hs i2
       | cons _ _=>rfl
      rw [this,i1,hq,←hc];exact ht
     ·next he=>exact absurd (Prod.mk.inj h).2 he
    ·exact Qt
theorem Jop:∀(n:Nat) (l:List UInt8),(Ja2 n l).2=0∨((Ja2 n l).1=[]∧((Ja2 n l).2=3∨(Ja2 n l).2=5))
 | 0,l=>Or.inr ⟨rfl,Or.inr rfl⟩
 | n+1,l=>by
  unfold Ja2;split
  ·exact Or.inr ⟨rfl,Or.inl rfl⟩
  ·split
   ·exact Or.inl rfl
   ·next r _ =>
    split
    ·split
     ·exact Or.inl rfl
     ·next he =>
      rcases Jop n r with h | h
      ·exact absurd h he
      ·exact Or.inr ⟨rfl,h.2⟩
    ·exact Or.inr ⟨rfl,Or.inl rfl⟩
abbrev Bs:=List UInt8
structure Fm where
 num:Bs→Int×Int
 prc:Bs→Int×Int
 tim:Bs→Int×Int
 dur:Bs→Int×Int
 day:Bs→Int×Int
 mds:Bs→Int×Int
 numT:Int→Bs
 prcT:Int→Bs
 timT:Int→Bs
 durT:Int→Bs
 dayT:Int→Bs
 mdsT:Int→Bs
structure FmOk (F:Fm):Prop where
 num:∀n,-9223372036854775808≤n→n≤9223372036854775807→F.num (F.numT n)=(n,0)
 prc:∀n,0≤n→n≤1000000→F.prc (F.prcT n)=(n,0)
 tim:∀n,0≤n→n≤172800→F.tim (F.timT n)=(n,0)
 dur:∀n,0≤n→n≤86400→F.dur (F.durT n)=(n,0)
 day:∀n,0≤n→n≤36524→F.day (F.dayT n)=(n,0)
 mds:∀n,0≤n→n≤255→F.mds (F.mdsT n)=(n,0)
def wSt:Bs:=[115,116,111,112]
def wRo:Bs:=[114,111,117,116,101]
def wCa:Bs:=[99,97,108,101,110,100,97,114]
def wEx:Bs:=[101,120,99,101,112,116,105,111,110]
def wTr:Bs:=[116,114,105,112]
def wFr:Bs:=[102,114,101,113,117,101,110,99,121]
def wTh:Bs:=[116,104,114,111,117,103,104]
def wGu:Bs:=[103,117,97,114,97,110,116,101,101]
def wPa:Bs:=[112,97,116,104]
def wPr:Bs:=[112,114,111,100,117,99,116]
def wCc:Bs:=[99,97,108,108]
def wFa:Bs:=[102,97,114,101,115]
def kinds:List Bs:=[wSt,wRo,wCa,wEx,wTr,wFr,wTh,wGu,wPa,wPr,wCc,wFa]
def cnts:List Nat:=[5,4,5,4,5,5,3,4,5,7,5,4]
def wYes:Bs:=[121,101,115]
def wNo:Bs:=[110,111]
def wAdd:Bs:=[97,100,100,101,100]
def wRem:Bs:=[114,101,109,111,118,101,100]
def Jqp:Bs:=[110,111,110,101]
def Ji5:Bs:=[98,111,97,114,100]
def Jfu:Bs:=[97,108,105,103,104,116]
def Jqq:Bs:=[98,111,116,104]
def fnd (e:Int) (l:List Bs) (s:Bs):Int×Int:=match l.findIdx? (fun x=>decide (x=s)) with
 | some i=>((i:Int),0)
 | none=>(0,e)
def flg (s:Bs):Bool×Int:=(decide ((fnd 3 [wNo,wYes] s).1=1),(fnd 3 [wNo,wYes] s).2)
def wk (s:Bs):(Nat→Bool)×Int:=if s.length≠7 then (fun _=>false,3) else (fun i=>decide (s[i]?=some 49),if s.all (fun b=>b==48 || b==49) then 0 else 3)
def prm (s:Bs):Int×Int:=fnd 3 [Jqp,Ji5,Jfu,Jqq] s
def err:List Int→Int
 | []=>0
 | e::r=>if e=0 then err r else e
def flgT (b:Bool):Bs:=if b then wYes else wNo
def wkT (k:Nat→Bool):Bs:=[if k 0 then 49 else 48,if k 1 then 49 else 48,if k 2 then 49 else 48,if k 3 then 49 else 48,if k 4 then 49 else 48,if k 5 then 49 else 48,if k 6 then 49 else 48]
def prmT (b a:Bool):Bs:=if b&&a then Jqq else if b then Ji5 else if a then Jfu else Jqp
theorem Jtj (b:Bool):flg (flgT b)=(b,0):=by cases b <;> decide
theorem wk_rt (k:Nat→Bool):wk (wkT k)=(fun i=>decide ((wkT k)[i]?=some 49),0):=by
 unfold wk;rw [if_neg (by simp [wkT])];have:(wkT k).all (fun b=>b==48 || b==49)=true:=by
  unfold wkT;cases k 0 <;> cases k 1 <;> cases k 2 <;> cases k 3 <;> cases k 4 <;> cases k 5 <;> cases k 6 <;> decide
 rw [this];rfl
theorem Qdg (b a:Bool):(prm (prmT b a)).2=0∧decide ((prm (prmT b a)).1=1∨(prm (prmT b a)).1=3)=b∧decide (2≤(prm (prmT b a)).1)=a:=by cases b <;> cases a <;> decide
theorem J7m {e:Int} {l:List Bs} (h:l.Nodup) {i:Nat} {s:Bs} (hs:l[i]?=some s):fnd e l s=((i:Int),0):=by
 have hi:=(Pl hs).1;have:l.findIdx? (fun x=>decide (x=s))=some i:=by
  rw [List.findIdx?_eq_some_iff_getElem];refine⟨hi,by simpa using (Pl hs).2,fun j hj=>?_⟩;simp only [Bool.not_eq_true,decide_eq_false_iff_not];intro e;have h2:=(Pl hs).2;exact List.pairwise_iff_getElem.1 h j i (Nat.lt_trans hj hi) hi hj (e.trans h2.symm)
 unfold fnd;rw [this]
def atI (l:List Bs) (i:Int):Bs:=l.getD i.toNat []
theorem Jc2 {e:Int} {l:List Bs} (h:l.Nodup) {i:Int} (h0:0≤i) (h1:i<l.length):fnd e l (atI l i)=(i,0):=by
 have hi:i.toNat<l.length:=Kd;have:=J7m (e:=e) h (i:=i.toNat) (s:=atI l i) (by unfold atI;rw [List.getD_eq_getElem?_getD,List.getElem?_eq_getElem hi];rfl);rw [this];congr 1;omega
structure Rd where
 T:Tt
 ln:List (List Int)
 fa:Int
 cl:Bool
def T0:Tt:=⟨[],[],[],[],[],[],[],[],[],[],0,0,0⟩
def R0:Rd:=⟨T0,[[],[],[],[],[],[],[],[],[],[]],0,false⟩
def Jaw (T:Tt):List Bs:=T.st.map fun x=>x.1
def Jb1 (T:Tt):List Bs:=T.ro.map fun x=>x.1
def Jba (T:Tt):List Bs:=T.ca.map fun x=>x.1
def Jav (T:Tt):List Bs:=T.tr.map fun x=>x.1
def putC (c:Cl) (x:Tp):Tp:=(x.1,x.2.1,x.2.2.1,x.2.2.2.1,x.2.2.2.2.1,x.2.2.2.2.2++[c])
def addC (c:Cl):List Tp→List Tp
 | []=>[]
 | [x]=>[putC c x]
 | x::y::r=>x::addC c (y::r)
theorem Ji6 (c:Cl) (x:Tp):∀l:List Tp,addC c (l++[x])=l++[putC c x]
 | []=>rfl
 | [y]=>rfl
 | y::z::r=>by
  show y::addC c ((z::r)++[x])=_
  rw [Ji6 c x (z::r)];rfl
def addR (F:Fm) (T:Tt) (k:Nat) (f:List Bs):Int×Tt:=match k,f with
 | 0,[_,i,z,s,c]=>(err [(F.num z).2,(flg s).2,(F.num c).2],{ T with st:=T.st++[(i,(F.num z).1,(flg s).1,(F.num c).1)] })
 | 1,[_,i,m,b]=>(err [(fnd 3 nmL m).2,(flg b).2],{ T with ro:=T.ro++[(i,(fnd 3 nmL m).1,(flg b).1)] })
 | 2,[_,i,w,a,b]=>(err [(wk w).2,(F.day a).2,(F.day b).2],{ T with ca:=T.ca++[(i,(wk w).1,(F.day a).1,(F.day b).1)] })
 | 3,[_,c,d,a]=>(err [(fnd 9 (Jba T) c).2,(F.day d).2,(fnd 3 [wRem,wAdd] a).2],{ T with ex:=T.ex++[((fnd 9 (Jba T) c).1,(F.day d).1,decide ((fnd 3 [wRem,wAdd] a).1=1))] })
 | 4,[_,i,r,c,s]=>(err [(fnd 9 (Jb1 T) r).2,(fnd 9 (Jba T) c).2,(flg s).2],{ T with tr:=T.tr++[(i,(fnd 9 (Jb1 T) r).1,(fnd 9 (Jba T) c).1,(flg s).1,.slice none 0 0,[])] })
 | 5,[_,t,a,b,e]=>(err [(fnd 9 (Jav T) t).2,(F.tim a).2,(F.tim b).2,(F.dur e).2],{ T with fr:=T.fr++[((fnd 9 (Jav T) t).1,(F.tim a).1,(F.tim b).1,(F.dur e).1)] })
 | 6,[_,a,b]=>(err [(fnd 9 (Jav T) a).2,(fnd 9 (Jav T) b).2],{ T with th:=T.th++[((fnd 9 (Jav T) a).1,(fnd 9 (Jav T) b).1)] })
 | 7,[_,a,b,s]=>(err [(fnd 9 (Jav T) a).2,(fnd 9 (Jav T) b).2,(fnd 9 (Jaw T) s).2],{ T with gu:=T.gu++[((fnd 9 (Jav T) a).1,(fnd 9 (Jav T) b).1,(fnd 9 (Jaw T) s).1)] })
 | 8,[_,a,b,d,s]=>(err [(fnd 9 (Jaw T) a).2,(fnd 9 (Jaw T) b).2,(F.dur d).2,(flg s).2],{ T with pa:=T.pa++[((fnd 9 (Jaw T) a).1,(fnd 9 (Jaw T) b).1,(F.dur d).1,(flg s).1)] })
 | 9,[_,i,p,r,z,s,m]=>(err [(F.prc p).2,(F.num r).2,(F.num z).2,(F.dur s).2,(F.mds m).2],{ T with pr:=T.pr++[(i,(F.prc p).1,(F.num r).1,(F.num z).1,(F.dur s).1,(F.mds m).1)] })
 | 10,[_,s,a,d,p]=>(err [(fnd 9 (Jaw T) s).2,(F.tim a).2,(F.tim d).2,(prm p).2],{ T with tr:=addC ((fnd 9 (Jaw T) s).1,(F.tim a).1,(F.tim d).1,decide ((prm p).1=1∨(prm p).1=3),decide (2≤(prm p).1)) T.tr })
 | 11,[_,d,w,c]=>(err [(F.prc d).2,(F.dur w).2,(F.prc c).2],{ T with di:=(F.prc d).1,wi:=(F.dur w).1,cp:=(F.prc c).1 })
 | _,_=>(0,T)
def kind (s:Bs):Nat:=kinds.findIdx (fun x=>decide (x=s))
def rcd (F:Fm) (r:Rd) (f:List Bs) (n:Int):Int×Rd :=
 let k:=kind (f.headD [])
 if k=12 then (41,r) else if f.length≠cnts.getD k 0 then (1,r) else if k=10∧r.cl=false then (8,r) else if k=11∧0<r.fa then (6,r)
 else ((addR F r.T k f).1,⟨(addR F r.T k f).2,if k<10 then r.ln.modify k (·++[n]) else r.ln,if k=11 then n else r.fa,decide (k=4∨k=10)⟩)
def splR (l:Bs):List Bs×Int:=if 65536<l.length then ([],5) else if l=[] then ([],0) else Ja2 64 l
def ign (x:Bs):Bool:=x.isEmpty || x.head?==some 35
def oneR (F:Fm) (r:Rd) (x:Bs) (n:Int):Int×Rd:=if ign x then (0,r) else if (splR x).2≠0 then ((splR x).2,r) else rcd F r (splR x).1 n
def goR (F:Fm):List Bs→Int→Rd→Int×Int×Rd
 | [],_,r=>(0,0,r)
 | x::l,n,r=>if (oneR F r x n).1≠0 then (n,(oneR F r x n).1,(oneR F r x n).2) else goR F l (n+1) (oneR F r x n).2
def whr (r:Rd) (p i:Int):Int:=if i<0∨((r.ln.getD p.toNat []).length:Int)≤i then r.fa else (r.ln.getD p.toNat []).getD i.toNat 0
def linR (l:Bs):List Bs×Int:=if 65536<l.length then ([],5) else if l=[] then ([],0) else if l[l.length - 1]?=some 10 then ((cutL l).1,0) else ([],4)
def Jcm (F:Fm) (s:Bs):Tt×Int×Int :=
 if (linR s).2≠0 then (T0,0,(linR s).2)
 else if (goR F (linR s).1 1 R0).2.1≠0 then (T0,(goR F (linR s).1 1 R0).1,(goR F (linR s).1 1 R0).2.1)
 else if (ttC (goR F (linR s).1 1 R0).2.2.T).2.2≠0 then (T0,whr (goR F (linR s).1 1 R0).2.2 (ttC (goR F (linR s).1 1 R0).2.2.T).1 (ttC (goR F (linR s).1 1 R0).2.2.T).2.1,(ttC (goR F (linR s).1 1 R0).2.2.T).2.2)
 else ((goR F (linR s).1 1 R0).2.2.T,0,0)
def rSt (F:Fm) (x:S13.St):List Bs:=[wSt,x.1,F.numT x.2.1,flgT x.2.2.1,F.numT x.2.2.2]
def rRo (x:Rt):List Bs:=[wRo,x.1,atI nmL x.2.1,flgT x.2.2]
def rCa (F:Fm) (x:S14.Cl):List Bs:=[wCa,x.1,wkT x.2.1,F.dayT x.2.2.1,F.dayT x.2.2.2]
def rEx (F:Fm) (T:Tt) (x:S14.Ex):List Bs:=[wEx,atI (Jba T) x.1,F.dayT x.2.1,if x.2.2 then wAdd else wRem]
def rTr (T:Tt) (x:Tp):List Bs:=[wTr,x.1,atI (Jb1 T) x.2.1,atI (Jba T) x.2.2.1,flgT x.2.2.2.1]
def rCc (F:Fm) (T:Tt) (c:Cl):List Bs:=[wCc,atI (Jaw T) c.1,F.timT c.2.1,F.timT c.2.2.1,prmT c.2.2.2.1 c.2.2.2.2]
def bTr (F:Fm) (T:Tt) (x:Tp):List (List Bs):=rTr T x::(clT x).map (rCc F T)
def rFr (F:Fm) (T:Tt) (x:Fq):List Bs:=[wFr,atI (Jav T) x.1,F.timT x.2.1,F.timT x.2.2.1,F.durT x.2.2.2]
def rTh (T:Tt) (x:S19.Th):List Bs:=[wTh,atI (Jav T) x.1,atI (Jav T) x.2]
def rGu (T:Tt) (x:S19.Gt):List Bs:=[wGu,atI (Jav T) x.1,atI (Jav T) x.2.1,atI (Jaw T) x.2.2]
def rPa (F:Fm) (T:Tt) (x:S20.Fp):List Bs:=[wPa,atI (Jaw T) x.1,atI (Jaw T) x.2.1,F.durT x.2.2.1,flgT x.2.2.2]
def rFa (F:Fm) (T:Tt):List (List Bs):=if T.di≠0∨T.wi≠0∨T.cp≠0 then [[wFa,F.prcT T.di,F.durT T.wi,F.prcT T.cp]] else []
def rPr (F:Fm) (x:S21.Pd):List Bs:=[wPr,x.1,F.prcT x.2.1,F.numT x.2.2.1,F.numT x.2.2.2.1,F.durT x.2.2.2.2.1,F.mdsT x.2.2.2.2.2]
def rows (F:Fm) (T:Tt):List (List Bs) :=
 T.st.map (rSt F)++(T.ro.map rRo++(T.ca.map (rCa F)++(T.ex.map (rEx F T)++(T.tr.flatMap (bTr F T)++(T.fr.map (rFr F T)++(T.th.map (rTh T)++(T.gu.map (rGu T)++(T.pa.map (rPa F T)++(rFa F T++T.pr.map (rPr F))))))))))
def Jez (F:Fm) (T:Tt):Bs:=Jay ((rows F T).map Jas)
def feedF (F:Fm) (T:Tt):Bs×Int:=if (ttC T).2.2≠0 then ([],(ttC T).2.2) else if 65536<(Jez F T).length then ([],5) else (Jez F T,0)
def nCa (x:S14.Cl):S14.Cl:=(x.1,fun i=>decide ((wkT x.2.1)[i]?=some 49),x.2.2.1,x.2.2.2)
def nTr (x:Tp):Tp:=(x.1,x.2.1,x.2.2.1,x.2.2.2.1,.slice none 0 0,x.2.2.2.2.2)
def nrm (T:Tt):Tt:={ T with ca:=T.ca.map nCa,tr:=T.tr.map nTr }
structure Val (T:Tt):Prop where
 st:∀x∈T.st,(-9223372036854775808≤x.2.1∧x.2.1≤9223372036854775807)∧-9223372036854775808≤x.2.2.2∧x.2.2.2≤9223372036854775807
 ist:(Jaw T).Nodup
 ro:∀x∈T.ro,0≤x.2.1∧x.2.1<8
 iro:(Jb1 T).Nodup
 ca:∀x∈T.ca,(0≤x.2.2.1∧x.2.2.1≤36524)∧0≤x.2.2.2∧x.2.2.2≤36524
 ica:(Jba T).Nodup
 ex:∀x∈T.ex,(0≤x.1∧x.1<T.ca.length)∧0≤x.2.1∧x.2.1≤36524
 tr:∀x∈T.tr,(0≤x.2.1∧x.2.1<T.ro.length)∧0≤x.2.2.1∧x.2.2.1<T.ca.length
 itr:(Jav T).Nodup
 cc:∀x∈T.tr,∀c∈clT x,(0≤c.1∧c.1<T.st.length)∧(0≤c.2.1∧c.2.1≤172800)∧0≤c.2.2.1∧c.2.2.1≤172800
 fr:∀x∈T.fr,(0≤x.1∧x.1<T.tr.length)∧(0≤x.2.1∧x.2.1≤172800)∧(0≤x.2.2.1∧x.2.2.1≤172800)∧0≤x.2.2.2∧x.2.2.2≤86400
 th:∀x∈T.th,(0≤x.1∧x.1<T.tr.length)∧0≤x.2∧x.2<T.tr.length
 gu:∀x∈T.gu,(0≤x.1∧x.1<T.tr.length)∧(0≤x.2.1∧x.2.1<T.tr.length)∧0≤x.2.2∧x.2.2<T.st.length
 pa:∀x∈T.pa,(0≤x.1∧x.1<T.st.length)∧(0≤x.2.1∧x.2.1<T.st.length)∧0≤x.2.2.1∧x.2.2.1≤86400
 pr:∀x∈T.pr,(0≤x.2.1∧x.2.1≤1000000)∧(-9223372036854775808≤x.2.2.1∧x.2.2.1≤9223372036854775807)∧(-9223372036854775808≤x.2.2.2.1∧x.2.2.2.1≤9223372036854775807)∧(0≤x.2.2.2.2.1∧x.2.2.2.2.1≤86400)∧0≤x.2.2.2.2.2∧x.2.2.2.2.2≤255
 fa:(0≤T.di∧T.di≤1000000)∧(0≤T.wi∧T.wi≤86400)∧0≤T.cp∧T.cp≤1000000
theorem Jqr:∀k∈kinds,Jam k=k∧∃c q,k=c::q∧c≠35:=by
 intro k h;simp only [kinds,List.mem_cons,List.not_mem_nil,or_false] at h;rcases h with rfl | rfl | rfl | rfl | rfl | rfl | rfl | rfl | rfl | rfl | rfl | rfl
 all_goals exact⟨Kl,_,_,rfl,Kl⟩
theorem Jzj (x:Bs) (l:List Bs):∃t,Jas (x::l)=Jam x++t:=by
 cases l with
 | nil=>exact⟨[],by rw [List.append_nil];rfl⟩
 | cons y l=>exact⟨_,rfl⟩
theorem J94 {fs:List Bs} {k:Bs} {rest:List Bs} (hf:fs=k::rest) (hk:k∈kinds) (hl:fs.length≤64) (h65:(Jas fs).length≤65536):ign (Jas fs)=false∧splR (Jas fs)=(fs,0):=by
 obtain⟨hq,c,q,hc,h35⟩:=Jqr k hk;obtain⟨t,ht⟩:=Jzj k rest;have e:Jas fs=c::(q++t):=by rw [hf,ht,hq,hc];rfl
 constructor
 ·unfold ign
  rw [e];simpa using h35
 ·unfold splR
  rw [if_neg Kd,if_neg (by rw [e];simp),Jkz fs 64 (by rw [hf];simp) hl]
theorem Qdh (F:Fm) (r:Rd) (fs:List Bs) (n:Int) (k:Nat) (hk:kind (fs.headD [])=k) (h12:k≠12) (hl:fs.length=cnts.getD k 0) (h10:k=10→r.cl=true) (h11:k=11→r.fa=0) :
  rcd F r fs n=((addR F r.T k fs).1,⟨(addR F r.T k fs).2,if k<10 then r.ln.modify k (·++[n]) else r.ln,if k=11 then n else r.fa,decide (k=4∨k=10)⟩):=by
 unfold rcd;simp only [hk];rw [if_neg h12,if_neg (fun h=>h hl),if_neg (fun h=>by rw [h10 h.1] at h;exact absurd h.2 Kj),if_neg (fun h=>by rw [h11 h.1] at h;exact absurd h.2 Kl)]
theorem step {F:Fm} {r:Rd} {fs:List Bs} (n:Int) (k:Nat) {w:Bs} {rest:List Bs} (hf:fs=w::rest) (hw:w∈kinds) (hk:kind w=k) (h12:k≠12) (hl:fs.length=cnts.getD k 0) (h64:cnts.getD k 0≤64) (h65:(Jas fs).length≤65536) (h10:k=10→r.cl=true) (h11:k=11→r.fa=0) {T':Tt} (ha:addR F r.T k fs=(0,T')) :
  ∃r',oneR F r (Jas fs) n=(0,r')∧r'.T=T'∧r'.fa=(if k=11 then n else r.fa)∧r'.cl=decide (k=4∨k=10):=by
 obtain⟨h1,h2⟩:=J94 hf hw Kd h65;refine⟨⟨T',if k<10 then r.ln.modify k (·++[n]) else r.ln,if k=11 then n else r.fa,decide (k=4∨k=10)⟩,?_,rfl,rfl,rfl⟩;unfold oneR;rw [h1,h2,if_neg Kj,if_neg Kj,Qdh F r fs n k (by rw [hf];exact hk) h12 hl h10 h11,ha]
def Goes (F:Fm) (r:Rd) (A:List Bs) (n:Int) (r':Rd):Prop:=goR F A n r=(0,0,r')
theorem Goes.nil (F:Fm) (r:Rd) (n:Int):Goes F r [] n r:=rfl
theorem Goes.cons {F:Fm} {r r1 r2:Rd} {x:Bs} {A:List Bs} {n:Int} (h:oneR F r x n=(0,r1)) (h2:Goes F r1 A (n+1) r2):Goes F r (x::A) n r2:=by
 unfold Goes goR;rw [h,if_neg Kj];exact h2
theorem Goes.one {F:Fm} {r r1:Rd} {x:Bs} {n:Int} (h:oneR F r x n=(0,r1)):Goes F r [x] n r1:=Goes.cons h (Goes.nil _ _ _)
theorem Goes.app {F:Fm} {r2:Rd} {B:List Bs}:∀{A:List Bs} {r r1:Rd} {n:Int},Goes F r A n r1→Goes F r1 B (n+A.length) r2→Goes F r (A++B) n r2
 | [],r,r1,n,h,h2=>by
  unfold Goes goR at h;have e:r=r1:=Kt;rw [e];simpa using h2
 | x::A,r,r1,n,h,h2=>by
  unfold Goes goR at h;by_cases hx:(oneR F r x n).1=0
  ·rw [if_neg (fun k=>k hx)] at h
   refine Goes.cons (r1:=(oneR F r x n).2) (by rw [←hx]) (Goes.app h ?_);rw [show n+1+(A.length:Int)=n+((x::A).length:Int) by simp;omega];exact h2
  ·rw [if_pos hx] at h
   simp only [Prod.mk.injEq] at h;exact absurd h.2.1 hx
theorem seg {α:Type} (F:Fm) (blk:α→List (List Bs)) (P:List α→Rd→Prop) (l:List α) (hs:∀p x s,l=p++x::s→∀r n,P p r→∃r',Goes F r ((blk x).map Jas) n r'∧P (p++[x]) r') :
  ∀(s p:List α),l=p++s→∀r n,P p r→∃r',Goes F r ((s.flatMap blk).map Jas) n r'∧P l r'
 | [],p,e,r,n,h=>⟨r,Goes.nil _ _ _,by rw [e,List.append_nil];exact h⟩
 | x::s,p,e,r,n,h=>by
  obtain⟨r1,g1,h1⟩:=hs p x s e r n h;obtain⟨r2,g2,h2⟩:=seg F blk P l hs s (p++[x]) (by rw [e,List.append_assoc];rfl) r1 (n+((blk x).map Jas).length) h1;refine⟨r2,?_,h2⟩;rw [List.flatMap_cons,List.map_append];exact g1.app g2
theorem seg1 {α:Type} (F:Fm) (row:α→List Bs) (P:List α→Rd→Prop) (l:List α) (hs:∀p x s,l=p++x::s→∀r n,P p r→∃r',oneR F r (Jas (row x)) n=(0,r')∧P (p++[x]) r') (r:Rd) (n:Int) (h:P [] r) :
  ∃r',Goes F r ((l.map row).map Jas) n r'∧P l r':=by
 have:=seg F (fun x=>[row x]) P l (fun p x s e r n h=>by
  obtain⟨r',h1,h2⟩:=hs p x s e r n h;exact⟨r',Goes.one h1,h2⟩) l [] rfl r n h
 rwa [←List.map_eq_flatMap] at this
theorem Jdt {α:Type} {l p s:List α} {x:α} (e:l=p++x::s):x∈l:=by rw [e];simp
theorem J3y:nmL.Nodup:=Kl
section
variable {F:Fm} (ok:FmOk F) {T:Tt} (v:Val T) (hlen:∀f∈rows F T,(Jas f).length≤65536)
def At (U:Tt) (r:Rd):Prop:=r.T=U∧r.fa=0
include ok v hlen
theorem g_st (r:Rd) (n:Int) (h:At T0 r):∃r',Goes F r ((T.st.map (rSt F)).map Jas) n r'∧At (⟨T.st,[],[],[],[],[],[],[],[],[],0,0,0⟩:Tt) r':=by
 refine seg1 F (rSt F) (fun p r=>At (⟨p,[],[],[],[],[],[],[],[],[],0,0,0⟩:Tt) r) T.st (fun p x s e r n h=>?_) r n h;have hx:=Jdt e;obtain⟨hz,hc⟩:=v.st x hx;have ha:addR F r.T 0 (rSt F x)=(0,(⟨p++[x],[],[],[],[],[],[],[],[],[],0,0,0⟩:Tt)):=by
  rw [h.1];show (err [(F.num (F.numT x.2.1)).2,(flg (flgT x.2.2.1)).2,(F.num (F.numT x.2.2.2)).2],_)=_
  simp only [ok.num _ hz.1 hz.2,ok.num _ hc.1 hc.2,Jtj];rfl
 obtain⟨r',h1,h2,h3,-⟩:=step n 0 (fs:=rSt F x) rfl Yt Kl Kl rfl Kl (hlen _ (by simp only [rows,List.mem_append,List.mem_map];exact .inl ⟨x,hx,rfl⟩)) (fun k=>Yq) (fun k=>Yq) ha;exact Yr
omit ok in
theorem g_ro (r:Rd) (n:Int) (h:At ((⟨T.st,[],[],[],[],[],[],[],[],[],0,0,0⟩:Tt)) r):∃r',Goes F r ((T.ro.map rRo).map Jas) n r'∧At ((⟨T.st,T.ro,[],[],[],[],[],[],[],[],0,0,0⟩:Tt)) r':=by
 refine seg1 F rRo (fun p r=>At ((⟨T.st,p,[],[],[],[],[],[],[],[],0,0,0⟩:Tt)) r) T.ro (fun p x s e r n h=>?_) r n h;have hx:=Jdt e;obtain⟨m0,m1⟩:=v.ro x hx;have ha:addR F r.T 1 (rRo x)=(0,(⟨T.st,(p++[x]),[],[],[],[],[],[],[],[],0,0,0⟩:Tt)):=by
  rw [h.1];show (err [(fnd 3 nmL (atI nmL x.2.1)).2,(flg (flgT x.2.2)).2],_)=_
  simp only [Jc2 (e:=3) J3y m0 (show x.2.1<(nmL.length:Int) from m1),Jtj];rfl
 obtain⟨r',h1,h2,h3,-⟩:=step n 1 (fs:=rRo x) rfl Yt Kl Kl rfl Kl (hlen _ (by simp only [rows,List.mem_append,List.mem_map];exact .inr (.inl ⟨x,hx,rfl⟩))) (fun k=>Yq) (fun k=>Yq) ha;exact Yr
theorem g_ca (r:Rd) (n:Int) (h:At ((⟨T.st,T.ro,[],[],[],[],[],[],[],[],0,0,0⟩:Tt)) r):∃r',Goes F r ((T.ca.map (rCa F)).map Jas) n r'∧At ((⟨T.st,T.ro,T.ca.map nCa,[],[],[],[],[],[],[],0,0,0⟩:Tt)) r':=by
 refine seg1 F (rCa F) (fun p r=>At ((⟨T.st,T.ro,p.map nCa,[],[],[],[],[],[],[],0,0,0⟩:Tt)) r) T.ca (fun p x s e r n h=>?_) r n h;have hx:=Jdt e;obtain⟨d0,d1⟩:=v.ca x hx;have ha:addR F r.T 2 (rCa F x)=(0,(⟨T.st,T.ro,(p++[x]).map nCa,[],[],[],[],[],[],[],0,0,0⟩:Tt)):=by
  rw [h.1];show (err [(wk (wkT x.2.1)).2,(F.day (F.dayT x.2.2.1)).2,(F.day (F.dayT x.2.2.2)).2],_)=_
  simp only [wk_rt,ok.day _ d0.1 d0.2,ok.day _ d1.1 d1.2,List.map_append];rfl
 obtain⟨r',h1,h2,h3,-⟩:=step n 2 (fs:=rCa F x) rfl Yt Kl Kl rfl Kl (hlen _ (by simp only [rows,List.mem_append,List.mem_map];exact .inr (.inr (.inl ⟨x,hx,rfl⟩)))) (fun k=>Yq) (fun k=>Yq) ha;exact Yr
theorem g_ex (r:Rd) (n:Int) (h:At ((⟨T.st,T.ro,T.ca.map nCa,[],[],[],[],[],[],[],0,0,0⟩:Tt)) r):∃r',Goes F r ((T.ex.map (rEx F T)).map Jas) n r'∧At ((⟨T.st,T.ro,T.ca.map nCa,T.ex,[],[],[],[],[],[],0,0,0⟩:Tt)) r':=by
 refine seg1 F (rEx F T) (fun p r=>At ((⟨T.st,T.ro,T.ca.map nCa,p,[],[],[],[],[],[],0,0,0⟩:Tt)) r) T.ex (fun p x s e r n h=>?_) r n h;have hx:=Jdt e;obtain⟨c0,d0⟩:=v.ex x hx;have ica:Jba (⟨T.st,T.ro,T.ca.map nCa,p,[],[],[],[],[],[],0,0,0⟩:Tt)=Jba T:=Yu;have hl:x.1<((Jba T).length:Int):=by unfold Jba;rw [Pq];exact c0.2
 have hw:∀b:Bool,fnd 3 [wRem,wAdd] (if b then wAdd else wRem)=(if b then 1 else 0,0):=Kl;have hb:∀b:Bool,decide ((if b=true then (1:Int) else 0)=1)=b:=Kl;have ha:addR F r.T 3 (rEx F T x)=(0,(⟨T.st,T.ro,T.ca.map nCa,(p++[x]),[],[],[],[],[],[],0,0,0⟩:Tt)):=by
  rw [h.1];show (err [(fnd 9 (Jba (⟨T.st,T.ro,T.ca.map nCa,p,[],[],[],[],[],[],0,0,0⟩:Tt)) (atI (Jba T) x.1)).2,(F.day (F.dayT x.2.1)).2,(fnd 3 [wRem,wAdd] (if x.2.2 then wAdd else wRem)).2],_)=_
  simp only [ica,Jc2 (e:=9) v.ica c0.1 hl,ok.day _ d0.1 d0.2,hw,hb];rfl
 obtain⟨r',h1,h2,h3,-⟩:=step n 3 (fs:=rEx F T x) rfl Yt Kl Kl rfl Kl (hlen _ (by simp only [rows,List.mem_append,List.mem_map];exact .inr (.inr (.inr (.inl ⟨x,hx,rfl⟩))))) (fun k=>Yq) (fun k=>Yq) ha;exact Yr
theorem g_tr (r:Rd) (n:Int) (h:At ((⟨T.st,T.ro,T.ca.map nCa,T.ex,[],[],[],[],[],[],0,0,0⟩:Tt)) r):∃r',Goes F r ((T.tr.flatMap (bTr F T)).map Jas) n r'∧At ((⟨T.st,T.ro,T.ca.map nCa,T.ex,T.tr.map nTr,[],[],[],[],[],0,0,0⟩:Tt)) r':=by
 refine seg F (bTr F T) (fun p r=>At ((⟨T.st,T.ro,T.ca.map nCa,T.ex,p.map nTr,[],[],[],[],[],0,0,0⟩:Tt)) r) T.tr (fun p x s e r n h=>?_) T.tr [] rfl r n h;have hx:=Jdt e;obtain⟨r0,c0⟩:=v.tr x hx;have ica:Jba (⟨T.st,T.ro,T.ca.map nCa,T.ex,p.map nTr,[],[],[],[],[],0,0,0⟩:Tt)=Jba T:=Yu;have hr:x.2.1<((Jb1 T).length:Int):=by unfold Jb1;rw [Pq];exact r0.2
 have hc:x.2.2.1<((Jba T).length:Int):=by unfold Jba;rw [Pq];exact c0.2
 have ha:addR F r.T 4 (rTr T x)=(0,(⟨T.st,T.ro,T.ca.map nCa,T.ex,p.map nTr++[(x.1,x.2.1,x.2.2.1,x.2.2.2.1,.slice none 0 0,[])],[],[],[],[],[],0,0,0⟩:Tt)):=by
  rw [h.1];show (err [(fnd 9 (Jb1 (⟨T.st,T.ro,T.ca.map nCa,T.ex,p.map nTr,[],[],[],[],[],0,0,0⟩:Tt)) (atI (Jb1 T) x.2.1)).2,(fnd 9 (Jba (⟨T.st,T.ro,T.ca.map nCa,T.ex,p.map nTr,[],[],[],[],[],0,0,0⟩:Tt)) (atI (Jba T) x.2.2.1)).2,(flg (flgT x.2.2.2.1)).2],_)=_
  have iro:Jb1 (⟨T.st,T.ro,T.ca.map nCa,T.ex,p.map nTr,[],[],[],[],[],0,0,0⟩:Tt)=Jb1 T:=rfl;simp only [ica,iro,Jc2 (e:=9) v.iro r0.1 hr,Jc2 (e:=9) v.ica c0.1 hc,Jtj];rfl
 have hin:∀f∈bTr F T x,(Jas f).length≤65536:=fun f hf=>hlen f (by simp only [rows,List.mem_append,List.mem_map,List.mem_flatMap];exact .inr (.inr (.inr (.inr (.inl ⟨x,hx,hf⟩)))))
 obtain⟨r1,h1,h2,h3,h4⟩:=step n 4 (fs:=rTr T x) rfl Yt Kl Kl rfl Kl (hin _ List.mem_cons_self) (fun k=>Yq) (fun k=>Yq) ha;have q0:At ((⟨T.st,T.ro,T.ca.map nCa,T.ex,p.map nTr++[(x.1,x.2.1,x.2.2.1,x.2.2.2.1,.slice none 0 0,[])],[],[],[],[],[],0,0,0⟩:Tt)) r1∧r1.cl=true:=⟨⟨h2,by rw [h3];exact h.2⟩,by rw [h4];decide⟩;obtain⟨r2,g2,q2,-⟩:=seg1 F (rCc F T) (fun q r=>At ((⟨T.st,T.ro,T.ca.map nCa,T.ex,p.map nTr++[(x.1,x.2.1,x.2.2.1,x.2.2.2.1,.slice none 0 0,q)],[],[],[],[],[],0,0,0⟩:Tt)) r∧r.cl=true) (clT x) (fun q c s' e' r n h=>by
  have hc:=Jdt e';obtain⟨s0,t0,t1⟩:=v.cc x hx c hc;have hs:c.1<((Jaw T).length:Int):=by unfold Jaw;rw [Pq];exact s0.2
  have ha:addR F r.T 10 (rCc F T c)=(0,(⟨T.st,T.ro,T.ca.map nCa,T.ex,p.map nTr++[(x.1,x.2.1,x.2.2.1,x.2.2.2.1,.slice none 0 0,q++[c])],[],[],[],[],[],0,0,0⟩:Tt)):=by
   rw [h.1.1];show (err [(fnd 9 (Jaw (⟨T.st,T.ro,T.ca.map nCa,T.ex,p.map nTr++[(x.1,x.2.1,x.2.2.1,x.2.2.2.1,.slice none 0 0,q)],[],[],[],[],[],0,0,0⟩:Tt)) (atI (Jaw T) c.1)).2,(F.tim (F.timT c.2.1)).2,(F.tim (F.timT c.2.2.1)).2,(prm (prmT c.2.2.2.1 c.2.2.2.2)).2],_)=_
   have ist:Jaw (⟨T.st,T.ro,T.ca.map nCa,T.ex,p.map nTr++[(x.1,x.2.1,x.2.2.1,x.2.2.2.1,.slice none 0 0,q)],[],[],[],[],[],0,0,0⟩:Tt)=Jaw T:=rfl;obtain⟨p0,p1,p2⟩:=Qdg c.2.2.2.1 c.2.2.2.2;simp only [ist,Jc2 (e:=9) v.ist s0.1 hs,ok.tim _ t0.1 t0.2,ok.tim _ t1.1 t1.2,p0,p1,p2];rw [Ji6];rfl
  obtain⟨r',h1,h2,h3,h4⟩:=step n 10 (fs:=rCc F T c) rfl Yt Kl Kl rfl Kl (hin _ (List.mem_cons_of_mem _ (List.mem_map_of_mem hc))) (fun _=>h.2) (fun k=>Yq) ha;exact⟨r',h1,⟨h2,by rw [h3];exact h.1.2⟩,by rw [h4];decide⟩) r1 (n+1) q0
 refine⟨r2,Goes.cons h1 g2,?_⟩;rw [List.map_append];exact q2
theorem g_fr (r:Rd) (n:Int) (h:At ((⟨T.st,T.ro,T.ca.map nCa,T.ex,T.tr.map nTr,[],[],[],[],[],0,0,0⟩:Tt)) r):∃r',Goes F r ((T.fr.map (rFr F T)).map Jas) n r'∧At ((⟨T.st,T.ro,T.ca.map nCa,T.ex,T.tr.map nTr,T.fr,[],[],[],[],0,0,0⟩:Tt)) r':=by
 refine seg1 F (rFr F T) (fun p r=>At ((⟨T.st,T.ro,T.ca.map nCa,T.ex,T.tr.map nTr,p,[],[],[],[],0,0,0⟩:Tt)) r) T.fr (fun p x s e r n h=>?_) r n h;have hx:=Jdt e;obtain⟨a0,a1,a2,a3⟩:=v.fr x hx;have itr:Jav (⟨T.st,T.ro,T.ca.map nCa,T.ex,T.tr.map nTr,p,[],[],[],[],0,0,0⟩:Tt)=Jav T:=Ys;have hl:x.1<((Jav T).length:Int):=Yw;have ha:addR F r.T 5 (rFr F T x)=(0,(⟨T.st,T.ro,T.ca.map nCa,T.ex,T.tr.map nTr,(p++[x]),[],[],[],[],0,0,0⟩:Tt)):=by
  rw [h.1];show (err [(fnd 9 (Jav (⟨T.st,T.ro,T.ca.map nCa,T.ex,T.tr.map nTr,p,[],[],[],[],0,0,0⟩:Tt)) (atI (Jav T) x.1)).2,(F.tim (F.timT x.2.1)).2,(F.tim (F.timT x.2.2.1)).2,(F.dur (F.durT x.2.2.2)).2],_)=_
  simp only [itr,Jc2 (e:=9) v.itr a0.1 hl,ok.tim _ a1.1 a1.2,ok.tim _ a2.1 a2.2,ok.dur _ a3.1 a3.2];rfl
 obtain⟨r',h1,h2,h3,-⟩:=step n 5 (fs:=rFr F T x) rfl Yt Kl Kl rfl Kl (hlen _ (by simp only [rows,List.mem_append,List.mem_map];exact .inr (.inr (.inr (.inr (.inr (.inl ⟨x,hx,rfl⟩))))))) (fun k=>Yq) (fun k=>Yq) ha;exact Yr
omit ok in
theorem g_th (r:Rd) (n:Int) (h:At ((⟨T.st,T.ro,T.ca.map nCa,T.ex,T.tr.map nTr,T.fr,[],[],[],[],0,0,0⟩:Tt)) r):∃r',Goes F r ((T.th.map (rTh T)).map Jas) n r'∧At ((⟨T.st,T.ro,T.ca.map nCa,T.ex,T.tr.map nTr,T.fr,T.th,[],[],[],0,0,0⟩:Tt)) r':=by
 refine seg1 F (rTh T) (fun p r=>At ((⟨T.st,T.ro,T.ca.map nCa,T.ex,T.tr.map nTr,T.fr,p,[],[],[],0,0,0⟩:Tt)) r) T.th (fun p x s e r n h=>?_) r n h;have hx:=Jdt e;obtain⟨a0,a1⟩:=v.th x hx;have itr:Jav (⟨T.st,T.ro,T.ca.map nCa,T.ex,T.tr.map nTr,T.fr,p,[],[],[],0,0,0⟩:Tt)=Jav T:=Ys;have hl:x.1<((Jav T).length:Int):=Yw;have hm:x.2<((Jav T).length:Int):=by unfold Jav;rw [Pq];exact a1.2
 have ha:addR F r.T 6 (rTh T x)=(0,(⟨T.st,T.ro,T.ca.map nCa,T.ex,T.tr.map nTr,T.fr,(p++[x]),[],[],[],0,0,0⟩:Tt)):=by
  rw [h.1];show (err [(fnd 9 (Jav (⟨T.st,T.ro,T.ca.map nCa,T.ex,T.tr.map nTr,T.fr,p,[],[],[],0,0,0⟩:Tt)) (atI (Jav T) x.1)).2,(fnd 9 (Jav (⟨T.st,T.ro,T.ca.map nCa,T.ex,T.tr.map nTr,T.fr,p,[],[],[],0,0,0⟩:Tt)) (atI (Jav T) x.2)).2],_)=_
  simp only [itr,Jc2 (e:=9) v.itr a0.1 hl,Jc2 (e:=9) v.itr a1.1 hm];rfl
 obtain⟨r',h1,h2,h3,-⟩:=step n 6 (fs:=rTh T x) rfl Yt Kl Kl rfl Kl (hlen _ (by simp only [rows,List.mem_append,List.mem_map];exact .inr (.inr (.inr (.inr (.inr (.inr (.inl ⟨x,hx,rfl⟩)))))))) (fun k=>Yq) (fun k=>Yq) ha;exact Yr
omit ok in
theorem g_gu (r:Rd) (n:Int) (h:At ((⟨T.st,T.ro,T.ca.map nCa,T.ex,T.tr.map nTr,T.fr,T.th,[],[],[],0,0,0⟩:Tt)) r):∃r',Goes F r ((T.gu.map (rGu T)).map Jas) n r'∧At ((⟨T.st,T.ro,T.ca.map nCa,T.ex,T.tr.map nTr,T.fr,T.th,T.gu,[],[],0,0,0⟩:Tt)) r':=by
 refine seg1 F (rGu T) (fun p r=>At ((⟨T.st,T.ro,T.ca.map nCa,T.ex,T.tr.map nTr,T.fr,T.th,p,[],[],0,0,0⟩:Tt)) r) T.gu (fun p x s e r n h=>?_) r n h;have hx:=Jdt e;obtain⟨a0,a1,a2⟩:=v.gu x hx;have itr:Jav (⟨T.st,T.ro,T.ca.map nCa,T.ex,T.tr.map nTr,T.fr,T.th,p,[],[],0,0,0⟩:Tt)=Jav T:=Ys;have ist:Jaw (⟨T.st,T.ro,T.ca.map nCa,T.ex,T.tr.map nTr,T.fr,T.th,p,[],[],0,0,0⟩:Tt)=Jaw T:=rfl;have hl:x.1<((Jav T).length:Int):=Yw;have hm:x.2.1<((Jav T).length:Int):=by unfold Jav;rw [Pq];exact a1.2
 have hs:x.2.2<((Jaw T).length:Int):=by unfold Jaw;rw [Pq];exact a2.2
 have ha:addR F r.T 7 (rGu T x)=(0,(⟨T.st,T.ro,T.ca.map nCa,T.ex,T.tr.map nTr,T.fr,T.th,(p++[x]),[],[],0,0,0⟩:Tt)):=by
  rw [h.1];show (err [(fnd 9 (Jav (⟨T.st,T.ro,T.ca.map nCa,T.ex,T.tr.map nTr,T.fr,T.th,p,[],[],0,0,0⟩:Tt)) (atI (Jav T) x.1)).2,(fnd 9 (Jav (⟨T.st,T.ro,T.ca.map nCa,T.ex,T.tr.map nTr,T.fr,T.th,p,[],[],0,0,0⟩:Tt)) (atI (Jav T) x.2.1)).2,(fnd 9 (Jaw (⟨T.st,T.ro,T.ca.map nCa,T.ex,T.tr.map nTr,T.fr,T.th,p,[],[],0,0,0⟩:Tt)) (atI (Jaw T) x.2.2)).2],_)=_
  simp only [itr,ist,Jc2 (e:=9) v.itr a0.1 hl,Jc2 (e:=9) v.itr a1.1 hm,Jc2 (e:=9) v.ist a2.1 hs];rfl
 obtain⟨r',h1,h2,h3,-⟩:=step n 7 (fs:=rGu T x) rfl Yt Kl Kl rfl Kl (hlen _ (by simp only [rows,List.mem_append,List.mem_map];exact .inr (.inr (.inr (.inr (.inr (.inr (.inr (.inl ⟨x,hx,rfl⟩))))))))) (fun k=>Yq) (fun k=>Yq) ha;exact Yr
theorem g_pa (r:Rd) (n:Int) (h:At ((⟨T.st,T.ro,T.ca.map nCa,T.ex,T.tr.map nTr,T.fr,T.th,T.gu,[],[],0,0,0⟩:Tt)) r):∃r',Goes F r ((T.pa.map (rPa F T)).map Jas) n r'∧At ((⟨T.st,T.ro,T.ca.map nCa,T.ex,T.tr.map nTr,T.fr,T.th,T.gu,T.pa,[],0,0,0⟩:Tt)) r':=by
 refine seg1 F (rPa F T) (fun p r=>At ((⟨T.st,T.ro,T.ca.map nCa,T.ex,T.tr.map nTr,T.fr,T.th,T.gu,p,[],0,0,0⟩:Tt)) r) T.pa (fun p x s e r n h=>?_) r n h;have hx:=Jdt e;obtain⟨a0,a1,a2⟩:=v.pa x hx;have ist:Jaw (⟨T.st,T.ro,T.ca.map nCa,T.ex,T.tr.map nTr,T.fr,T.th,T.gu,p,[],0,0,0⟩:Tt)=Jaw T:=rfl;have hl:x.1<((Jaw T).length:Int):=by unfold Jaw;rw [Pq];exact a0.2
 have hm:x.2.1<((Jaw T).length:Int):=by unfold Jaw;rw [Pq];exact a1.2
 have ha:addR F r.T 8 (rPa F T x)=(0,(⟨T.st,T.ro,T.ca.map nCa,T.ex,T.tr.map nTr,T.fr,T.th,T.gu,(p++[x]),[],0,0,0⟩:Tt)):=by
  rw [h.1];show (err [(fnd 9 (Jaw (⟨T.st,T.ro,T.ca.map nCa,T.ex,T.tr.map nTr,T.fr,T.th,T.gu,p,[],0,0,0⟩:Tt)) (atI (Jaw T) x.1)).2,(fnd 9 (Jaw (⟨T.st,T.ro,T.ca.map nCa,T.ex,T.tr.map nTr,T.fr,T.th,T.gu,p,[],0,0,0⟩:Tt)) (atI (Jaw T) x.2.1)).2,(F.dur (F.durT x.2.2.1)).2,(flg (flgT x.2.2.2)).2],_)=_
  simp only [ist,Jc2 (e:=9) v.ist a0.1 hl,Jc2 (e:=9) v.ist a1.1 hm,ok.dur _ a2.1 a2.2,Jtj];rfl
 obtain⟨r',h1,h2,h3,-⟩:=step n 8 (fs:=rPa F T x) rfl Yt Kl Kl rfl Kl (hlen _ (by simp only [rows,List.mem_append,List.mem_map];exact .inr (.inr (.inr (.inr (.inr (.inr (.inr (.inr (.inl ⟨x,hx,rfl⟩)))))))))) (fun k=>Yq) (fun k=>Yq) ha;exact Yr
theorem g_fa (r:Rd) (n:Int) (h:At ((⟨T.st,T.ro,T.ca.map nCa,T.ex,T.tr.map nTr,T.fr,T.th,T.gu,T.pa,[],0,0,0⟩:Tt)) r):∃r',Goes F r ((rFa F T).map Jas) n r'∧r'.T=(⟨T.st,T.ro,T.ca.map nCa,T.ex,T.tr.map nTr,T.fr,T.th,T.gu,T.pa,[],T.di,T.wi,T.cp⟩:Tt):=by
 obtain⟨a0,a1,a2⟩:=v.fa;by_cases hz:T.di≠0∨T.wi≠0∨T.cp≠0
 ·have e:rFa F T=[[wFa,F.prcT T.di,F.durT T.wi,F.prcT T.cp]]:=if_pos hz
  have ha:addR F r.T 11 [wFa,F.prcT T.di,F.durT T.wi,F.prcT T.cp]=(0,(⟨T.st,T.ro,T.ca.map nCa,T.ex,T.tr.map nTr,T.fr,T.th,T.gu,T.pa,[],T.di,T.wi,T.cp⟩:Tt)):=by
   rw [h.1];show (err [(F.prc (F.prcT T.di)).2,(F.dur (F.durT T.wi)).2,(F.prc (F.prcT T.cp)).2],_)=_
   simp only [ok.prc _ a0.1 a0.2,ok.dur _ a1.1 a1.2,ok.prc _ a2.1 a2.2];rfl
  obtain⟨r',h1,h2,-,-⟩:=step n 11 (fs:=[wFa,F.prcT T.di,F.durT T.wi,F.prcT T.cp]) rfl Yt Kl Kl rfl Kl (hlen _ (by simp only [rows,List.mem_append,e];simp)) (fun k=>Yq) (fun _=>h.2) ha;rw [e];exact⟨r',Goes.one h1,h2⟩
 ·have e:rFa F T=[]:=if_neg hz
  rw [e];refine⟨r,Goes.nil _ _ _,?_⟩;rw [h.1,show T.di=0 by omega,show T.wi=0 by omega,show T.cp=0 by omega]
theorem g_pr (r:Rd) (n:Int) (h:r.T=(⟨T.st,T.ro,T.ca.map nCa,T.ex,T.tr.map nTr,T.fr,T.th,T.gu,T.pa,[],T.di,T.wi,T.cp⟩:Tt)):∃r',Goes F r ((T.pr.map (rPr F)).map Jas) n r'∧r'.T=(⟨T.st,T.ro,T.ca.map nCa,T.ex,T.tr.map nTr,T.fr,T.th,T.gu,T.pa,T.pr,T.di,T.wi,T.cp⟩:Tt):=by
 refine seg1 F (rPr F) (fun p r=>r.T=(⟨T.st,T.ro,T.ca.map nCa,T.ex,T.tr.map nTr,T.fr,T.th,T.gu,T.pa,p,T.di,T.wi,T.cp⟩:Tt)) T.pr (fun p x s e r n h=>?_) r n h;have hx:=Jdt e;obtain⟨a0,a1,a2,a3,a4⟩:=v.pr x hx;have ha:addR F r.T 9 (rPr F x)=(0,(⟨T.st,T.ro,T.ca.map nCa,T.ex,T.tr.map nTr,T.fr,T.th,T.gu,T.pa,(p++[x]),T.di,T.wi,T.cp⟩:Tt)):=by
  rw [h];show (err [(F.prc (F.prcT x.2.1)).2,(F.num (F.numT x.2.2.1)).2,(F.num (F.numT x.2.2.2.1)).2,(F.dur (F.durT x.2.2.2.2.1)).2,(F.mds (F.mdsT x.2.2.2.2.2)).2],_)=_
  simp only [ok.prc _ a0.1 a0.2,ok.num _ a1.1 a1.2,ok.num _ a2.1 a2.2,ok.dur _ a3.1 a3.2,ok.mds _ a4.1 a4.2];rfl
 obtain⟨r',h1,h2,-,-⟩:=step n 9 (fs:=rPr F x) rfl Yt Kl Kl rfl Kl (hlen _ (by simp only [rows,List.mem_append,List.mem_map];exact .inr (.inr (.inr (.inr (.inr (.inr (.inr (.inr (.inr (.inr ⟨x,hx,rfl⟩))))))))))) (fun k=>Yq) (fun k=>Yq) ha;exact⟨r',h1,h2⟩
theorem g_all:∃r',Goes F R0 ((rows F T).map Jas) 1 r'∧r'.T=nrm T:=by
 obtain⟨r0,g0,h0⟩:=g_st ok v hlen R0 1 ⟨rfl,rfl⟩;obtain⟨r1,g1,h1⟩:=g_ro v hlen r0 _ h0;obtain⟨r2,g2,h2⟩:=g_ca ok v hlen r1 _ h1;obtain⟨r3,g3,h3⟩:=g_ex ok v hlen r2 _ h2;obtain⟨r4,g4,h4⟩:=g_tr ok v hlen r3 _ h3;obtain⟨r5,g5,h5⟩:=g_fr ok v hlen r4 _ h4;obtain⟨r6,g6,h6⟩:=g_th v hlen r5 _ h5;obtain⟨r7,g7,h7⟩:=g_gu v hlen r6 _ h6;obtain⟨r8,g8,h8⟩:=g_pa ok v hlen r7 _ h7;obtain⟨r9,g9,h9⟩:=g_fa ok v hlen r8 _ h8;obtain⟨ra,ga,ha⟩:=g_pr ok v hlen r9 _ h9;refine⟨ra,?_,ha⟩;unfold rows;simp only [List.map_append];exact g0.app (g1.app (g2.app (g3.app (g4.app (g5.app (g6.app (g7.app (g8.app (g9.app ga)))))))))
end
section
variable {α:Type} {e:α→α→Bool} {l m:List α}
def eqB (e:α→α→Bool) (l m:List α):Bool:=decide (l.length=m.length)&&(List.range l.length).all fun i=>match l[i]?,m[i]? with
 | some x,some y=>e x y
 | _,_=>false
theorem Je7 (h:l.length≠m.length):eqB e l m=false:=by unfold eqB;rw [Pj h];rfl
theorem Jcc {k:Nat} {x y:α} (hx:l[k]?=some x) (hy:m[k]?=some y) (h:e x y=false):eqB e l m=false:=by
 unfold eqB;rw [Bool.and_eq_false_iff];right;rw [List.all_eq_false];exact⟨k,List.mem_range.2 (Pl hx).1,by rw [hx,hy];simp [h]⟩
theorem Jdu (hl:l.length=m.length) (h:∀(j:Nat) x y,j<l.length→l[j]?=some x→m[j]?=some y→e x y=true):eqB e l m=true:=by
 unfold eqB;rw [Pk hl,Bool.true_and,List.all_eq_true];intro j hj;have hj:=List.mem_range.1 hj;obtain⟨x,hx⟩:=Jah hj;obtain⟨y,hy⟩:=Jah (show j<m.length by omega);rw [hx,hy];exact h j x y hj hx hy
theorem Jcr (h:∀x,e x x=true):eqB e l l=true:=Jdu rfl fun j x y _ hx hy=>by
 rw [hx] at hy;cases hy;exact h x
theorem Jdv {k:Nat} {x y:α} (h:∀(j:Nat) x y,j<k→l[j]?=some x→m[j]?=some y→e x y=true) (hx:l[k]?=some x) (hy:m[k]?=some y) (he:e x y=true):∀(j:Nat) x y,j<k+1→l[j]?=some x→m[j]?=some y→e x y=true:=by
 intro j x' y' hj hx' hy';by_cases g:j=k
 ·subst g
  rw [hx] at hx';rw [hy] at hy';cases hx';cases hy'
  exact he
 ·exact h j x' y' Kd hx' hy'
end
def eSt (x y:S13.St):Bool:=decide (x=y)
def eRo (x y:Rt):Bool:=decide (x=y)
def eCa (x y:S14.Cl):Bool:=decide (x.1=y.1∧(x.2.1 0=y.2.1 0∧x.2.1 1=y.2.1 1∧x.2.1 2=y.2.1 2∧x.2.1 3=y.2.1 3∧x.2.1 4=y.2.1 4∧x.2.1 5=y.2.1 5∧x.2.1 6=y.2.1 6)∧x.2.2.1=y.2.2.1∧x.2.2.2=y.2.2.2)
def eEx (x y:S14.Ex):Bool:=decide (x=y)
def eCc (x y:Cl):Bool:=decide (x=y)
def eTr (x y:Tp):Bool:=decide (x.1=y.1∧x.2.1=y.2.1∧x.2.2.1=y.2.2.1∧x.2.2.2.1=y.2.2.2.1)&&eqB eCc (clT x) (clT y)
def eFr (x y:Fq):Bool:=decide (x=y)
def eTh (x y:S19.Th):Bool:=decide (x=y)
def eGu (x y:S19.Gt):Bool:=decide (x=y)
def ePa (x y:S20.Fp):Bool:=decide (x=y)
def ePr (x y:S21.Pd):Bool:=decide (x=y)
def hdT (T U:Tt):Bool:=eqB eSt T.st U.st&&(eqB eRo T.ro U.ro&&(eqB eCa T.ca U.ca&&eqB eEx T.ex U.ex))
def tlT (T U:Tt):Bool:=eqB eFr T.fr U.fr&&(eqB eTh T.th U.th&&(eqB eGu T.gu U.gu&&(eqB ePa T.pa U.pa&&eqB ePr T.pr U.pr)))
def eqT (T U:Tt):Bool:=hdT T U&&(eqB eTr T.tr U.tr&&(tlT T U&&decide (T.di=U.di∧T.wi=U.wi∧T.cp=U.cp)))
theorem eSt_r (x:S13.St):eSt x x=true:=Pk rfl
theorem eRo_r (x:Rt):eRo x x=true:=Pk rfl
theorem Qdi (x:S14.Cl):eCa x x=true:=Pk ⟨rfl,⟨rfl,rfl,rfl,rfl,rfl,rfl,rfl⟩,rfl,rfl⟩
theorem eEx_r (x:S14.Ex):eEx x x=true:=Pk rfl
theorem J95 (x:Cl):eCc x x=true:=Pk rfl
theorem J96 (x:Tp):eTr x x=true:=by unfold eTr;rw [Pk ⟨rfl,rfl,rfl,rfl⟩,Jcr J95];rfl
theorem eFr_r (x:Fq):eFr x x=true:=Pk rfl
theorem eTh_r (x:S19.Th):eTh x x=true:=Pk rfl
theorem eGu_r (x:S19.Gt):eGu x x=true:=Pk rfl
theorem ePa_r (x:S20.Fp):ePa x x=true:=Pk rfl
theorem ePr_r (x:S21.Pd):ePr x x=true:=Pk rfl
theorem Jtk (T:Tt):eqT T T=true:=by
 unfold eqT hdT tlT;rw [Jcr eSt_r,Jcr eRo_r,Jcr Qdi,Jcr eEx_r,Jcr J96,Jcr eFr_r,Jcr eTh_r,Jcr eGu_r,Jcr ePa_r,Jcr ePr_r,Pk ⟨rfl,rfl,rfl⟩];rfl
theorem Jzk {κ α:Type} {bad:List κ→α→Int} {key:α→κ} {l:List α} (h:(fbF bad key [] 0 l).2=0) {j:Nat} {x:α} (hx:l[j]?=some x):bad ((l.take j).map key) x=0:=by
 have:=Jx6 l [] 0 h j x hx;rwa [List.nil_append] at this
theorem Jdw {κ α:Type} {bad:List κ→α→Int} {key:α→κ} {l:List α} (h:(fbF bad key [] 0 l).2=0) {x:α} (hx:x∈l):∃seen,bad seen x=0:=by
 obtain⟨j,hj⟩:=List.mem_iff_getElem?.1 hx;exact⟨_,Jzk h hj⟩
theorem Jib {κ α:Type} {bad:List κ→α→Int} {key:α→κ} {l:List α} (h:(fbF bad key [] 0 l).2=0) (hb:∀seen x,bad seen x=0→key x ∉ seen):(l.map key).Nodup:=by
 refine List.pairwise_iff_getElem.2 fun i j hi hj hij e=>?_
 simp only [Pq] at hi hj;have h1:=hb _ _ (Jzk h (List.getElem?_eq_getElem hj));simp only [List.getElem_map] at e;apply h1;rw [←e];exact List.mem_map.2 ⟨l[i],List.mem_take_iff_getElem.2 ⟨i,Kd,rfl⟩,rfl⟩
theorem Jzl {κ α:Type} {bad:List κ→α→Int} {key:α→κ} {f:α→α} (h1:∀seen x,bad seen (f x)=bad seen x) (h2:∀x,key (f x)=key x):∀(l:List α) (seen:List κ) (k:Nat),fbF bad key seen k (l.map f)=fbF bad key seen k l
 | [],_,_=>rfl
 | x::l,seen,k=>by
  rw [List.map_cons];unfold fbF;rw [h1,h2,Jzl h1 h2 l]
theorem Jma:∀(l:List S13.St) (seen:List Bs) (k:Nat),S13.chkF seen k l=fbF S13.badS (fun x=>x.1) seen k l
 | [],_,_=>rfl
 | x::l,seen,k=>by
  unfold S13.chkF fbF;rw [Jma l]
theorem J7n {st lo hi:Int} {c:Cl}:∀(l:List Cl) (p:Option Cl) (k:Nat),(ckF st lo hi p k l).2=0→c∈l→∃q,badC st lo hi q c=0
 | [],_,_,_,h=>Qf
 | x::l,p,k,hz,h=>by
  unfold ckF at hz;by_cases hb:badC st lo hi p x=0
  ·rw [if_pos hb] at hz
   rcases List.mem_cons.1 h with rfl | hm
   ·exact⟨p,hb⟩
   ·exact J7n l _ _ hz hm
  ·rw [if_neg hb] at hz
   exact absurd hz hb
theorem J3z {st lo hi:Int} {p:Option Cl} {x:Cl} (h:badC st lo hi p x=0):(0≤x.1∧x.1<st)∧lo≤x.2.1∧x.2.1≤x.2.2.1∧x.2.2.1≤hi:=by
 unfold badC at h;split at h
 ·omega
 split at h
 ·omega
 split at h
 ·omega
 ·omega
theorem Jzm {T:Tt} (h:(ttC T).2.2=0):Val T:=by
 have hp:=(Jze T).1 h;have h0:(S13.chkT T.st).2=0:=hp 0 Kd;have h1:(chkR T.ro).2=0:=hp 1 Kd;have h2:(S14.chkC T.ca).2=0:=hp 2 Kd;have h3:(S14.chkX T.ca.length T.ex).2=0:=hp 3 Kd;have h4:(S17.chkT T.st.length T.ro.length T.ca.length T.tr).2=0:=hp 4 Kd;have h5:(chkF (T.tr.map clT) T.fr).2=0:=hp 5 Kd;have h6:(S19.chkH (T.tr.map S19.tcT) T.fr T.th).2=0:=hp 6 Kd;have h7:(S19.chkU (T.tr.map S19.tcT) T.fr T.st.length T.gu).2=0:=hp 7 Kd;have h8:(S20.chkP T.st.length T.pa).2=0:=hp 8 Kd;have h9:(S21.chkPd T.di T.wi T.cp T.pr).2=0:=hp 9 Kd;unfold S13.chkT at h0;unfold chkR at h1;unfold S14.chkC at h2;unfold S14.chkX at h3;unfold S17.chkT at h4;unfold S19.chkH at h6;unfold S19.chkU at h7;unfold S20.chkP S20.vldP at h8;unfold S21.chkPd at h9;split at h0
 ·simp at h0
 split at h1
 ·simp at h1
 split at h2
 ·simp at h2
 split at h3
 ·simp at h3
 split at h4
 ·simp at h4
 split at h6
 ·simp at h6
 split at h7
 ·simp at h7
 split at h8
 ·simp at h8
 split at h9
 ·simp at h9
 split at h9
 ·simp at h9
 rw [Jma] at h0;next hfa _ =>
 have hfa:=Ps hfa;refine⟨fun x hx=>?_,?_,fun x hx=>?_,?_,fun x hx=>?_,?_,fun x hx=>?_,fun x hx=>?_,?_,fun x hx c hc=>?_,fun x hx=>?_,fun x hx=>?_,fun x hx=>?_,fun x hx=>?_,fun x hx=>?_,?_⟩
 ·obtain⟨s,hb⟩:=Jdw h0 hx
  unfold S13.badS at hb;split at hb
  ·exact Yv
  split at hb
  ·exact Yv
  split at hb
  ·exact Yv
  ·next hf=>unfold S13.farS at hf;omega
 ·refine Jib h0 fun s x hb=>?_
  unfold S13.badS at hb;split at hb
  ·exact Yv
  split at hb
  ·exact Yv
  ·next hf=>exact hf
 ·obtain⟨s,hb⟩:=Jdw h1 hx
  unfold badR at hb;split at hb
  ·exact Yv
  split at hb
  ·exact Yv
  split at hb
  ·next hf=>exact hf
  ·exact Yv
 ·refine Jib (key:=idR) h1 fun s x hb=>?_
  unfold badR at hb;split at hb
  ·exact Yv
  split at hb
  ·exact Yv
  ·next hf=>exact hf
 ·obtain⟨s,hb⟩:=Jdw h2 hx
  unfold S14.badC at hb;split at hb
  ·exact Yv
  split at hb
  ·exact Yv
  split at hb
  ·next hf=>exact⟨hf.1,hf.2.1⟩
  ·exact Yv
 ·refine Jib (key:=S14.idC) h2 fun s x hb=>?_
  unfold S14.badC at hb;split at hb
  ·exact Yv
  split at hb
  ·exact Yv
  ·next hf=>exact hf
 ·obtain⟨s,hb⟩:=Jdw h3 hx
  unfold S14.badX at hb;split at hb
  ·exact Yv
  next hr =>
  split at hb
  ·exact Yv
  next hd =>
  exact⟨Kd,Ps hd⟩
 ·obtain⟨s,hb⟩:=Jdw h4 hx
  unfold S17.badT at hb;split at hb
  ·exact Yv
  split at hb
  ·exact Yv
  split at hb
  ·next hr=>exact hr
  ·exact Yv
 ·refine Jib (key:=S17.idT) h4 fun s x hb=>?_
  unfold S17.badT at hb;split at hb
  ·exact Yv
  split at hb
  ·exact Yv
  ·next hf=>exact hf
 ·obtain⟨s,hb⟩:=Jdw h4 hx
  unfold S17.badT at hb;split at hb
  ·exact Yv
  split at hb
  ·exact Yv
  split at hb
  ·unfold chkC at hb
   split at hb
   ·exact Yv
   ·obtain⟨q,hq⟩:=J7n _ _ _ hb hc
    obtain⟨c0,c1,c2,c3⟩:=J3z hq;exact⟨c0,⟨c1,Kd⟩,Kd,c3⟩
  ·exact Yv
 ·obtain⟨j,hj⟩:=List.mem_iff_getElem?.1 hx
  obtain⟨g0,g1,-⟩:=Jx5 (J28 h5 j x hj);obtain⟨t,a,b,e⟩:=x;rw [Pq] at g0;obtain⟨s0,s1,s2,s3,s4⟩:=Jcz.1 g1;exact⟨g0,⟨s0,Int.le_trans (Int.le_of_lt s1) s2⟩,⟨Int.le_trans s0 (Int.le_of_lt s1),s2⟩,Int.le_trans Kl s3,s4⟩
 ·obtain⟨s,hb⟩:=Jdw h6 hx
  unfold S19.thE at hb;split at hb
  ·next hf=>exact absurd hb hf
  next hf =>
  have hf:=Ps hf;unfold S19.prE at hf;rw [Pq] at hf;split at hf
  ·simp at hf
  ·omega
 ·obtain⟨s,hb⟩:=Jdw h7 hx
  unfold S19.guE at hb;split at hb
  ·exact Yv
  next hs =>
  split at hb
  ·next hf=>exact absurd hb hf
  next hf =>
  have hf:=Ps hf;unfold S19.prE at hf;rw [Pq] at hf;split at hf
  ·simp at hf
  ·omega
 ·obtain⟨s,hb⟩:=Jdw h8 hx
  unfold S20.badP at hb;split at hb
  ·exact Yv
  split at hb
  ·exact Yv
  ·omega
 ·obtain⟨s,hb⟩:=Jdw h9 hx
  unfold S21.badPd at hb;split at hb
  ·exact Yv
  split at hb
  ·exact Yv
  split at hb
  ·next hf=>obtain⟨k0,k1,k2,k3,k4⟩:=hf;exact⟨k0,Kd,Kd,k3,Kd,Kd⟩
  ·exact Yv
 ·exact hfa
theorem J30 (T:Tt):Jaq (nrm T)=Jaq T:=by
 funext j
 match j with
 | 0=>rfl
 | 1=>rfl
 | 2 =>
  show S14.chkC (T.ca.map nCa)=S14.chkC T.ca
  unfold S14.chkC;rw [Pq,Jzl (f:=nCa) (fun _ _=>rfl) (fun _=>rfl)]
 | 3=>show S14.chkX (T.ca.map nCa).length T.ex=_;rw [Pq];rfl
 | 4 =>
  show S17.chkT T.st.length T.ro.length (T.ca.map nCa).length (T.tr.map nTr)=S17.chkT T.st.length T.ro.length T.ca.length T.tr
  unfold S17.chkT;rw [Pq,Pq,Jzl (f:=nTr) (fun _ _=>rfl) (fun _=>rfl)]
 | 5=>show chkF ((T.tr.map nTr).map clT) T.fr=_;rw [List.map_map];rfl
 | 6=>show S19.chkH ((T.tr.map nTr).map S19.tcT) T.fr T.th=_;rw [List.map_map];rfl
 | 7=>show S19.chkU ((T.tr.map nTr).map S19.tcT) T.fr T.st.length T.gu=_;rw [List.map_map];rfl
 | 8=>rfl
 | 9=>rfl
 | n+10=>rfl
theorem Jzn (T:Tt):ttC (nrm T)=ttC T:=by unfold ttC;rw [J30]
theorem Qdj (k:Nat→Bool):decide ((wkT k)[0]?=some 49)=k 0∧decide ((wkT k)[1]?=some 49)=k 1∧decide ((wkT k)[2]?=some 49)=k 2∧decide ((wkT k)[3]?=some 49)=k 3∧decide ((wkT k)[4]?=some 49)=k 4∧decide ((wkT k)[5]?=some 49)=k 5∧decide ((wkT k)[6]?=some 49)=k 6:=by
 unfold wkT;refine⟨?_,?_,?_,?_,?_,?_,?_⟩
 ·cases k 0 <;> rfl
 ·cases k 1 <;> rfl
 ·cases k 2 <;> rfl
 ·cases k 3 <;> rfl
 ·cases k 4 <;> rfl
 ·cases k 5 <;> rfl
 ·cases k 6 <;> rfl
theorem J97 (T:Tt):eqT T (nrm T)=true:=by
 have hc:eqB eCa T.ca (nrm T).ca=true:=by
  refine Jdu (by simp [nrm]) (fun j x y _ hx hy=>?_);have e:y=nCa x:=by
   simp only [nrm,List.getElem?_map,hx,Option.map_some,Option.some.injEq] at hy;exact hy.symm
  subst e;obtain⟨w0,w1,w2,w3,w4,w5,w6⟩:=Qdj x.2.1;exact Pk ⟨rfl,⟨w0.symm,w1.symm,w2.symm,w3.symm,w4.symm,w5.symm,w6.symm⟩,rfl,rfl⟩
 have ht:eqB eTr T.tr (nrm T).tr=true:=by
  refine Jdu (by simp [nrm]) (fun j x y _ hx hy=>?_);have e:y=nTr x:=by
   simp only [nrm,List.getElem?_map,hx,Option.map_some,Option.some.injEq] at hy;exact hy.symm
  subst e;exact J96 x
 have r:=Jtk T;unfold eqT hdT tlT at r ⊢;rw [hc,ht];rw [Jcr Qdi,Jcr J96] at r;exact r
theorem Ji7:∀(l:List Bs) (b:UInt8),b∈Jas l→b≠10
 | [],b,h=>Qf
 | x::l,b,h=>by
  have hq:∀b∈Jam x,b≠10:=fun b hb e=>by
   have:=List.all_eq_true.1 (Jzi x) b hb;subst e;simp [ctl] at this
  cases l with
  | nil=>exact hq b h
  | cons y l =>
   have e:Jas (x::y::l)=Jam x++44::Jas (y::l):=rfl;rw [e,List.mem_append,List.mem_cons] at h;rcases h with h | h | h
   ·exact hq b h
   ·subst h;decide
   ·exact Ji7 (y::l) b h
theorem Jhv {ls:List Bs} {x:Bs} (h:x∈ls):x.length≤(Jay ls).length:=by
 induction ls with
 | nil=>cases h
 | cons y l ih =>
  have e:Jay (y::l)=y++[10]++Jay l:=rfl;rw [e,Pp,Pp];rcases List.mem_cons.1 h with rfl | h
  ·omega
  ·have:=ih h;omega
theorem J31 {ls:List Bs} (h:∀l∈ls,∀b∈l,b≠10) (hl:(Jay ls).length≤65536):linR (Jay ls)=(ls,0):=by
 unfold linR;rw [if_neg Kd];by_cases h0:ls=[]
 ·subst h0;rfl
 ·have he:=J3w ls h0
  rw [List.getLast?_eq_getElem?] at he;rw [if_neg (fun e=>by rw [e] at he;cases he),if_pos he,Jva ls h]
theorem J98 {F:Fm} (ok:FmOk F) {T:Tt} (h:(ttC T).2.2=0) (hl:(Jez F T).length≤65536):Jcm F (Jez F T)=(nrm T,0,0):=by
 have hlen:∀f∈rows F T,(Jas f).length≤65536:=fun f hf=>Nat.le_trans (Jhv (List.mem_map_of_mem hf)) hl
 obtain⟨r,g,e⟩:=g_all ok (Jzm h) hlen;have e1:linR (Jez F T)=((rows F T).map Jas,0):=J31 (fun l hl b hb=>by
  obtain⟨f,-,rfl⟩:=List.mem_map.1 hl;exact Ji7 f b hb) hl
 have g:goR F ((rows F T).map Jas) 1 R0=(0,0,r):=g;unfold Jcm;rw [e1,if_neg Kj];simp only [g,e];rw [if_neg Kj,Jzn,if_neg Kw]
end
end Go.Proofs.YtpifdbphmnifdaaGreatDoor
