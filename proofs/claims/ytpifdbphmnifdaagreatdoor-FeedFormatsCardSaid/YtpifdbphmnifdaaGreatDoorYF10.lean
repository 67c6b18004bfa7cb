/-
  Facts. Condition: each theorem's own.
-/
import Derived.Test.YtpifdbphmnifdaaGreatDoorYF9
set_option maxRecDepth 100000
set_option maxHeartbeats 8000000
section
variable {p:Prop}
theorem Yt(h:p:=by go_ret;exact⟨rfl,rfl⟩):p:=h
theorem Yu(h:p:=by rintro e w4 ⟨rfl,b4⟩;go_wp2_with fail;go_ret2;exact⟨rfl,(b1.trans (b2.mono b1.size)).trans ((b3.trans (b4.mono b3.size)).mono (Nat.le_trans b1.size b2.size))⟩):p:=h
theorem Yv(h:p:=by go_ret2;exact V4):p:=h
theorem Yw(h:p:=by go_wp2_with fail;go_ret;exact⟨rfl,(Below.refl _ _).alloc Ph _⟩):p:=h
theorem Yx(h:p:=by exact absurd (congrArg Prod.fst h1) Ke):p:=h
theorem Yy(h:p:=by rw[if_pos hk,beq_iff_eq];exact⟨fun h=>by rw[h];rfl,fun h=>UInt8.toNat_inj.1 h⟩):p:=h
theorem Yz(h:p:=by have:=(h.ln p hp j hj).2;omega):p:=h
theorem Y0(h:p:=by simp at hb):p:=h
theorem Y1(h:p:=by simp[Ja1]):p:=h
end
open Go.Proofs.Tryz
namespace Go.Proofs.YtpifdbphmnifdaaGreatDoor
section
open Go
def ctl(c:UInt8):Bool:=decide (c.toNat<32\/c.toNat=127)
def pln(c:UInt8):Bool:=!(c==44 || c==34 || c==92 || ctl c)
def Jbe(l:List UInt8):Bool:=l.all pln&&!l.isEmpty&&l.head? != some 32&&l.getLast? != some 32
def hexD(n:Nat):UInt8:=UInt8.ofNat (if n<10 then 48+n else 87+n)
def esc(c:UInt8):List UInt8:=if ctl c then[92,120,hexD (c.toNat / 16),hexD (c.toNat % 16)] else if c==34 || c==92 then[92,c] else[c]
def Ja1(l:List UInt8):List UInt8:=l.flatMap esc
def Jaj(l:List UInt8):List UInt8:=if Jbe l then l else 34::(Ja1 l++[34])
def Jo2(c:UInt8):Nat:=if 48<=c.toNat/\c.toNat<=57 then c.toNat - 48 else if 97<=c.toNat/\c.toNat<=102 then c.toNat - 87 else 16
theorem Jme(c:UInt8):ctl c=true↔c.toNat<32\/c.toNat=127:=by unfold ctl;exact decide_eq_true_iff
theorem Jij(n:Nat)(h:n<16):(hexD n).toNat=if n<10 then 48+n else 87+n:=by
 unfold hexD;rw[UInt8.toNat_ofNat'];split <;> omega
theorem Jky(n:Nat)(h:n<16):Jo2 (hexD n)=n:=by
 unfold Jo2;rw[Jij n h];by_cases h1:n<10
 ·rw[if_pos h1,if_pos Ka];omega
 ·rw[if_neg h1,if_neg Ka,if_pos Ka];omega
def J8a(a b:Nat):UInt8:=UInt8.ofNat (16*a+b)
def oneL:List UInt8->UInt8×Nat
 | []=>(0,0)
 | c::r =>
  if c≠92 then(c,1)
  else match r with
   | d::q =>
    if d=34\/d=92 then(d,2)
    else match q with
     | x::y::_=>if d=120/\Jo2 x<16/\Jo2 y<16 then(J8a (Jo2 x) (Jo2 y),4) else(0,0)
     | _=>(0,0)
   | []=>(0,0)
def Jz3:Nat->List UInt8->Option (List UInt8)
 | 0,_=>none
 | _+1,[]=>some []
 | f+1,c::r=>if(oneL (c::r)).2=0 then none else(Jz3 f ((c::r).drop (oneL (c::r)).2)).map ((oneL (c::r)).1::·)
theorem J4n(c:UInt8)(r:List UInt8):oneL (esc c++r)=(c,(esc c).length):=by
 have hc:=c.toNat_lt;unfold esc;split
 ·next hctl =>
  have e1:Jo2 (hexD (c.toNat / 16))=c.toNat / 16:=Jky _ Ka;have e2:Jo2 (hexD (c.toNat % 16))=c.toNat % 16:=Jky _ Ka;simp[oneL,e1,e2];rw[if_pos ⟨Ka,Ka⟩];unfold J8a;rw[show 16*(c.toNat / 16)+c.toNat % 16=c.toNat by omega,UInt8.ofNat_toNat]
 ·split
  ·next h2 =>
   simp at h2;simp[oneL,h2]
  ·next h2 =>
   simp at h2;simp[oneL,h2]
theorem J8b(c:UInt8):1<=(esc c).length:=by
 unfold esc;split
 ·simp
 ·split <;> simp
theorem Jkz:∀(l:List UInt8) (f:Nat),(Ja1 l).length<f->Jz3 f (Ja1 l)=some l
 | [],f+1,_=>rfl
 | c::l,f+1,h=>by
  have hn:=J8b c;have e:Ja1 (c::l)=esc c++Ja1 l:=Y1;rw[e] at h |-;rw[Pq] at h;have h1:=J4n c (Ja1 l);cases hx:esc c++Ja1 l with
  | nil=>simp at hx;rw[hx.1] at hn;simp at hn
  | cons d q =>
   rw[Jz3,<-hx,h1,if_neg Ka];simp only[];rw[List.drop_left' rfl,Jkz l f Ka];rfl
def unq(s:List UInt8):Option (List UInt8) :=
 if Jbe s then some s
 else if 2<=s.length/\s.head?=some 34/\s.getLast?=some 34 then
  (Jz3 (s.length+1) ((s.drop 1).take (s.length - 2))).bind fun t=>if Jaj t=s then some t else none
 else none
theorem Ji7(t:List UInt8):unq (Jaj t)=some t:=by
 unfold unq Jaj;by_cases h:Jbe t=true
 ·rw[if_pos h,if_pos h]
 ·rw[if_neg h]
  have hp:Jbe (34::(Ja1 t++[34]))=false:=by simp[Jbe,pln]
  rw[hp,if_neg Kd];have hl:(34::(Ja1 t++[34])).length=(Ja1 t).length+2:=Ke;rw[if_pos ⟨Ka,rfl,by rw[<-List.cons_append,List.getLast?_concat]⟩,hl];rw[show((34::(Ja1 t++[34])).drop 1).take ((Ja1 t).length+2 - 2)=Ja1 t by simp];rw[Jkz t _ Ka];simp[h]
theorem Jo3(s t:List UInt8)(h:unq s=some t):Jaj t=s:=by
 unfold unq at h;split at h
 ·next hp =>
  obtain rfl:=Pp h;unfold Jaj;rw[if_pos hp]
 ·split at h
  ·cases hr:Jz3 (s.length+1) ((s.drop 1).take (s.length - 2)) with
   | none=>rw[hr] at h;cases h
   | some u =>
    rw[hr] at h;simp at h;exact h.2 ▸ h.1
  ·cases h
theorem Jz4(s t:List UInt8):unq s=some t↔Jaj t=s:=⟨Jo3 s t,fun h=>h ▸ Ji7 t⟩
theorem Qai(c:UInt8):(esc c).all (fun b=>!ctl b)=true:=by
 have hc:=c.toNat_lt;have hx:∀n,n<16->ctl (hexD n)=false:=by
  intro n h;have:=Jij n h;unfold ctl;rw[this];split <;> simp <;> omega
 have h92:ctl 92=false:=rfl;have h120:ctl 120=false:=rfl;unfold esc;split
 ·simp[hx _ (show c.toNat / 16<16 by omega),hx _ (show c.toNat % 16<16 by omega),h92,h120]
 ·next h=>split <;> simp[h,h92]
theorem Jz5(l:List UInt8):(Jaj l).all (fun b=>!ctl b)=true:=by
 unfold Jaj;split
 ·next h =>
  unfold Jbe at h;rw[Bool.and_eq_true,Bool.and_eq_true,Bool.and_eq_true] at h;have h:=h.1.1.1;rw[List.all_eq_true] at *;intro c hc;have:=h c hc;unfold pln at this;simp at this;simp[this]
 ·rw[List.all_cons,List.all_append]
  have:(Ja1 l).all (fun b=>!ctl b)=true:=by
   unfold Ja1;rw[List.all_flatMap,List.all_eq_true];exact fun c _=>Qai c
  rw[this];simp[ctl]
def cutL(l:List UInt8):List (List UInt8)×List UInt8:=l.foldl (fun s b=>if b==10 then(s.1++[s.2],[]) else(s.1,s.2++[b])) ([],[])
def Jax(ls:List (List UInt8)):List UInt8:=ls.flatMap fun l=>l++[10]
theorem Jtz:cutL []=([],[]):=rfl
theorem Jgm(l:List UInt8):cutL (l++[10])=((cutL l).1++[(cutL l).2],[]):=by unfold cutL;rw[List.foldl_append];rfl
theorem Jo4(l:List UInt8)(b:UInt8)(h:b≠10):cutL (l++[b])=((cutL l).1,(cutL l).2++[b]):=by
 unfold cutL;rw[List.foldl_append];simp[h]
theorem Jo5:∀(n:Nat) (l:List UInt8),l.length=n->Jax (cutL l).1++(cutL l).2=l
 | 0,l,h=>by rw[List.length_eq_zero_iff.1 h];rfl
 | n+1,l,h=>by
  rcases List.eq_nil_or_concat l with rfl | ⟨q,b,rfl⟩
  ·exact Qv
  ·rw[List.concat_eq_append] at *
   have ih:=Jo5 n q Kt;by_cases hb:b=10
   ·subst hb
    rw[Jgm];conv=>rhs;rw[<-ih]
    simp[Jax]
   ·rw[Jo4 q b hb]
    conv=>rhs;rw[<-ih]
    simp
theorem Ji8:∀(l:List UInt8) (o:List (List UInt8)) (c:List UInt8),(∀b∈l,b≠10)->l.foldl (fun s b=>if b==10 then(s.1++[s.2],[]) else(s.1,s.2++[b])) (o,c)=(o,c++l)
 | [],_,_,_=>Ke
 | b::l,o,c,h=>by
  have hb:b≠10:=h b Ke;have hb':(b==10)=false:=Zh;rw[List.foldl_cons,hb'];have ih:=Ji8 l o (c++[b]) (fun x hx=>h x (by simp[hx]));rw[List.append_assoc] at ih;exact ih
def Jan:List (List UInt8)->List UInt8
 | []=>[]
 | x::l=>match l with
  | []=>Jaj x
  | _::_=>Jaj x++44::Jan l
def qend:List UInt8->Nat
 | []=>0
 | c::r=>if c=34 then 1 else if c=92 then(match r with
  | []=>1
  | _::q=>2+qend q) else 1+qend r
def endL:List UInt8->Nat
 | []=>0
 | c::r=>if c=34 then 1+qend r else((c::r).takeWhile (· != 44)).length
def Ja2:Nat->List UInt8->List (List UInt8)×Int
 | 0,_=>([],5)
 | n+1,l=>match unq (l.take (endL l)) with
  | none=>([],3)
  | some f=>match l.drop (endL l) with
   | []=>([f],0)
   | c::r=>if c=44 then(if(Ja2 n r).2=0 then(f::(Ja2 n r).1,0) else([],(Ja2 n r).2)) else([],3)
theorem Jra(r:List UInt8):qend (34::r)=1:=by rw[qend.eq_def];simp
theorem Jmf(d:UInt8)(q:List UInt8):qend (92::d::q)=2+qend q:=by rw[qend.eq_def];simp
theorem Jea(c:UInt8)(r:List UInt8)(h1:c≠34)(h2:c≠92):qend (c::r)=1+qend r:=by rw[qend.eq_def];simp[h1,h2]
theorem J4o(c:UInt8)(r:List UInt8):qend (esc c++r)=(esc c).length+qend r:=by
 have hh:∀n,n<16->hexD n≠34/\hexD n≠92:=by
  intro n h;have:=Jij n h;constructor <;> (intro e;rw[e] at this;revert this;split <;> simp <;> omega)
 have hc:=c.toNat_lt;unfold esc;split
 ·have h1:=hh (c.toNat / 16) Ka
  have h2:=hh (c.toNat % 16) Ka;show qend (92::120::hexD (c.toNat / 16)::hexD (c.toNat % 16)::r)=_
  rw[Jmf,Jea _ _ h1.1 h1.2,Jea _ _ h2.1 h2.2];exact Kb
 ·split
  ·show qend (92::c::r)=_
   rw[Jmf];simp
  ·next h2 =>
   simp at h2;show qend (c::r)=_
   rw[Jea c r h2.1 h2.2];simp
theorem Jk0:∀(l r:List UInt8),qend (Ja1 l++34::r)=(Ja1 l).length+1
 | [],r=>by
  show qend (34::r)=0+1
  rw[Jra]
 | c::l,r=>by
  have e:Ja1 (c::l)=esc c++Ja1 l:=Y1;rw[e,List.append_assoc,J4o,Jk0 l r,Pq];omega
theorem Jk1{l:List UInt8}(h:Jbe l=true):∃c r,l=c::r/\c≠34:=by
 unfold Jbe at h;rw[Bool.and_eq_true,Bool.and_eq_true,Bool.and_eq_true] at h;have ha:=h.1.1.1;rw[List.all_eq_true] at ha;cases l with
 | nil=>simp at h
 | cons c r =>
  refine⟨c,r,rfl,?_⟩;have:=ha c Ke;intro e;subst e;simp[pln] at this
theorem Jo6(x r:List UInt8)(hr:r=[]\/∃q,r=44::q):endL (Jaj x++r)=(Jaj x).length:=by
 unfold Jaj;by_cases h:Jbe x=true
 ·rw[if_pos h]
  obtain⟨c,t,rfl,hc⟩:=Jk1 h;have hall:∀a∈c::t,(a != 44)=true:=by
   unfold Jbe at h;rw[Bool.and_eq_true,Bool.and_eq_true,Bool.and_eq_true] at h;have ha:=h.1.1.1;rw[List.all_eq_true] at ha;intro a hm;have:=ha a hm;simp only[bne_iff_ne];intro e;subst e;simp[pln] at this
  show endL (c::(t++r))=_
  rw[endL.eq_def];simp only[];rw[if_neg hc,<-List.cons_append,List.takeWhile_append_of_pos hall];rcases hr with rfl | ⟨q,rfl⟩ <;> simp
 ·rw[if_neg h]
  show endL (34::(Ja1 x++[34]++r))=_
  rw[endL.eq_def];simp only[if_true];rw[List.append_assoc];show 1+qend (Ja1 x++34::r)=_
  rw[Jk0];exact Kb
theorem Jk2:∀(l:List (List UInt8)) (n:Nat),l≠[]->l.length<=n->Ja2 n (Jan l)=(l,0)
 | [],_,h,_=>absurd rfl h
 | [x],n+1,_,_=>by
  have e:=Jo6 x [] (Or.inl rfl);rw[List.append_nil] at e;have e1:Jan [x]=Jaj x:=rfl;rw[e1];unfold Ja2;rw[e,List.take_length,Ji7,List.drop_length]
 | x::y::l,n+1,_,h=>by
  have e:=Jo6 x (44::Jan (y::l)) (Or.inr ⟨_,rfl⟩);have e1:Jan (x::y::l)=Jaj x++44::Jan (y::l):=rfl;have ih:=Jk2 (y::l) n Ke (by simp at h |-;omega);rw[e1];unfold Ja2;rw[e,List.take_left' rfl,Ji7,List.drop_left' rfl];simp[ih]
theorem Jk3:∀(n:Nat) (l:List UInt8) (o:List (List UInt8)),Ja2 n l=(o,0)->Jan o=l/\o≠[]/\o.length<=n
 | 0,l,o,h=>by simp[Ja2] at h
 | n+1,l,o,h=>by
  unfold Ja2 at h;cases hu:unq (l.take (endL l)) with
  | none=>rw[hu] at h;simp at h
  | some f =>
   rw[hu] at h;have hq:=Jo3 _ _ hu;have ht:=List.take_append_drop (endL l) l;simp only[] at h;cases hd:l.drop (endL l) with
   | nil =>
    rw[hd] at h ht;simp at h;subst h;refine⟨?_,Ke,Ke⟩;rw[List.append_nil] at ht;show Jaj f=l
    rw[hq,ht]
   | cons c r =>
    rw[hd] at h ht;simp only[] at h;split at h
    ·next hc =>
     split at h
     ·next he =>
      obtain⟨i1,i2,i3⟩:=Jk3 n r (Ja2 n r).1 (by rw[<-he]);have ho:=(Prod.mk.inj h).1;subst ho;refine⟨?_,Ke,Kb⟩;have:Jan (f::(Ja2 n r).1)=Jaj f++44::Jan (Ja2 n r).1:=by
       cases hs:(Ja2 n r).1 with
       | nil=>exact absurd hs i2
       | cons _ _=>rfl
      rw[this,i1,hq,<-hc];exact ht
     ·next he=>exact absurd (Prod.mk.inj h).2 he
    ·exact Qv
theorem Jo7:∀(n:Nat) (l:List UInt8),(Ja2 n l).2=0\/((Ja2 n l).1=[]/\((Ja2 n l).2=3\/(Ja2 n l).2=5))
 | 0,l=>Or.inr ⟨rfl,Or.inr rfl⟩
 | n+1,l=>by
  unfold Ja2;split
  ·exact Or.inr ⟨rfl,Or.inl rfl⟩
  ·split
   ·exact Or.inl rfl
   ·next r _ =>
    split
    ·split
     ·exact Or.inl rfl
     ·next he =>
      rcases Jo7 n r with h | h
      ·exact absurd h he
      ·exact Or.inr ⟨rfl,h.2⟩
    ·exact Or.inr ⟨rfl,Or.inl rfl⟩
abbrev Bs:=List UInt8
structure Fm where
 num:Bs->Int×Int
 prc:Bs->Int×Int
 tim:Bs->Int×Int
 dur:Bs->Int×Int
 day:Bs->Int×Int
 mds:Bs->Int×Int
 numT:Int->Bs
 prcT:Int->Bs
 timT:Int->Bs
 durT:Int->Bs
 dayT:Int->Bs
 mdsT:Int->Bs
structure FmOk (F:Fm):Prop where
 num:∀n,-9223372036854775808<=n->n<=9223372036854775807->F.num (F.numT n)=(n,0)
 prc:∀n,0<=n->n<=1000000->F.prc (F.prcT n)=(n,0)
 tim:∀n,0<=n->n<=172800->F.tim (F.timT n)=(n,0)
 dur:∀n,0<=n->n<=86400->F.dur (F.durT n)=(n,0)
 day:∀n,0<=n->n<=36524->F.day (F.dayT n)=(n,0)
 mds:∀n,0<=n->n<=255->F.mds (F.mdsT n)=(n,0)
def wSt:Bs:=[115,116,111,112]
def wRo:Bs:=[114,111,117,116,101]
def wCa:Bs:=[99,97,108,101,110,100,97,114]
def wEx:Bs:=[101,120,99,101,112,116,105,111,110]
def wTr:Bs:=[116,114,105,112]
def wFr:Bs:=[102,114,101,113,117,101,110,99,121]
def wTh:Bs:=[116,104,114,111,117,103,104]
def wGu:Bs:=[103,117,97,114,97,110,116,101,101]
def wPa:Bs:=[112,97,116,104]
def wPr:Bs:=[112,114,111,100,117,99,116]
def wCc:Bs:=[99,97,108,108]
def wFa:Bs:=[102,97,114,101,115]
def kinds:List Bs:=[wSt,wRo,wCa,wEx,wTr,wFr,wTh,wGu,wPa,wPr,wCc,wFa]
def cnts:List Nat:=[5,4,5,4,5,5,3,4,5,7,5,4]
def wYes:Bs:=[121,101,115]
def wNo:Bs:=[110,111]
def wAdd:Bs:=[97,100,100,101,100]
def wRem:Bs:=[114,101,109,111,118,101,100]
def Jrb:Bs:=[110,111,110,101]
def Ji9:Bs:=[98,111,97,114,100]
def Jfz:Bs:=[97,108,105,103,104,116]
def Jrc:Bs:=[98,111,116,104]
def fnd(e:Int)(l:List Bs)(s:Bs):Int×Int:=match l.findIdx? (fun x=>decide (x=s)) with
 | some i=>((i:Int),0)
 | none=>(0,e)
def flg(s:Bs):Bool×Int:=(decide ((fnd 3 [wNo,wYes] s).1=1),(fnd 3 [wNo,wYes] s).2)
def wk(s:Bs):(Nat->Bool)×Int:=if s.length≠7 then(fun _=>false,3) else(fun i=>decide (s[i]?=some 49),if s.all (fun b=>b==48 || b==49) then 0 else 3)
def prm(s:Bs):Int×Int:=fnd 3 [Jrb,Ji9,Jfz,Jrc] s
def err:List Int->Int
 | []=>0
 | e::r=>if e=0 then err r else e
def flgT(b:Bool):Bs:=if b then wYes else wNo
def wkT(k:Nat->Bool):Bs:=[if k 0 then 49 else 48,if k 1 then 49 else 48,if k 2 then 49 else 48,if k 3 then 49 else 48,if k 4 then 49 else 48,if k 5 then 49 else 48,if k 6 then 49 else 48]
def prmT(b a:Bool):Bs:=if b&&a then Jrc else if b then Ji9 else if a then Jfz else Jrb
theorem Qds{e:Int}{l:List Bs}(h:l.Nodup){i:Nat}{s:Bs}(hs:l[i]?=some s):fnd e l s=((i:Int),0):=by
 have hi:=(Pm hs).1;have:l.findIdx? (fun x=>decide (x=s))=some i:=by
  rw[List.findIdx?_eq_some_iff_getElem];refine⟨hi,by simpa using (Pm hs).2,fun j hj=>?_⟩;simp only[Bool.not_eq_true,decide_eq_false_iff_not];intro e;have h2:=(Pm hs).2;exact List.pairwise_iff_getElem.1 h j i (Nat.lt_trans hj hi) hi hj (e.trans h2.symm)
 unfold fnd;rw[this]
def atI(l:List Bs)(i:Int):Bs:=l.getD i.toNat []
structure Rd where
 T:Tt
 ln:List (List Int)
 fa:Int
 cl:Bool
def T0:Tt:=⟨[],[],[],[],[],[],[],[],[],[],0,0,0⟩
def R0:Rd:=⟨T0,[[],[],[],[],[],[],[],[],[],[]],0,false⟩
def Jbi(T:Tt):List Bs:=T.st.map fun x=>x.1
def Jct(T:Tt):List Bs:=T.ro.map fun x=>x.1
def Jb5(T:Tt):List Bs:=T.ca.map fun x=>x.1
def Jbr(T:Tt):List Bs:=T.tr.map fun x=>x.1
def putC(c:Cl)(x:Tp):Tp:=(x.1,x.2.1,x.2.2.1,x.2.2.2.1,x.2.2.2.2.1,x.2.2.2.2.2++[c])
def addC(c:Cl):List Tp->List Tp
 | []=>[]
 | [x]=>[putC c x]
 | x::y::r=>x::addC c (y::r)
theorem Jo8(c:Cl)(x:Tp):∀l:List Tp,addC c (l++[x])=l++[putC c x]
 | []=>rfl
 | [y]=>rfl
 | y::z::r=>by
  show y::addC c ((z::r)++[x])=_
  rw[Jo8 c x (z::r)];rfl
def addR(F:Fm)(T:Tt)(k:Nat)(f:List Bs):Int×Tt:=match k,f with
 | 0,[_,i,z,s,c]=>(err [(F.num z).2,(flg s).2,(F.num c).2],{ T with st:=T.st++[(i,(F.num z).1,(flg s).1,(F.num c).1)] })
 | 1,[_,i,m,b]=>(err [(fnd 3 nmL m).2,(flg b).2],{ T with ro:=T.ro++[(i,(fnd 3 nmL m).1,(flg b).1)] })
 | 2,[_,i,w,a,b]=>(err [(wk w).2,(F.day a).2,(F.day b).2],{ T with ca:=T.ca++[(i,(wk w).1,(F.day a).1,(F.day b).1)] })
 | 3,[_,c,d,a]=>(err [(fnd 9 (Jb5 T) c).2,(F.day d).2,(fnd 3 [wRem,wAdd] a).2],{ T with ex:=T.ex++[((fnd 9 (Jb5 T) c).1,(F.day d).1,decide ((fnd 3 [wRem,wAdd] a).1=1))] })
 | 4,[_,i,r,c,s]=>(err [(fnd 9 (Jct T) r).2,(fnd 9 (Jb5 T) c).2,(flg s).2],{ T with tr:=T.tr++[(i,(fnd 9 (Jct T) r).1,(fnd 9 (Jb5 T) c).1,(flg s).1,.slice none 0 0,[])] })
 | 5,[_,t,a,b,e]=>(err [(fnd 9 (Jbr T) t).2,(F.tim a).2,(F.tim b).2,(F.dur e).2],{ T with fr:=T.fr++[((fnd 9 (Jbr T) t).1,(F.tim a).1,(F.tim b).1,(F.dur e).1)] })
 | 6,[_,a,b]=>(err [(fnd 9 (Jbr T) a).2,(fnd 9 (Jbr T) b).2],{ T with th:=T.th++[((fnd 9 (Jbr T) a).1,(fnd 9 (Jbr T) b).1)] })
 | 7,[_,a,b,s]=>(err [(fnd 9 (Jbr T) a).2,(fnd 9 (Jbr T) b).2,(fnd 9 (Jbi T) s).2],{ T with gu:=T.gu++[((fnd 9 (Jbr T) a).1,(fnd 9 (Jbr T) b).1,(fnd 9 (Jbi T) s).1)] })
 | 8,[_,a,b,d,s]=>(err [(fnd 9 (Jbi T) a).2,(fnd 9 (Jbi T) b).2,(F.dur d).2,(flg s).2],{ T with pa:=T.pa++[((fnd 9 (Jbi T) a).1,(fnd 9 (Jbi T) b).1,(F.dur d).1,(flg s).1)] })
 | 9,[_,i,p,r,z,s,m]=>(err [(F.prc p).2,(F.num r).2,(F.num z).2,(F.dur s).2,(F.mds m).2],{ T with pr:=T.pr++[(i,(F.prc p).1,(F.num r).1,(F.num z).1,(F.dur s).1,(F.mds m).1)] })
 | 10,[_,s,a,d,p]=>(err [(fnd 9 (Jbi T) s).2,(F.tim a).2,(F.tim d).2,(prm p).2],{ T with tr:=addC ((fnd 9 (Jbi T) s).1,(F.tim a).1,(F.tim d).1,decide ((prm p).1=1\/(prm p).1=3),decide (2<=(prm p).1)) T.tr })
 | 11,[_,d,w,c]=>(err [(F.prc d).2,(F.dur w).2,(F.prc c).2],{ T with di:=(F.prc d).1,wi:=(F.dur w).1,cp:=(F.prc c).1 })
 | _,_=>(0,T)
def kind(s:Bs):Nat:=kinds.findIdx (fun x=>decide (x=s))
def rcd(F:Fm)(r:Rd)(f:List Bs)(n:Int):Int×Rd :=
 let k:=kind (f.headD [])
 if k=12 then(41,r) else if f.length≠cnts.getD k 0 then(1,r) else if k=10/\r.cl=false then(8,r) else if k=11/\0<r.fa then(6,r)
 else((addR F r.T k f).1,⟨(addR F r.T k f).2,if k<10 then r.ln.modify k (·++[n]) else r.ln,if k=11 then n else r.fa,decide (k=4\/k=10)⟩)
def splR(l:Bs):List Bs×Int:=if 65536<l.length then([],5) else if l=[] then([],0) else Ja2 64 l
def ign(x:Bs):Bool:=x.isEmpty || x.head?==some 35
def oneR(F:Fm)(r:Rd)(x:Bs)(n:Int):Int×Rd:=if ign x then(0,r) else if(splR x).2≠0 then((splR x).2,r) else rcd F r (splR x).1 n
def goR(F:Fm):List Bs->Int->Rd->Int×Int×Rd
 | [],_,r=>(0,0,r)
 | x::l,n,r=>if(oneR F r x n).1≠0 then(n,(oneR F r x n).1,(oneR F r x n).2) else goR F l (n+1) (oneR F r x n).2
def whr(r:Rd)(p i:Int):Int:=if i<0\/((r.ln.getD p.toNat []).length:Int)<=i then r.fa else(r.ln.getD p.toNat []).getD i.toNat 0
def linR(l:Bs):List Bs×Int:=if 65536<l.length then([],5) else if l=[] then([],0) else if l[l.length - 1]?=some 10 then((cutL l).1,0) else([],4)
def Jfb(F:Fm)(s:Bs):Tt×Int×Int :=
 if(linR s).2≠0 then(T0,0,(linR s).2)
 else if(goR F (linR s).1 1 R0).2.1≠0 then(T0,(goR F (linR s).1 1 R0).1,(goR F (linR s).1 1 R0).2.1)
 else if(ttC (goR F (linR s).1 1 R0).2.2.T).2.2≠0 then(T0,whr (goR F (linR s).1 1 R0).2.2 (ttC (goR F (linR s).1 1 R0).2.2.T).1 (ttC (goR F (linR s).1 1 R0).2.2.T).2.1,(ttC (goR F (linR s).1 1 R0).2.2.T).2.2)
 else((goR F (linR s).1 1 R0).2.2.T,0,0)
def rSt(F:Fm)(x:S13.St):List Bs:=[wSt,x.1,F.numT x.2.1,flgT x.2.2.1,F.numT x.2.2.2]
def rRo(x:Rt):List Bs:=[wRo,x.1,atI nmL x.2.1,flgT x.2.2]
def rCa(F:Fm)(x:S14.Cl):List Bs:=[wCa,x.1,wkT x.2.1,F.dayT x.2.2.1,F.dayT x.2.2.2]
def rEx(F:Fm)(T:Tt)(x:S14.Ex):List Bs:=[wEx,atI (Jb5 T) x.1,F.dayT x.2.1,if x.2.2 then wAdd else wRem]
def rTr(T:Tt)(x:Tp):List Bs:=[wTr,x.1,atI (Jct T) x.2.1,atI (Jb5 T) x.2.2.1,flgT x.2.2.2.1]
def rCc(F:Fm)(T:Tt)(c:Cl):List Bs:=[wCc,atI (Jbi T) c.1,F.timT c.2.1,F.timT c.2.2.1,prmT c.2.2.2.1 c.2.2.2.2]
def bTr(F:Fm)(T:Tt)(x:Tp):List (List Bs):=rTr T x::(clT x).map (rCc F T)
def rFr(F:Fm)(T:Tt)(x:Fq):List Bs:=[wFr,atI (Jbr T) x.1,F.timT x.2.1,F.timT x.2.2.1,F.durT x.2.2.2]
def rTh(T:Tt)(x:S19.Th):List Bs:=[wTh,atI (Jbr T) x.1,atI (Jbr T) x.2]
def rGu(T:Tt)(x:S19.Gt):List Bs:=[wGu,atI (Jbr T) x.1,atI (Jbr T) x.2.1,atI (Jbi T) x.2.2]
def rPa(F:Fm)(T:Tt)(x:S20.Fp):List Bs:=[wPa,atI (Jbi T) x.1,atI (Jbi T) x.2.1,F.durT x.2.2.1,flgT x.2.2.2]
def rFa(F:Fm)(T:Tt):List (List Bs):=if T.di≠0\/T.wi≠0\/T.cp≠0 then[[wFa,F.prcT T.di,F.durT T.wi,F.prcT T.cp]] else[]
def rPr(F:Fm)(x:S21.Pd):List Bs:=[wPr,x.1,F.prcT x.2.1,F.numT x.2.2.1,F.numT x.2.2.2.1,F.durT x.2.2.2.2.1,F.mdsT x.2.2.2.2.2]
def rows(F:Fm)(T:Tt):List (List Bs) :=
 T.st.map (rSt F)++(T.ro.map rRo++(T.ca.map (rCa F)++(T.ex.map (rEx F T)++(T.tr.flatMap (bTr F T)++(T.fr.map (rFr F T)++(T.th.map (rTh T)++(T.gu.map (rGu T)++(T.pa.map (rPa F T)++(rFa F T++T.pr.map (rPr F))))))))))
def Jf0(F:Fm)(T:Tt):Bs:=Jax ((rows F T).map Jan)
def feedF(F:Fm)(T:Tt):Bs×Int:=if(ttC T).2.2≠0 then([],(ttC T).2.2) else if 65536<(Jf0 F T).length then([],5) else(Jf0 F T,0)
structure Val (T:Tt):Prop where
 st:∀x∈T.st,(-9223372036854775808<=x.2.1/\x.2.1<=9223372036854775807)/\-9223372036854775808<=x.2.2.2/\x.2.2.2<=9223372036854775807
 ist:(Jbi T).Nodup
 ro:∀x∈T.ro,0<=x.2.1/\x.2.1<8
 iro:(Jct T).Nodup
 ca:∀x∈T.ca,(0<=x.2.2.1/\x.2.2.1<=36524)/\0<=x.2.2.2/\x.2.2.2<=36524
 ica:(Jb5 T).Nodup
 ex:∀x∈T.ex,(0<=x.1/\x.1<T.ca.length)/\0<=x.2.1/\x.2.1<=36524
 tr:∀x∈T.tr,(0<=x.2.1/\x.2.1<T.ro.length)/\0<=x.2.2.1/\x.2.2.1<T.ca.length
 itr:(Jbr T).Nodup
 cc:∀x∈T.tr,∀c∈clT x,(0<=c.1/\c.1<T.st.length)/\(0<=c.2.1/\c.2.1<=172800)/\0<=c.2.2.1/\c.2.2.1<=172800
 fr:∀x∈T.fr,(0<=x.1/\x.1<T.tr.length)/\(0<=x.2.1/\x.2.1<=172800)/\(0<=x.2.2.1/\x.2.2.1<=172800)/\0<=x.2.2.2/\x.2.2.2<=86400
 th:∀x∈T.th,(0<=x.1/\x.1<T.tr.length)/\0<=x.2/\x.2<T.tr.length
 gu:∀x∈T.gu,(0<=x.1/\x.1<T.tr.length)/\(0<=x.2.1/\x.2.1<T.tr.length)/\0<=x.2.2/\x.2.2<T.st.length
 pa:∀x∈T.pa,(0<=x.1/\x.1<T.st.length)/\(0<=x.2.1/\x.2.1<T.st.length)/\0<=x.2.2.1/\x.2.2.1<=86400
 pr:∀x∈T.pr,(0<=x.2.1/\x.2.1<=1000000)/\(-9223372036854775808<=x.2.2.1/\x.2.2.1<=9223372036854775807)/\(-9223372036854775808<=x.2.2.2.1/\x.2.2.2.1<=9223372036854775807)/\(0<=x.2.2.2.2.1/\x.2.2.2.2.1<=86400)/\0<=x.2.2.2.2.2/\x.2.2.2.2.2<=255
 fa:(0<=T.di/\T.di<=1000000)/\(0<=T.wi/\T.wi<=86400)/\0<=T.cp/\T.cp<=1000000
theorem Jrd:∀k∈kinds,Jaj k=k/\∃c q,k=c::q/\c≠35:=by
 intro k h;simp only[kinds,List.mem_cons,List.not_mem_nil,or_false] at h;rcases h with rfl | rfl | rfl | rfl | rfl | rfl | rfl | rfl | rfl | rfl | rfl | rfl
 all_goals exact⟨Kd,_,_,rfl,Kd⟩
theorem Jz6(x:Bs)(l:List Bs):∃t,Jan (x::l)=Jaj x++t:=by
 cases l with
 | nil=>exact⟨[],by rw[List.append_nil];rfl⟩
 | cons y l=>exact⟨_,rfl⟩
theorem Qaj{fs:List Bs}{k:Bs}{rest:List Bs}(hf:fs=k::rest)(hk:k∈kinds)(hl:fs.length<=64)(h65:(Jan fs).length<=65536):ign (Jan fs)=false/\splR (Jan fs)=(fs,0):=by
 obtain⟨hq,c,q,hc,h35⟩:=Jrd k hk;obtain⟨t,ht⟩:=Jz6 k rest;have e:Jan fs=c::(q++t):=by rw[hf,ht,hq,hc];rfl
 constructor
 ·unfold ign
  rw[e];simpa using h35
 ·unfold splR
  rw[if_neg Ka,if_neg (by rw[e];simp),Jk2 fs 64 (by rw[hf];simp) hl]
theorem Qdt(F:Fm)(r:Rd)(fs:List Bs)(n:Int)(k:Nat)(hk:kind (fs.headD [])=k)(h12:k≠12)(hl:fs.length=cnts.getD k 0)(h10:k=10->r.cl=true)(h11:k=11->r.fa=0):
  rcd F r fs n=((addR F r.T k fs).1,⟨(addR F r.T k fs).2,if k<10 then r.ln.modify k (·++[n]) else r.ln,if k=11 then n else r.fa,decide (k=4\/k=10)⟩):=by
 unfold rcd;simp only[hk];rw[if_neg h12,if_neg (fun h=>h hl),if_neg (fun h=>by rw[h10 h.1] at h;exact absurd h.2 Ke),if_neg (fun h=>by rw[h11 h.1] at h;exact absurd h.2 Kd)]
theorem step{F:Fm}{r:Rd}{fs:List Bs}(n:Int)(k:Nat){w:Bs}{rest:List Bs}(hf:fs=w::rest)(hw:w∈kinds)(hk:kind w=k)(h12:k≠12)(hl:fs.length=cnts.getD k 0)(h64:cnts.getD k 0<=64)(h65:(Jan fs).length<=65536)(h10:k=10->r.cl=true)(h11:k=11->r.fa=0){T':Tt}(ha:addR F r.T k fs=(0,T')):
  ∃r',oneR F r (Jan fs) n=(0,r')/\r'.T=T'/\r'.fa=(if k=11 then n else r.fa)/\r'.cl=decide (k=4\/k=10):=by
 obtain⟨h1,h2⟩:=Qaj hf hw Ka h65;refine⟨⟨T',if k<10 then r.ln.modify k (·++[n]) else r.ln,if k=11 then n else r.fa,decide (k=4\/k=10)⟩,?_,rfl,rfl,rfl⟩;unfold oneR;rw[h1,h2,if_neg Ke,if_neg Ke,Qdt F r fs n k (by rw[hf];exact hk) h12 hl h10 h11,ha]
def Goes(F:Fm)(r:Rd)(A:List Bs)(n:Int)(r':Rd):Prop:=goR F A n r=(0,0,r')
theorem Goes.nil(F:Fm)(r:Rd)(n:Int):Goes F r [] n r:=rfl
theorem Goes.cons{F:Fm}{r r1 r2:Rd}{x:Bs}{A:List Bs}{n:Int}(h:oneR F r x n=(0,r1))(h2:Goes F r1 A (n+1) r2):Goes F r (x::A) n r2:=by
 unfold Goes goR;rw[h,if_neg Ke];exact h2
theorem Goes.one{F:Fm}{r r1:Rd}{x:Bs}{n:Int}(h:oneR F r x n=(0,r1)):Goes F r [x] n r1:=Goes.cons h (Goes.nil _ _ _)
theorem Goes.app{F:Fm}{r2:Rd}{B:List Bs}:∀{A:List Bs} {r r1:Rd} {n:Int},Goes F r A n r1->Goes F r1 B (n+A.length) r2->Goes F r (A++B) n r2
 | [],r,r1,n,h,h2=>by
  unfold Goes goR at h;have e:r=r1:=Kt;rw[e];simpa using h2
 | x::A,r,r1,n,h,h2=>by
  unfold Goes goR at h;by_cases hx:(oneR F r x n).1=0
  ·rw[if_neg (fun k=>k hx)] at h
   refine Goes.cons (r1:=(oneR F r x n).2) (by rw[<-hx]) (Goes.app h ?_);rw[show n+1+(A.length:Int)=n+((x::A).length:Int) by simp;omega];exact h2
  ·rw[if_pos hx] at h
   simp only[Prod.mk.injEq] at h;exact absurd h.2.1 hx
section
variable {F:Fm} (ok:FmOk F) {T:Tt} (v:Val T) (hlen:∀f∈rows F T,(Jan f).length<=65536)
def At(U:Tt)(r:Rd):Prop:=r.T=U/\r.fa=0
include ok v hlen
omit ok in
omit ok in
omit ok in
end
section
variable {α:Type} {e:α->α->Bool} {l m:List α}
def eqB(e:α->α->Bool)(l m:List α):Bool:=decide (l.length=m.length)&&(List.range l.length).all fun i=>match l[i]?,m[i]? with
 | some x,some y=>e x y
 | _,_=>false
theorem J8c(hl:l.length=m.length)(h:∀(j:Nat) x y,j<l.length->l[j]?=some x->m[j]?=some y->e x y=true):eqB e l m=true:=by
 unfold eqB;rw[Pk hl,Bool.true_and,List.all_eq_true];intro j hj;have hj:=List.mem_range.1 hj;obtain⟨x,hx⟩:=Jah hj;obtain⟨y,hy⟩:=Jah (show j<m.length by omega);rw[hx,hy];exact h j x y hj hx hy
theorem Jde(h:∀x,e x x=true):eqB e l l=true:=J8c rfl fun j x y _ hx hy=>by
 rw[hx] at hy;cases hy;exact h x
end
def eSt(x y:S13.St):Bool:=decide (x=y)
def eRo(x y:Rt):Bool:=decide (x=y)
def eCa(x y:S14.Cl):Bool:=decide (x.1=y.1/\(x.2.1 0=y.2.1 0/\x.2.1 1=y.2.1 1/\x.2.1 2=y.2.1 2/\x.2.1 3=y.2.1 3/\x.2.1 4=y.2.1 4/\x.2.1 5=y.2.1 5/\x.2.1 6=y.2.1 6)/\x.2.2.1=y.2.2.1/\x.2.2.2=y.2.2.2)
def eEx(x y:S14.Ex):Bool:=decide (x=y)
def eCc(x y:Cl):Bool:=decide (x=y)
def eTr(x y:Tp):Bool:=decide (x.1=y.1/\x.2.1=y.2.1/\x.2.2.1=y.2.2.1/\x.2.2.2.1=y.2.2.2.1)&&eqB eCc (clT x) (clT y)
def eFr(x y:Fq):Bool:=decide (x=y)
def eTh(x y:S19.Th):Bool:=decide (x=y)
def eGu(x y:S19.Gt):Bool:=decide (x=y)
def ePa(x y:S20.Fp):Bool:=decide (x=y)
def ePr(x y:S21.Pd):Bool:=decide (x=y)
def hdT(T U:Tt):Bool:=eqB eSt T.st U.st&&(eqB eRo T.ro U.ro&&(eqB eCa T.ca U.ca&&eqB eEx T.ex U.ex))
def tlT(T U:Tt):Bool:=eqB eFr T.fr U.fr&&(eqB eTh T.th U.th&&(eqB eGu T.gu U.gu&&(eqB ePa T.pa U.pa&&eqB ePr T.pr U.pr)))
def eqT(T U:Tt):Bool:=hdT T U&&(eqB eTr T.tr U.tr&&(tlT T U&&decide (T.di=U.di/\T.wi=U.wi/\T.cp=U.cp)))
theorem eSt_r(x:S13.St):eSt x x=true:=Pk rfl
theorem eRo_r(x:Rt):eRo x x=true:=Pk rfl
theorem eCa_r(x:S14.Cl):eCa x x=true:=Pk ⟨rfl,⟨rfl,rfl,rfl,rfl,rfl,rfl,rfl⟩,rfl,rfl⟩
theorem eEx_r(x:S14.Ex):eEx x x=true:=Pk rfl
theorem Qdu(x:Cl):eCc x x=true:=Pk rfl
theorem eTr_r(x:Tp):eTr x x=true:=by unfold eTr;rw[Pk ⟨rfl,rfl,rfl,rfl⟩,Jde Qdu];rfl
theorem eFr_r(x:Fq):eFr x x=true:=Pk rfl
theorem eTh_r(x:S19.Th):eTh x x=true:=Pk rfl
theorem eGu_r(x:S19.Gt):eGu x x=true:=Pk rfl
theorem ePa_r(x:S20.Fp):ePa x x=true:=Pk rfl
theorem ePr_r(x:S21.Pd):ePr x x=true:=Pk rfl
theorem J4p(T:Tt):eqT T T=true:=by
 unfold eqT hdT tlT;rw[Jde eSt_r,Jde eRo_r,Jde eCa_r,Jde eEx_r,Jde eTr_r,Jde eFr_r,Jde eTh_r,Jde eGu_r,Jde ePa_r,Jde ePr_r,Pk ⟨rfl,rfl,rfl⟩];rfl
variable {κ:Type} {U:Tt}
theorem Jz7{α:Type}{bad:List κ->α->Int}{key:α->κ}{l:List α}(h:(fbF bad key [] 0 l).2=0){j:Nat}{x:α}(hx:l[j]?=some x):bad ((l.take j).map key) x=0:=by
 have:=Jyt l [] 0 h j x hx;rwa [List.nil_append] at this
theorem Jdq{α:Type}{bad:List κ->α->Int}{key:α->κ}{l:List α}(h:(fbF bad key [] 0 l).2=0){x:α}(hx:x∈l):∃seen,bad seen x=0:=by
 obtain⟨j,hj⟩:=List.mem_iff_getElem?.1 hx;exact⟨_,Jz7 h hj⟩
theorem Jik{α:Type}{bad:List κ->α->Int}{key:α->κ}{l:List α}(h:(fbF bad key [] 0 l).2=0)(hb:∀seen x,bad seen x=0->key x ∉ seen):(l.map key).Nodup:=by
 refine List.pairwise_iff_getElem.2 fun i j hi hj hij e=>?_
 simp only[Pr] at hi hj;have h1:=hb _ _ (Jz7 h (List.getElem?_eq_getElem hj));simp only[List.getElem_map] at e;apply h1;rw[<-e];exact List.mem_map.2 ⟨l[i],List.mem_take_iff_getElem.2 ⟨i,Ka,rfl⟩,rfl⟩
theorem Jmg:∀(l:List S13.St) (seen:List Bs) (k:Nat),S13.chkF seen k l=fbF S13.badS (fun x=>x.1) seen k l
 | [],_,_=>rfl
 | x::l,seen,k=>by
  unfold S13.chkF fbF;rw[Jmg l]
theorem J8d{st lo hi:Int}{c:Cl}:∀(l:List Cl) (p:Option Cl) (k:Nat),(ckF st lo hi p k l).2=0->c∈l->∃q,badC st lo hi q c=0
 | [],_,_,_,h=>Qi
 | x::l,p,k,hz,h=>by
  unfold ckF at hz;by_cases hb:badC st lo hi p x=0
  ·rw[if_pos hb] at hz
   rcases List.mem_cons.1 h with rfl | hm
   ·exact⟨p,hb⟩
   ·exact J8d l _ _ hz hm
  ·rw[if_neg hb] at hz
   exact absurd hz hb
theorem J4q{st lo hi:Int}{p:Option Cl}{x:Cl}(h:badC st lo hi p x=0):(0<=x.1/\x.1<st)/\lo<=x.2.1/\x.2.1<=x.2.2.1/\x.2.2.1<=hi:=by
 unfold badC at h;split at h
 ·omega
 split at h
 ·omega
 split at h
 ·omega
 ·omega
theorem Jz8{T:Tt}(h:(ttC T).2.2=0):Val T:=by
 have hp:=(Jz1 T).1 h;have h0:(S13.chkT T.st).2=0:=hp 0 Ka;have h1:(chkR T.ro).2=0:=hp 1 Ka;have h2:(S14.chkC T.ca).2=0:=hp 2 Ka;have h3:(S14.chkX T.ca.length T.ex).2=0:=hp 3 Ka;have h4:(S17.chkT T.st.length T.ro.length T.ca.length T.tr).2=0:=hp 4 Ka;have h5:(chkF (T.tr.map clT) T.fr).2=0:=hp 5 Ka;have h6:(S19.chkH (T.tr.map S19.tcT) T.fr T.th).2=0:=hp 6 Ka;have h7:(S19.chkU (T.tr.map S19.tcT) T.fr T.st.length T.gu).2=0:=hp 7 Ka;have h8:(S20.chkP T.st.length T.pa).2=0:=hp 8 Ka;have h9:(S21.chkPd T.di T.wi T.cp T.pr).2=0:=hp 9 Ka;unfold S13.chkT at h0;unfold chkR at h1;unfold S14.chkC at h2;unfold S14.chkX at h3;unfold S17.chkT at h4;unfold S19.chkH at h6;unfold S19.chkU at h7;unfold S20.chkP S20.vldP at h8;unfold S21.chkPd at h9;split at h0
 ·simp at h0
 split at h1
 ·simp at h1
 split at h2
 ·simp at h2
 split at h3
 ·simp at h3
 split at h4
 ·simp at h4
 split at h6
 ·simp at h6
 split at h7
 ·simp at h7
 split at h8
 ·simp at h8
 split at h9
 ·simp at h9
 split at h9
 ·simp at h9
 rw[Jmg] at h0;next hfa _ =>
 have hfa:=Pu hfa;refine⟨fun x hx=>?_,?_,fun x hx=>?_,?_,fun x hx=>?_,?_,fun x hx=>?_,fun x hx=>?_,?_,fun x hx c hc=>?_,fun x hx=>?_,fun x hx=>?_,fun x hx=>?_,fun x hx=>?_,fun x hx=>?_,?_⟩
 ·obtain⟨s,hb⟩:=Jdq h0 hx
  unfold S13.badS at hb;split at hb
  ·exact Y0
  split at hb
  ·exact Y0
  split at hb
  ·exact Y0
  ·next hf=>unfold S13.farS at hf;omega
 ·refine Jik h0 fun s x hb=>?_
  unfold S13.badS at hb;split at hb
  ·exact Y0
  split at hb
  ·exact Y0
  ·next hf=>exact hf
 ·obtain⟨s,hb⟩:=Jdq h1 hx
  unfold badR at hb;split at hb
  ·exact Y0
  split at hb
  ·exact Y0
  split at hb
  ·next hf=>exact hf
  ·exact Y0
 ·refine Jik (key:=idR) h1 fun s x hb=>?_
  unfold badR at hb;split at hb
  ·exact Y0
  split at hb
  ·exact Y0
  ·next hf=>exact hf
 ·obtain⟨s,hb⟩:=Jdq h2 hx
  unfold S14.badC at hb;split at hb
  ·exact Y0
  split at hb
  ·exact Y0
  split at hb
  ·next hf=>exact⟨hf.1,hf.2.1⟩
  ·exact Y0
 ·refine Jik (key:=S14.idC) h2 fun s x hb=>?_
  unfold S14.badC at hb;split at hb
  ·exact Y0
  split at hb
  ·exact Y0
  ·next hf=>exact hf
 ·obtain⟨s,hb⟩:=Jdq h3 hx
  unfold S14.badX at hb;split at hb
  ·exact Y0
  next hr =>
  split at hb
  ·exact Y0
  next hd =>
  exact⟨Ka,Pu hd⟩
 ·obtain⟨s,hb⟩:=Jdq h4 hx
  unfold S17.badT at hb;split at hb
  ·exact Y0
  split at hb
  ·exact Y0
  split at hb
  ·next hr=>exact hr
  ·exact Y0
 ·refine Jik (key:=S17.idT) h4 fun s x hb=>?_
  unfold S17.badT at hb;split at hb
  ·exact Y0
  split at hb
  ·exact Y0
  ·next hf=>exact hf
 ·obtain⟨s,hb⟩:=Jdq h4 hx
  unfold S17.badT at hb;split at hb
  ·exact Y0
  split at hb
  ·exact Y0
  split at hb
  ·unfold chkC at hb
   split at hb
   ·exact Y0
   ·obtain⟨q,hq⟩:=J8d _ _ _ hb hc
    obtain⟨c0,c1,c2,c3⟩:=J4q hq;exact⟨c0,⟨c1,Ka⟩,Ka,c3⟩
  ·exact Y0
 ·obtain⟨j,hj⟩:=List.mem_iff_getElem?.1 hx
  obtain⟨g0,g1,-⟩:=Jys (J3z h5 j x hj);obtain⟨t,a,b,e⟩:=x;rw[Pr] at g0;obtain⟨s0,s1,s2,s3,s4⟩:=Jc7.1 g1;exact⟨g0,⟨s0,Int.le_trans (Int.le_of_lt s1) s2⟩,⟨Int.le_trans s0 (Int.le_of_lt s1),s2⟩,Int.le_trans Kd s3,s4⟩
 ·obtain⟨s,hb⟩:=Jdq h6 hx
  unfold S19.thE at hb;split at hb
  ·next hf=>exact absurd hb hf
  next hf =>
  have hf:=Pu hf;unfold S19.prE at hf;rw[Pr] at hf;split at hf
  ·simp at hf
  ·omega
 ·obtain⟨s,hb⟩:=Jdq h7 hx
  unfold S19.guE at hb;split at hb
  ·exact Y0
  next hs =>
  split at hb
  ·next hf=>exact absurd hb hf
  next hf =>
  have hf:=Pu hf;unfold S19.prE at hf;rw[Pr] at hf;split at hf
  ·simp at hf
  ·omega
 ·obtain⟨s,hb⟩:=Jdq h8 hx
  unfold S20.badP at hb;split at hb
  ·exact Y0
  split at hb
  ·exact Y0
  ·omega
 ·obtain⟨s,hb⟩:=Jdq h9 hx
  unfold S21.badPd at hb;split at hb
  ·exact Y0
  split at hb
  ·exact Y0
  split at hb
  ·next hf=>obtain⟨k0,k1,k2,k3,k4⟩:=hf;exact⟨k0,Ka,Ka,k3,Ka,Ka⟩
  ·exact Y0
 ·exact hfa
theorem Jo9:∀(l:List Bs) (b:UInt8),b∈Jan l->b≠10
 | [],b,h=>Qi
 | x::l,b,h=>by
  have hq:∀b∈Jaj x,b≠10:=fun b hb e=>by
   have:=List.all_eq_true.1 (Jz5 x) b hb;subst e;simp[ctl] at this
  cases l with
  | nil=>exact hq b h
  | cons y l =>
   have e:Jan (x::y::l)=Jaj x++44::Jan (y::l):=rfl;rw[e,List.mem_append,List.mem_cons] at h;rcases h with h | h | h
   ·exact hq b h
   ·subst h;decide
   ·exact Jo9 (y::l) b h
theorem Jpa{ls:List Bs}{x:Bs}(h:x∈ls):x.length<=(Jax ls).length:=by
 induction ls with
 | nil=>cases h
 | cons y l ih =>
  have e:Jax (y::l)=y++[10]++Jax l:=rfl;rw[e,Pq,Pq];rcases List.mem_cons.1 h with rfl | h
  ·omega
  ·have:=ih h;omega
def lenP(T:Tt):Nat->Nat
 | 0=>T.st.length
 | 1=>T.ro.length
 | 2=>T.ca.length
 | 3=>T.ex.length
 | 4=>T.tr.length
 | 5=>T.fr.length
 | 6=>T.th.length
 | 7=>T.gu.length
 | 8=>T.pa.length
 | 9=>T.pr.length
 | _=>0
theorem Jt0(c:Cl):∀l:List Tp,(addC c l).length=l.length
 | []=>rfl
 | [_]=>rfl
 | x::y::r=>by show(addC c (y::r)).length+1=_;rw[Jt0 c (y::r)];rfl
theorem Qak{α:Type}{l:List α}(h:l.length=3):∃a b c,l=[a,b,c]:=by
 match l,h with
 | [a,b,c],_=>exact⟨a,b,c,rfl⟩
theorem four{α:Type}{l:List α}(h:l.length=4):∃a b c d,l=[a,b,c,d]:=by
 match l,h with
 | [a,b,c,d],_=>exact⟨a,b,c,d,rfl⟩
theorem five{α:Type}{l:List α}(h:l.length=5):∃a b c d e,l=[a,b,c,d,e]:=by
 match l,h with
 | [a,b,c,d,e],_=>exact⟨a,b,c,d,e,rfl⟩
theorem Qal{α:Type}{l:List α}(h:l.length=7):∃a b c d e f g,l=[a,b,c,d,e,f,g]:=by
 match l,h with
 | [a,b,c,d,e,f,g],_=>exact⟨a,b,c,d,e,f,g,rfl⟩
theorem Jre(F:Fm)(T:Tt)(k:Nat)(hk:k<12)(f:List Bs)(hf:f.length=cnts.getD k 0):(∀p,p<10->lenP (addR F T k f).2 p=lenP T p+(if p=k then 1 else 0))/\(k≠11->(addR F T k f).2.di=T.di/\(addR F T k f).2.wi=T.wi/\(addR F T k f).2.cp=T.cp):=by
 have P:∀{U:Tt} (k:Nat),lenP U 0=lenP T 0+(if 0=k then 1 else 0)->lenP U 1=lenP T 1+(if 1=k then 1 else 0)->lenP U 2=lenP T 2+(if 2=k then 1 else 0)->lenP U 3=lenP T 3+(if 3=k then 1 else 0)->lenP U 4=lenP T 4+(if 4=k then 1 else 0)->lenP U 5=lenP T 5+(if 5=k then 1 else 0)->lenP U 6=lenP T 6+(if 6=k then 1 else 0)->lenP U 7=lenP T 7+(if 7=k then 1 else 0)->lenP U 8=lenP T 8+(if 8=k then 1 else 0)->lenP U 9=lenP T 9+(if 9=k then 1 else 0)->∀p,p<10->lenP U p=lenP T p+(if p=k then 1 else 0):=by
  intro U k h0 h1 h2 h3 h4 h5 h6 h7 h8 h9 p hp;match p,hp with
  | 0,_=>exact h0
  | 1,_=>exact h1
  | 2,_=>exact h2
  | 3,_=>exact h3
  | 4,_=>exact h4
  | 5,_=>exact h5
  | 6,_=>exact h6
  | 7,_=>exact h7
  | 8,_=>exact h8
  | 9,_=>exact h9
  | n+10,h=>omega
 match k,hk with
 | 0,_=>obtain⟨a,b,c,d,e,rfl⟩:=five hf;exact⟨P 0 (List.length_append) rfl rfl rfl rfl rfl rfl rfl rfl rfl,fun _=>⟨rfl,rfl,rfl⟩⟩
 | 1,_=>obtain⟨a,b,c,d,rfl⟩:=four hf;exact⟨P 1 rfl (List.length_append) rfl rfl rfl rfl rfl rfl rfl rfl,fun _=>⟨rfl,rfl,rfl⟩⟩
 | 2,_=>obtain⟨a,b,c,d,e,rfl⟩:=five hf;exact⟨P 2 rfl rfl (List.length_append) rfl rfl rfl rfl rfl rfl rfl,fun _=>⟨rfl,rfl,rfl⟩⟩
 | 3,_=>obtain⟨a,b,c,d,rfl⟩:=four hf;exact⟨P 3 rfl rfl rfl (List.length_append) rfl rfl rfl rfl rfl rfl,fun _=>⟨rfl,rfl,rfl⟩⟩
 | 4,_=>obtain⟨a,b,c,d,e,rfl⟩:=five hf;exact⟨P 4 rfl rfl rfl rfl (List.length_append) rfl rfl rfl rfl rfl,fun _=>⟨rfl,rfl,rfl⟩⟩
 | 5,_=>obtain⟨a,b,c,d,e,rfl⟩:=five hf;exact⟨P 5 rfl rfl rfl rfl rfl (List.length_append) rfl rfl rfl rfl,fun _=>⟨rfl,rfl,rfl⟩⟩
 | 6,_=>obtain⟨a,b,c,rfl⟩:=Qak hf;exact⟨P 6 rfl rfl rfl rfl rfl rfl (List.length_append) rfl rfl rfl,fun _=>⟨rfl,rfl,rfl⟩⟩
 | 7,_=>obtain⟨a,b,c,d,rfl⟩:=four hf;exact⟨P 7 rfl rfl rfl rfl rfl rfl rfl (List.length_append) rfl rfl,fun _=>⟨rfl,rfl,rfl⟩⟩
 | 8,_=>obtain⟨a,b,c,d,e,rfl⟩:=five hf;exact⟨P 8 rfl rfl rfl rfl rfl rfl rfl rfl (List.length_append) rfl,fun _=>⟨rfl,rfl,rfl⟩⟩
 | 9,_=>obtain⟨a,b,c,d,e,f,g,rfl⟩:=Qal hf;exact⟨P 9 rfl rfl rfl rfl rfl rfl rfl rfl rfl (List.length_append),fun _=>⟨rfl,rfl,rfl⟩⟩
 | 10,_=>obtain⟨a,b,c,d,e,rfl⟩:=five hf;exact⟨P 10 rfl rfl rfl rfl (Jt0 _ _) rfl rfl rfl rfl rfl,fun _=>⟨rfl,rfl,rfl⟩⟩
 | 11,_=>obtain⟨a,b,c,d,rfl⟩:=four hf;exact⟨P 11 rfl rfl rfl rfl rfl rfl rfl rfl rfl rfl,fun h=>absurd rfl h⟩
 | n+12,h=>omega
def Okl(ls:List Bs)(j:Int):Prop:=1<=j/\∃x,ls[(j - 1).toNat]?=some x/\ign x=false
structure Inv (ls:List Bs) (r:Rd) (n:Int):Prop where
 ln:∀p,p<10->∀j∈r.ln.getD p [],Okl ls j/\j<n
 fa:r.fa=0\/(Okl ls r.fa/\r.fa<n)
 no:r.fa=0->r.T.di=0/\r.T.wi=0/\r.T.cp=0
 ten:r.ln.length=10
 len:∀p,p<10->(r.ln.getD p []).length=lenP r.T p
theorem Inv.start(ls:List Bs):Inv ls R0 1:=by
 refine⟨fun p hp j hj=>?_,.inl rfl,fun _=>⟨rfl,rfl,rfl⟩,rfl,fun p hp=>?_⟩
 ·match p,hp with
  | 0,_ | 1,_ | 2,_ | 3,_ | 4,_ | 5,_ | 6,_ | 7,_ | 8,_ | 9,_=>cases hj
  | n+10,h=>omega
 ·match p,hp with
  | 0,_ | 1,_ | 2,_ | 3,_ | 4,_ | 5,_ | 6,_ | 7,_ | 8,_ | 9,_=>rfl
  | n+10,h=>omega
theorem Jhj(s:Bs):kind s<=12:=List.findIdx_le_length
theorem Jt1(l:List (List Int))(k p:Nat)(n:Int)(hk:k<l.length):(l.modify k (·++[n])).getD p []=if p=k then l.getD p []++[n] else l.getD p []:=by
 rw[List.getD_eq_getElem?_getD,List.getElem?_modify,List.getD_eq_getElem?_getD];by_cases e:k=p
 ·subst e
  rw[if_pos rfl,List.getElem?_eq_getElem hk];simp
 ·rw[if_neg (fun h=>e h.symm)]
  cases l[p]? <;> simp[e]
theorem Inv.on{F:Fm}{ls:List Bs}{r:Rd}{n:Int}(h:Inv ls r n)(hn:1<=n){x:Bs}(hx:ls[(n - 1).toNat]?=some x){r':Rd}(h1:oneR F r x n=(0,r')):Inv ls r' (n+1):=by
 unfold oneR at h1;by_cases hi:ign x=true
 ·rw[if_pos hi] at h1
  have e:r=r':=by simpa using h1
  subst e;exact⟨fun p hp j hj=>⟨(h.ln p hp j hj).1,Yz⟩,h.fa.imp id fun q=>⟨q.1,by have:=q.2;omega⟩,h.no,h.ten,h.len⟩
 rw[if_neg hi] at h1;have hok:Okl ls n:=⟨hn,x,hx,by simpa using hi⟩;split at h1
 ·next hs=>exact absurd (congrArg Prod.fst h1) hs
 have kl:=Jhj ((splR x).1.headD []);unfold rcd at h1;simp only at h1;generalize kind ((splR x).1.headD [])=k at h1 kl;generalize (splR x).1=f at h1;split at h1
 ·exact Yx
 next h12 =>
 split at h1
 ·exact Yx
 next hl =>
 split at h1
 ·exact Yx
 split at h1
 ·exact Yx
 next h11 =>
 obtain⟨a0,a1⟩:=Jre F r.T k Ka f (Pu hl);have e:=(congrArg Prod.snd h1).symm;simp only at e;subst e;have hln:∀p,(if k<10 then r.ln.modify k (·++[n]) else r.ln).getD p []=if p=k/\k<10 then r.ln.getD p []++[n] else r.ln.getD p []:=by
  intro p;by_cases hk:k<10
  ·rw[if_pos hk,Jt1 _ _ _ _ (by rw[h.ten];exact hk)]
   by_cases e:p=k
   ·rw[if_pos e,if_pos ⟨e,hk⟩]
   ·rw[if_neg e,if_neg (fun q=>e q.1)]
  ·rw[if_neg hk,if_neg (fun q=>hk q.2)]
 refine⟨fun p hp j hj=>?_,?_,fun h0=>?_,?_,fun p hp=>?_⟩
 ·rw[hln] at hj
  split at hj
  ·rcases List.mem_append.1 hj with hj | hj
   ·exact⟨(h.ln p hp j hj).1,Yz⟩
   ·have e:j=n:=Xi
    subst e;exact⟨hok,Ka⟩
  ·exact⟨(h.ln p hp j hj).1,Yz⟩
 ·show(if k=11 then n else r.fa)=0\/(Okl ls (if k=11 then n else r.fa)/\(if k=11 then n else r.fa)<n+1)
  by_cases e:k=11
  ·rw[if_pos e];exact .inr ⟨hok,Ka⟩
  ·rw[if_neg e];exact h.fa.imp id fun q=>⟨q.1,by have:=q.2;omega⟩
 ·by_cases e:k=11
  ·have h0:(if k=11 then n else r.fa)=0:=h0
   rw[if_pos e] at h0;omega
  ·have h0:(if k=11 then n else r.fa)=0:=h0
   rw[if_neg e] at h0;obtain⟨b0,b1,b2⟩:=a1 e;obtain⟨c0,c1,c2⟩:=h.no h0;exact⟨b0.trans c0,b1.trans c1,b2.trans c2⟩
 ·show(if k<10 then r.ln.modify k (·++[n]) else r.ln).length=10
  split
  ·rw[List.length_modify];exact h.ten
  ·exact h.ten
 ·show((if k<10 then r.ln.modify k (·++[n]) else r.ln).getD p []).length=lenP (addR F r.T k f).2 p
  rw[hln,a0 p hp];by_cases e:p=k
  ·rw[if_pos ⟨e,Ka⟩,if_pos e,Pq,h.len p hp];rfl
  ·rw[if_neg (fun q=>e q.1),if_neg e,h.len p hp];rfl
theorem J8e{α:Type}{bad:List κ->α->Int}{key:α->κ}:∀(l:List α) (seen:List κ) (k:Nat),(fbF bad key seen k l).2≠0->(k:Int)<=(fbF bad key seen k l).1/\(fbF bad key seen k l).1<k+l.length
 | [],_,_,h=>absurd rfl h
 | x::l,seen,k,h=>by
  unfold fbF at h |-;by_cases hb:bad seen x=0
  ·rw[if_pos hb] at h |-
   obtain⟨h1,h2⟩:=J8e l _ _ h;exact Ku
  ·rw[if_neg hb]
   exact Ku
theorem Jd5{α:Type}{bad:List κ->α->Int}{key:α->κ}{l:List α}{N:Nat}(h:(if N<l.length then((0,5):Int×Int) else fbF bad key [] 0 l).2≠0):0<=(if N<l.length then((0,5):Int×Int) else fbF bad key [] 0 l).1/\(if N<l.length then((0,5):Int×Int) else fbF bad key [] 0 l).1<l.length:=by
 by_cases hn:N<l.length
 ·rw[if_pos hn]
  exact⟨Kd,by show(0:Int)<_;omega⟩
 ·rw[if_neg hn] at h |-
  have:=J8e l [] 0 h;simpa using this
theorem J4r(T:Tt)(p:Nat)(h:(Jam T p).2≠0):(0<=(Jam T p).1/\(Jam T p).1<lenP T p)\/(p=9/\(Jam T p).1=-1/\¬(T.di=0/\T.wi=0/\T.cp=0)):=by
 match p,h with
 | 0,h =>
  left
  have e:Jam T 0=if 64<T.st.length then((0,5):Int×Int) else fbF S13.badS (fun x=>x.1) [] 0 T.st:=by
   show S13.chkT T.st=_
   unfold S13.chkT;rw[Jmg]
  rw[e] at h |-;exact Jd5 h
 | 1,h=>exact .inl (Jd5 h)
 | 2,h=>exact .inl (Jd5 h)
 | 3,h=>exact .inl (Jd5 h)
 | 4,h=>exact .inl (Jd5 h)
 | 5,h=>exact .inl (Jd5 h)
 | 6,h=>exact .inl (Jd5 h)
 | 7,h=>exact .inl (Jd5 h)
 | 8,h=>exact .inl (Jd5 h)
 | 9,h =>
  have e:Jam T 9=S21.chkPd T.di T.wi T.cp T.pr:=rfl;rw[e] at h |-;unfold S21.chkPd at h |-;by_cases hf:S21.okFa T.di T.wi T.cp
  ·rw[if_neg (fun k=>k hf)] at h |-
   exact .inl (Jd5 h)
  ·rw[if_pos hf]
   exact .inr ⟨rfl,rfl,fun k=>hf (by rw[k.1,k.2.1,k.2.2];decide)⟩
 | n+10,h=>exact absurd rfl h
theorem J8f{P:Nat->Int×Int}:∀(n k:Nat),(ttF P k n).2.2≠0->∃p,k<=p/\p<k+n/\ttF P k n=((p:Int),(P p).1,(P p).2)/\(P p).2≠0
 | 0,_,h=>absurd rfl h
 | n+1,k,h=>by
  by_cases hp:(P k).2=0
  ·rw[Jmd hp] at h |-
   obtain⟨p,h1,h2,h3,h4⟩:=J8f n (k+1) h;exact⟨p,Ka,Ka,h3,h4⟩
  ·exact⟨k,Nat.le_refl _,Ka,Jmc hp,hp⟩
theorem Jt2(F:Fm)(x:Bs)(l:List Bs)(n:Int)(r:Rd):goR F (x::l) n r=if(oneR F r x n).1≠0 then(n,(oneR F r x n).1,(oneR F r x n).2) else goR F l (n+1) (oneR F r x n).2:=rfl
def noV(x:Tp):List UInt8×Int×Int×Bool×List Cl:=(x.1,x.2.1,x.2.2.1,x.2.2.2.1,x.2.2.2.2.2)
structure CopT (T U:Tt):Prop where
 st:U.st=T.st
 ro:U.ro=T.ro
 ca:U.ca=T.ca
 ex:U.ex=T.ex
 tr:U.tr.map noV=T.tr.map noV
 fr:U.fr=T.fr
 th:U.th=T.th
 gu:U.gu=T.gu
 pa:U.pa=T.pa
 pr:U.pr=T.pr
 di:U.di=T.di
 wi:U.wi=T.wi
 cp:U.cp=T.cp
theorem Qam{x y:Tp}(h:noV x=noV y):eTr x y=true:=by
 obtain⟨a,b,c,d,v,l⟩:=x;obtain⟨a',b',c',d',v',l'⟩:=y;simp only[noV,Prod.mk.injEq] at h;obtain⟨rfl,rfl,rfl,rfl,rfl⟩:=h;unfold eTr;rw[Pk ⟨rfl,rfl,rfl,rfl⟩];exact Jde Qdu
theorem Jt3{l m:List Tp}(h:l.map noV=m.map noV):eqB eTr l m=true:=by
 have hl:l.length=m.length:=by have:=congrArg List.length h;simpa using this
 refine J8c hl (fun j x y _ hx hy=>Qam ?_);have h1:(l.map noV)[j]?=some (noV x):=by rw[List.getElem?_map,hx];rfl
 have h2:(m.map noV)[j]?=some (noV y):=by rw[List.getElem?_map,hy];rfl
 rw[h,h2] at h1;exact(Pp h1).symm
theorem Qan{l m:List Tp}(h:l.map noV=m.map noV):l.map clT=m.map clT:=by
 have e:clT=(fun z:List UInt8×Int×Int×Bool×List Cl=>z.2.2.2.2) ∘ noV:=rfl;rw[e,<-List.map_map,<-List.map_map,h]
theorem CopT.eq{T:Tt}(h:CopT T U):eqT U T=true:=by
 have ht:=Jt3 h.tr;have r:=J4p T;unfold eqT at r |-;unfold hdT tlT at r |-;rw[h.st,h.ro,h.ca,h.ex,h.fr,h.th,h.gu,h.pa,h.pr,h.di,h.wi,h.cp,ht];rw[Jt3 rfl] at r;exact r
theorem Jz9{α β:Type}{bad:List κ->α->Int}{key:α->κ}{bad':List κ->β->Int}{key':β->κ}{f:α->β}(h1:∀seen x,bad' seen (f x)=bad seen x)(h2:∀x,key' (f x)=key x):∀(l:List α) (seen:List κ) (k:Nat),fbF bad' key' seen k (l.map f)=fbF bad key seen k l
 | [],_,_=>rfl
 | x::l,seen,k=>by
  rw[List.map_cons];unfold fbF;rw[h1,h2,Jz9 h1 h2 l]
def badV(st ro ca:Int)(seen:List Bs)(x:Bs×Int×Int×Bool×List Cl):Int:=if Jak x.1=false then 12 else if x.1∈seen then 6 else if S17.rkT ro ca x.2.1 x.2.2.1 then(chkC st 0 172800 x.2.2.2.2).2 else 9
theorem chkV(st ro ca:Int)(l:List Tp):S17.chkT st ro ca l=if 256<(l.map noV).length then(0,5) else fbF (badV st ro ca) (fun x=>x.1) [] 0 (l.map noV):=by
 unfold S17.chkT;rw[Pr,Jz9 (bad:=S17.badT st ro ca) (key:=S17.idT) (bad':=badV st ro ca) (key':=fun x=>x.1) (f:=noV) (fun _ _=>rfl) (fun _=>rfl)]
theorem J8g{l m:List Tp}(h:l.map noV=m.map noV):l.map S19.tcT=m.map S19.tcT:=by
 have e:S19.tcT=(fun z:Bs×Int×Int×Bool×List Cl=>(z.2.2.1,z.2.2.2.2)) ∘ noV:=rfl;rw[e,<-List.map_map,<-List.map_map,h]
theorem CopT.part{T:Tt}(h:CopT T U):Jam U=Jam T:=by
 funext j
 match j with
 | 0=>show S13.chkT U.st=_;rw[h.st];rfl
 | 1=>show chkR U.ro=_;rw[h.ro];rfl
 | 2=>show S14.chkC U.ca=_;rw[h.ca];rfl
 | 3=>show S14.chkX U.ca.length U.ex=_;rw[h.ca,h.ex];rfl
 | 4=>show S17.chkT U.st.length U.ro.length U.ca.length U.tr=S17.chkT T.st.length T.ro.length T.ca.length T.tr;rw[h.st,h.ro,h.ca,chkV,chkV,h.tr]
 | 5=>show chkF (U.tr.map clT) U.fr=_;rw[Qan h.tr,h.fr];rfl
 | 6=>show S19.chkH (U.tr.map S19.tcT) U.fr U.th=_;rw[J8g h.tr,h.fr,h.th];rfl
 | 7=>show S19.chkU (U.tr.map S19.tcT) U.fr U.st.length U.gu=_;rw[J8g h.tr,h.fr,h.st,h.gu];rfl
 | 8=>show S20.chkP U.st.length U.pa=_;rw[h.st,h.pa];rfl
 | 9=>show S21.chkPd U.di U.wi U.cp U.pr=_;rw[h.di,h.wi,h.cp,h.pr];rfl
 | n+10=>rfl
theorem CopT.ttC{T:Tt}(h:CopT T U):Go.Proofs.YtpifdbphmnifdaaGreatDoor.ttC U=Go.Proofs.YtpifdbphmnifdaaGreatDoor.ttC T:=by unfold Go.Proofs.YtpifdbphmnifdaaGreatDoor.ttC;rw[h.part]
def bTrV(F:Fm)(T:Tt)(x:Bs×Int×Int×Bool×List Cl):List (List Bs):=[wTr,x.1,atI (Jct T) x.2.1,atI (Jb5 T) x.2.2.1,flgT x.2.2.2.1]::x.2.2.2.2.map (rCc F T)
theorem Qdv(F:Fm)(T:Tt)(l:List Tp):l.flatMap (bTr F T)=(l.map noV).flatMap (bTrV F T):=by rw[List.flatMap_map];rfl
theorem Qao{T:Tt}(h:CopT T U):Jbr U=Jbr T:=by
 unfold Jbr;have e:(fun x:Tp=>x.1)=(fun z:Bs×Int×Int×Bool×List Cl=>z.1) ∘ noV:=rfl;rw[e,<-List.map_map,<-List.map_map,h.tr]
theorem CopT.rows{T:Tt}(F:Fm)(h:CopT T U):Go.Proofs.YtpifdbphmnifdaaGreatDoor.rows F U=Go.Proofs.YtpifdbphmnifdaaGreatDoor.rows F T:=by
 have i0:Jbi U=Jbi T:=by unfold Jbi;rw[h.st]
 have i1:Jct U=Jct T:=by unfold Jct;rw[h.ro]
 have i2:Jb5 U=Jb5 T:=by unfold Jb5;rw[h.ca]
 have i3:=Qao h;have c0:rEx F U=rEx F T:=by funext x;unfold rEx;rw[i2]
 have c1:rCc F U=rCc F T:=by funext x;unfold rCc;rw[i0]
 have c2:bTrV F U=bTrV F T:=by funext x;unfold bTrV;rw[i1,i2,c1]
 have c3:rFr F U=rFr F T:=by funext x;unfold rFr;rw[i3]
 have c4:rTh U=rTh T:=by funext x;unfold rTh;rw[i3]
 have c5:rGu U=rGu T:=by funext x;unfold rGu;rw[i3,i0]
 have c6:rPa F U=rPa F T:=by funext x;unfold rPa;rw[i0]
 have c7:rFa F U=rFa F T:=by unfold rFa;rw[h.di,h.wi,h.cp]
 unfold Go.Proofs.YtpifdbphmnifdaaGreatDoor.rows;rw[Qdv,Qdv,h.tr,c0,c2,c3,c4,c5,c6,c7,h.st,h.ro,h.ca,h.ex,h.fr,h.th,h.gu,h.pa,h.pr]
theorem CopT.feedF{T:Tt}(F:Fm)(h:CopT T U):Go.Proofs.YtpifdbphmnifdaaGreatDoor.feedF F U=Go.Proofs.YtpifdbphmnifdaaGreatDoor.feedF F T:=by unfold Go.Proofs.YtpifdbphmnifdaaGreatDoor.feedF Jf0;rw[h.ttC,h.rows F]
theorem Jja(A B:List Bs):Jax (A++B)=Jax A++Jax B:=by unfold Jax;rw[List.flatMap_append]
theorem Qdw{s:Bs}(h:s≠[])(h10:s[s.length - 1]?=some 10)(hl:s.length<=65536):linR s=((cutL s).1,0)/\Jax (cutL s).1=s/\∀l∈(cutL s).1,∀b∈l,b≠10:=by
 have e:s=s.dropLast++[10]:=by
  have h1:s.getLast?=some 10:=by rw[List.getLast?_eq_getElem?];exact h10
  have h2:=List.dropLast_concat_getLast h;rw[List.getLast?_eq_some_getLast h] at h1;rw[Pp h1] at h2;exact h2.symm
 have h2:(cutL s).2=[]:=by rw[e,Jgm]
 refine⟨?_,?_,?_⟩
 ·unfold linR
  rw[if_neg Ka,if_neg h,if_pos h10]
 ·have:=Jo5 s.length s rfl
  rw[h2,List.append_nil] at this;exact this
 ·have key:∀(n:Nat) (l:Bs),l.length=n->(∀x∈(cutL l).1,∀b∈x,b≠10)/\∀b∈(cutL l).2,b≠10:=by
   intro n;induction n with
   | zero =>
    intro l hl;have:l=[]:=List.eq_nil_of_length_eq_zero hl;subst this;exact⟨fun x hx=>by simp[Jtz] at hx,fun b hb=>by simp[Jtz] at hb⟩
   | succ n ih =>
    intro l hl;have hne:l≠[]:=fun e=>by rw[e] at hl;cases hl
    have e2:=List.dropLast_concat_getLast hne;generalize l.getLast hne=c at e2;have hd:l.dropLast.length=n:=by rw[List.length_dropLast];omega
    generalize l.dropLast=d at e2 hd;subst e2;obtain⟨i1,i2⟩:=ih d hd;by_cases hc:c=10
    ·subst hc
     rw[Jgm];refine⟨fun x hx=>?_,fun b hb=>by cases hb⟩;rcases List.mem_append.1 hx with hx | hx
     ·exact i1 x hx
     ·have:x=(cutL d).2:=Qs
      subst this;exact i2
    ·rw[Jo4 d c hc]
     refine⟨i1,fun b hb=>?_⟩;rcases List.mem_append.1 hb with hb | hb
     ·exact i2 b hb
     ·have:b=c:=Zh
      subst this;exact hc
  exact(key s.length s rfl).1
def okAt(i:Nat)(c:UInt8):Bool:=if i=2\/i=5 then c==58 else dig c
def Jch(l:List UInt8):Bool:=decide (l.length=8)&&l.zipIdx.all fun x=>okAt x.2 x.1
theorem Jhk(l:List UInt8)(h:Jch l=true):l.length=8/\∀(k:Nat) c,l[k]?=some c->okAt k c=true:=by
 unfold Jch at h;simp only[Bool.and_eq_true,decide_eq_true_eq,List.all_eq_true] at h;exact⟨h.1,fun k c hk=>h.2 (c,k) (List.mem_zipIdx_iff_getElem?.2 hk)⟩
theorem Qap(l:List UInt8)(h8:l.length=8)(h:∀(k:Nat) c,l[k]?=some c->okAt k c=true):Jch l=true:=by
 unfold Jch;simp only[Bool.and_eq_true,decide_eq_true_eq,List.all_eq_true];exact⟨h8,fun x hx=>h x.2 x.1 (List.mem_zipIdx_iff_getElem?.1 hx)⟩
theorem Jk4(k:Nat)(c:UInt8)(hk:k=2\/k=5):okAt k c=true↔c.toNat=58:=by
 unfold okAt;exact Yy
theorem Jhl(k:Nat)(c:UInt8)(hk:¬(k=2\/k=5)):okAt k c=true↔48<=c.toNat/\c.toNat<=57:=by
 unfold okAt;rw[if_neg hk,Jcu]
def posD(l:List UInt8):Bool:=!l.isEmpty&&!(l[0]?==some 48)&&digs l
def Jcf(l:List UInt8):Bool:=decide (l.length=2)&&digs l&&decide (valN l<60)
def Jdi(l:List UInt8):Bool:=posD l&&decide (l.length<=2)&&decide (valN l<60)
theorem Jd1(l:List UInt8):posD l=true↔l≠[]/\l[0]?≠some 48/\digs l=true:=by
 unfold posD;simp[and_assoc]
theorem Jdo(l:List UInt8):Jcf l=true↔l.length=2/\digs l=true/\valN l<60:=by
 unfold Jcf;simp[and_assoc]
theorem Jeb(l:List UInt8):Jdi l=true↔posD l=true/\l.length<=2/\valN l<60:=by
 unfold Jdi;simp[and_assoc]
def Jec(c:UInt8)(l:List UInt8):List UInt8:=l.takeWhile (· != c)
def after(c:UInt8)(l:List UInt8):List UInt8:=(l.dropWhile (· != c)).drop 1
theorem Jt4(c:UInt8)(post:List UInt8):∀pre:List UInt8,c ∉ pre->Jec c (pre++c::post)=pre/\after c (pre++c::post)=post
 | [],_=>by simp[Jec,after]
 | b::l,h=>by
  have hb:(b != c)=true:=by rw[bne_iff_ne];rintro rfl;exact h Ke
  have ih:=Jt4 c post l (fun hx=>h (by simp[hx]));unfold Jec after at *;simp[hb,ih]
theorem Jmh(c:UInt8)(l:List UInt8)(h:c∈l):∃pre post,l=pre++c::post/\c ∉ pre/\Jec c l=pre/\after c l=post:=by
 obtain⟨pre,post,rfl,hn⟩:=List.eq_append_cons_of_mem h;exact⟨pre,post,rfl,hn,Jt4 c post pre hn⟩
def Jgn(H T:List UInt8):Int×Int :=
 if 109∈T/\Jcf (Jec 109 T)=true/\Jcf (after 109 T)=true/\posD H=true then
  if 2<H.length then(0,2) else((valN H:Int)*3600+(valN (Jec 109 T):Int)*60+(valN (after 109 T):Int),0)
 else(0,3)
def Jeu(M S:List UInt8):Int×Int :=
 if Jdi M=true/\Jcf S=true then((valN M:Int)*60+(valN S:Int),0) else(0,3)
def Jjb(r:List UInt8):Int×Int :=
 if 104∈r then Jgn (Jec 104 r) (after 104 r)
 else if 109∈r then Jeu (Jec 109 r) (after 109 r)
 else if r=[48] then(0,0)
 else if Jdi r=true then((valN r:Int),0) else(0,3)
def durR(l:List UInt8):Int×Int:=if List.isSuffixOf [115] l=true then Jjb l.dropLast else(0,3)
def Jfg(t:Int):List UInt8:=two (t / 3600)++[58]++two (t % 3600 / 60)++[58]++two (t % 60)
def Jb2(n:Int):List UInt8 :=
 if 3600<=n then dec (n / 3600)++[104]++two (n % 3600 / 60)++[109]++two (n % 60)++[115]
 else if 60<=n then dec (n % 3600 / 60)++[109]++two (n % 60)++[115]
 else dec (n % 60)++[115]
def Jj1(h m s:Int):Prop:=0<=h/\h<=48/\0<=m/\m<60/\0<=s/\s<60/\h*3600+m*60+s<=172800
instance (h m s:Int):Decidable (Jj1 h m s):=by unfold Jj1;infer_instance
def Jvp(l:List UInt8):Int×Int :=
 if Jch l=true then
  if Jj1 (Jcc l 0) (Jcc l 3) (Jcc l 6) then((Jcc l 0:Int)*3600+(Jcc l 3:Int)*60+(Jcc l 6:Int),0) else(0,10)
 else(0,3)
theorem Jpb(l:List UInt8)(h:List.isSuffixOf [115] l=true):∃r,l=r++[115]/\l.dropLast=r:=by
 rw[List.isSuffixOf_iff_suffix] at h;obtain⟨r,rfl⟩:=h;exact⟨r,rfl,Ke⟩
open Go.RowKit
theorem Jpc(t:Int)(h0:0<=t)(h1:t<=172800)(w:World):
  Pb 344 #[.int .i64 t] w (.bool true):=by
 go_enter func344,ntmps344;go_wp2;exact Yt
theorem J4s(t:Int)(h:t<0\/172800<t)(w:World):
  Pb 344 #[.int .i64 t] w (.bool false):=by
 rcases h with h | h
 ·go_enter func344,ntmps344
  go_wp2
  exact Yt
 ·have h0:0<=t:=Ka
  have hd:decide (t<=172800)=false:=Kb;go_enter func344,ntmps344;go_wp2;exact Yt
theorem Jvq(t:Int)(h0:0<=t)(h1:t<=172800)(w:World):
  Pb 230 #[.int .i64 t] w (.bool true):=by
 go_enter func230,ntmps230;go_wp2;exact Yt
theorem Jfh(t:Int)(h0:0<=t)(h1:t<=359999)(w:World):
  Pb 302 #[.int .i64 t] w (.tuple #[.int .i64 (t / 3600),.int .i64 (t % 3600 / 60),.int .i64 (t % 60)]):=by
 go_enter func302,ntmps302;go_wp2;go_ret3
 exact V4
theorem Jev(h m s:Int)(h0:0<=h)(h1:h<=99)(m0:0<=m)(m1:m<=99)(s0:0<=s)(s1:s<=99)(w:World):
  Pb 354 #[.int .i64 h,.int .i64 m,.int .i64 s] w (.int .i64 (h*3600+m*60+s)):=by
 go_enter func354,ntmps354;go_wp2;exact Yt
theorem Jdd(n:Int)(h0:0<=n)(h1:n<60)(w:World):
  Pb 353 #[.int .i64 n] w (.bool true):=by
 go_enter func353,ntmps353;go_wp2;exact Yt
theorem Jew(n:Int)(h:n<0\/60<=n)(w:World):
  Pb 353 #[.int .i64 n] w (.bool false):=by
 rcases h with h | h
 ·go_enter func353,ntmps353
  go_wp2
  exact Yt
 ·have h0:0<=n:=Ka
  have hd:decide (n<60)=false:=Kb;go_enter func353,ntmps353;go_wp2;exact Yt
theorem J0a(t:Int)(h0:0<=t)(h1:t<=172800)(w:World):
  Pb 299 #[.int .i64 t] w (.tuple #[.int .i64 (t / 3600),.int .i64 (t % 3600 / 60),.int .i64 (t % 60),.bool true]):=by
 go_enter func299,ntmps299;go_wp2_with (first | (go_at_call 344;refine Pf (Jpc _ Ka Ka _) ?_) | (go_at_call 302;refine Pf (Jfh _ Ka Ka _) ?_));refine bodyPost_ret (Je6 rfl _ _ _) rfl ?_;exact V4
theorem J4t(h m s:Int)(hp:Jj1 h m s)(w:World):
  Pb 321 #[.int .i64 h,.int .i64 m,.int .i64 s] w (.tuple #[.int .i64 (h*3600+m*60+s),.bool true]):=by
 obtain⟨h0,h1,m0,m1,s0,s1,ht⟩:=hp;go_enter func321,ntmps321;go_wp2_with (first | (go_at_call 353;refine Pf (Jdd _ Ka Ka _) ?_) | (go_at_call 354;refine Pf (Jev _ _ _ Ka Ka Ka Ka Ka Ka _) ?_) | (go_at_call 344;refine Pf (Jpc _ Ka Ka _) ?_));exact Yv
theorem Qaq(h m s:Int)(hp:¬Jj1 h m s)(w:World):
  Pb 321 #[.int .i64 h,.int .i64 m,.int .i64 s] w (.tuple #[.int .i64 0,.bool false]):=by
 unfold Jj1 at hp;by_cases h0:h<0
 ·go_enter func321,ntmps321
  exact V8
 by_cases h1:48<h
 ·go_enter func321,ntmps321
  exact V8
 by_cases hm:m<0\/60<=m
 ·go_enter func321,ntmps321
  go_wp2_with (go_at_call 353;refine Pf (Jew _ Ka _) ?_)
  exact Yv
 by_cases hs:s<0\/60<=s
 ·go_enter func321,ntmps321
  go_wp2_with (first | (go_at_call 353;refine Pf (Jdd _ Ka Ka _) ?_) | (go_at_call 353;refine Pf (Jew _ Ka _) ?_))
  exact Yv
 ·go_enter func321,ntmps321
  go_wp2_with (first | (go_at_call 353;refine Pf (Jdd _ Ka Ka _) ?_) | (go_at_call 354;refine Pf (Jev _ _ _ Ka Ka Ka Ka Ka Ka _) ?_) | (go_at_call 344;refine Pf (J4s _ Ka _) ?_))
  exact Yv
theorem join_flat(xs:List (List UInt8)):Lib.join xs []=xs.flatten:=by
 simp[Lib.join,List.intercalate];induction xs with
 | nil=>rfl
 | cons a t ih=>cases t <;> simp_all [List.intersperse]
theorem Jvr(bk c:Nat)(xs:List ByteArray)(w:World)(hcells:∀(j:Nat) x,xs[j]?=some x->w.cell? ⟨bk,0+j,none⟩=some (.string x))(hbk:bk<w.heap.size)
  (hN:xs.length<=100) (hcap:xs.length<=c) (hlen:(xs.map (·.data.toList)).flatten.length<=1000) :
  Pc 300 #[.slice (some ⟨bk,0,none⟩) xs.length c] w (.string (str (xs.map (·.data.toList)).flatten)):=by
 have hj:=Tryz.strings_Join bk 0 c xs ⟨#[]⟩ w hcells hbk Ka hcap (by show(Lib.join _ []).length<=_;rw[join_flat];omega);have he:Lib.join (xs.map (·.data.toList)) (⟨#[]⟩:ByteArray).data.toList=(xs.map (·.data.toList)).flatten:=join_flat _;rw[he] at hj;have H:=Pe hj;clear hj he hcells hlen;go_enter func300,ntmps300;go_wp2_with (go_at_call 133;refine H.out.mono ?_;rintro e w' ⟨rfl,hb⟩);go_ret;exact⟨rfl,hb⟩
theorem Jgo(x:Int)(h0:0<=x)(h1:x<100)(w:World):
  Pb 297 #[.int .i64 x] w (.string (str (dec x))):=by
 obtain⟨n,rfl⟩:∃n:Nat,x=n:=⟨x.toNat,Ka⟩;exact(Tryz.strconv_Itoa_small n Ka w).mono fun _ _ ⟨he,hw⟩=>⟨he,hw.symm⟩
theorem Jmi(xs:List (List UInt8))(hN:xs.length<=100)(hlen:xs.flatten.length<=1000)(w:World):
  Calls prog 300 #[.slice (some ⟨w.heap.size,0,none⟩) xs.length xs.length] (w.alloc (.cells (xs.map fun l=>Value.string (str l)).toArray 9)) fun e w'=>e=.returned (.string (str xs.flatten))/\Po w w':=by
 have hm:(xs.map str).map (·.data.toList)=xs:=Jy;have h:=Jvr w.heap.size xs.length (xs.map str) (w.alloc (.cells (xs.map fun l=>Value.string (str l)).toArray 9)) (by
  intro j x hx;simp only[List.getElem?_map,Option.map_eq_some_iff] at hx;obtain⟨l,hl,rfl⟩:=hx;rw[Nat.zero_add,World.cell?_alloc_new];simp[hl]) Ke (by simpa using hN) Ke (by rw[hm];exact hlen)
 rw[hm,Pr] at h;exact h.mono fun e w' ⟨he,hb⟩=>⟨he,((Below.refl _ _).alloc Ph _).trans (hb.mono Ke)⟩
theorem J0b(a b:List UInt8)(ha:a.length<=100)(hb:b.length<=100)(w:World):
  Calls prog 300 #[.slice (some ⟨w.heap.size,0,none⟩) 2 2] (w.alloc (.cells #[.string (str a),.string (str b)] 9)) fun e w'=>e=.returned (.string (str (a++b)))/\Po w w':=by
 have h:=Jmi [a,b] Ke Kb w;exact h.mono fun e w' ⟨he,hb⟩=>⟨by rw[he];simp,hb⟩
theorem Qar(a b c d:List UInt8)(ha:a.length<=100)(hb:b.length<=100)(hc:c.length<=100)(hd:d.length<=100)(w:World):
  Calls prog 300 #[.slice (some ⟨w.heap.size,0,none⟩) 4 4] (w.alloc (.cells #[.string (str a),.string (str b),.string (str c),.string (str d)] 9)) fun e w'=>e=.returned (.string (str (a++b++c++d)))/\Po w w':=by
 have h:=Jmi [a,b,c,d] Ke Kb w;exact h.mono fun e w' ⟨he,hb⟩=>⟨by rw[he];simp,hb⟩
theorem Qas(a b c d f:List UInt8)(ha:a.length<=100)(hb:b.length<=100)(hc:c.length<=100)(hd:d.length<=100)(hf:f.length<=100)(w:World):
  Calls prog 300 #[.slice (some ⟨w.heap.size,0,none⟩) 5 5] (w.alloc (.cells #[.string (str a),.string (str b),.string (str c),.string (str d),.string (str f)] 9)) fun e w'=>e=.returned (.string (str (a++b++c++d++f)))/\Po w w':=by
 have h:=Jmi [a,b,c,d,f] Ke Kb w;exact h.mono fun e w' ⟨he,hb⟩=>⟨by rw[he];simp,hb⟩
theorem Qat(a b c d f g:List UInt8)(ha:a.length<=100)(hb:b.length<=100)(hc:c.length<=100)(hd:d.length<=100)(hf:f.length<=100)(hg:g.length<=100)(w:World):
  Calls prog 300 #[.slice (some ⟨w.heap.size,0,none⟩) 6 6] (w.alloc (.cells #[.string (str a),.string (str b),.string (str c),.string (str d),.string (str f),.string (str g)] 9)) fun e w'=>e=.returned (.string (str (a++b++c++d++f++g)))/\Po w w':=by
 have h:=Jmi [a,b,c,d,f,g] Ke Kb w;exact h.mono fun e w' ⟨he,hb⟩=>⟨by rw[he];simp,hb⟩
theorem Jci(x:Int)(h0:0<=x)(h1:x<100)(w:World):
  Pc 301 #[.int .i64 x] w (.string (str (two x))):=by
 have l1:=Jis (x / 10) Ka;have l2:=Jis (x % 10) Ka;go_enter func301,ntmps301;go_wp2_with (first | (go_at_call 297;refine Pf (Jgo _ Ka Ka _) ?_) | (go_at_call 300;refine(J0b _ _ Ka Ka _).mono ?_;rintro e w' ⟨rfl,hb⟩));go_ret;exact⟨by rw[<-Jw1 x h0 h1];rfl,hb⟩
theorem Jvs(t:Int)(h0:0<=t)(h1:t<=172800)(w:World):
  Pc 223 #[.int .i64 t] w (.tuple #[.string (str (Jfg t)),.int .i64 0]):=by
 go_enter func223,ntmps223;go_wp2_with (go_at_call 299;refine Pf (J0a _ h0 h1 _) ?_);go_wp2_with fail;refine(Jci (t / 3600) Ka Ka _).mono ?_;rintro e w1 ⟨rfl,b1⟩;go_wp2_with fail;refine(Jci (t % 3600 / 60) Ka Ka _).mono ?_;rintro e w2 ⟨rfl,b2⟩;go_wp2_with fail;refine(Jci (t % 60) Ka Ka _).mono ?_;rintro e w3 ⟨rfl,b3⟩;go_wp2_with fail;refine(Qas _ _ _ _ _ (Jf8 _) Kd (Jf8 _) Kd (Jf8 _) _).mono ?_;exact Yu
theorem J4u(n:Int)(h0:3600<=n)(h1:n<=359999)(w:World):
  Pc 224 #[.int .i64 n] w (.tuple #[.string (str (Jb2 n)),.int .i64 0]):=by
 have hp:0<n / 3600:=Ka;have hz:0<=n:=Ka;go_enter func224,ntmps224;go_wp2_with fail;refine(Jfh n hz h1 _).mono ?_;rintro e w0 ⟨rfl,rfl⟩;go_wp2_with fail;refine(Jgo (n / 3600) Ka Ka _).mono ?_;rintro e w0 ⟨rfl,rfl⟩;go_wp2_with fail;refine(Jci (n % 3600 / 60) Ka Ka _).mono ?_;rintro e w1 ⟨rfl,b1⟩;go_wp2_with fail;refine(Jci (n % 60) Ka Ka _).mono ?_;rintro e w2 ⟨rfl,b2⟩;go_wp2_with fail;refine(Qat _ _ _ _ _ _ (Jj4 _ Ka) Kd (Jf8 _) Kd (Jf8 _) Kd _).mono ?_;rintro e w3 ⟨rfl,b3⟩;go_wp2_with fail;go_ret2;exact⟨Jlo (by unfold Jb2;rw[if_pos h0];simp),b1.trans ((b2.trans (b3.mono b2.size)).mono b1.size)⟩
theorem J4v(n:Int)(h0:60<=n)(h1:n<3600)(w:World):
  Pc 224 #[.int .i64 n] w (.tuple #[.string (str (Jb2 n)),.int .i64 0]):=by
 have hp:¬0<n / 3600:=Ka;have hp2:0<n % 3600 / 60:=Ka;have hz:0<=n:=Ka;have hz1:n<=359999:=Ka;go_enter func224,ntmps224;go_wp2_with fail;refine(Jfh n hz hz1 _).mono ?_;rintro e w0 ⟨rfl,rfl⟩;go_wp2_with fail;refine(Jgo (n % 3600 / 60) Ka Ka _).mono ?_;rintro e w0 ⟨rfl,rfl⟩;go_wp2_with fail;refine(Jci (n % 60) Ka Ka _).mono ?_;rintro e w2 ⟨rfl,b2⟩;go_wp2_with fail;refine(Qar _ _ _ _ (Jj4 _ Ka) Kd (Jf8 _) Kd _).mono ?_;rintro e w3 ⟨rfl,b3⟩;go_wp2_with fail;go_ret2;exact⟨Jlo (by unfold Jb2;rw[if_neg Ka,if_pos h0];simp),b2.trans (b3.mono b2.size)⟩
theorem J4w(n:Int)(h0:0<=n)(h1:n<60)(w:World):
  Pc 224 #[.int .i64 n] w (.tuple #[.string (str (Jb2 n)),.int .i64 0]):=by
 have hp:¬0<n / 3600:=Ka;have hp2:¬0<n % 3600 / 60:=Ka;have hz1:n<=359999:=Ka;go_enter func224,ntmps224;go_wp2_with fail;refine(Jfh n h0 hz1 _).mono ?_;rintro e w0 ⟨rfl,rfl⟩;go_wp2_with fail;refine(Jgo (n % 60) Ka Ka _).mono ?_;rintro e w0 ⟨rfl,rfl⟩;go_wp2_with fail;refine(J0b _ _ (Jj4 _ Ka) Kd _).mono ?_;rintro e w3 ⟨rfl,b3⟩;go_wp2_with fail;go_ret2;exact⟨Jlo (by unfold Jb2;rw[if_neg Ka,if_neg Ka]),b3⟩
theorem Jvt(n:Int)(h0:0<=n)(h1:n<=359999)(w:World):
  Pc 224 #[.int .i64 n] w (.tuple #[.string (str (Jb2 n)),.int .i64 0]):=by
 by_cases hh:3600<=n
 ·exact J4u n hh h1 w
 ·by_cases hm:60<=n
  ·exact J4v n hm Ka w
  ·exact J4w n h0 Ka w
theorem Jfi(x:Int)(h0:0<=x)(h1:x<100)(w:World):
  Pc 231 #[.int .i64 x] w (.string (str (two x))):=by
 have hk:=conv2 (48+x / 10) (48+x % 10) w;rw[Qct x h0] at hk;go_enter func231,ntmps231;exact Yw
theorem Jrf(x:Int)(h0:0<=x)(h1:x<10)(w:World):
  Pc 232 #[.int .i64 x] w (.string (str (dec x))):=by
 have hk:=Jln (48+x % 10) w;have hx:¬10<=x:=Ka;have hd:[UInt8.ofNat (48+x % 10).toNat]=dec x:=by
  unfold dec;rw[Lib.decDigits_one Ka,show(48+x % 10).toNat=48+x.toNat by omega]
 rw[hd] at hk;clear hd;go_enter func232,ntmps232;go_wp2_with fail;refine wp_loop_rounds 1 ?_;rw[rounds_succ];exact Yw
theorem Jrg(x:Int)(h0:10<=x)(h1:x<100)(w:World):
  Pc 232 #[.int .i64 x] w (.string (str (dec x))):=by
 have hk:=Jln (48+x % 10) w;have hk2:=Jln (48+x / 10 % 10) (w.alloc (.cells #[.int .u8 (48+x % 10)] 5));simp at hk2;have hx:¬10<=x / 10:=Ka;have hd:dec x=[UInt8.ofNat (48+x / 10 % 10).toNat]++[UInt8.ofNat (48+x % 10).toNat]:=by
  unfold dec;rw[Lib.decDigits_two Ka Ka,show(48+x / 10 % 10).toNat=48+x.toNat / 10 by omega,show(48+x % 10).toNat=48+x.toNat % 10 by omega];rfl
 have HD:=Pe hd;clear hd;go_enter func232,ntmps232;go_wp2_with fail;refine wp_loop_rounds 2 ?_;rw[rounds_succ];go_wp2_with fail;rw[rounds_succ];go_wp2_with fail;go_ret;refine⟨?_,?_⟩
 ·rw[HD.out];rfl
 ·exact((Below.refl _ _).alloc Ph _).alloc Ke _
theorem Jf1(x:Int)(h0:0<=x)(h1:x<100)(w:World):
  Pc 232 #[.int .i64 x] w (.string (str (dec x))):=by
 by_cases h:x<10
 ·exact Jrf x h0 h w
 ·exact Jrg x Ka h1 w
theorem J4x(t:Int):str (two (t / 3600))++str [58]++str (two (t / 60 % 60))++str [58]++str (two (t % 60))=str (Jfg t):=by
 rw[Jas,Jas,Jas,Jas,show t / 60 % 60=t % 3600 / 60 by omega];rfl
theorem J0c(n:Int)(h:3600<=n):str (dec (n / 3600))++str [104]++str (two (n / 60 % 60))++str [109]++str (two (n % 60))++str [115]=str (Jb2 n):=by
 rw[Jas,Jas,Jas,Jas,Jas,show n / 60 % 60=n % 3600 / 60 by omega];unfold Jb2;rw[if_pos h]
theorem J0d(n:Int)(h0:60<=n)(h1:n<3600):str (dec (n / 60))++str [109]++str (two (n % 60))++str [115]=str (Jb2 n):=by
 rw[Jas,Jas,Jas,show n / 60=n % 3600 / 60 by omega];unfold Jb2;rw[if_neg Ka,if_pos h0]
theorem J0e(n:Int)(h0:0<=n)(h1:n<60):str (dec n)++str [115]=str (Jb2 n):=by
 rw[Jas];unfold Jb2;rw[if_neg Ka,if_neg Ka,show n % 60=n by omega]
theorem Jrh(t:Int)(h0:0<=t)(h1:t<=172800)(w:World):
  Pc 150 #[.int .i64 t] w (.tuple #[.string (str (Jfg t)),.int .i64 0]):=by
 go_enter func150,ntmps150;go_wp2_with fail;refine(Jvq t h0 h1 _).mono ?_;rintro e w0 ⟨rfl,rfl⟩;go_wp2_with fail;refine(Jfi (t / 3600) Ka Ka _).mono ?_;rintro e w1 ⟨rfl,b1⟩;go_wp2_with fail;refine(Jfi (t / 60 % 60) Ka Ka _).mono ?_;rintro e w2 ⟨rfl,b2⟩;go_wp2_with fail;refine(Jfi (t % 60) Ka Ka _).mono ?_;rintro e w3 ⟨rfl,b3⟩;go_wp2_with fail;go_ret2;exact⟨Je8 (J4x t),b1.trans ((b2.trans (b3.mono b2.size)).mono b1.size)⟩
theorem J0f(n:Int)(h0:3600<=n)(h1:n<=359999)(w:World):
  Pc 151 #[.int .i64 n] w (.tuple #[.string (str (Jb2 n)),.int .i64 0]):=by
 have hz:0<=n:=Ka;have l1:=Jj4 (n / 3600) Ka;have l2:=Jf8 (n / 60 % 60);have l3:=Jf8 (n % 60);go_enter func151,ntmps151;go_wp2_with fail;refine(Jf1 (n / 3600) Ka Ka _).mono ?_;rintro e w1 ⟨rfl,b1⟩;go_wp2_with fail;refine(Jfi (n / 60 % 60) Ka Ka _).mono ?_;rintro e w2 ⟨rfl,b2⟩;go_wp2_with fail;refine(Jfi (n % 60) Ka Ka _).mono ?_;rintro e w3 ⟨rfl,b3⟩;go_wp2_with fail;go_ret2;exact⟨Je8 (J0c n h0),b1.trans ((b2.trans (b3.mono b2.size)).mono b1.size)⟩
theorem J0g(n:Int)(h0:60<=n)(h1:n<3600)(w:World):
  Pc 151 #[.int .i64 n] w (.tuple #[.string (str (Jb2 n)),.int .i64 0]):=by
 have hz:0<=n:=Ka;have hz2:¬3600<=n:=Ka;have l1:=Jj4 (n / 60) Ka;have l3:=Jf8 (n % 60);go_enter func151,ntmps151;go_wp2_with fail;refine(Jf1 (n / 60) Ka Ka _).mono ?_;rintro e w1 ⟨rfl,b1⟩;go_wp2_with fail;refine(Jfi (n % 60) Ka Ka _).mono ?_;rintro e w2 ⟨rfl,b2⟩;go_wp2_with fail;go_ret2;exact⟨Je8 (J0d n h0 h1),b1.trans (b2.mono b1.size)⟩
theorem J0h(n:Int)(h0:0<=n)(h1:n<60)(w:World):
  Pc 151 #[.int .i64 n] w (.tuple #[.string (str (Jb2 n)),.int .i64 0]):=by
 have hz1:¬3600<=n:=Ka;have hz2:¬60<=n:=Ka;have l1:=Jj4 n Ka;go_enter func151,ntmps151;go_wp2_with fail;refine(Jf1 n Ka Ka _).mono ?_;rintro e w1 ⟨rfl,b1⟩;go_wp2_with fail;go_ret2;exact⟨Je8 (J0e n h0 h1),b1⟩
theorem Jri(n:Int)(h0:0<=n)(h1:n<=359999)(w:World):
  Pc 151 #[.int .i64 n] w (.tuple #[.string (str (Jb2 n)),.int .i64 0]):=by
 by_cases hh:3600<=n
 ·exact J0f n hh h1 w
 ·by_cases hm:60<=n
  ·exact J0g n hm Ka w
  ·exact J0h n h0 Ka w
end
end Go.Proofs.YtpifdbphmnifdaaGreatDoor
