/-
  Facts of the proof. Condition: each theorem's own.
-/
import Derived.Test.YtpifdbphmnifdaaGreatDoorYI9
set_option maxRecDepth 100000
set_option maxHeartbeats 8000000
open Go.Proofs.Tryz
namespace Go.Proofs.YtpifdbphmnifdaaGreatDoor
section
open Go
def cutL (l:List UInt8):List (List UInt8)×List UInt8:=l.foldl (fun s b=>if b==10 then (s.1++[s.2],[]) else (s.1,s.2++[b])) ([],[])
def Jag (ls:List (List UInt8)):List UInt8:=ls.flatMap fun l=>l++[10]
theorem Jpx:cutL []=([],[]):=rfl
theorem Jfc (l:List UInt8):cutL (l++[10])=((cutL l).1++[(cutL l).2],[]):=by unfold cutL;rw [List.foldl_append];rfl
theorem Jln (l:List UInt8) (b:UInt8) (h:b≠10):cutL (l++[b])=((cutL l).1,(cutL l).2++[b]):=by
 unfold cutL;rw [List.foldl_append];simp [h]
theorem Jlo:∀(n:Nat) (l:List UInt8),l.length=n→Jag (cutL l).1++(cutL l).2=l
 | 0,l,h=>by rw [List.length_eq_zero_iff.1 h];rfl
 | n+1,l,h=>by
  rcases List.eq_nil_or_concat l with rfl | ⟨q,b,rfl⟩
  ·simp at h
  ·rw [List.concat_eq_append] at *
   have ih:=Jlo n q (by simpa using h);by_cases hb:b=10
   ·subst hb
    rw [Jfc];conv=>rhs;rw [←ih]
    simp [Jag]
   ·rw [Jln q b hb]
    conv=>rhs;rw [←ih]
    simp
theorem Jfd:∀(l:List UInt8) (o:List (List UInt8)) (c:List UInt8),(∀b∈l,b≠10)→l.foldl (fun s b=>if b==10 then (s.1++[s.2],[]) else (s.1,s.2++[b])) (o,c)=(o,c++l)
 | [],_,_,_=>by simp
 | b::l,o,c,h=>by
  have hb:b≠10:=h b (by simp);have hb':(b==10)=false:=by simpa using hb
  rw [List.foldl_cons,hb'];have ih:=Jfd l o (c++[b]) (fun x hx=>h x (by simp [hx]));rw [List.append_assoc] at ih;exact ih
theorem Jlp:∀(ls:List (List UInt8)) (o:List (List UInt8)),(∀l∈ls,∀b∈l,b≠10)→(Jag ls).foldl (fun s b=>if b==10 then (s.1++[s.2],[]) else (s.1,s.2++[b])) (o,([]:List UInt8))=(o++ls,[])
 | [],o,_=>by simp [Jag]
 | l::ls,o,h=>by
  have e:Jag (l::ls)=l++10::Jag ls:=by simp [Jag]
  rw [e,List.foldl_append,Jfd l o [] (h l (by simp)),List.foldl_cons];have ih:=Jlp ls (o++[l]) (fun x hx=>h x (by simp [hx]));simp at ih ⊢;exact ih
theorem Jr3 (ls:List (List UInt8)) (h:∀l∈ls,∀b∈l,b≠10):cutL (Jag ls)=(ls,[]):=by
 have:=Jlp ls [] h;simpa [cutL] using this
theorem J0r (ls:List (List UInt8)) (h:ls≠[]):(Jag ls).getLast?=some 10:=by
 rcases List.eq_nil_or_concat ls with rfl | ⟨q,b,rfl⟩
 ·exact absurd rfl h
 ·simp [Jag,List.concat_eq_append]
def Jax:List (List UInt8)→List UInt8
 | []=>[]
 | x::l=>match l with
  | []=>Jai x
  | _::_=>Jai x++44::Jax l
def qend:List UInt8→Nat
 | []=>0
 | c::r=>if c=34 then 1 else if c=92 then (match r with
  | []=>1
  | _::q=>2+qend q) else 1+qend r
def endL:List UInt8→Nat
 | []=>0
 | c::r=>if c=34 then 1+qend r else ((c::r).takeWhile (· != 44)).length
def Jaw:Nat→List UInt8→List (List UInt8)×Int
 | 0,_=>([],5)
 | n+1,l=>match unq (l.take (endL l)) with
  | none=>([],3)
  | some f=>match l.drop (endL l) with
   | []=>([f],0)
   | c::r=>if c=44 then (if (Jaw n r).2=0 then (f::(Jaw n r).1,0) else ([],(Jaw n r).2)) else ([],3)
theorem Jnn (r:List UInt8):qend (34::r)=1:=by rw [qend.eq_def];simp
theorem Jjp (d:UInt8) (q:List UInt8):qend (92::d::q)=2+qend q:=by rw [qend.eq_def];simp
theorem Jdm (c:UInt8) (r:List UInt8) (h1:c≠34) (h2:c≠92):qend (c::r)=1+qend r:=by rw [qend.eq_def];simp [h1,h2]
theorem J0s (c:UInt8) (r:List UInt8):qend (esc c++r)=(esc c).length+qend r:=by
 have hh:∀n,n<16→hexD n≠34∧hexD n≠92:=by
  intro n h;have:=Jjo n h;constructor <;> (intro e;rw [e] at this;revert this;split <;> simp <;> omega)
 have hc:=c.toNat_lt;unfold esc;split
 ·have h1:=hh (c.toNat / 16) (by omega)
  have h2:=hh (c.toNat % 16) (by omega);show qend (92::120::hexD (c.toNat / 16)::hexD (c.toNat % 16)::r)=_
  rw [Jjp,Jdm _ _ h1.1 h1.2,Jdm _ _ h2.1 h2.2];simp;omega
 ·split
  ·show qend (92::c::r)=_
   rw [Jjp];simp
  ·next h2 =>
   simp at h2;show qend (c::r)=_
   rw [Jdm c r h2.1 h2.2];simp
theorem Jiq:∀(l r:List UInt8),qend (Ja5 l++34::r)=(Ja5 l).length+1
 | [],r=>by
  show qend (34::r)=0+1
  rw [Jnn]
 | c::l,r=>by
  have e:Ja5 (c::l)=esc c++Ja5 l:=by simp [Ja5]
  rw [e,List.append_assoc,J0s,Jiq l r,List.length_append];omega
theorem Jir {l:List UInt8} (h:Jbq l=true):∃c r,l=c::r∧c≠34:=by
 unfold Jbq at h;rw [Bool.and_eq_true,Bool.and_eq_true,Bool.and_eq_true] at h;have ha:=h.1.1.1;rw [List.all_eq_true] at ha;cases l with
 | nil=>simp at h
 | cons c r =>
  refine⟨c,r,rfl,?_⟩;have:=ha c (by simp);intro e;subst e;simp [pln] at this
theorem Jlq (x r:List UInt8) (hr:r=[]∨∃q,r=44::q):endL (Jai x++r)=(Jai x).length:=by
 unfold Jai;by_cases h:Jbq x=true
 ·rw [if_pos h]
  obtain⟨c,t,rfl,hc⟩:=Jir h;have hall:∀a∈c::t,(a != 44)=true:=by
   unfold Jbq at h;rw [Bool.and_eq_true,Bool.and_eq_true,Bool.and_eq_true] at h;have ha:=h.1.1.1;rw [List.all_eq_true] at ha;intro a hm;have:=ha a hm;simp only [bne_iff_ne];intro e;subst e;simp [pln] at this
  show endL (c::(t++r))=_
  rw [endL.eq_def];simp only [];rw [if_neg hc,←List.cons_append,List.takeWhile_append_of_pos hall];rcases hr with rfl | ⟨q,rfl⟩ <;> simp
 ·rw [if_neg h]
  show endL (34::(Ja5 x++[34]++r))=_
  rw [endL.eq_def];simp only [if_true];rw [List.append_assoc];show 1+qend (Ja5 x++34::r)=_
  rw [Jiq];simp;omega
theorem Jis:∀(l:List (List UInt8)) (n:Nat),l≠[]→l.length≤n→Jaw n (Jax l)=(l,0)
 | [],_,h,_=>absurd rfl h
 | [x],n+1,_,_=>by
  have e:=Jlq x [] (Or.inl rfl);rw [List.append_nil] at e;have e1:Jax [x]=Jai x:=rfl;rw [e1];unfold Jaw;rw [e,List.take_length,Jhk,List.drop_length]
 | x::y::l,n+1,_,h=>by
  have e:=Jlq x (44::Jax (y::l)) (Or.inr ⟨_,rfl⟩);have e1:Jax (x::y::l)=Jai x++44::Jax (y::l):=rfl;have ih:=Jis (y::l) n (by simp) (by simp at h ⊢;omega);rw [e1];unfold Jaw;rw [e,List.take_left' rfl,Jhk,List.drop_left' rfl];simp [ih]
theorem Jit:∀(n:Nat) (l:List UInt8) (o:List (List UInt8)),Jaw n l=(o,0)→Jax o=l∧o≠[]∧o.length≤n
 | 0,l,o,h=>by simp [Jaw] at h
 | n+1,l,o,h=>by
  unfold Jaw at h;cases hu:unq (l.take (endL l)) with
  | none=>rw [hu] at h;simp at h
  | some f =>
   rw [hu] at h;have hq:=Jlm _ _ hu;have ht:=List.take_append_drop (endL l) l;simp only [] at h;cases hd:l.drop (endL l) with
   | nil =>
    rw [hd] at h ht;simp at h;subst h;refine⟨?_,by simp,by simp⟩;rw [List.append_nil] at ht;show Jai f=l
    rw [hq,ht]
   | cons c r =>
    rw [hd] at h ht;simp only [] at h;split at h
    ·next hc =>
     split at h
     ·next he =>
      obtain⟨i1,i2,i3⟩:=Jit n r (Jaw n r).1 (by rw [←he]);have ho:=(Prod.mk.inj h).1;subst ho;refine⟨?_,by simp,by simp;omega⟩;have:Jax (f::(Jaw n r).1)=Jai f++44::Jax (Jaw n r).1:=by
       cases hs:(Jaw n r).1 with
       | nil=>exact absurd hs i2
       | cons _ _=>rfl
      rw [this,i1,hq,←hc];exact ht
     ·next he=>exact absurd (Prod.mk.inj h).2 he
    ·simp at h
theorem Jlr:∀(n:Nat) (l:List UInt8),(Jaw n l).2=0∨((Jaw n l).1=[]∧((Jaw n l).2=3∨(Jaw n l).2=5))
 | 0,l=>Or.inr ⟨rfl,Or.inr rfl⟩
 | n+1,l=>by
  unfold Jaw;split
  ·exact Or.inr ⟨rfl,Or.inl rfl⟩
  ·split
   ·exact Or.inl rfl
   ·next r _ =>
    split
    ·split
     ·exact Or.inl rfl
     ·next he =>
      rcases Jlr n r with h | h
      ·exact absurd h he
      ·exact Or.inr ⟨rfl,h.2⟩
    ·exact Or.inr ⟨rfl,Or.inl rfl⟩
abbrev Bs:=List UInt8
structure Fm where
 num:Bs→Int×Int
 prc:Bs→Int×Int
 tim:Bs→Int×Int
 dur:Bs→Int×Int
 day:Bs→Int×Int
 mds:Bs→Int×Int
 numT:Int→Bs
 prcT:Int→Bs
 timT:Int→Bs
 durT:Int→Bs
 dayT:Int→Bs
 mdsT:Int→Bs
structure FmOk (F:Fm):Prop where
 num:∀n,-9223372036854775808≤n→n≤9223372036854775807→F.num (F.numT n)=(n,0)
 prc:∀n,0≤n→n≤1000000→F.prc (F.prcT n)=(n,0)
 tim:∀n,0≤n→n≤172800→F.tim (F.timT n)=(n,0)
 dur:∀n,0≤n→n≤86400→F.dur (F.durT n)=(n,0)
 day:∀n,0≤n→n≤36524→F.day (F.dayT n)=(n,0)
 mds:∀n,0≤n→n≤255→F.mds (F.mdsT n)=(n,0)
def wSt:Bs:=[115,116,111,112]
def wRo:Bs:=[114,111,117,116,101]
def wCa:Bs:=[99,97,108,101,110,100,97,114]
def wEx:Bs:=[101,120,99,101,112,116,105,111,110]
def wTr:Bs:=[116,114,105,112]
def wFr:Bs:=[102,114,101,113,117,101,110,99,121]
def wTh:Bs:=[116,104,114,111,117,103,104]
def wGu:Bs:=[103,117,97,114,97,110,116,101,101]
def wPa:Bs:=[112,97,116,104]
def wPr:Bs:=[112,114,111,100,117,99,116]
def wCc:Bs:=[99,97,108,108]
def wFa:Bs:=[102,97,114,101,115]
def kinds:List Bs:=[wSt,wRo,wCa,wEx,wTr,wFr,wTh,wGu,wPa,wPr,wCc,wFa]
def cnts:List Nat:=[5,4,5,4,5,5,3,4,5,7,5,4]
def wYes:Bs:=[121,101,115]
def wNo:Bs:=[110,111]
def wAdd:Bs:=[97,100,100,101,100]
def wRem:Bs:=[114,101,109,111,118,101,100]
def Jno:Bs:=[110,111,110,101]
def Jhl:Bs:=[98,111,97,114,100]
def Jey:Bs:=[97,108,105,103,104,116]
def Jnp:Bs:=[98,111,116,104]
def fnd (e:Int) (l:List Bs) (s:Bs):Int×Int:=match l.findIdx? (fun x=>decide (x=s)) with
 | some i=>((i:Int),0)
 | none=>(0,e)
def flg (s:Bs):Bool×Int:=(decide ((fnd 3 [wNo,wYes] s).1=1),(fnd 3 [wNo,wYes] s).2)
def wk (s:Bs):(Nat→Bool)×Int:=if s.length≠7 then (fun _=>false,3) else (fun i=>decide (s[i]?=some 49),if s.all (fun b=>b==48 || b==49) then 0 else 3)
def prm (s:Bs):Int×Int:=fnd 3 [Jno,Jhl,Jey,Jnp] s
def err:List Int→Int
 | []=>0
 | e::r=>if e=0 then err r else e
def flgT (b:Bool):Bs:=if b then wYes else wNo
def wkT (k:Nat→Bool):Bs:=[if k 0 then 49 else 48,if k 1 then 49 else 48,if k 2 then 49 else 48,if k 3 then 49 else 48,if k 4 then 49 else 48,if k 5 then 49 else 48,if k 6 then 49 else 48]
def prmT (b a:Bool):Bs:=if b&&a then Jnp else if b then Jhl else if a then Jey else Jno
theorem J90 {e:Int} {l:List Bs} (h:l.Nodup) {i:Nat} {s:Bs} (hs:l[i]?=some s):fnd e l s=((i:Int),0):=by
 have hi:=(List.getElem?_eq_some_iff.1 hs).1;have:l.findIdx? (fun x=>decide (x=s))=some i:=by
  rw [List.findIdx?_eq_some_iff_getElem];refine⟨hi,by simpa using (List.getElem?_eq_some_iff.1 hs).2,fun j hj=>?_⟩;simp only [Bool.not_eq_true,decide_eq_false_iff_not];intro e;have h2:=(List.getElem?_eq_some_iff.1 hs).2;exact List.pairwise_iff_getElem.1 h j i (Nat.lt_trans hj hi) hi hj (e.trans h2.symm)
 unfold fnd;rw [this]
def atI (l:List Bs) (i:Int):Bs:=l.getD i.toNat []
structure Rd where
 T:Tt
 ln:List (List Int)
 fa:Int
 cl:Bool
def T0:Tt:=⟨[],[],[],[],[],[],[],[],[],[],0,0,0⟩
def R0:Rd:=⟨T0,[[],[],[],[],[],[],[],[],[],[]],0,false⟩
def Ja8 (T:Tt):List Bs:=T.st.map fun x=>x.1
def Jcc (T:Tt):List Bs:=T.ro.map fun x=>x.1
def Jbn (T:Tt):List Bs:=T.ca.map fun x=>x.1
def Jbh (T:Tt):List Bs:=T.tr.map fun x=>x.1
def putC (c:Cl) (x:Tp):Tp:=(x.1,x.2.1,x.2.2.1,x.2.2.2.1,x.2.2.2.2.1,x.2.2.2.2.2++[c])
def addC (c:Cl):List Tp→List Tp
 | []=>[]
 | [x]=>[putC c x]
 | x::y::r=>x::addC c (y::r)
theorem Jls (c:Cl) (x:Tp):∀l:List Tp,addC c (l++[x])=l++[putC c x]
 | []=>rfl
 | [y]=>rfl
 | y::z::r=>by
  show y::addC c ((z::r)++[x])=_
  rw [Jls c x (z::r)];rfl
def addR (F:Fm) (T:Tt) (k:Nat) (f:List Bs):Int×Tt:=match k,f with
 | 0,[_,i,z,s,c]=>(err [(F.num z).2,(flg s).2,(F.num c).2],{ T with st:=T.st++[(i,(F.num z).1,(flg s).1,(F.num c).1)] })
 | 1,[_,i,m,b]=>(err [(fnd 3 nmL m).2,(flg b).2],{ T with ro:=T.ro++[(i,(fnd 3 nmL m).1,(flg b).1)] })
 | 2,[_,i,w,a,b]=>(err [(wk w).2,(F.day a).2,(F.day b).2],{ T with ca:=T.ca++[(i,(wk w).1,(F.day a).1,(F.day b).1)] })
 | 3,[_,c,d,a]=>(err [(fnd 9 (Jbn T) c).2,(F.day d).2,(fnd 3 [wRem,wAdd] a).2],{ T with ex:=T.ex++[((fnd 9 (Jbn T) c).1,(F.day d).1,decide ((fnd 3 [wRem,wAdd] a).1=1))] })
 | 4,[_,i,r,c,s]=>(err [(fnd 9 (Jcc T) r).2,(fnd 9 (Jbn T) c).2,(flg s).2],{ T with tr:=T.tr++[(i,(fnd 9 (Jcc T) r).1,(fnd 9 (Jbn T) c).1,(flg s).1,.slice none 0 0,[])] })
 | 5,[_,t,a,b,e]=>(err [(fnd 9 (Jbh T) t).2,(F.tim a).2,(F.tim b).2,(F.dur e).2],{ T with fr:=T.fr++[((fnd 9 (Jbh T) t).1,(F.tim a).1,(F.tim b).1,(F.dur e).1)] })
 | 6,[_,a,b]=>(err [(fnd 9 (Jbh T) a).2,(fnd 9 (Jbh T) b).2],{ T with th:=T.th++[((fnd 9 (Jbh T) a).1,(fnd 9 (Jbh T) b).1)] })
 | 7,[_,a,b,s]=>(err [(fnd 9 (Jbh T) a).2,(fnd 9 (Jbh T) b).2,(fnd 9 (Ja8 T) s).2],{ T with gu:=T.gu++[((fnd 9 (Jbh T) a).1,(fnd 9 (Jbh T) b).1,(fnd 9 (Ja8 T) s).1)] })
 | 8,[_,a,b,d,s]=>(err [(fnd 9 (Ja8 T) a).2,(fnd 9 (Ja8 T) b).2,(F.dur d).2,(flg s).2],{ T with pa:=T.pa++[((fnd 9 (Ja8 T) a).1,(fnd 9 (Ja8 T) b).1,(F.dur d).1,(flg s).1)] })
 | 9,[_,i,p,r,z,s,m]=>(err [(F.prc p).2,(F.num r).2,(F.num z).2,(F.dur s).2,(F.mds m).2],{ T with pr:=T.pr++[(i,(F.prc p).1,(F.num r).1,(F.num z).1,(F.dur s).1,(F.mds m).1)] })
 | 10,[_,s,a,d,p]=>(err [(fnd 9 (Ja8 T) s).2,(F.tim a).2,(F.tim d).2,(prm p).2],{ T with tr:=addC ((fnd 9 (Ja8 T) s).1,(F.tim a).1,(F.tim d).1,decide ((prm p).1=1∨(prm p).1=3),decide (2≤(prm p).1)) T.tr })
 | 11,[_,d,w,c]=>(err [(F.prc d).2,(F.dur w).2,(F.prc c).2],{ T with di:=(F.prc d).1,wi:=(F.dur w).1,cp:=(F.prc c).1 })
 | _,_=>(0,T)
def kind (s:Bs):Nat:=kinds.findIdx (fun x=>decide (x=s))
def rcd (F:Fm) (r:Rd) (f:List Bs) (n:Int):Int×Rd :=
 let k:=kind (f.headD [])
 if k=12 then (41,r) else if f.length≠cnts.getD k 0 then (1,r) else if k=10∧r.cl=false then (8,r) else if k=11∧0<r.fa then (6,r)
 else ((addR F r.T k f).1,⟨(addR F r.T k f).2,if k<10 then r.ln.modify k (·++[n]) else r.ln,if k=11 then n else r.fa,decide (k=4∨k=10)⟩)
def splR (l:Bs):List Bs×Int:=if 65536<l.length then ([],5) else if l=[] then ([],0) else Jaw 64 l
def ign (x:Bs):Bool:=x.isEmpty || x.head?==some 35
def oneR (F:Fm) (r:Rd) (x:Bs) (n:Int):Int×Rd:=if ign x then (0,r) else if (splR x).2≠0 then ((splR x).2,r) else rcd F r (splR x).1 n
def goR (F:Fm):List Bs→Int→Rd→Int×Int×Rd
 | [],_,r=>(0,0,r)
 | x::l,n,r=>if (oneR F r x n).1≠0 then (n,(oneR F r x n).1,(oneR F r x n).2) else goR F l (n+1) (oneR F r x n).2
def whr (r:Rd) (p i:Int):Int:=if i<0∨((r.ln.getD p.toNat []).length:Int)≤i then r.fa else (r.ln.getD p.toNat []).getD i.toNat 0
def linR (l:Bs):List Bs×Int:=if 65536<l.length then ([],5) else if l=[] then ([],0) else if l[l.length - 1]?=some 10 then ((cutL l).1,0) else ([],4)
def Jbe (F:Fm) (s:Bs):Tt×Int×Int :=
 if (linR s).2≠0 then (T0,0,(linR s).2)
 else if (goR F (linR s).1 1 R0).2.1≠0 then (T0,(goR F (linR s).1 1 R0).1,(goR F (linR s).1 1 R0).2.1)
 else if (ttC (goR F (linR s).1 1 R0).2.2.T).2.2≠0 then (T0,whr (goR F (linR s).1 1 R0).2.2 (ttC (goR F (linR s).1 1 R0).2.2.T).1 (ttC (goR F (linR s).1 1 R0).2.2.T).2.1,(ttC (goR F (linR s).1 1 R0).2.2.T).2.2)
 else ((goR F (linR s).1 1 R0).2.2.T,0,0)
def rSt (F:Fm) (x:S13.St):List Bs:=[wSt,x.1,F.numT x.2.1,flgT x.2.2.1,F.numT x.2.2.2]
def rRo (x:Rt):List Bs:=[wRo,x.1,atI nmL x.2.1,flgT x.2.2]
def rCa (F:Fm) (x:S14.Cl):List Bs:=[wCa,x.1,wkT x.2.1,F.dayT x.2.2.1,F.dayT x.2.2.2]
def rEx (F:Fm) (T:Tt) (x:S14.Ex):List Bs:=[wEx,atI (Jbn T) x.1,F.dayT x.2.1,if x.2.2 then wAdd else wRem]
def rTr (T:Tt) (x:Tp):List Bs:=[wTr,x.1,atI (Jcc T) x.2.1,atI (Jbn T) x.2.2.1,flgT x.2.2.2.1]
def rCc (F:Fm) (T:Tt) (c:Cl):List Bs:=[wCc,atI (Ja8 T) c.1,F.timT c.2.1,F.timT c.2.2.1,prmT c.2.2.2.1 c.2.2.2.2]
def bTr (F:Fm) (T:Tt) (x:Tp):List (List Bs):=rTr T x::(clT x).map (rCc F T)
def rFr (F:Fm) (T:Tt) (x:Fq):List Bs:=[wFr,atI (Jbh T) x.1,F.timT x.2.1,F.timT x.2.2.1,F.durT x.2.2.2]
def rTh (T:Tt) (x:S19.Th):List Bs:=[wTh,atI (Jbh T) x.1,atI (Jbh T) x.2]
def rGu (T:Tt) (x:S19.Gt):List Bs:=[wGu,atI (Jbh T) x.1,atI (Jbh T) x.2.1,atI (Ja8 T) x.2.2]
def rPa (F:Fm) (T:Tt) (x:S20.Fp):List Bs:=[wPa,atI (Ja8 T) x.1,atI (Ja8 T) x.2.1,F.durT x.2.2.1,flgT x.2.2.2]
def rFa (F:Fm) (T:Tt):List (List Bs):=if T.di≠0∨T.wi≠0∨T.cp≠0 then [[wFa,F.prcT T.di,F.durT T.wi,F.prcT T.cp]] else []
def rPr (F:Fm) (x:S21.Pd):List Bs:=[wPr,x.1,F.prcT x.2.1,F.numT x.2.2.1,F.numT x.2.2.2.1,F.durT x.2.2.2.2.1,F.mdsT x.2.2.2.2.2]
def rows (F:Fm) (T:Tt):List (List Bs) :=
 T.st.map (rSt F)++(T.ro.map rRo++(T.ca.map (rCa F)++(T.ex.map (rEx F T)++(T.tr.flatMap (bTr F T)++(T.fr.map (rFr F T)++(T.th.map (rTh T)++(T.gu.map (rGu T)++(T.pa.map (rPa F T)++(rFa F T++T.pr.map (rPr F))))))))))
def Jnq (F:Fm) (T:Tt):Bs:=Jag ((rows F T).map Jax)
def feedF (F:Fm) (T:Tt):Bs×Int:=if (ttC T).2.2≠0 then ([],(ttC T).2.2) else if 65536<(Jnq F T).length then ([],5) else (Jnq F T,0)
structure Val (T:Tt):Prop where
 st:∀x∈T.st,(-9223372036854775808≤x.2.1∧x.2.1≤9223372036854775807)∧-9223372036854775808≤x.2.2.2∧x.2.2.2≤9223372036854775807
 ist:(Ja8 T).Nodup
 ro:∀x∈T.ro,0≤x.2.1∧x.2.1<8
 iro:(Jcc T).Nodup
 ca:∀x∈T.ca,(0≤x.2.2.1∧x.2.2.1≤36524)∧0≤x.2.2.2∧x.2.2.2≤36524
 ica:(Jbn T).Nodup
 ex:∀x∈T.ex,(0≤x.1∧x.1<T.ca.length)∧0≤x.2.1∧x.2.1≤36524
 tr:∀x∈T.tr,(0≤x.2.1∧x.2.1<T.ro.length)∧0≤x.2.2.1∧x.2.2.1<T.ca.length
 itr:(Jbh T).Nodup
 cc:∀x∈T.tr,∀c∈clT x,(0≤c.1∧c.1<T.st.length)∧(0≤c.2.1∧c.2.1≤172800)∧0≤c.2.2.1∧c.2.2.1≤172800
 fr:∀x∈T.fr,(0≤x.1∧x.1<T.tr.length)∧(0≤x.2.1∧x.2.1≤172800)∧(0≤x.2.2.1∧x.2.2.1≤172800)∧0≤x.2.2.2∧x.2.2.2≤86400
 th:∀x∈T.th,(0≤x.1∧x.1<T.tr.length)∧0≤x.2∧x.2<T.tr.length
 gu:∀x∈T.gu,(0≤x.1∧x.1<T.tr.length)∧(0≤x.2.1∧x.2.1<T.tr.length)∧0≤x.2.2∧x.2.2<T.st.length
 pa:∀x∈T.pa,(0≤x.1∧x.1<T.st.length)∧(0≤x.2.1∧x.2.1<T.st.length)∧0≤x.2.2.1∧x.2.2.1≤86400
 pr:∀x∈T.pr,(0≤x.2.1∧x.2.1≤1000000)∧(-9223372036854775808≤x.2.2.1∧x.2.2.1≤9223372036854775807)∧(-9223372036854775808≤x.2.2.2.1∧x.2.2.2.1≤9223372036854775807)∧(0≤x.2.2.2.2.1∧x.2.2.2.2.1≤86400)∧0≤x.2.2.2.2.2∧x.2.2.2.2.2≤255
 fa:(0≤T.di∧T.di≤1000000)∧(0≤T.wi∧T.wi≤86400)∧0≤T.cp∧T.cp≤1000000
theorem Jnr:∀k∈kinds,Jai k=k∧∃c q,k=c::q∧c≠35:=by
 intro k h;simp only [kinds,List.mem_cons,List.not_mem_nil,or_false] at h;rcases h with rfl | rfl | rfl | rfl | rfl | rfl | rfl | rfl | rfl | rfl | rfl | rfl
 all_goals exact⟨by decide,_,_,rfl,by decide⟩
theorem Jv4 (x:Bs) (l:List Bs):∃t,Jax (x::l)=Jai x++t:=by
 cases l with
 | nil=>exact⟨[],by rw [List.append_nil];rfl⟩
 | cons y l=>exact⟨_,rfl⟩
theorem J6t {fs:List Bs} {k:Bs} {rest:List Bs} (hf:fs=k::rest) (hk:k∈kinds) (hl:fs.length≤64) (h65:(Jax fs).length≤65536):ign (Jax fs)=false∧splR (Jax fs)=(fs,0):=by
 obtain⟨hq,c,q,hc,h35⟩:=Jnr k hk;obtain⟨t,ht⟩:=Jv4 k rest;have e:Jax fs=c::(q++t):=by rw [hf,ht,hq,hc];rfl
 constructor
 ·unfold ign
  rw [e];simpa using h35
 ·unfold splR
  rw [if_neg (by omega),if_neg (by rw [e];simp),Jis fs 64 (by rw [hf];simp) hl]
theorem J91 (F:Fm) (r:Rd) (fs:List Bs) (n:Int) (k:Nat) (hk:kind (fs.headD [])=k) (h12:k≠12) (hl:fs.length=cnts.getD k 0) (h10:k=10→r.cl=true) (h11:k=11→r.fa=0) :
  rcd F r fs n=((addR F r.T k fs).1,⟨(addR F r.T k fs).2,if k<10 then r.ln.modify k (·++[n]) else r.ln,if k=11 then n else r.fa,decide (k=4∨k=10)⟩):=by
 unfold rcd;simp only [hk];rw [if_neg h12,if_neg (fun h=>h hl),if_neg (fun h=>by rw [h10 h.1] at h;exact absurd h.2 (by simp)),if_neg (fun h=>by rw [h11 h.1] at h;exact absurd h.2 (by decide))]
theorem step {F:Fm} {r:Rd} {fs:List Bs} (n:Int) (k:Nat) {w:Bs} {rest:List Bs} (hf:fs=w::rest) (hw:w∈kinds) (hk:kind w=k) (h12:k≠12) (hl:fs.length=cnts.getD k 0) (h64:cnts.getD k 0≤64) (h65:(Jax fs).length≤65536) (h10:k=10→r.cl=true) (h11:k=11→r.fa=0) {T':Tt} (ha:addR F r.T k fs=(0,T')) :
  ∃r',oneR F r (Jax fs) n=(0,r')∧r'.T=T'∧r'.fa=(if k=11 then n else r.fa)∧r'.cl=decide (k=4∨k=10):=by
 obtain⟨h1,h2⟩:=J6t hf hw (by omega) h65;refine⟨⟨T',if k<10 then r.ln.modify k (·++[n]) else r.ln,if k=11 then n else r.fa,decide (k=4∨k=10)⟩,?_,rfl,rfl,rfl⟩;unfold oneR;rw [h1,h2,if_neg (by simp),if_neg (by simp),J91 F r fs n k (by rw [hf];exact hk) h12 hl h10 h11,ha]
section
variable {F:Fm} (ok:FmOk F) {T:Tt} (v:Val T) (hlen:∀f∈rows F T,(Jax f).length≤65536)
include ok v hlen
omit ok in
omit ok in
omit ok in
end
section
variable {α:Type} {e:α→α→Bool} {l m:List α}
def eqB (e:α→α→Bool) (l m:List α):Bool:=decide (l.length=m.length)&&(List.range l.length).all fun i=>match l[i]?,m[i]? with
 | some x,some y=>e x y
 | _,_=>false
theorem Jec (h:l.length≠m.length):eqB e l m=false:=by unfold eqB;rw [decide_eq_false h];rfl
theorem Jb1 {k:Nat} {x y:α} (hx:l[k]?=some x) (hy:m[k]?=some y) (h:e x y=false):eqB e l m=false:=by
 unfold eqB;rw [Bool.and_eq_false_iff];right
 rw [List.all_eq_false];exact⟨k,List.mem_range.2 (List.getElem?_eq_some_iff.1 hx).1,by rw [hx,hy];simp [h]⟩
theorem Jdn (hl:l.length=m.length) (h:∀(j:Nat) x y,j<l.length→l[j]?=some x→m[j]?=some y→e x y=true):eqB e l m=true:=by
 unfold eqB;rw [decide_eq_true hl,Bool.true_and,List.all_eq_true];intro j hj;have hj:=List.mem_range.1 hj;obtain⟨x,hx⟩:=Jao hj;obtain⟨y,hy⟩:=Jao (show j<m.length by omega);rw [hx,hy];exact h j x y hj hx hy
theorem Jcr (h:∀x,e x x=true):eqB e l l=true:=Jdn rfl fun j x y _ hx hy=>by
 rw [hx] at hy;cases hy
 exact h x
theorem Jc1 {k:Nat} {x y:α} (h:∀(j:Nat) x y,j<k→l[j]?=some x→m[j]?=some y→e x y=true) (hx:l[k]?=some x) (hy:m[k]?=some y) (he:e x y=true):∀(j:Nat) x y,j<k+1→l[j]?=some x→m[j]?=some y→e x y=true:=by
 intro j x' y' hj hx' hy';by_cases g:j=k
 ·subst g
  rw [hx] at hx';rw [hy] at hy';cases hx'
  cases hy'
  exact he
 ·exact h j x' y' (by omega) hx' hy'
end
def eSt (x y:S13.St):Bool:=decide (x=y)
def eRo (x y:Rt):Bool:=decide (x=y)
def eCa (x y:S14.Cl):Bool:=decide (x.1=y.1∧(x.2.1 0=y.2.1 0∧x.2.1 1=y.2.1 1∧x.2.1 2=y.2.1 2∧x.2.1 3=y.2.1 3∧x.2.1 4=y.2.1 4∧x.2.1 5=y.2.1 5∧x.2.1 6=y.2.1 6)∧x.2.2.1=y.2.2.1∧x.2.2.2=y.2.2.2)
def eEx (x y:S14.Ex):Bool:=decide (x=y)
def eCc (x y:Cl):Bool:=decide (x=y)
def eTr (x y:Tp):Bool:=decide (x.1=y.1∧x.2.1=y.2.1∧x.2.2.1=y.2.2.1∧x.2.2.2.1=y.2.2.2.1)&&eqB eCc (clT x) (clT y)
def eFr (x y:Fq):Bool:=decide (x=y)
def eTh (x y:S19.Th):Bool:=decide (x=y)
def eGu (x y:S19.Gt):Bool:=decide (x=y)
def ePa (x y:S20.Fp):Bool:=decide (x=y)
def ePr (x y:S21.Pd):Bool:=decide (x=y)
def hdT (T U:Tt):Bool:=eqB eSt T.st U.st&&(eqB eRo T.ro U.ro&&(eqB eCa T.ca U.ca&&eqB eEx T.ex U.ex))
def tlT (T U:Tt):Bool:=eqB eFr T.fr U.fr&&(eqB eTh T.th U.th&&(eqB eGu T.gu U.gu&&(eqB ePa T.pa U.pa&&eqB ePr T.pr U.pr)))
def eqT (T U:Tt):Bool:=hdT T U&&(eqB eTr T.tr U.tr&&(tlT T U&&decide (T.di=U.di∧T.wi=U.wi∧T.cp=U.cp)))
theorem eSt_r (x:S13.St):eSt x x=true:=decide_eq_true rfl
theorem eRo_r (x:Rt):eRo x x=true:=decide_eq_true rfl
theorem eCa_r (x:S14.Cl):eCa x x=true:=decide_eq_true ⟨rfl,⟨rfl,rfl,rfl,rfl,rfl,rfl,rfl⟩,rfl,rfl⟩
theorem eEx_r (x:S14.Ex):eEx x x=true:=decide_eq_true rfl
theorem J6u (x:Cl):eCc x x=true:=decide_eq_true rfl
theorem eTr_r (x:Tp):eTr x x=true:=by unfold eTr;rw [decide_eq_true ⟨rfl,rfl,rfl,rfl⟩,Jcr J6u];rfl
theorem eFr_r (x:Fq):eFr x x=true:=decide_eq_true rfl
theorem eTh_r (x:S19.Th):eTh x x=true:=decide_eq_true rfl
theorem eGu_r (x:S19.Gt):eGu x x=true:=decide_eq_true rfl
theorem ePa_r (x:S20.Fp):ePa x x=true:=decide_eq_true rfl
theorem ePr_r (x:S21.Pd):ePr x x=true:=decide_eq_true rfl
theorem J0t (T:Tt):eqT T T=true:=by
 unfold eqT hdT tlT;rw [Jcr eSt_r,Jcr eRo_r,Jcr eCa_r,Jcr eEx_r,Jcr eTr_r,Jcr eFr_r,Jcr eTh_r,Jcr eGu_r,Jcr ePa_r,Jcr ePr_r,decide_eq_true ⟨rfl,rfl,rfl⟩];rfl
theorem Jv5 {κ α:Type} {bad:List κ→α→Int} {key:α→κ} {l:List α} (h:(fbF bad key [] 0 l).2=0) {j:Nat} {x:α} (hx:l[j]?=some x):bad ((l.take j).map key) x=0:=by
 have:=Ju2 l [] 0 h j x hx;rwa [List.nil_append] at this
theorem Jc2 {κ α:Type} {bad:List κ→α→Int} {key:α→κ} {l:List α} (h:(fbF bad key [] 0 l).2=0) {x:α} (hx:x∈l):∃seen,bad seen x=0:=by
 obtain⟨j,hj⟩:=List.mem_iff_getElem?.1 hx;exact⟨_,Jv5 h hj⟩
theorem Jg2 {κ α:Type} {bad:List κ→α→Int} {key:α→κ} {l:List α} (h:(fbF bad key [] 0 l).2=0) (hb:∀seen x,bad seen x=0→key x ∉ seen):(l.map key).Nodup:=by
 refine List.pairwise_iff_getElem.2 fun i j hi hj hij e=>?_
 simp only [List.length_map] at hi hj;have h1:=hb _ _ (Jv5 h (List.getElem?_eq_getElem hj));simp only [List.getElem_map] at e;apply h1
 rw [←e];exact List.mem_map.2 ⟨l[i],List.mem_take_iff_getElem.2 ⟨i,by omega,rfl⟩,rfl⟩
theorem Jjq:∀(l:List S13.St) (seen:List Bs) (k:Nat),S13.chkF seen k l=fbF S13.badS (fun x=>x.1) seen k l
 | [],_,_=>rfl
 | x::l,seen,k=>by
  unfold S13.chkF fbF;rw [Jjq l]
theorem J3x {st lo hi:Int} {c:Cl}:∀(l:List Cl) (p:Option Cl) (k:Nat),(ckF st lo hi p k l).2=0→c∈l→∃q,badC st lo hi q c=0
 | [],_,_,_,h=>by cases h
 | x::l,p,k,hz,h=>by
  unfold ckF at hz;by_cases hb:badC st lo hi p x=0
  ·rw [if_pos hb] at hz
   rcases List.mem_cons.1 h with rfl | hm
   ·exact⟨p,hb⟩
   ·exact J3x l _ _ hz hm
  ·rw [if_neg hb] at hz
   exact absurd hz hb
theorem J0u {st lo hi:Int} {p:Option Cl} {x:Cl} (h:badC st lo hi p x=0):(0≤x.1∧x.1<st)∧lo≤x.2.1∧x.2.1≤x.2.2.1∧x.2.2.1≤hi:=by
 unfold badC at h;split at h
 ·omega
 split at h
 ·omega
 split at h
 ·omega
 ·omega
theorem J3y {T:Tt} (h:(ttC T).2.2=0):Val T:=by
 have hp:=(Jvz T).1 h;have h0:(S13.chkT T.st).2=0:=hp 0 (by omega);have h1:(chkR T.ro).2=0:=hp 1 (by omega);have h2:(S14.chkC T.ca).2=0:=hp 2 (by omega);have h3:(S14.chkX T.ca.length T.ex).2=0:=hp 3 (by omega);have h4:(S17.chkT T.st.length T.ro.length T.ca.length T.tr).2=0:=hp 4 (by omega);have h5:(chkF (T.tr.map clT) T.fr).2=0:=hp 5 (by omega);have h6:(S19.chkH (T.tr.map S19.tcT) T.fr T.th).2=0:=hp 6 (by omega);have h7:(S19.chkU (T.tr.map S19.tcT) T.fr T.st.length T.gu).2=0:=hp 7 (by omega);have h8:(S20.chkP T.st.length T.pa).2=0:=hp 8 (by omega);have h9:(S21.chkPd T.di T.wi T.cp T.pr).2=0:=hp 9 (by omega);unfold S13.chkT at h0;unfold chkR at h1;unfold S14.chkC at h2;unfold S14.chkX at h3;unfold S17.chkT at h4;unfold S19.chkH at h6;unfold S19.chkU at h7;unfold S20.chkP S20.vldP at h8;unfold S21.chkPd at h9;split at h0
 ·simp at h0
 split at h1
 ·simp at h1
 split at h2
 ·simp at h2
 split at h3
 ·simp at h3
 split at h4
 ·simp at h4
 split at h6
 ·simp at h6
 split at h7
 ·simp at h7
 split at h8
 ·simp at h8
 split at h9
 ·simp at h9
 split at h9
 ·simp at h9
 rw [Jjq] at h0;next hfa _ =>
 have hfa:=Decidable.not_not.1 hfa;refine⟨fun x hx=>?_,?_,fun x hx=>?_,?_,fun x hx=>?_,?_,fun x hx=>?_,fun x hx=>?_,?_,fun x hx c hc=>?_,fun x hx=>?_,fun x hx=>?_,fun x hx=>?_,fun x hx=>?_,fun x hx=>?_,?_⟩
 ·obtain⟨s,hb⟩:=Jc2 h0 hx
  unfold S13.badS at hb;split at hb
  ·simp at hb
  split at hb
  ·simp at hb
  split at hb
  ·simp at hb
  ·next hf=>unfold S13.farS at hf;omega
 ·refine Jg2 h0 fun s x hb=>?_
  unfold S13.badS at hb;split at hb
  ·simp at hb
  split at hb
  ·simp at hb
  ·next hf=>exact hf
 ·obtain⟨s,hb⟩:=Jc2 h1 hx
  unfold badR at hb;split at hb
  ·simp at hb
  split at hb
  ·simp at hb
  split at hb
  ·next hf=>exact hf
  ·simp at hb
 ·refine Jg2 (key:=idR) h1 fun s x hb=>?_
  unfold badR at hb;split at hb
  ·simp at hb
  split at hb
  ·simp at hb
  ·next hf=>exact hf
 ·obtain⟨s,hb⟩:=Jc2 h2 hx
  unfold S14.badC at hb;split at hb
  ·simp at hb
  split at hb
  ·simp at hb
  split at hb
  ·next hf=>exact⟨hf.1,hf.2.1⟩
  ·simp at hb
 ·refine Jg2 (key:=S14.idC) h2 fun s x hb=>?_
  unfold S14.badC at hb;split at hb
  ·simp at hb
  split at hb
  ·simp at hb
  ·next hf=>exact hf
 ·obtain⟨s,hb⟩:=Jc2 h3 hx
  unfold S14.badX at hb;split at hb
  ·simp at hb
  next hr =>
  split at hb
  ·simp at hb
  next hd =>
  exact⟨by omega,Decidable.not_not.1 hd⟩
 ·obtain⟨s,hb⟩:=Jc2 h4 hx
  unfold S17.badT at hb;split at hb
  ·simp at hb
  split at hb
  ·simp at hb
  split at hb
  ·next hr=>exact hr
  ·simp at hb
 ·refine Jg2 (key:=S17.idT) h4 fun s x hb=>?_
  unfold S17.badT at hb;split at hb
  ·simp at hb
  split at hb
  ·simp at hb
  ·next hf=>exact hf
 ·obtain⟨s,hb⟩:=Jc2 h4 hx
  unfold S17.badT at hb;split at hb
  ·simp at hb
  split at hb
  ·simp at hb
  split at hb
  ·unfold chkC at hb
   split at hb
   ·simp at hb
   ·obtain⟨q,hq⟩:=J3x _ _ _ hb hc
    obtain⟨c0,c1,c2,c3⟩:=J0u hq;exact⟨c0,⟨c1,by omega⟩,by omega,c3⟩
  ·simp at hb
 ·obtain⟨j,hj⟩:=List.mem_iff_getElem?.1 hx
  obtain⟨g0,g1,-⟩:=Ju0 (Jz5 h5 j x hj);obtain⟨t,a,b,e⟩:=x;rw [List.length_map] at g0;obtain⟨s0,s1,s2,s3,s4⟩:=Jf3.1 g1;exact⟨g0,⟨s0,Int.le_trans (Int.le_of_lt s1) s2⟩,⟨Int.le_trans s0 (Int.le_of_lt s1),s2⟩,Int.le_trans (by decide) s3,s4⟩
 ·obtain⟨s,hb⟩:=Jc2 h6 hx
  unfold S19.thE at hb;split at hb
  ·next hf=>exact absurd hb hf
  next hf =>
  have hf:=Decidable.not_not.1 hf;unfold S19.prE at hf;rw [List.length_map] at hf;split at hf
  ·simp at hf
  ·omega
 ·obtain⟨s,hb⟩:=Jc2 h7 hx
  unfold S19.guE at hb;split at hb
  ·simp at hb
  next hs =>
  split at hb
  ·next hf=>exact absurd hb hf
  next hf =>
  have hf:=Decidable.not_not.1 hf;unfold S19.prE at hf;rw [List.length_map] at hf;split at hf
  ·simp at hf
  ·omega
 ·obtain⟨s,hb⟩:=Jc2 h8 hx
  unfold S20.badP at hb;split at hb
  ·simp at hb
  split at hb
  ·simp at hb
  ·omega
 ·obtain⟨s,hb⟩:=Jc2 h9 hx
  unfold S21.badPd at hb;split at hb
  ·simp at hb
  split at hb
  ·simp at hb
  split at hb
  ·next hf=>obtain⟨k0,k1,k2,k3,k4⟩:=hf;exact⟨k0,by omega,by omega,k3,by omega,by omega⟩
  ·simp at hb
 ·exact hfa
theorem Jlt:∀(l:List Bs) (b:UInt8),b∈Jax l→b≠10
 | [],b,h=>by cases h
 | x::l,b,h=>by
  have hq:∀b∈Jai x,b≠10:=fun b hb e=>by
   have:=List.all_eq_true.1 (Jv3 x) b hb;subst e;simp [ctl] at this
  cases l with
  | nil=>exact hq b h
  | cons y l =>
   have e:Jax (x::y::l)=Jai x++44::Jax (y::l):=rfl;rw [e,List.mem_append,List.mem_cons] at h;rcases h with h | h | h
   ·exact hq b h
   ·subst h;decide
   ·exact Jlt (y::l) b h
theorem Jgn {ls:List Bs} {x:Bs} (h:x∈ls):x.length≤(Jag ls).length:=by
 induction ls with
 | nil=>cases h
 | cons y l ih =>
  have e:Jag (y::l)=y++[10]++Jag l:=rfl;rw [e,List.length_append,List.length_append];rcases List.mem_cons.1 h with rfl | h
  ·omega
  ·have:=ih h;omega
theorem J0v {ls:List Bs} (h:∀l∈ls,∀b∈l,b≠10) (hl:(Jag ls).length≤65536):linR (Jag ls)=(ls,0):=by
 unfold linR;rw [if_neg (by omega)];by_cases h0:ls=[]
 ·subst h0;rfl
 ·have he:=J0r ls h0
  rw [List.getLast?_eq_getElem?] at he;rw [if_neg (fun e=>by rw [e] at he;cases he),if_pos he,Jr3 ls h]
def lenP (T:Tt):Nat→Nat
 | 0=>T.st.length
 | 1=>T.ro.length
 | 2=>T.ca.length
 | 3=>T.ex.length
 | 4=>T.tr.length
 | 5=>T.fr.length
 | 6=>T.th.length
 | 7=>T.gu.length
 | 8=>T.pa.length
 | 9=>T.pr.length
 | _=>0
theorem Jpy (c:Cl):∀l:List Tp,(addC c l).length=l.length
 | []=>rfl
 | [_]=>rfl
 | x::y::r=>by show (addC c (y::r)).length+1=_;rw [Jpy c (y::r)];rfl
theorem J6v {α:Type} {l:List α} (h:l.length=3):∃a b c,l=[a,b,c]:=by
 match l,h with
 | [a,b,c],_=>exact⟨a,b,c,rfl⟩
theorem four {α:Type} {l:List α} (h:l.length=4):∃a b c d,l=[a,b,c,d]:=by
 match l,h with
 | [a,b,c,d],_=>exact⟨a,b,c,d,rfl⟩
theorem five {α:Type} {l:List α} (h:l.length=5):∃a b c d e,l=[a,b,c,d,e]:=by
 match l,h with
 | [a,b,c,d,e],_=>exact⟨a,b,c,d,e,rfl⟩
theorem J6w {α:Type} {l:List α} (h:l.length=7):∃a b c d e f g,l=[a,b,c,d,e,f,g]:=by
 match l,h with
 | [a,b,c,d,e,f,g],_=>exact⟨a,b,c,d,e,f,g,rfl⟩
theorem Jns (F:Fm) (T:Tt) (k:Nat) (hk:k<12) (f:List Bs) (hf:f.length=cnts.getD k 0):(∀p,p<10→lenP (addR F T k f).2 p=lenP T p+(if p=k then 1 else 0))∧(k≠11→(addR F T k f).2.di=T.di∧(addR F T k f).2.wi=T.wi∧(addR F T k f).2.cp=T.cp):=by
 have P:∀{U:Tt} (k:Nat),lenP U 0=lenP T 0+(if 0=k then 1 else 0)→lenP U 1=lenP T 1+(if 1=k then 1 else 0)→lenP U 2=lenP T 2+(if 2=k then 1 else 0)→lenP U 3=lenP T 3+(if 3=k then 1 else 0)→lenP U 4=lenP T 4+(if 4=k then 1 else 0)→lenP U 5=lenP T 5+(if 5=k then 1 else 0)→lenP U 6=lenP T 6+(if 6=k then 1 else 0)→lenP U 7=lenP T 7+(if 7=k then 1 else 0)→lenP U 8=lenP T 8+(if 8=k then 1 else 0)→lenP U 9=lenP T 9+(if 9=k then 1 else 0)→∀p,p<10→lenP U p=lenP T p+(if p=k then 1 else 0):=by
  intro U k h0 h1 h2 h3 h4 h5 h6 h7 h8 h9 p hp;match p,hp with
  | 0,_=>exact h0
  | 1,_=>exact h1
  | 2,_=>exact h2
  | 3,_=>exact h3
  | 4,_=>exact h4
  | 5,_=>exact h5
  | 6,_=>exact h6
  | 7,_=>exact h7
  | 8,_=>exact h8
  | 9,_=>exact h9
  | n+10,h=>omega
 match k,hk with
 | 0,_=>obtain⟨a,b,c,d,e,rfl⟩:=five hf;exact⟨P 0 (List.length_append) rfl rfl rfl rfl rfl rfl rfl rfl rfl,fun _=>⟨rfl,rfl,rfl⟩⟩
 | 1,_=>obtain⟨a,b,c,d,rfl⟩:=four hf;exact⟨P 1 rfl (List.length_append) rfl rfl rfl rfl rfl rfl rfl rfl,fun _=>⟨rfl,rfl,rfl⟩⟩
 | 2,_=>obtain⟨a,b,c,d,e,rfl⟩:=five hf;exact⟨P 2 rfl rfl (List.length_append) rfl rfl rfl rfl rfl rfl rfl,fun _=>⟨rfl,rfl,rfl⟩⟩
 | 3,_=>obtain⟨a,b,c,d,rfl⟩:=four hf;exact⟨P 3 rfl rfl rfl (List.length_append) rfl rfl rfl rfl rfl rfl,fun _=>⟨rfl,rfl,rfl⟩⟩
 | 4,_=>obtain⟨a,b,c,d,e,rfl⟩:=five hf;exact⟨P 4 rfl rfl rfl rfl (List.length_append) rfl rfl rfl rfl rfl,fun _=>⟨rfl,rfl,rfl⟩⟩
 | 5,_=>obtain⟨a,b,c,d,e,rfl⟩:=five hf;exact⟨P 5 rfl rfl rfl rfl rfl (List.length_append) rfl rfl rfl rfl,fun _=>⟨rfl,rfl,rfl⟩⟩
 | 6,_=>obtain⟨a,b,c,rfl⟩:=J6v hf;exact⟨P 6 rfl rfl rfl rfl rfl rfl (List.length_append) rfl rfl rfl,fun _=>⟨rfl,rfl,rfl⟩⟩
 | 7,_=>obtain⟨a,b,c,d,rfl⟩:=four hf;exact⟨P 7 rfl rfl rfl rfl rfl rfl rfl (List.length_append) rfl rfl,fun _=>⟨rfl,rfl,rfl⟩⟩
 | 8,_=>obtain⟨a,b,c,d,e,rfl⟩:=five hf;exact⟨P 8 rfl rfl rfl rfl rfl rfl rfl rfl (List.length_append) rfl,fun _=>⟨rfl,rfl,rfl⟩⟩
 | 9,_=>obtain⟨a,b,c,d,e,f,g,rfl⟩:=J6w hf;exact⟨P 9 rfl rfl rfl rfl rfl rfl rfl rfl rfl (List.length_append),fun _=>⟨rfl,rfl,rfl⟩⟩
 | 10,_=>obtain⟨a,b,c,d,e,rfl⟩:=five hf;exact⟨P 10 rfl rfl rfl rfl (Jpy _ _) rfl rfl rfl rfl rfl,fun _=>⟨rfl,rfl,rfl⟩⟩
 | 11,_=>obtain⟨a,b,c,d,rfl⟩:=four hf;exact⟨P 11 rfl rfl rfl rfl rfl rfl rfl rfl rfl rfl,fun h=>absurd rfl h⟩
 | n+12,h=>omega
def Okl (ls:List Bs) (j:Int):Prop:=1≤j∧∃x,ls[(j - 1).toNat]?=some x∧ign x=false
structure Inv (ls:List Bs) (r:Rd) (n:Int):Prop where
 ln:∀p,p<10→∀j∈r.ln.getD p [],Okl ls j∧j<n
 fa:r.fa=0∨(Okl ls r.fa∧r.fa<n)
 no:r.fa=0→r.T.di=0∧r.T.wi=0∧r.T.cp=0
 ten:r.ln.length=10
 len:∀p,p<10→(r.ln.getD p []).length=lenP r.T p
theorem Inv.start (ls:List Bs):Inv ls R0 1:=by
 refine⟨fun p hp j hj=>?_,.inl rfl,fun _=>⟨rfl,rfl,rfl⟩,rfl,fun p hp=>?_⟩
 ·match p,hp with
  | 0,_ | 1,_ | 2,_ | 3,_ | 4,_ | 5,_ | 6,_ | 7,_ | 8,_ | 9,_=>cases hj
  | n+10,h=>omega
 ·match p,hp with
  | 0,_ | 1,_ | 2,_ | 3,_ | 4,_ | 5,_ | 6,_ | 7,_ | 8,_ | 9,_=>rfl
  | n+10,h=>omega
theorem Jf6 (s:Bs):kind s≤12:=List.findIdx_le_length
theorem Jpz (l:List (List Int)) (k p:Nat) (n:Int) (hk:k<l.length):(l.modify k (·++[n])).getD p []=if p=k then l.getD p []++[n] else l.getD p []:=by
 rw [List.getD_eq_getElem?_getD,List.getElem?_modify,List.getD_eq_getElem?_getD];by_cases e:k=p
 ·subst e
  rw [if_pos rfl,List.getElem?_eq_getElem hk];simp
 ·rw [if_neg (fun h=>e h.symm)]
  cases l[p]? <;> simp [e]
theorem Inv.on {F:Fm} {ls:List Bs} {r:Rd} {n:Int} (h:Inv ls r n) (hn:1≤n) {x:Bs} (hx:ls[(n - 1).toNat]?=some x) {r':Rd} (h1:oneR F r x n=(0,r')):Inv ls r' (n+1):=by
 unfold oneR at h1;by_cases hi:ign x=true
 ·rw [if_pos hi] at h1
  have e:r=r':=by simpa using h1
  subst e;exact⟨fun p hp j hj=>⟨(h.ln p hp j hj).1,by have:=(h.ln p hp j hj).2;omega⟩,h.fa.imp id fun q=>⟨q.1,by have:=q.2;omega⟩,h.no,h.ten,h.len⟩
 rw [if_neg hi] at h1;have hok:Okl ls n:=⟨hn,x,hx,by simpa using hi⟩;split at h1
 ·next hs=>exact absurd (congrArg Prod.fst h1) hs
 have kl:=Jf6 ((splR x).1.headD []);unfold rcd at h1;simp only at h1;generalize kind ((splR x).1.headD [])=k at h1 kl;generalize (splR x).1=f at h1;split at h1
 ·exact absurd (congrArg Prod.fst h1) (by simp)
 next h12 =>
 split at h1
 ·exact absurd (congrArg Prod.fst h1) (by simp)
 next hl =>
 split at h1
 ·exact absurd (congrArg Prod.fst h1) (by simp)
 split at h1
 ·exact absurd (congrArg Prod.fst h1) (by simp)
 next h11 =>
 obtain⟨a0,a1⟩:=Jns F r.T k (by omega) f (Decidable.not_not.1 hl);have e:=(congrArg Prod.snd h1).symm;simp only at e;subst e;have hln:∀p,(if k<10 then r.ln.modify k (·++[n]) else r.ln).getD p []=if p=k∧k<10 then r.ln.getD p []++[n] else r.ln.getD p []:=by
  intro p;by_cases hk:k<10
  ·rw [if_pos hk,Jpz _ _ _ _ (by rw [h.ten];exact hk)]
   by_cases e:p=k
   ·rw [if_pos e,if_pos ⟨e,hk⟩]
   ·rw [if_neg e,if_neg (fun q=>e q.1)]
  ·rw [if_neg hk,if_neg (fun q=>hk q.2)]
 refine⟨fun p hp j hj=>?_,?_,fun h0=>?_,?_,fun p hp=>?_⟩
 ·rw [hln] at hj
  split at hj
  ·rcases List.mem_append.1 hj with hj | hj
   ·exact⟨(h.ln p hp j hj).1,by have:=(h.ln p hp j hj).2;omega⟩
   ·have e:j=n:=by simpa using hj
    subst e;exact⟨hok,by omega⟩
  ·exact⟨(h.ln p hp j hj).1,by have:=(h.ln p hp j hj).2;omega⟩
 ·show (if k=11 then n else r.fa)=0∨(Okl ls (if k=11 then n else r.fa)∧(if k=11 then n else r.fa)<n+1)
  by_cases e:k=11
  ·rw [if_pos e];exact .inr ⟨hok,by omega⟩
  ·rw [if_neg e];exact h.fa.imp id fun q=>⟨q.1,by have:=q.2;omega⟩
 ·by_cases e:k=11
  ·have h0:(if k=11 then n else r.fa)=0:=h0
   rw [if_pos e] at h0;omega
  ·have h0:(if k=11 then n else r.fa)=0:=h0
   rw [if_neg e] at h0;obtain⟨b0,b1,b2⟩:=a1 e;obtain⟨c0,c1,c2⟩:=h.no h0;exact⟨b0.trans c0,b1.trans c1,b2.trans c2⟩
 ·show (if k<10 then r.ln.modify k (·++[n]) else r.ln).length=10
  split
  ·rw [List.length_modify];exact h.ten
  ·exact h.ten
 ·show ((if k<10 then r.ln.modify k (·++[n]) else r.ln).getD p []).length=lenP (addR F r.T k f).2 p
  rw [hln,a0 p hp];by_cases e:p=k
  ·rw [if_pos ⟨e,by omega⟩,if_pos e,List.length_append,h.len p hp];rfl
  ·rw [if_neg (fun q=>e q.1),if_neg e,h.len p hp];rfl
theorem Jv6 {F:Fm} {ls:List Bs}:∀(B:List Bs) (n:Int) (r:Rd),Inv ls r n→1≤n→ls.drop (n - 1).toNat=B →
  ((goR F B n r).2.1=0∧(goR F B n r).1=0∧Inv ls (goR F B n r).2.2 (n+B.length))∨((goR F B n r).2.1≠0∧Okl ls (goR F B n r).1∧(goR F B n r).1<n+B.length)
 | [],n,r,h,_,_=>.inl ⟨rfl,rfl,by simpa [goR] using h⟩
 | x::B,n,r,h,hn,hd=>by
  have hx:ls[(n - 1).toNat]?=some x:=by
   have:=congrArg (fun l:List Bs=>l[0]?) hd;simpa using this
  unfold goR;by_cases h0:(oneR F r x n).1=0
  ·rw [if_neg (fun k=>k h0)]
   have hi:=h.on (F:=F) hn hx (r':=(oneR F r x n).2) (by rw [←h0]);have:=Jv6 (F:=F) B (n+1) _ hi (by omega) (by
    rw [show (n+1 - 1).toNat=(n - 1).toNat+1 by omega,←List.drop_drop,hd];rfl)
   rw [show n+((x::B).length:Int)=n+1+(B.length:Int) by simp;omega];exact this
  ·rw [if_pos h0]
   refine .inr ⟨h0,⟨hn,x,hx,?_⟩,by simp;omega⟩;cases hi:ign x with
   | false=>rfl
   | true =>
    unfold oneR at h0;rw [hi,if_pos rfl] at h0;exact absurd rfl h0
theorem J3z {κ α:Type} {bad:List κ→α→Int} {key:α→κ}:∀(l:List α) (seen:List κ) (k:Nat),(fbF bad key seen k l).2≠0→(k:Int)≤(fbF bad key seen k l).1∧(fbF bad key seen k l).1<k+l.length
 | [],_,_,h=>absurd rfl h
 | x::l,seen,k,h=>by
  unfold fbF at h ⊢;by_cases hb:bad seen x=0
  ·rw [if_pos hb] at h ⊢
   obtain⟨h1,h2⟩:=J3z l _ _ h;simp only [List.length_cons];omega
  ·rw [if_neg hb]
   simp only [List.length_cons];omega
theorem Jdf {κ α:Type} {bad:List κ→α→Int} {key:α→κ} {l:List α} {N:Nat} (h:(if N<l.length then ((0,5):Int×Int) else fbF bad key [] 0 l).2≠0):0≤(if N<l.length then ((0,5):Int×Int) else fbF bad key [] 0 l).1∧(if N<l.length then ((0,5):Int×Int) else fbF bad key [] 0 l).1<l.length:=by
 by_cases hn:N<l.length
 ·rw [if_pos hn]
  exact⟨by decide,by show (0:Int)<_;omega⟩
 ·rw [if_neg hn] at h ⊢
  have:=J3z l [] 0 h;simpa using this
theorem Jp0 (T:Tt) (p:Nat) (h:(Jav T p).2≠0):(0≤(Jav T p).1∧(Jav T p).1<lenP T p)∨(p=9∧(Jav T p).1=-1∧¬(T.di=0∧T.wi=0∧T.cp=0)):=by
 match p,h with
 | 0,h =>
  left
  have e:Jav T 0=if 64<T.st.length then ((0,5):Int×Int) else fbF S13.badS (fun x=>x.1) [] 0 T.st:=by
   show S13.chkT T.st=_
   unfold S13.chkT;rw [Jjq]
  rw [e] at h ⊢;exact Jdf h
 | 1,h=>exact .inl (Jdf h)
 | 2,h=>exact .inl (Jdf h)
 | 3,h=>exact .inl (Jdf h)
 | 4,h=>exact .inl (Jdf h)
 | 5,h=>exact .inl (Jdf h)
 | 6,h=>exact .inl (Jdf h)
 | 7,h=>exact .inl (Jdf h)
 | 8,h=>exact .inl (Jdf h)
 | 9,h =>
  have e:Jav T 9=S21.chkPd T.di T.wi T.cp T.pr:=rfl;rw [e] at h ⊢;unfold S21.chkPd at h ⊢;by_cases hf:S21.okFa T.di T.wi T.cp
  ·rw [if_neg (fun k=>k hf)] at h ⊢
   exact .inl (Jdf h)
  ·rw [if_pos hf]
   exact .inr ⟨rfl,rfl,fun k=>hf (by rw [k.1,k.2.1,k.2.2];decide)⟩
 | n+10,h=>exact absurd rfl h
theorem Jv7 {P:Nat→Int×Int}:∀(n k:Nat),(ttF P k n).2.2≠0→∃p,k≤p∧p<k+n∧ttF P k n=((p:Int),(P p).1,(P p).2)∧(P p).2≠0
 | 0,_,h=>absurd rfl h
 | n+1,k,h=>by
  by_cases hp:(P k).2=0
  ·rw [Jnm hp] at h ⊢
   obtain⟨p,h1,h2,h3,h4⟩:=Jv7 n (k+1) h;exact⟨p,by omega,by omega,h3,h4⟩
  ·exact⟨k,Nat.le_refl _,by omega,Jnl hp,hp⟩
theorem J92 {ls:List Bs} {r:Rd} {n:Int} (h:Inv ls r n) (hc:(ttC r.T).2.2≠0):Okl ls (whr r (ttC r.T).1 (ttC r.T).2.1)∧whr r (ttC r.T).1 (ttC r.T).2.1<n:=by
 obtain⟨p,-,hp,e,hne⟩:=Jv7 10 0 hc;have hp:p<10:=by omega
 have e:ttC r.T=((p:Int),(Jav r.T p).1,(Jav r.T p).2):=e;rw [e];show Okl ls (whr r (p:Int) (Jav r.T p).1)∧whr r (p:Int) (Jav r.T p).1<n
 unfold whr;rw [Int.toNat_natCast,h.len p hp];rcases Jp0 r.T p hne with ⟨h0,h1⟩ | ⟨h9,hm,hz⟩
 ·rw [if_neg (by omega)]
  have hi:(Jav r.T p).1.toNat<(r.ln.getD p []).length:=by rw [h.len p hp];omega
  have hmem:(r.ln.getD p []).getD (Jav r.T p).1.toNat 0∈r.ln.getD p []:=by
   rw [List.getD_eq_getElem?_getD (l:=r.ln.getD p []),List.getElem?_eq_getElem hi];exact List.getElem_mem hi
  exact h.ln p hp _ hmem
 ·rw [hm,if_pos (.inl (by decide))]
  rcases h.fa with h0 | h0
  ·exact absurd (h.no h0) hz
  ·exact h0
theorem Jv8 {F:Fm} {s:Bs} (hl:(linR s).2=0):((Jbe F s).2.2=0→(Jbe F s).2.1=0)∧((Jbe F s).2.2≠0→Okl (linR s).1 (Jbe F s).2.1):=by
 have I:=Jv6 (F:=F) (linR s).1 1 R0 (Inv.start _) (by omega) rfl;unfold Jbe;rw [if_neg (fun k=>k hl)];by_cases h0:(goR F (linR s).1 1 R0).2.1=0
 ·rw [if_neg (fun k=>k h0)]
  rcases I with ⟨-,-,I⟩ | ⟨k,-⟩
  ·by_cases hc:(ttC (goR F (linR s).1 1 R0).2.2.T).2.2=0
   ·rw [if_neg (fun k=>k hc)]
    exact⟨fun _=>rfl,fun k=>absurd rfl k⟩
   ·rw [if_pos hc]
    exact⟨fun k=>absurd k hc,fun _=>(J92 I hc).1⟩
  ·exact absurd h0 k
 ·rw [if_pos h0]
  rcases I with ⟨k,-,-⟩ | ⟨-,k,-⟩
  ·exact absurd k h0
  ·exact⟨fun q=>absurd q h0,fun _=>k⟩
def sh (m k:Int):Int:=if m<k then k+1 else k
def shR (m:Int) (r:Rd):Rd:=⟨r.T,r.ln.map fun l=>l.map (sh m),sh m r.fa,r.cl⟩
theorem Jv9 (m n:Int):∀(l:List (List Int)) (k:Nat),(l.modify k (·++[n])).map (fun l=>l.map (sh m))=(l.map fun l=>l.map (sh m)).modify k (·++[sh m n])
 | [],k=>by cases k <;> rfl
 | x::l,0=>by simp [List.modify_zero_cons]
 | x::l,k+1=>by
  rw [List.modify_succ_cons,List.map_cons,List.map_cons,List.modify_succ_cons,Jv9 m n l k]
theorem J30 {m k:Int} (hm:0≤m):0<sh m k↔0<k:=by unfold sh;split <;> omega
theorem J93 {F:Fm} {m:Int} (hm:0≤m) (r:Rd) (x:Bs) (n:Int):oneR F (shR m r) x (sh m n)=((oneR F r x n).1,shR m (oneR F r x n).2):=by
 unfold oneR;by_cases hi:ign x=true
 ·rw [if_pos hi,if_pos hi]
 rw [if_neg hi,if_neg hi];by_cases hs:(splR x).2≠0
 ·rw [if_pos hs,if_pos hs]
 rw [if_neg hs,if_neg hs];unfold rcd;simp only;generalize kind ((splR x).1.headD [])=k;generalize (splR x).1=f;by_cases h1:k=12
 ·rw [if_pos h1,if_pos h1]
 rw [if_neg h1,if_neg h1];by_cases h2:f.length≠cnts.getD k 0
 ·rw [if_pos h2,if_pos h2]
 rw [if_neg h2,if_neg h2];by_cases h3:k=10∧r.cl=false
 ·rw [if_pos h3,if_pos (show k=10∧(shR m r).cl=false from h3)]
 rw [if_neg h3,if_neg (show ¬(k=10∧(shR m r).cl=false) from h3)];by_cases h4:k=11∧0<r.fa
 ·rw [if_pos h4,if_pos (show k=11∧0<(shR m r).fa from ⟨h4.1,(J30 hm).2 h4.2⟩)]
 rw [if_neg h4,if_neg (show ¬(k=11∧0<(shR m r).fa) from fun q=>h4 ⟨q.1,(J30 hm).1 q.2⟩)];show ((addR F r.T k f).1,_)=((addR F r.T k f).1,_)
 congr 1
 unfold shR;simp only;congr 1
 ·by_cases h5:k<10
  ·rw [if_pos h5,if_pos h5,Jv9]
  ·rw [if_neg h5,if_neg h5]
 ·by_cases h5:k=11
  ·rw [if_pos h5,if_pos h5]
  ·rw [if_neg h5,if_neg h5]
theorem J94 {F:Fm} {m:Int} (hm:0≤m):∀(B:List Bs) (n:Int) (r:Rd),m<n→goR F B (n+1) (shR m r)=(sh m (goR F B n r).1,(goR F B n r).2.1,shR m (goR F B n r).2.2)
 | [],n,r,_=>by
  unfold goR;rw [show sh m 0=0 from if_neg (by omega)]
 | x::B,n,r,h=>by
  have e:=J93 (F:=F) hm r x n;rw [show sh m n=n+1 from if_pos h] at e;unfold goR;rw [e];simp only;by_cases h0:(oneR F r x n).1=0
  ·rw [if_neg (fun k=>k h0),if_neg (fun k=>k h0)]
   exact J94 hm B (n+1) _ (by omega)
  ·rw [if_pos h0,if_pos h0,show sh m n=n+1 from if_pos h]
theorem Jfe (F:Fm) (x:Bs) (l:List Bs) (n:Int) (r:Rd):goR F (x::l) n r=if (oneR F r x n).1≠0 then (n,(oneR F r x n).1,(oneR F r x n).2) else goR F l (n+1) (oneR F r x n).2:=rfl
theorem Jwa {F:Fm} {B:List Bs}:∀(A:List Bs) (n:Int) (r:Rd),goR F (A++B) n r=if (goR F A n r).2.1≠0 then goR F A n r else goR F B (n+A.length) (goR F A n r).2.2
 | [],n,r=>by simp [goR]
 | x::A,n,r=>by
  have e:=Jfe F x A n r;rw [List.cons_append,Jfe];by_cases h0:(oneR F r x n).1=0
  ·rw [if_neg (fun k=>k h0)] at e ⊢
   rw [e,Jwa A (n+1),show n+1+(A.length:Int)=n+((x::A).length:Int) by simp;omega]
  ·rw [if_pos h0] at e ⊢
   rw [e,if_pos h0]
theorem J95 {ls:List Bs} {r:Rd} {m:Int} (hm:0≤m) (h:Inv ls r (m+1)):shR m r=r:=by
 obtain⟨T,ln,fa,cl⟩:=r;have e1:sh m fa=fa:=by
  rcases h.fa with h0 | h0
  ·have h0:fa=0:=h0
   rw [h0];exact if_neg (by omega)
  ·have:=h0.2
   exact if_neg (by show ¬m<fa;have:fa<m+1:=this;omega)
 have e2:(ln.map fun l=>l.map (sh m))=ln:=by
  apply List.ext_getElem?
  intro p;rw [List.getElem?_map];cases hp:ln[p]? with
  | none=>rfl
  | some l =>
   have hp10:p<10:=by have:=(List.getElem?_eq_some_iff.1 hp).1;have ht:ln.length=10:=h.ten;omega
   simp only [Option.map_some,Option.some.injEq];have hl:ln.getD p []=l:=by rw [List.getD_eq_getElem?_getD,hp];rfl
   have hall:=h.ln p hp10;have hall:∀j∈ln.getD p [],Okl ls j∧j<m+1:=hall;rw [hl] at hall;refine (List.map_congr_left (g:=fun j=>j) fun j hj=>?_).trans (List.map_id' l);have:=(hall j hj).2;exact if_neg (by omega)
 unfold shR;simp only [e1,e2]
theorem J96 {m:Int} (r:Rd) (p i:Int):whr (shR m r) p i=sh m (whr r p i):=by
 have e:(shR m r).ln.getD p.toNat []=(r.ln.getD p.toNat []).map (sh m):=by
  unfold shR;simp only [List.getD_eq_getElem?_getD,List.getElem?_map];cases r.ln[p.toNat]? <;> rfl
 unfold whr;rw [e,List.length_map];generalize r.ln.getD p.toNat []=l;by_cases h:i<0∨(l.length:Int)≤i
 ·rw [if_pos h,if_pos h];rfl
 ·rw [if_neg h,if_neg h]
  have hi:i.toNat<l.length:=by omega
  simp only [List.getD_eq_getElem?_getD,List.getElem?_map,List.getElem?_eq_getElem hi];rfl
def Jiu (F:Fm) (ls:List Bs):Tt×Int×Int :=
 if (goR F ls 1 R0).2.1≠0 then (T0,(goR F ls 1 R0).1,(goR F ls 1 R0).2.1)
 else if (ttC (goR F ls 1 R0).2.2.T).2.2≠0 then (T0,whr (goR F ls 1 R0).2.2 (ttC (goR F ls 1 R0).2.2.T).1 (ttC (goR F ls 1 R0).2.2.T).2.1,(ttC (goR F ls 1 R0).2.2.T).2.2)
 else ((goR F ls 1 R0).2.2.T,0,0)
theorem Jhm {F:Fm} {s:Bs} (h:(linR s).2=0):Jbe F s=Jiu F (linR s).1:=by
 unfold Jbe;rw [if_neg (fun k=>k h)];rfl
theorem Jwb (F:Fm) (A B:List Bs) (x:Bs) (hx:ign x=true):Jiu F (A++x::B)=((Jiu F (A++B)).1,sh A.length (Jiu F (A++B)).2.1,(Jiu F (A++B)).2.2):=by
 have hm:(0:Int)≤A.length:=by omega
 have s0:sh A.length 0=0:=if_neg (by omega);have I:=Jv6 (F:=F) (ls:=A) A 1 R0 (Inv.start _) (by omega) rfl;have e:goR F (A++x::B) 1 R0=(sh A.length (goR F (A++B) 1 R0).1,(goR F (A++B) 1 R0).2.1,if (goR F (A++B) 1 R0).2.1=0 then shR A.length (goR F (A++B) 1 R0).2.2 else (goR F (A++x::B) 1 R0).2.2):=by
  rw [Jwa A,Jwa A];rcases I with ⟨h0,h1,I⟩ | ⟨h0,-,h1⟩
  ·rw [if_neg (fun k=>k h0),if_neg (fun k=>k h0)]
   rw [show (1:Int)+(A.length:Int)=(A.length:Int)+1 by omega] at I ⊢;have ex:goR F (x::B) ((A.length:Int)+1) (goR F A 1 R0).2.2=goR F B ((A.length:Int)+1+1) (goR F A 1 R0).2.2:=by
    conv=>lhs;unfold goR
    have:oneR F (goR F A 1 R0).2.2 x ((A.length:Int)+1)=(0,(goR F A 1 R0).2.2):=by unfold oneR;rw [if_pos hx]
    rw [this,if_neg (by simp)]
   rw [ex];have g:=J94 (F:=F) hm B ((A.length:Int)+1) (goR F A 1 R0).2.2 (by omega);rw [J95 hm I] at g;rw [g];simp only;split
   ·rfl
   ·rfl
  ·rw [if_pos h0,if_pos h0,if_neg h0]
   have:sh (A.length:Int) (goR F A 1 R0).1=(goR F A 1 R0).1:=if_neg (by omega);rw [this]
 unfold Jiu;generalize goR F (A++B) 1 R0=q at e;generalize goR F (A++x::B) 1 R0=q' at e;obtain⟨a,er,r⟩:=q;obtain⟨a',er',r'⟩:=q';simp only [Prod.mk.injEq] at e ⊢;obtain⟨rfl,rfl,er⟩:=e;by_cases h0:er'=0
 ·subst h0
  rw [if_pos rfl] at er;subst er;simp only [ne_eq,not_true_eq_false,if_false];show (if (ttC r.T).2.2≠0 then _ else _)=_
  by_cases hc:(ttC r.T).2.2≠0
  ·rw [if_pos hc,if_pos hc]
   show (T0,whr (shR A.length r) (ttC r.T).1 (ttC r.T).2.1,(ttC r.T).2.2)=_
   rw [J96]
  ·rw [if_neg hc,if_neg hc,s0]
   rfl
 ·simp only [ne_eq,h0,not_false_eq_true,if_true]
end
end Go.Proofs.YtpifdbphmnifdaaGreatDoor
