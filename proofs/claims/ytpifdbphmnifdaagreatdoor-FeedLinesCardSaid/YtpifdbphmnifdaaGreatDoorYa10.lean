/-
  Facts about the program that the statement's proof uses. Condition: none beyond each theorem's own hypotheses.
-/
import Derived.Lib.Strings
import Derived.Lib.ItoaNum
import Derived.Laws.RangeAny
import Derived.Test.YtpifdbphmnifdaaGreatDoorYa0
import Derived.Test.YtpifdbphmnifdaaGreatDoorYa9
set_option maxRecDepth 100000
set_option maxHeartbeats 8000000
namespace Go.Proofs.YtpifdbphmnifdaaGreatDoor
open Go
def cutL (l:List UInt8):List (List UInt8) × List UInt8:=l.foldl (fun s b=>if b == 10 then (s.1 ++ [s.2],[]) else (s.1,s.2 ++ [b])) ([],[])
def textL (ls:List (List UInt8)):List UInt8:=ls.flatMap fun l=>l ++ [10]
theorem cutL_nil:cutL [] = ([],[]):=rfl
theorem cutL_feed (l:List UInt8):cutL (l ++ [10]) = ((cutL l).1 ++ [(cutL l).2],[]):=by unfold cutL; rw [List.foldl_append]; rfl
theorem cutL_byte (l:List UInt8) (b:UInt8) (h:b≠10):cutL (l ++ [b]) = ((cutL l).1,(cutL l).2 ++ [b]):=by
 unfold cutL
 rw [List.foldl_append]
 simp [h]
theorem cutL_join:∀ (n:Nat) (l:List UInt8),l.length = n→textL (cutL l).1 ++ (cutL l).2 = l
 | 0,l,h=>by rw [List.length_eq_zero_iff.1 h]; rfl
 | n + 1,l,h=>by
  rcases List.eq_nil_or_concat l with rfl | ⟨q,b,rfl⟩
  ·simp at h
  ·rw [List.concat_eq_append] at *
   have ih:=cutL_join n q (by simpa using h)
   by_cases hb:b = 10
   ·subst hb
    rw [cutL_feed]
    conv=>rhs; rw [← ih]
    simp [textL]
   ·rw [cutL_byte q b hb]
    conv=>rhs; rw [← ih]
    simp
theorem cutL_line:∀ (l:List UInt8) (o:List (List UInt8)) (c:List UInt8),(∀ b∈l,b≠10)→l.foldl (fun s b=>if b == 10 then (s.1 ++ [s.2],[]) else (s.1,s.2 ++ [b])) (o,c) = (o,c ++ l)
 | [],_,_,_=>by simp
 | b :: l,o,c,h=>by
  have hb:b≠10:=h b (by simp)
  have hb':(b == 10) = false:=by simpa using hb
  rw [List.foldl_cons,hb']
  have ih:=cutL_line l o (c ++ [b]) (fun x hx=>h x (by simp [hx]))
  rw [List.append_assoc] at ih
  exact ih
def lineL:List (List UInt8)→List UInt8
 | []=>[]
 | x :: l=>match l with
  | []=>quoteL x
  | _ :: _=>quoteL x ++ 44 :: lineL l
def qend:List UInt8→Nat
 | []=>0
 | c :: r=>if c = 34 then 1 else if c = 92 then (match r with
  | []=>1
  | _ :: q=>2 + qend q) else 1 + qend r
def endL:List UInt8→Nat
 | []=>0
 | c :: r=>if c = 34 then 1 + qend r else ((c :: r).takeWhile (· != 44)).length
def splitL:Nat→List UInt8→List (List UInt8) × Int
 | 0,_=>([],5)
 | n + 1,l=>match unq (l.take (endL l)) with
  | none=>([],3)
  | some f=>match l.drop (endL l) with
   | []=>([f],0)
   | c :: r=>if c = 44 then (if (splitL n r).2 = 0 then (f :: (splitL n r).1,0) else ([],(splitL n r).2)) else ([],3)
theorem qend_34 (r:List UInt8):qend (34 :: r) = 1:=by rw [qend.eq_def]; simp
theorem qend_92 (d:UInt8) (q:List UInt8):qend (92 :: d :: q) = 2 + qend q:=by rw [qend.eq_def]; simp
theorem qend_other (c:UInt8) (r:List UInt8) (h1:c≠34) (h2:c≠92):qend (c :: r) = 1 + qend r:=by rw [qend.eq_def]; simp [h1,h2]
theorem qend_esc (c:UInt8) (r:List UInt8):qend (esc c ++ r) = (esc c).length + qend r:=by
 have hh:∀ n,n < 16→hexD n≠34∧hexD n≠92:=by
  intro n h
  have:=hexD_nat n h
  constructor <;> (intro e; rw [e] at this; revert this; split <;> simp <;> omega)
 have hc:=c.toNat_lt
 unfold esc
 split
 ·have h1:=hh (c.toNat / 16) (by omega)
  have h2:=hh (c.toNat % 16) (by omega)
  show qend (92 :: 120 :: hexD (c.toNat / 16) :: hexD (c.toNat % 16) :: r) = _
  rw [qend_92,qend_other _ _ h1.1 h1.2,qend_other _ _ h2.1 h2.2]
  simp
  omega
 ·split
  ·show qend (92 :: c :: r) = _
   rw [qend_92]
   simp
  ·next h2 =>
   simp at h2
   show qend (c :: r) = _
   rw [qend_other c r h2.1 h2.2]
   simp
theorem qend_inner:∀ (l r:List UInt8),qend (inner l ++ 34 :: r) = (inner l).length + 1
 | [],r=>by
  show qend (34 :: r) = 0 + 1
  rw [qend_34]
 | c :: l,r=>by
  have e:inner (c :: l) = esc c ++ inner l:=by simp [inner]
  rw [e,List.append_assoc,qend_esc,qend_inner l r,List.length_append]
  omega
theorem plain_head {l:List UInt8} (h:plainB l = true):∃ c r,l = c :: r∧c≠34:=by
 unfold plainB at h
 rw [Bool.and_eq_true,Bool.and_eq_true,Bool.and_eq_true] at h
 have ha:=h.1.1.1
 rw [List.all_eq_true] at ha
 cases l with
 | nil=>simp at h
 | cons c r =>
  refine ⟨c,r,rfl,?_⟩
  have:=ha c (by simp)
  intro e
  subst e
  simp [pln] at this
theorem end_quote (x r:List UInt8) (hr:r = []∨∃ q,r = 44 :: q):endL (quoteL x ++ r) = (quoteL x).length:=by
 unfold quoteL
 by_cases h:plainB x = true
 ·rw [if_pos h]
  obtain ⟨c,t,rfl,hc⟩:=plain_head h
  have hall:∀ a∈c :: t,(a != 44) = true:=by
   unfold plainB at h
   rw [Bool.and_eq_true,Bool.and_eq_true,Bool.and_eq_true] at h
   have ha:=h.1.1.1
   rw [List.all_eq_true] at ha
   intro a hm
   have:=ha a hm
   simp only [bne_iff_ne]
   intro e
   subst e
   simp [pln] at this
  show endL (c :: (t ++ r)) = _
  rw [endL.eq_def]
  simp only []
  rw [if_neg hc,← List.cons_append,List.takeWhile_append_of_pos hall]
  rcases hr with rfl | ⟨q,rfl⟩ <;> simp
 ·rw [if_neg h]
  show endL (34 :: (inner x ++ [34] ++ r)) = _
  rw [endL.eq_def]
  simp only [if_true]
  rw [List.append_assoc]
  show 1 + qend (inner x ++ 34 :: r) = _
  rw [qend_inner]
  simp
  omega
theorem split_line:∀ (l:List (List UInt8)) (n:Nat),l≠[]→l.length≤n→splitL n (lineL l) = (l,0)
 | [],_,h,_=>absurd rfl h
 | [x],n + 1,_,_=>by
  have e:=end_quote x [] (Or.inl rfl)
  rw [List.append_nil] at e
  have e1:lineL [x] = quoteL x:=rfl
  rw [e1]
  unfold splitL
  rw [e,List.take_length,unq_quote,List.drop_length]
 | x :: y :: l,n + 1,_,h=>by
  have e:=end_quote x (44 :: lineL (y :: l)) (Or.inr ⟨_,rfl⟩)
  have e1:lineL (x :: y :: l) = quoteL x ++ 44 :: lineL (y :: l):=rfl
  have ih:=split_line (y :: l) n (by simp) (by simp at h ⊢; omega)
  rw [e1]
  unfold splitL
  rw [e,List.take_left' rfl,unq_quote,List.drop_left' rfl]
  simp [ih]
theorem line_split:∀ (n:Nat) (l:List UInt8) (o:List (List UInt8)),splitL n l = (o,0)→lineL o = l∧o≠[]∧o.length≤n
 | 0,l,o,h=>by simp [splitL] at h
 | n + 1,l,o,h=>by
  unfold splitL at h
  cases hu:unq (l.take (endL l)) with
  | none=>rw [hu] at h; simp at h
  | some f =>
   rw [hu] at h
   have hq:=quote_unq _ _ hu
   have ht:=List.take_append_drop (endL l) l
   simp only [] at h
   cases hd:l.drop (endL l) with
   | nil =>
    rw [hd] at h ht
    simp at h
    subst h
    refine ⟨?_,by simp,by simp⟩
    rw [List.append_nil] at ht
    show quoteL f = l
    rw [hq,ht]
   | cons c r =>
    rw [hd] at h ht
    simp only [] at h
    split at h
    ·next hc =>
     split at h
     ·next he =>
      obtain ⟨i1,i2,i3⟩:=line_split n r (splitL n r).1 (by rw [← he])
      have ho:=(Prod.mk.inj h).1
      subst ho
      refine ⟨?_,by simp,by simp; omega⟩
      have:lineL (f :: (splitL n r).1) = quoteL f ++ 44 :: lineL (splitL n r).1:=by
       cases hs:(splitL n r).1 with
       | nil=>exact absurd hs i2
       | cons _ _=>rfl
      rw [this,i1,hq,← hc]
      exact ht
     ·next he=>exact absurd (Prod.mk.inj h).2 he
    ·simp at h
theorem split_err:∀ (n:Nat) (l:List UInt8),(splitL n l).2 = 0∨((splitL n l).1 = []∧((splitL n l).2 = 3∨(splitL n l).2 = 5))
 | 0,l=>Or.inr ⟨rfl,Or.inr rfl⟩
 | n + 1,l=>by
  unfold splitL
  split
  ·exact Or.inr ⟨rfl,Or.inl rfl⟩
  ·split
   ·exact Or.inl rfl
   ·next r _ =>
    split
    ·split
     ·exact Or.inl rfl
     ·next he =>
      rcases split_err n r with h | h
      ·exact absurd h he
      ·exact Or.inr ⟨rfl,h.2⟩
    ·exact Or.inr ⟨rfl,Or.inl rfl⟩
abbrev Bs:=List UInt8
structure Fm where
 num:Bs→Int × Int
 prc:Bs→Int × Int
 tim:Bs→Int × Int
 dur:Bs→Int × Int
 day:Bs→Int × Int
 mds:Bs→Int × Int
 numT:Int→Bs
 prcT:Int→Bs
 timT:Int→Bs
 durT:Int→Bs
 dayT:Int→Bs
 mdsT:Int→Bs
structure FmOk (F:Fm):Prop where
 num:∀ n,-9223372036854775808≤n→n≤9223372036854775807→F.num (F.numT n) = (n,0)
 prc:∀ n,0≤n→n≤1000000→F.prc (F.prcT n) = (n,0)
 tim:∀ n,0≤n→n≤172800→F.tim (F.timT n) = (n,0)
 dur:∀ n,0≤n→n≤86400→F.dur (F.durT n) = (n,0)
 day:∀ n,0≤n→n≤36524→F.day (F.dayT n) = (n,0)
 mds:∀ n,0≤n→n≤255→F.mds (F.mdsT n) = (n,0)
def wSt:Bs:=[115,116,111,112]
def wRo:Bs:=[114,111,117,116,101]
def wCa:Bs:=[99,97,108,101,110,100,97,114]
def wEx:Bs:=[101,120,99,101,112,116,105,111,110]
def wTr:Bs:=[116,114,105,112]
def wFr:Bs:=[102,114,101,113,117,101,110,99,121]
def wTh:Bs:=[116,104,114,111,117,103,104]
def wGu:Bs:=[103,117,97,114,97,110,116,101,101]
def wPa:Bs:=[112,97,116,104]
def wPr:Bs:=[112,114,111,100,117,99,116]
def wCc:Bs:=[99,97,108,108]
def wFa:Bs:=[102,97,114,101,115]
def kinds:List Bs:=[wSt,wRo,wCa,wEx,wTr,wFr,wTh,wGu,wPa,wPr,wCc,wFa]
def cnts:List Nat:=[5,4,5,4,5,5,3,4,5,7,5,4]
def wYes:Bs:=[121,101,115]
def wNo:Bs:=[110,111]
def wAdd:Bs:=[97,100,100,101,100]
def wRem:Bs:=[114,101,109,111,118,101,100]
def wNone:Bs:=[110,111,110,101]
def wBoard:Bs:=[98,111,97,114,100]
def wAlight:Bs:=[97,108,105,103,104,116]
def wBoth:Bs:=[98,111,116,104]
def fnd (e:Int) (l:List Bs) (s:Bs):Int × Int:=match l.findIdx? (fun x=>decide (x = s)) with
 | some i=>((i:Int),0)
 | none=>(0,e)
def flg (s:Bs):Bool × Int:=(decide ((fnd 3 [wNo,wYes] s).1 = 1),(fnd 3 [wNo,wYes] s).2)
def wk (s:Bs):(Nat→Bool) × Int:=if s.length≠7 then (fun _=>false,3) else (fun i=>decide (s[i]? = some 49),if s.all (fun b=>b == 48 || b == 49) then 0 else 3)
def prm (s:Bs):Int × Int:=fnd 3 [wNone,wBoard,wAlight,wBoth] s
def err:List Int→Int
 | []=>0
 | e :: r=>if e = 0 then err r else e
def flgT (b:Bool):Bs:=if b then wYes else wNo
def wkT (k:Nat→Bool):Bs:=[if k 0 then 49 else 48,if k 1 then 49 else 48,if k 2 then 49 else 48,if k 3 then 49 else 48,if k 4 then 49 else 48,if k 5 then 49 else 48,if k 6 then 49 else 48]
def prmT (b a:Bool):Bs:=if b && a then wBoth else if b then wBoard else if a then wAlight else wNone
theorem fnd_at {e:Int} {l:List Bs} (h:l.Nodup) {i:Nat} {s:Bs} (hs:l[i]? = some s):fnd e l s = ((i:Int),0):=by
 have hi:=(List.getElem?_eq_some_iff.1 hs).1
 have:l.findIdx? (fun x=>decide (x = s)) = some i:=by
  rw [List.findIdx?_eq_some_iff_getElem]
  refine ⟨hi,by simpa using (List.getElem?_eq_some_iff.1 hs).2,fun j hj=>?_⟩
  simp only [Bool.not_eq_true,decide_eq_false_iff_not]
  intro e
  have h2:=(List.getElem?_eq_some_iff.1 hs).2
  exact List.pairwise_iff_getElem.1 h j i (Nat.lt_trans hj hi) hi hj (e.trans h2.symm)
 unfold fnd
 rw [this]
def atI (l:List Bs) (i:Int):Bs:=l.getD i.toNat []
structure Rd where
 T:Tt
 ln:List (List Int)
 fa:Int
 cl:Bool
def T0:Tt:=⟨[],[],[],[],[],[],[],[],[],[],0,0,0⟩
def R0:Rd:=⟨T0,[[],[],[],[],[],[],[],[],[],[]],0,false⟩
def idsSt (T:Tt):List Bs:=T.st.map fun x=>x.1
def idsRo (T:Tt):List Bs:=T.ro.map fun x=>x.1
def idsCa (T:Tt):List Bs:=T.ca.map fun x=>x.1
def idsTr (T:Tt):List Bs:=T.tr.map fun x=>x.1
def putC (c:Cl) (x:Tp):Tp:=(x.1,x.2.1,x.2.2.1,x.2.2.2.1,x.2.2.2.2.1,x.2.2.2.2.2 ++ [c])
def addC (c:Cl):List Tp→List Tp
 | []=>[]
 | [x]=>[putC c x]
 | x :: y :: r=>x :: addC c (y :: r)
theorem addC_last (c:Cl) (x:Tp):∀ l:List Tp,addC c (l ++ [x]) = l ++ [putC c x]
 | []=>rfl
 | [y]=>rfl
 | y :: z :: r=>by
  show y :: addC c ((z :: r) ++ [x]) = _
  rw [addC_last c x (z :: r)]
  rfl
def addR (F:Fm) (T:Tt) (k:Nat) (f:List Bs):Int × Tt:=match k,f with
 | 0,[_,i,z,s,c]=>(err [(F.num z).2,(flg s).2,(F.num c).2],{ T with st:=T.st ++ [(i,(F.num z).1,(flg s).1,(F.num c).1)] })
 | 1,[_,i,m,b]=>(err [(fnd 3 nmL m).2,(flg b).2],{ T with ro:=T.ro ++ [(i,(fnd 3 nmL m).1,(flg b).1)] })
 | 2,[_,i,w,a,b]=>(err [(wk w).2,(F.day a).2,(F.day b).2],{ T with ca:=T.ca ++ [(i,(wk w).1,(F.day a).1,(F.day b).1)] })
 | 3,[_,c,d,a]=>(err [(fnd 9 (idsCa T) c).2,(F.day d).2,(fnd 3 [wRem,wAdd] a).2],{ T with ex:=T.ex ++ [((fnd 9 (idsCa T) c).1,(F.day d).1,decide ((fnd 3 [wRem,wAdd] a).1 = 1))] })
 | 4,[_,i,r,c,s]=>(err [(fnd 9 (idsRo T) r).2,(fnd 9 (idsCa T) c).2,(flg s).2],{ T with tr:=T.tr ++ [(i,(fnd 9 (idsRo T) r).1,(fnd 9 (idsCa T) c).1,(flg s).1,.slice none 0 0,[])] })
 | 5,[_,t,a,b,e]=>(err [(fnd 9 (idsTr T) t).2,(F.tim a).2,(F.tim b).2,(F.dur e).2],{ T with fr:=T.fr ++ [((fnd 9 (idsTr T) t).1,(F.tim a).1,(F.tim b).1,(F.dur e).1)] })
 | 6,[_,a,b]=>(err [(fnd 9 (idsTr T) a).2,(fnd 9 (idsTr T) b).2],{ T with th:=T.th ++ [((fnd 9 (idsTr T) a).1,(fnd 9 (idsTr T) b).1)] })
 | 7,[_,a,b,s]=>(err [(fnd 9 (idsTr T) a).2,(fnd 9 (idsTr T) b).2,(fnd 9 (idsSt T) s).2],{ T with gu:=T.gu ++ [((fnd 9 (idsTr T) a).1,(fnd 9 (idsTr T) b).1,(fnd 9 (idsSt T) s).1)] })
 | 8,[_,a,b,d,s]=>(err [(fnd 9 (idsSt T) a).2,(fnd 9 (idsSt T) b).2,(F.dur d).2,(flg s).2],{ T with pa:=T.pa ++ [((fnd 9 (idsSt T) a).1,(fnd 9 (idsSt T) b).1,(F.dur d).1,(flg s).1)] })
 | 9,[_,i,p,r,z,s,m]=>(err [(F.prc p).2,(F.num r).2,(F.num z).2,(F.dur s).2,(F.mds m).2],{ T with pr:=T.pr ++ [(i,(F.prc p).1,(F.num r).1,(F.num z).1,(F.dur s).1,(F.mds m).1)] })
 | 10,[_,s,a,d,p]=>(err [(fnd 9 (idsSt T) s).2,(F.tim a).2,(F.tim d).2,(prm p).2],{ T with tr:=addC ((fnd 9 (idsSt T) s).1,(F.tim a).1,(F.tim d).1,decide ((prm p).1 = 1∨(prm p).1 = 3),decide (2≤(prm p).1)) T.tr })
 | 11,[_,d,w,c]=>(err [(F.prc d).2,(F.dur w).2,(F.prc c).2],{ T with di:=(F.prc d).1,wi:=(F.dur w).1,cp:=(F.prc c).1 })
 | _,_=>(0,T)
def kind (s:Bs):Nat:=kinds.findIdx (fun x=>decide (x = s))
def rcd (F:Fm) (r:Rd) (f:List Bs) (n:Int):Int × Rd :=
 let k:=kind (f.headD [])
 if k = 12 then (41,r) else if f.length≠cnts.getD k 0 then (1,r) else if k = 10∧r.cl = false then (8,r) else if k = 11∧0 < r.fa then (6,r)
 else ((addR F r.T k f).1,⟨(addR F r.T k f).2,if k < 10 then r.ln.modify k (· ++ [n]) else r.ln,if k = 11 then n else r.fa,decide (k = 4∨k = 10)⟩)
def splR (l:Bs):List Bs × Int:=if 65536 < l.length then ([],5) else if l = [] then ([],0) else splitL 64 l
def ign (x:Bs):Bool:=x.isEmpty || x.head? == some 35
def oneR (F:Fm) (r:Rd) (x:Bs) (n:Int):Int × Rd:=if ign x then (0,r) else if (splR x).2≠0 then ((splR x).2,r) else rcd F r (splR x).1 n
def goR (F:Fm):List Bs→Int→Rd→Int × Int × Rd
 | [],_,r=>(0,0,r)
 | x :: l,n,r=>if (oneR F r x n).1≠0 then (n,(oneR F r x n).1,(oneR F r x n).2) else goR F l (n + 1) (oneR F r x n).2
def whr (r:Rd) (p i:Int):Int:=if i < 0∨((r.ln.getD p.toNat []).length:Int)≤i then r.fa else (r.ln.getD p.toNat []).getD i.toNat 0
def linR (l:Bs):List Bs × Int:=if 65536 < l.length then ([],5) else if l = [] then ([],0) else if l[l.length - 1]? = some 10 then ((cutL l).1,0) else ([],4)
def feedP (F:Fm) (s:Bs):Tt × Int × Int :=
 if (linR s).2≠0 then (T0,0,(linR s).2)
 else if (goR F (linR s).1 1 R0).2.1≠0 then (T0,(goR F (linR s).1 1 R0).1,(goR F (linR s).1 1 R0).2.1)
 else if (ttC (goR F (linR s).1 1 R0).2.2.T).2.2≠0 then (T0,whr (goR F (linR s).1 1 R0).2.2 (ttC (goR F (linR s).1 1 R0).2.2.T).1 (ttC (goR F (linR s).1 1 R0).2.2.T).2.1,(ttC (goR F (linR s).1 1 R0).2.2.T).2.2)
 else ((goR F (linR s).1 1 R0).2.2.T,0,0)
def rSt (F:Fm) (x:S13.St):List Bs:=[wSt,x.1,F.numT x.2.1,flgT x.2.2.1,F.numT x.2.2.2]
def rRo (x:Rt):List Bs:=[wRo,x.1,atI nmL x.2.1,flgT x.2.2]
def rCa (F:Fm) (x:S14.Cl):List Bs:=[wCa,x.1,wkT x.2.1,F.dayT x.2.2.1,F.dayT x.2.2.2]
def rEx (F:Fm) (T:Tt) (x:S14.Ex):List Bs:=[wEx,atI (idsCa T) x.1,F.dayT x.2.1,if x.2.2 then wAdd else wRem]
def rTr (T:Tt) (x:Tp):List Bs:=[wTr,x.1,atI (idsRo T) x.2.1,atI (idsCa T) x.2.2.1,flgT x.2.2.2.1]
def rCc (F:Fm) (T:Tt) (c:Cl):List Bs:=[wCc,atI (idsSt T) c.1,F.timT c.2.1,F.timT c.2.2.1,prmT c.2.2.2.1 c.2.2.2.2]
def bTr (F:Fm) (T:Tt) (x:Tp):List (List Bs):=rTr T x :: (clT x).map (rCc F T)
def rFr (F:Fm) (T:Tt) (x:Fq):List Bs:=[wFr,atI (idsTr T) x.1,F.timT x.2.1,F.timT x.2.2.1,F.durT x.2.2.2]
def rTh (T:Tt) (x:S19.Th):List Bs:=[wTh,atI (idsTr T) x.1,atI (idsTr T) x.2]
def rGu (T:Tt) (x:S19.Gt):List Bs:=[wGu,atI (idsTr T) x.1,atI (idsTr T) x.2.1,atI (idsSt T) x.2.2]
def rPa (F:Fm) (T:Tt) (x:S20.Fp):List Bs:=[wPa,atI (idsSt T) x.1,atI (idsSt T) x.2.1,F.durT x.2.2.1,flgT x.2.2.2]
def rFa (F:Fm) (T:Tt):List (List Bs):=if T.di≠0∨T.wi≠0∨T.cp≠0 then [[wFa,F.prcT T.di,F.durT T.wi,F.prcT T.cp]] else []
def rPr (F:Fm) (x:S21.Pd):List Bs:=[wPr,x.1,F.prcT x.2.1,F.numT x.2.2.1,F.numT x.2.2.2.1,F.durT x.2.2.2.2.1,F.mdsT x.2.2.2.2.2]
def rows (F:Fm) (T:Tt):List (List Bs) :=
 T.st.map (rSt F) ++ (T.ro.map rRo ++ (T.ca.map (rCa F) ++ (T.ex.map (rEx F T) ++ (T.tr.flatMap (bTr F T) ++ (T.fr.map (rFr F T) ++ (T.th.map (rTh T) ++ (T.gu.map (rGu T) ++ (T.pa.map (rPa F T) ++ (rFa F T ++ T.pr.map (rPr F))))))))))
def feedT (F:Fm) (T:Tt):Bs:=textL ((rows F T).map lineL)
def feedF (F:Fm) (T:Tt):Bs × Int:=if (ttC T).2.2≠0 then ([],(ttC T).2.2) else if 65536 < (feedT F T).length then ([],5) else (feedT F T,0)
structure Val (T:Tt):Prop where
 st:∀ x∈T.st,(-9223372036854775808≤x.2.1∧x.2.1≤9223372036854775807)∧-9223372036854775808≤x.2.2.2∧x.2.2.2≤9223372036854775807
 ist:(idsSt T).Nodup
 ro:∀ x∈T.ro,0≤x.2.1∧x.2.1 < 8
 iro:(idsRo T).Nodup
 ca:∀ x∈T.ca,(0≤x.2.2.1∧x.2.2.1≤36524)∧0≤x.2.2.2∧x.2.2.2≤36524
 ica:(idsCa T).Nodup
 ex:∀ x∈T.ex,(0≤x.1∧x.1 < T.ca.length)∧0≤x.2.1∧x.2.1≤36524
 tr:∀ x∈T.tr,(0≤x.2.1∧x.2.1 < T.ro.length)∧0≤x.2.2.1∧x.2.2.1 < T.ca.length
 itr:(idsTr T).Nodup
 cc:∀ x∈T.tr,∀ c∈clT x,(0≤c.1∧c.1 < T.st.length)∧(0≤c.2.1∧c.2.1≤172800)∧0≤c.2.2.1∧c.2.2.1≤172800
 fr:∀ x∈T.fr,(0≤x.1∧x.1 < T.tr.length)∧(0≤x.2.1∧x.2.1≤172800)∧(0≤x.2.2.1∧x.2.2.1≤172800)∧0≤x.2.2.2∧x.2.2.2≤86400
 th:∀ x∈T.th,(0≤x.1∧x.1 < T.tr.length)∧0≤x.2∧x.2 < T.tr.length
 gu:∀ x∈T.gu,(0≤x.1∧x.1 < T.tr.length)∧(0≤x.2.1∧x.2.1 < T.tr.length)∧0≤x.2.2∧x.2.2 < T.st.length
 pa:∀ x∈T.pa,(0≤x.1∧x.1 < T.st.length)∧(0≤x.2.1∧x.2.1 < T.st.length)∧0≤x.2.2.1∧x.2.2.1≤86400
 pr:∀ x∈T.pr,(0≤x.2.1∧x.2.1≤1000000)∧(-9223372036854775808≤x.2.2.1∧x.2.2.1≤9223372036854775807)∧(-9223372036854775808≤x.2.2.2.1∧x.2.2.2.1≤9223372036854775807)∧(0≤x.2.2.2.2.1∧x.2.2.2.2.1≤86400)∧0≤x.2.2.2.2.2∧x.2.2.2.2.2≤255
 fa:(0≤T.di∧T.di≤1000000)∧(0≤T.wi∧T.wi≤86400)∧0≤T.cp∧T.cp≤1000000
theorem kinds_plain:∀ k∈kinds,quoteL k = k∧∃ c q,k = c :: q∧c≠35:=by
 intro k h
 simp only [kinds,List.mem_cons,List.not_mem_nil,or_false] at h
 rcases h with rfl | rfl | rfl | rfl | rfl | rfl | rfl | rfl | rfl | rfl | rfl | rfl
 all_goals exact ⟨by decide,_,_,rfl,by decide⟩
theorem line_cons (x:Bs) (l:List Bs):∃ t,lineL (x :: l) = quoteL x ++ t:=by
 cases l with
 | nil=>exact ⟨[],by rw [List.append_nil]; rfl⟩
 | cons y l=>exact ⟨_,rfl⟩
theorem line_ok {fs:List Bs} {k:Bs} {rest:List Bs} (hf:fs = k :: rest) (hk:k∈kinds) (hl:fs.length≤64) (h65:(lineL fs).length≤65536):ign (lineL fs) = false∧splR (lineL fs) = (fs,0):=by
 obtain ⟨hq,c,q,hc,h35⟩:=kinds_plain k hk
 obtain ⟨t,ht⟩:=line_cons k rest
 have e:lineL fs = c :: (q ++ t):=by rw [hf,ht,hq,hc]; rfl
 constructor
 ·unfold ign
  rw [e]
  simpa using h35
 ·unfold splR
  rw [if_neg (by omega),if_neg (by rw [e]; simp),split_line fs 64 (by rw [hf]; simp) hl]
theorem rcd_ok (F:Fm) (r:Rd) (fs:List Bs) (n:Int) (k:Nat) (hk:kind (fs.headD []) = k) (h12:k≠12) (hl:fs.length = cnts.getD k 0) (h10:k = 10→r.cl = true) (h11:k = 11→r.fa = 0) :
  rcd F r fs n = ((addR F r.T k fs).1,⟨(addR F r.T k fs).2,if k < 10 then r.ln.modify k (· ++ [n]) else r.ln,if k = 11 then n else r.fa,decide (k = 4∨k = 10)⟩):=by
 unfold rcd
 simp only [hk]
 rw [if_neg h12,if_neg (fun h=>h hl),if_neg (fun h=>by rw [h10 h.1] at h; exact absurd h.2 (by simp)),if_neg (fun h=>by rw [h11 h.1] at h; exact absurd h.2 (by decide))]
theorem step {F:Fm} {r:Rd} {fs:List Bs} (n:Int) (k:Nat) {w:Bs} {rest:List Bs} (hf:fs = w :: rest) (hw:w∈kinds) (hk:kind w = k) (h12:k≠12) (hl:fs.length = cnts.getD k 0) (h64:cnts.getD k 0≤64) (h65:(lineL fs).length≤65536) (h10:k = 10→r.cl = true) (h11:k = 11→r.fa = 0) {T':Tt} (ha:addR F r.T k fs = (0,T')) :
  ∃ r',oneR F r (lineL fs) n = (0,r')∧r'.T = T'∧r'.fa = (if k = 11 then n else r.fa)∧r'.cl = decide (k = 4∨k = 10):=by
 obtain ⟨h1,h2⟩:=line_ok hf hw (by omega) h65
 refine ⟨⟨T',if k < 10 then r.ln.modify k (· ++ [n]) else r.ln,if k = 11 then n else r.fa,decide (k = 4∨k = 10)⟩,?_,rfl,rfl,rfl⟩
 unfold oneR
 rw [h1,h2,if_neg (by simp),if_neg (by simp),rcd_ok F r fs n k (by rw [hf]; exact hk) h12 hl h10 h11,ha]
section
variable {F:Fm} (ok:FmOk F) {T:Tt} (v:Val T) (hlen:∀ f∈rows F T,(lineL f).length≤65536)
include ok v hlen
omit ok in
omit ok in
omit ok in
end
theorem fb_acc0 {κ α:Type} {bad:List κ→α→Int} {key:α→κ} {l:List α} (h:(fbF bad key [] 0 l).2 = 0) {j:Nat} {x:α} (hx:l[j]? = some x):bad ((l.take j).map key) x = 0:=by
 have:=fb_acc l [] 0 h j x hx
 rwa [List.nil_append] at this
theorem fb_mem {κ α:Type} {bad:List κ→α→Int} {key:α→κ} {l:List α} (h:(fbF bad key [] 0 l).2 = 0) {x:α} (hx:x∈l):∃ seen,bad seen x = 0:=by
 obtain ⟨j,hj⟩:=List.mem_iff_getElem?.1 hx
 exact ⟨_,fb_acc0 h hj⟩
theorem fb_nodup {κ α:Type} {bad:List κ→α→Int} {key:α→κ} {l:List α} (h:(fbF bad key [] 0 l).2 = 0) (hb:∀ seen x,bad seen x = 0→key x ∉ seen):(l.map key).Nodup:=by
 refine List.pairwise_iff_getElem.2 fun i j hi hj hij e=>?_
 simp only [List.length_map] at hi hj
 have h1:=hb _ _ (fb_acc0 h (List.getElem?_eq_getElem hj))
 simp only [List.getElem_map] at e
 apply h1
 rw [← e]
 exact List.mem_map.2 ⟨l[i],List.mem_take_iff_getElem.2 ⟨i,by omega,rfl⟩,rfl⟩
theorem chkS_fb:∀ (l:List S13.St) (seen:List Bs) (k:Nat),S13.chkF seen k l = fbF S13.badS (fun x=>x.1) seen k l
 | [],_,_=>rfl
 | x :: l,seen,k=>by
  unfold S13.chkF fbF
  rw [chkS_fb l]
theorem ck_mem {st lo hi:Int} {c:Cl}:∀ (l:List Cl) (p:Option Cl) (k:Nat),(ckF st lo hi p k l).2 = 0→c∈l→∃ q,badC st lo hi q c = 0
 | [],_,_,_,h=>by cases h
 | x :: l,p,k,hz,h=>by
  unfold ckF at hz
  by_cases hb:badC st lo hi p x = 0
  ·rw [if_pos hb] at hz
   rcases List.mem_cons.1 h with rfl | hm
   ·exact ⟨p,hb⟩
   ·exact ck_mem l _ _ hz hm
  ·rw [if_neg hb] at hz
   exact absurd hz hb
theorem badC_rng {st lo hi:Int} {p:Option Cl} {x:Cl} (h:badC st lo hi p x = 0):(0≤x.1∧x.1 < st)∧lo≤x.2.1∧x.2.1≤x.2.2.1∧x.2.2.1≤hi:=by
 unfold badC at h
 split at h
 ·omega
 split at h
 ·omega
 split at h
 ·omega
 ·omega
theorem val_of {T:Tt} (h:(ttC T).2.2 = 0):Val T:=by
 have hp:=(ttC_all T).1 h
 have h0:(S13.chkT T.st).2 = 0:=hp 0 (by omega)
 have h1:(chkR T.ro).2 = 0:=hp 1 (by omega)
 have h2:(S14.chkC T.ca).2 = 0:=hp 2 (by omega)
 have h3:(S14.chkX T.ca.length T.ex).2 = 0:=hp 3 (by omega)
 have h4:(S17.chkT T.st.length T.ro.length T.ca.length T.tr).2 = 0:=hp 4 (by omega)
 have h5:(chkF (T.tr.map clT) T.fr).2 = 0:=hp 5 (by omega)
 have h6:(S19.chkH (T.tr.map S19.tcT) T.fr T.th).2 = 0:=hp 6 (by omega)
 have h7:(S19.chkU (T.tr.map S19.tcT) T.fr T.st.length T.gu).2 = 0:=hp 7 (by omega)
 have h8:(S20.chkP T.st.length T.pa).2 = 0:=hp 8 (by omega)
 have h9:(S21.chkPd T.di T.wi T.cp T.pr).2 = 0:=hp 9 (by omega)
 unfold S13.chkT at h0
 unfold chkR at h1
 unfold S14.chkC at h2
 unfold S14.chkX at h3
 unfold S17.chkT at h4
 unfold S19.chkH at h6
 unfold S19.chkU at h7
 unfold S20.chkP S20.vldP at h8
 unfold S21.chkPd at h9
 split at h0
 ·simp at h0
 split at h1
 ·simp at h1
 split at h2
 ·simp at h2
 split at h3
 ·simp at h3
 split at h4
 ·simp at h4
 split at h6
 ·simp at h6
 split at h7
 ·simp at h7
 split at h8
 ·simp at h8
 split at h9
 ·simp at h9
 split at h9
 ·simp at h9
 rw [chkS_fb] at h0
 next hfa _ =>
 have hfa:=Decidable.not_not.1 hfa
 refine ⟨fun x hx=>?_,?_,fun x hx=>?_,?_,fun x hx=>?_,?_,fun x hx=>?_,fun x hx=>?_,?_,fun x hx c hc=>?_,fun x hx=>?_,fun x hx=>?_,fun x hx=>?_,fun x hx=>?_,fun x hx=>?_,?_⟩
 ·obtain ⟨s,hb⟩:=fb_mem h0 hx
  unfold S13.badS at hb
  split at hb
  ·simp at hb
  split at hb
  ·simp at hb
  split at hb
  ·simp at hb
  ·next hf=>unfold S13.farS at hf; omega
 ·refine fb_nodup h0 fun s x hb=>?_
  unfold S13.badS at hb
  split at hb
  ·simp at hb
  split at hb
  ·simp at hb
  ·next hf=>exact hf
 ·obtain ⟨s,hb⟩:=fb_mem h1 hx
  unfold badR at hb
  split at hb
  ·simp at hb
  split at hb
  ·simp at hb
  split at hb
  ·next hf=>exact hf
  ·simp at hb
 ·refine fb_nodup (key:=idR) h1 fun s x hb=>?_
  unfold badR at hb
  split at hb
  ·simp at hb
  split at hb
  ·simp at hb
  ·next hf=>exact hf
 ·obtain ⟨s,hb⟩:=fb_mem h2 hx
  unfold S14.badC at hb
  split at hb
  ·simp at hb
  split at hb
  ·simp at hb
  split at hb
  ·next hf=>exact ⟨hf.1,hf.2.1⟩
  ·simp at hb
 ·refine fb_nodup (key:=S14.idC) h2 fun s x hb=>?_
  unfold S14.badC at hb
  split at hb
  ·simp at hb
  split at hb
  ·simp at hb
  ·next hf=>exact hf
 ·obtain ⟨s,hb⟩:=fb_mem h3 hx
  unfold S14.badX at hb
  split at hb
  ·simp at hb
  next hr =>
  split at hb
  ·simp at hb
  next hd =>
  exact ⟨by omega,Decidable.not_not.1 hd⟩
 ·obtain ⟨s,hb⟩:=fb_mem h4 hx
  unfold S17.badT at hb
  split at hb
  ·simp at hb
  split at hb
  ·simp at hb
  split at hb
  ·next hr=>exact hr
  ·simp at hb
 ·refine fb_nodup (key:=S17.idT) h4 fun s x hb=>?_
  unfold S17.badT at hb
  split at hb
  ·simp at hb
  split at hb
  ·simp at hb
  ·next hf=>exact hf
 ·obtain ⟨s,hb⟩:=fb_mem h4 hx
  unfold S17.badT at hb
  split at hb
  ·simp at hb
  split at hb
  ·simp at hb
  split at hb
  ·unfold chkC at hb
   split at hb
   ·simp at hb
   ·obtain ⟨q,hq⟩:=ck_mem _ _ _ hb hc
    obtain ⟨c0,c1,c2,c3⟩:=badC_rng hq
    exact ⟨c0,⟨c1,by omega⟩,by omega,c3⟩
  ·simp at hb
 ·obtain ⟨j,hj⟩:=List.mem_iff_getElem?.1 hx
  obtain ⟨g0,g1,-⟩:=badF_good (acc_good h5 j x hj)
  obtain ⟨t,a,b,e⟩:=x
  rw [List.length_map] at g0
  obtain ⟨s0,s1,s2,s3,s4⟩:=snd_iff.1 g1
  exact ⟨g0,⟨s0,Int.le_trans (Int.le_of_lt s1) s2⟩,⟨Int.le_trans s0 (Int.le_of_lt s1),s2⟩,Int.le_trans (by decide) s3,s4⟩
 ·obtain ⟨s,hb⟩:=fb_mem h6 hx
  unfold S19.thE at hb
  split at hb
  ·next hf=>exact absurd hb hf
  next hf =>
  have hf:=Decidable.not_not.1 hf
  unfold S19.prE at hf
  rw [List.length_map] at hf
  split at hf
  ·simp at hf
  ·omega
 ·obtain ⟨s,hb⟩:=fb_mem h7 hx
  unfold S19.guE at hb
  split at hb
  ·simp at hb
  next hs =>
  split at hb
  ·next hf=>exact absurd hb hf
  next hf =>
  have hf:=Decidable.not_not.1 hf
  unfold S19.prE at hf
  rw [List.length_map] at hf
  split at hf
  ·simp at hf
  ·omega
 ·obtain ⟨s,hb⟩:=fb_mem h8 hx
  unfold S20.badP at hb
  split at hb
  ·simp at hb
  split at hb
  ·simp at hb
  ·omega
 ·obtain ⟨s,hb⟩:=fb_mem h9 hx
  unfold S21.badPd at hb
  split at hb
  ·simp at hb
  split at hb
  ·simp at hb
  split at hb
  ·next hf=>obtain ⟨k0,k1,k2,k3,k4⟩:=hf; exact ⟨k0,by omega,by omega,k3,by omega,by omega⟩
  ·simp at hb
 ·exact hfa
theorem line_feed:∀ (l:List Bs) (b:UInt8),b∈lineL l→b≠10
 | [],b,h=>by cases h
 | x :: l,b,h=>by
  have hq:∀ b∈quoteL x,b≠10:=fun b hb e=>by
   have:=List.all_eq_true.1 (quote_ctl x) b hb
   subst e
   simp [ctl] at this
  cases l with
  | nil=>exact hq b h
  | cons y l =>
   have e:lineL (x :: y :: l) = quoteL x ++ 44 :: lineL (y :: l):=rfl
   rw [e,List.mem_append,List.mem_cons] at h
   rcases h with h | h | h
   ·exact hq b h
   ·subst h; decide
   ·exact line_feed (y :: l) b h
theorem text_len_mem {ls:List Bs} {x:Bs} (h:x∈ls):x.length≤(textL ls).length:=by
 induction ls with
 | nil=>cases h
 | cons y l ih =>
  have e:textL (y :: l) = y ++ [10] ++ textL l:=rfl
  rw [e,List.length_append,List.length_append]
  rcases List.mem_cons.1 h with rfl | h
  ·omega
  ·have:=ih h; omega
def lenP (T:Tt):Nat→Nat
 | 0=>T.st.length
 | 1=>T.ro.length
 | 2=>T.ca.length
 | 3=>T.ex.length
 | 4=>T.tr.length
 | 5=>T.fr.length
 | 6=>T.th.length
 | 7=>T.gu.length
 | 8=>T.pa.length
 | 9=>T.pr.length
 | _=>0
theorem addC_len (c:Cl):∀ l:List Tp,(addC c l).length = l.length
 | []=>rfl
 | [_]=>rfl
 | x :: y :: r=>by show (addC c (y :: r)).length + 1 = _; rw [addC_len c (y :: r)]; rfl
theorem three {α:Type} {l:List α} (h:l.length = 3):∃ a b c,l = [a,b,c]:=by
 match l,h with
 | [a,b,c],_=>exact ⟨a,b,c,rfl⟩
theorem four {α:Type} {l:List α} (h:l.length = 4):∃ a b c d,l = [a,b,c,d]:=by
 match l,h with
 | [a,b,c,d],_=>exact ⟨a,b,c,d,rfl⟩
theorem five {α:Type} {l:List α} (h:l.length = 5):∃ a b c d e,l = [a,b,c,d,e]:=by
 match l,h with
 | [a,b,c,d,e],_=>exact ⟨a,b,c,d,e,rfl⟩
theorem seven {α:Type} {l:List α} (h:l.length = 7):∃ a b c d e f g,l = [a,b,c,d,e,f,g]:=by
 match l,h with
 | [a,b,c,d,e,f,g],_=>exact ⟨a,b,c,d,e,f,g,rfl⟩
theorem add_len (F:Fm) (T:Tt) (k:Nat) (hk:k < 12) (f:List Bs) (hf:f.length = cnts.getD k 0):(∀ p,p < 10→lenP (addR F T k f).2 p = lenP T p + (if p = k then 1 else 0))∧(k≠11→(addR F T k f).2.di = T.di∧(addR F T k f).2.wi = T.wi∧(addR F T k f).2.cp = T.cp):=by
 have P:∀ {U:Tt} (k:Nat),lenP U 0 = lenP T 0 + (if 0 = k then 1 else 0)→lenP U 1 = lenP T 1 + (if 1 = k then 1 else 0)→lenP U 2 = lenP T 2 + (if 2 = k then 1 else 0)→lenP U 3 = lenP T 3 + (if 3 = k then 1 else 0)→lenP U 4 = lenP T 4 + (if 4 = k then 1 else 0)→lenP U 5 = lenP T 5 + (if 5 = k then 1 else 0)→lenP U 6 = lenP T 6 + (if 6 = k then 1 else 0)→lenP U 7 = lenP T 7 + (if 7 = k then 1 else 0)→lenP U 8 = lenP T 8 + (if 8 = k then 1 else 0)→lenP U 9 = lenP T 9 + (if 9 = k then 1 else 0)→∀ p,p < 10→lenP U p = lenP T p + (if p = k then 1 else 0):=by
  intro U k h0 h1 h2 h3 h4 h5 h6 h7 h8 h9 p hp
  match p,hp with
  | 0,_=>exact h0
  | 1,_=>exact h1
  | 2,_=>exact h2
  | 3,_=>exact h3
  | 4,_=>exact h4
  | 5,_=>exact h5
  | 6,_=>exact h6
  | 7,_=>exact h7
  | 8,_=>exact h8
  | 9,_=>exact h9
  | n + 10,h=>omega
 match k,hk with
 | 0,_=>obtain ⟨a,b,c,d,e,rfl⟩:=five hf; exact ⟨P 0 (List.length_append) rfl rfl rfl rfl rfl rfl rfl rfl rfl,fun _=>⟨rfl,rfl,rfl⟩⟩
 | 1,_=>obtain ⟨a,b,c,d,rfl⟩:=four hf; exact ⟨P 1 rfl (List.length_append) rfl rfl rfl rfl rfl rfl rfl rfl,fun _=>⟨rfl,rfl,rfl⟩⟩
 | 2,_=>obtain ⟨a,b,c,d,e,rfl⟩:=five hf; exact ⟨P 2 rfl rfl (List.length_append) rfl rfl rfl rfl rfl rfl rfl,fun _=>⟨rfl,rfl,rfl⟩⟩
 | 3,_=>obtain ⟨a,b,c,d,rfl⟩:=four hf; exact ⟨P 3 rfl rfl rfl (List.length_append) rfl rfl rfl rfl rfl rfl,fun _=>⟨rfl,rfl,rfl⟩⟩
 | 4,_=>obtain ⟨a,b,c,d,e,rfl⟩:=five hf; exact ⟨P 4 rfl rfl rfl rfl (List.length_append) rfl rfl rfl rfl rfl,fun _=>⟨rfl,rfl,rfl⟩⟩
 | 5,_=>obtain ⟨a,b,c,d,e,rfl⟩:=five hf; exact ⟨P 5 rfl rfl rfl rfl rfl (List.length_append) rfl rfl rfl rfl,fun _=>⟨rfl,rfl,rfl⟩⟩
 | 6,_=>obtain ⟨a,b,c,rfl⟩:=three hf; exact ⟨P 6 rfl rfl rfl rfl rfl rfl (List.length_append) rfl rfl rfl,fun _=>⟨rfl,rfl,rfl⟩⟩
 | 7,_=>obtain ⟨a,b,c,d,rfl⟩:=four hf; exact ⟨P 7 rfl rfl rfl rfl rfl rfl rfl (List.length_append) rfl rfl,fun _=>⟨rfl,rfl,rfl⟩⟩
 | 8,_=>obtain ⟨a,b,c,d,e,rfl⟩:=five hf; exact ⟨P 8 rfl rfl rfl rfl rfl rfl rfl rfl (List.length_append) rfl,fun _=>⟨rfl,rfl,rfl⟩⟩
 | 9,_=>obtain ⟨a,b,c,d,e,f,g,rfl⟩:=seven hf; exact ⟨P 9 rfl rfl rfl rfl rfl rfl rfl rfl rfl (List.length_append),fun _=>⟨rfl,rfl,rfl⟩⟩
 | 10,_=>obtain ⟨a,b,c,d,e,rfl⟩:=five hf; exact ⟨P 10 rfl rfl rfl rfl (addC_len _ _) rfl rfl rfl rfl rfl,fun _=>⟨rfl,rfl,rfl⟩⟩
 | 11,_=>obtain ⟨a,b,c,d,rfl⟩:=four hf; exact ⟨P 11 rfl rfl rfl rfl rfl rfl rfl rfl rfl rfl,fun h=>absurd rfl h⟩
 | n + 12,h=>omega
def Okl (ls:List Bs) (j:Int):Prop:=1≤j∧∃ x,ls[(j - 1).toNat]? = some x∧ign x = false
structure Inv (ls:List Bs) (r:Rd) (n:Int):Prop where
 ln:∀ p,p < 10→∀ j∈r.ln.getD p [],Okl ls j∧j < n
 fa:r.fa = 0∨(Okl ls r.fa∧r.fa < n)
 no:r.fa = 0→r.T.di = 0∧r.T.wi = 0∧r.T.cp = 0
 ten:r.ln.length = 10
 len:∀ p,p < 10→(r.ln.getD p []).length = lenP r.T p
theorem Inv.start (ls:List Bs):Inv ls R0 1:=by
 refine ⟨fun p hp j hj=>?_,.inl rfl,fun _=>⟨rfl,rfl,rfl⟩,rfl,fun p hp=>?_⟩
 ·match p,hp with
  | 0,_ | 1,_ | 2,_ | 3,_ | 4,_ | 5,_ | 6,_ | 7,_ | 8,_ | 9,_=>cases hj
  | n + 10,h=>omega
 ·match p,hp with
  | 0,_ | 1,_ | 2,_ | 3,_ | 4,_ | 5,_ | 6,_ | 7,_ | 8,_ | 9,_=>rfl
  | n + 10,h=>omega
theorem kind_le (s:Bs):kind s≤12:=List.findIdx_le_length
theorem getD_mod (l:List (List Int)) (k p:Nat) (n:Int) (hk:k < l.length):(l.modify k (· ++ [n])).getD p [] = if p = k then l.getD p [] ++ [n] else l.getD p []:=by
 rw [List.getD_eq_getElem?_getD,List.getElem?_modify,List.getD_eq_getElem?_getD]
 by_cases e:k = p
 ·subst e
  rw [if_pos rfl,List.getElem?_eq_getElem hk]
  simp
 ·rw [if_neg (fun h=>e h.symm)]
  cases l[p]? <;> simp [e]
theorem Inv.on {F:Fm} {ls:List Bs} {r:Rd} {n:Int} (h:Inv ls r n) (hn:1≤n) {x:Bs} (hx:ls[(n - 1).toNat]? = some x) {r':Rd} (h1:oneR F r x n = (0,r')):Inv ls r' (n + 1):=by
 unfold oneR at h1
 by_cases hi:ign x = true
 ·rw [if_pos hi] at h1
  have e:r = r':=by simpa using h1
  subst e
  exact ⟨fun p hp j hj=>⟨(h.ln p hp j hj).1,by have:=(h.ln p hp j hj).2; omega⟩,h.fa.imp id fun q=>⟨q.1,by have:=q.2; omega⟩,h.no,h.ten,h.len⟩
 rw [if_neg hi] at h1
 have hok:Okl ls n:=⟨hn,x,hx,by simpa using hi⟩
 split at h1
 ·next hs=>exact absurd (congrArg Prod.fst h1) hs
 have kl:=kind_le ((splR x).1.headD [])
 unfold rcd at h1
 simp only at h1
 generalize kind ((splR x).1.headD []) = k at h1 kl
 generalize (splR x).1 = f at h1
 split at h1
 ·exact absurd (congrArg Prod.fst h1) (by simp)
 next h12 =>
 split at h1
 ·exact absurd (congrArg Prod.fst h1) (by simp)
 next hl =>
 split at h1
 ·exact absurd (congrArg Prod.fst h1) (by simp)
 split at h1
 ·exact absurd (congrArg Prod.fst h1) (by simp)
 next h11 =>
 obtain ⟨a0,a1⟩:=add_len F r.T k (by omega) f (Decidable.not_not.1 hl)
 have e:=(congrArg Prod.snd h1).symm
 simp only at e
 subst e
 have hln:∀ p,(if k < 10 then r.ln.modify k (· ++ [n]) else r.ln).getD p [] = if p = k∧k < 10 then r.ln.getD p [] ++ [n] else r.ln.getD p []:=by
  intro p
  by_cases hk:k < 10
  ·rw [if_pos hk,getD_mod _ _ _ _ (by rw [h.ten]; exact hk)]
   by_cases e:p = k
   ·rw [if_pos e,if_pos ⟨e,hk⟩]
   ·rw [if_neg e,if_neg (fun q=>e q.1)]
  ·rw [if_neg hk,if_neg (fun q=>hk q.2)]
 refine ⟨fun p hp j hj=>?_,?_,fun h0=>?_,?_,fun p hp=>?_⟩
 ·rw [hln] at hj
  split at hj
  ·rcases List.mem_append.1 hj with hj | hj
   ·exact ⟨(h.ln p hp j hj).1,by have:=(h.ln p hp j hj).2; omega⟩
   ·have e:j = n:=by simpa using hj
    subst e
    exact ⟨hok,by omega⟩
  ·exact ⟨(h.ln p hp j hj).1,by have:=(h.ln p hp j hj).2; omega⟩
 ·show (if k = 11 then n else r.fa) = 0∨(Okl ls (if k = 11 then n else r.fa)∧(if k = 11 then n else r.fa) < n + 1)
  by_cases e:k = 11
  ·rw [if_pos e]; exact .inr ⟨hok,by omega⟩
  ·rw [if_neg e]; exact h.fa.imp id fun q=>⟨q.1,by have:=q.2; omega⟩
 ·by_cases e:k = 11
  ·have h0:(if k = 11 then n else r.fa) = 0:=h0
   rw [if_pos e] at h0
   omega
  ·have h0:(if k = 11 then n else r.fa) = 0:=h0
   rw [if_neg e] at h0
   obtain ⟨b0,b1,b2⟩:=a1 e
   obtain ⟨c0,c1,c2⟩:=h.no h0
   exact ⟨b0.trans c0,b1.trans c1,b2.trans c2⟩
 ·show (if k < 10 then r.ln.modify k (· ++ [n]) else r.ln).length = 10
  split
  ·rw [List.length_modify]; exact h.ten
  ·exact h.ten
 ·show ((if k < 10 then r.ln.modify k (· ++ [n]) else r.ln).getD p []).length = lenP (addR F r.T k f).2 p
  rw [hln,a0 p hp]
  by_cases e:p = k
  ·rw [if_pos ⟨e,by omega⟩,if_pos e,List.length_append,h.len p hp]; rfl
  ·rw [if_neg (fun q=>e q.1),if_neg e,h.len p hp]; rfl
theorem inv_go {F:Fm} {ls:List Bs}:∀ (B:List Bs) (n:Int) (r:Rd),Inv ls r n→1≤n→ls.drop (n - 1).toNat = B →
  ((goR F B n r).2.1 = 0∧(goR F B n r).1 = 0∧Inv ls (goR F B n r).2.2 (n + B.length))∨((goR F B n r).2.1≠0∧Okl ls (goR F B n r).1∧(goR F B n r).1 < n + B.length)
 | [],n,r,h,_,_=>.inl ⟨rfl,rfl,by simpa [goR] using h⟩
 | x :: B,n,r,h,hn,hd=>by
  have hx:ls[(n - 1).toNat]? = some x:=by
   have:=congrArg (fun l:List Bs=>l[0]?) hd
   simpa using this
  unfold goR
  by_cases h0:(oneR F r x n).1 = 0
  ·rw [if_neg (fun k=>k h0)]
   have hi:=h.on (F:=F) hn hx (r':=(oneR F r x n).2) (by rw [← h0])
   have:=inv_go (F:=F) B (n + 1) _ hi (by omega) (by
    rw [show (n + 1 - 1).toNat = (n - 1).toNat + 1 by omega,← List.drop_drop,hd]
    rfl)
   rw [show n + ((x :: B).length:Int) = n + 1 + (B.length:Int) by simp; omega]
   exact this
  ·rw [if_pos h0]
   refine .inr ⟨h0,⟨hn,x,hx,?_⟩,by simp; omega⟩
   cases hi:ign x with
   | false=>rfl
   | true =>
    unfold oneR at h0
    rw [hi,if_pos rfl] at h0
    exact absurd rfl h0
theorem fb_idx {κ α:Type} {bad:List κ→α→Int} {key:α→κ}:∀ (l:List α) (seen:List κ) (k:Nat),(fbF bad key seen k l).2≠0→(k:Int)≤(fbF bad key seen k l).1∧(fbF bad key seen k l).1 < k + l.length
 | [],_,_,h=>absurd rfl h
 | x :: l,seen,k,h=>by
  unfold fbF at h ⊢
  by_cases hb:bad seen x = 0
  ·rw [if_pos hb] at h ⊢
   obtain ⟨h1,h2⟩:=fb_idx l _ _ h
   simp only [List.length_cons]
   omega
  ·rw [if_neg hb]
   simp only [List.length_cons]
   omega
theorem lim_idx {κ α:Type} {bad:List κ→α→Int} {key:α→κ} {l:List α} {N:Nat} (h:(if N < l.length then ((0,5):Int × Int) else fbF bad key [] 0 l).2≠0):0≤(if N < l.length then ((0,5):Int × Int) else fbF bad key [] 0 l).1∧(if N < l.length then ((0,5):Int × Int) else fbF bad key [] 0 l).1 < l.length:=by
 by_cases hn:N < l.length
 ·rw [if_pos hn]
  exact ⟨by decide,by show (0:Int) < _; omega⟩
 ·rw [if_neg hn] at h ⊢
  have:=fb_idx l [] 0 h
  simpa using this
theorem part_idx (T:Tt) (p:Nat) (h:(partT T p).2≠0):(0≤(partT T p).1∧(partT T p).1 < lenP T p)∨(p = 9∧(partT T p).1 = -1∧¬ (T.di = 0∧T.wi = 0∧T.cp = 0)):=by
 match p,h with
 | 0,h =>
  left
  have e:partT T 0 = if 64 < T.st.length then ((0,5):Int × Int) else fbF S13.badS (fun x=>x.1) [] 0 T.st:=by
   show S13.chkT T.st = _
   unfold S13.chkT
   rw [chkS_fb]
  rw [e] at h ⊢
  exact lim_idx h
 | 1,h=>exact .inl (lim_idx h)
 | 2,h=>exact .inl (lim_idx h)
 | 3,h=>exact .inl (lim_idx h)
 | 4,h=>exact .inl (lim_idx h)
 | 5,h=>exact .inl (lim_idx h)
 | 6,h=>exact .inl (lim_idx h)
 | 7,h=>exact .inl (lim_idx h)
 | 8,h=>exact .inl (lim_idx h)
 | 9,h =>
  have e:partT T 9 = S21.chkPd T.di T.wi T.cp T.pr:=rfl
  rw [e] at h ⊢
  unfold S21.chkPd at h ⊢
  by_cases hf:S21.okFa T.di T.wi T.cp
  ·rw [if_neg (fun k=>k hf)] at h ⊢
   exact .inl (lim_idx h)
  ·rw [if_pos hf]
   exact .inr ⟨rfl,rfl,fun k=>hf (by rw [k.1,k.2.1,k.2.2]; decide)⟩
 | n + 10,h=>exact absurd rfl h
theorem ttF_ne {P:Nat→Int × Int}:∀ (n k:Nat),(ttF P k n).2.2≠0→∃ p,k≤p∧p < k + n∧ttF P k n = ((p:Int),(P p).1,(P p).2)∧(P p).2≠0
 | 0,_,h=>absurd rfl h
 | n + 1,k,h=>by
  by_cases hp:(P k).2 = 0
  ·rw [tt_next hp] at h ⊢
   obtain ⟨p,h1,h2,h3,h4⟩:=ttF_ne n (k + 1) h
   exact ⟨p,by omega,by omega,h3,h4⟩
  ·exact ⟨k,Nat.le_refl _,by omega,tt_stop hp,hp⟩
theorem whr_ok {ls:List Bs} {r:Rd} {n:Int} (h:Inv ls r n) (hc:(ttC r.T).2.2≠0):Okl ls (whr r (ttC r.T).1 (ttC r.T).2.1)∧whr r (ttC r.T).1 (ttC r.T).2.1 < n:=by
 obtain ⟨p,-,hp,e,hne⟩:=ttF_ne 10 0 hc
 have hp:p < 10:=by omega
 have e:ttC r.T = ((p:Int),(partT r.T p).1,(partT r.T p).2):=e
 rw [e]
 show Okl ls (whr r (p:Int) (partT r.T p).1)∧whr r (p:Int) (partT r.T p).1 < n
 unfold whr
 rw [Int.toNat_natCast,h.len p hp]
 rcases part_idx r.T p hne with ⟨h0,h1⟩ | ⟨h9,hm,hz⟩
 ·rw [if_neg (by omega)]
  have hi:(partT r.T p).1.toNat < (r.ln.getD p []).length:=by rw [h.len p hp]; omega
  have hmem:(r.ln.getD p []).getD (partT r.T p).1.toNat 0∈r.ln.getD p []:=by
   rw [List.getD_eq_getElem?_getD (l:=r.ln.getD p []),List.getElem?_eq_getElem hi]
   exact List.getElem_mem hi
  exact h.ln p hp _ hmem
 ·rw [hm,if_pos (.inl (by decide))]
  rcases h.fa with h0 | h0
  ·exact absurd (h.no h0) hz
  ·exact h0
theorem feed_line {F:Fm} {s:Bs} (hl:(linR s).2 = 0):((feedP F s).2.2 = 0→(feedP F s).2.1 = 0)∧((feedP F s).2.2≠0→Okl (linR s).1 (feedP F s).2.1):=by
 have I:=inv_go (F:=F) (linR s).1 1 R0 (Inv.start _) (by omega) rfl
 unfold feedP
 rw [if_neg (fun k=>k hl)]
 by_cases h0:(goR F (linR s).1 1 R0).2.1 = 0
 ·rw [if_neg (fun k=>k h0)]
  rcases I with ⟨-,-,I⟩ | ⟨k,-⟩
  ·by_cases hc:(ttC (goR F (linR s).1 1 R0).2.2.T).2.2 = 0
   ·rw [if_neg (fun k=>k hc)]
    exact ⟨fun _=>rfl,fun k=>absurd rfl k⟩
   ·rw [if_pos hc]
    exact ⟨fun k=>absurd k hc,fun _=>(whr_ok I hc).1⟩
  ·exact absurd h0 k
 ·rw [if_pos h0]
  rcases I with ⟨k,-,-⟩ | ⟨-,k,-⟩
  ·exact absurd k h0
  ·exact ⟨fun q=>absurd q h0,fun _=>k⟩
theorem goR_cons (F:Fm) (x:Bs) (l:List Bs) (n:Int) (r:Rd):goR F (x :: l) n r = if (oneR F r x n).1≠0 then (n,(oneR F r x n).1,(oneR F r x n).2) else goR F l (n + 1) (oneR F r x n).2:=rfl
def noV (x:Tp):List UInt8 × Int × Int × Bool × List Cl:=(x.1,x.2.1,x.2.2.1,x.2.2.2.1,x.2.2.2.2.2)
structure CopT (T U:Tt):Prop where
 st:U.st = T.st
 ro:U.ro = T.ro
 ca:U.ca = T.ca
 ex:U.ex = T.ex
 tr:U.tr.map noV = T.tr.map noV
 fr:U.fr = T.fr
 th:U.th = T.th
 gu:U.gu = T.gu
 pa:U.pa = T.pa
 pr:U.pr = T.pr
 di:U.di = T.di
 wi:U.wi = T.wi
 cp:U.cp = T.cp
theorem clT_noV {l m:List Tp} (h:l.map noV = m.map noV):l.map clT = m.map clT:=by
 have e:clT = (fun z:List UInt8 × Int × Int × Bool × List Cl=>z.2.2.2.2) ∘ noV:=rfl
 rw [e,← List.map_map,← List.map_map,h]
theorem fb_map2 {κ α β:Type} {bad:List κ→α→Int} {key:α→κ} {bad':List κ→β→Int} {key':β→κ} {f:α→β} (h1:∀ seen x,bad' seen (f x) = bad seen x) (h2:∀ x,key' (f x) = key x):∀ (l:List α) (seen:List κ) (k:Nat),fbF bad' key' seen k (l.map f) = fbF bad key seen k l
 | [],_,_=>rfl
 | x :: l,seen,k=>by
  rw [List.map_cons]
  unfold fbF
  rw [h1,h2,fb_map2 h1 h2 l]
def badV (st ro ca:Int) (seen:List Bs) (x:Bs × Int × Int × Bool × List Cl):Int:=if validB x.1 = false then 12 else if x.1∈seen then 6 else if S17.rkT ro ca x.2.1 x.2.2.1 then (chkC st 0 172800 x.2.2.2.2).2 else 9
theorem chkV (st ro ca:Int) (l:List Tp):S17.chkT st ro ca l = if 256 < (l.map noV).length then (0,5) else fbF (badV st ro ca) (fun x=>x.1) [] 0 (l.map noV):=by
 unfold S17.chkT
 rw [List.length_map,fb_map2 (bad:=S17.badT st ro ca) (key:=S17.idT) (bad':=badV st ro ca) (key':=fun x=>x.1) (f:=noV) (fun _ _=>rfl) (fun _=>rfl)]
theorem tc_noV {l m:List Tp} (h:l.map noV = m.map noV):l.map S19.tcT = m.map S19.tcT:=by
 have e:S19.tcT = (fun z:Bs × Int × Int × Bool × List Cl=>(z.2.2.1,z.2.2.2.2)) ∘ noV:=rfl
 rw [e,← List.map_map,← List.map_map,h]
theorem CopT.part {T U:Tt} (h:CopT T U):partT U = partT T:=by
 funext j
 match j with
 | 0=>show S13.chkT U.st = _; rw [h.st]; rfl
 | 1=>show chkR U.ro = _; rw [h.ro]; rfl
 | 2=>show S14.chkC U.ca = _; rw [h.ca]; rfl
 | 3=>show S14.chkX U.ca.length U.ex = _; rw [h.ca,h.ex]; rfl
 | 4=>show S17.chkT U.st.length U.ro.length U.ca.length U.tr = S17.chkT T.st.length T.ro.length T.ca.length T.tr; rw [h.st,h.ro,h.ca,chkV,chkV,h.tr]
 | 5=>show chkF (U.tr.map clT) U.fr = _; rw [clT_noV h.tr,h.fr]; rfl
 | 6=>show S19.chkH (U.tr.map S19.tcT) U.fr U.th = _; rw [tc_noV h.tr,h.fr,h.th]; rfl
 | 7=>show S19.chkU (U.tr.map S19.tcT) U.fr U.st.length U.gu = _; rw [tc_noV h.tr,h.fr,h.st,h.gu]; rfl
 | 8=>show S20.chkP U.st.length U.pa = _; rw [h.st,h.pa]; rfl
 | 9=>show S21.chkPd U.di U.wi U.cp U.pr = _; rw [h.di,h.wi,h.cp,h.pr]; rfl
 | n + 10=>rfl
theorem CopT.ttC {T U:Tt} (h:CopT T U):Go.Proofs.YtpifdbphmnifdaaGreatDoor.ttC U = Go.Proofs.YtpifdbphmnifdaaGreatDoor.ttC T:=by unfold Go.Proofs.YtpifdbphmnifdaaGreatDoor.ttC; rw [h.part]
def bTrV (F:Fm) (T:Tt) (x:Bs × Int × Int × Bool × List Cl):List (List Bs):=[wTr,x.1,atI (idsRo T) x.2.1,atI (idsCa T) x.2.2.1,flgT x.2.2.2.1] :: x.2.2.2.2.map (rCc F T)
theorem bTr_V (F:Fm) (T:Tt) (l:List Tp):l.flatMap (bTr F T) = (l.map noV).flatMap (bTrV F T):=by rw [List.flatMap_map]; rfl
theorem ids_noV {T U:Tt} (h:CopT T U):idsTr U = idsTr T:=by
 unfold idsTr
 have e:(fun x:Tp=>x.1) = (fun z:Bs × Int × Int × Bool × List Cl=>z.1) ∘ noV:=rfl
 rw [e,← List.map_map,← List.map_map,h.tr]
theorem CopT.rows {T U:Tt} (F:Fm) (h:CopT T U):Go.Proofs.YtpifdbphmnifdaaGreatDoor.rows F U = Go.Proofs.YtpifdbphmnifdaaGreatDoor.rows F T:=by
 have i0:idsSt U = idsSt T:=by unfold idsSt; rw [h.st]
 have i1:idsRo U = idsRo T:=by unfold idsRo; rw [h.ro]
 have i2:idsCa U = idsCa T:=by unfold idsCa; rw [h.ca]
 have i3:=ids_noV h
 have c0:rEx F U = rEx F T:=by funext x; unfold rEx; rw [i2]
 have c1:rCc F U = rCc F T:=by funext x; unfold rCc; rw [i0]
 have c2:bTrV F U = bTrV F T:=by funext x; unfold bTrV; rw [i1,i2,c1]
 have c3:rFr F U = rFr F T:=by funext x; unfold rFr; rw [i3]
 have c4:rTh U = rTh T:=by funext x; unfold rTh; rw [i3]
 have c5:rGu U = rGu T:=by funext x; unfold rGu; rw [i3,i0]
 have c6:rPa F U = rPa F T:=by funext x; unfold rPa; rw [i0]
 have c7:rFa F U = rFa F T:=by unfold rFa; rw [h.di,h.wi,h.cp]
 unfold Go.Proofs.YtpifdbphmnifdaaGreatDoor.rows
 rw [bTr_V,bTr_V,h.tr,c0,c2,c3,c4,c5,c6,c7,h.st,h.ro,h.ca,h.ex,h.fr,h.th,h.gu,h.pa,h.pr]
theorem CopT.feedF {T U:Tt} (F:Fm) (h:CopT T U):Go.Proofs.YtpifdbphmnifdaaGreatDoor.feedF F U = Go.Proofs.YtpifdbphmnifdaaGreatDoor.feedF F T:=by unfold Go.Proofs.YtpifdbphmnifdaaGreatDoor.feedF feedT; rw [h.ttC,h.rows F]
def cnt10 (s:Bs):Nat:=s.countP (· == 10)
theorem cnt_line {l:Bs} (h:∀ b∈l,b≠10):cnt10 l = 0:=by
 unfold cnt10
 rw [List.countP_eq_zero]
 intro b hb
 simpa using h b hb
theorem cnt_text:∀ (ls:List Bs),(∀ l∈ls,∀ b∈l,b≠10)→cnt10 (textL ls) = ls.length
 | [],_=>rfl
 | x :: ls,h=>by
  have e:textL (x :: ls) = x ++ [10] ++ textL ls:=rfl
  have ih:=cnt_text ls (fun l hl=>h l (List.mem_cons_of_mem _ hl))
  have hx:=cnt_line (h x List.mem_cons_self)
  unfold cnt10 at ih hx ⊢
  rw [e,List.countP_append,List.countP_append,ih,hx]
  simp
  omega
theorem cnt_less:∀ (A:List Bs),(∀ l∈A,∀ b∈l,b≠10)→∀ j,j < (textL A).length→cnt10 ((textL A).take j) < A.length
 | [],_,j,h=>by simp [textL] at h
 | x :: A,hA,j,h=>by
  have e:textL (x :: A) = (x ++ [10]) ++ textL A:=rfl
  rw [e] at h ⊢
  have hx:=hA x List.mem_cons_self
  by_cases hj:j≤x.length
  ·rw [List.take_append_of_le_length (by simp; omega),List.take_append_of_le_length hj]
   rw [cnt_line (fun b hb=>hx b (List.mem_of_mem_take hb))]
   simp
  ·rw [List.take_append,List.take_of_length_le (by simp; omega)]
   have la:(x ++ [10]).length = x.length + 1:=by simp
   have ih:=cnt_less A (fun l hl=>hA l (List.mem_cons_of_mem _ hl)) (j - (x ++ [10]).length) (by rw [List.length_append] at h; omega)
   have h0:=cnt_line hx
   unfold cnt10 at ih h0 ⊢
   rw [List.countP_append,List.countP_append,h0]
   simp only [List.length_cons]
   simp at ih ⊢
   omega
theorem textL_app (A B:List Bs):textL (A ++ B) = textL A ++ textL B:=by unfold textL; rw [List.flatMap_append]
theorem lin_of {s:Bs} (h:s≠[]) (h10:s[s.length - 1]? = some 10) (hl:s.length≤65536):linR s = ((cutL s).1,0)∧textL (cutL s).1 = s∧∀ l∈(cutL s).1,∀ b∈l,b≠10:=by
 have e:s = s.dropLast ++ [10]:=by
  have h1:s.getLast? = some 10:=by rw [List.getLast?_eq_getElem?]; exact h10
  have h2:=List.dropLast_concat_getLast h
  rw [List.getLast?_eq_some_getLast h] at h1
  rw [Option.some.inj h1] at h2
  exact h2.symm
 have h2:(cutL s).2 = []:=by rw [e,cutL_feed]
 refine ⟨?_,?_,?_⟩
 ·unfold linR
  rw [if_neg (by omega),if_neg h,if_pos h10]
 ·have:=cutL_join s.length s rfl
  rw [h2,List.append_nil] at this
  exact this
 ·have key:∀ (n:Nat) (l:Bs),l.length = n→(∀ x∈(cutL l).1,∀ b∈x,b≠10)∧∀ b∈(cutL l).2,b≠10:=by
   intro n
   induction n with
   | zero =>
    intro l hl
    have:l = []:=List.eq_nil_of_length_eq_zero hl
    subst this
    exact ⟨fun x hx=>by simp [cutL_nil] at hx,fun b hb=>by simp [cutL_nil] at hb⟩
   | succ n ih =>
    intro l hl
    have hne:l≠[]:=fun e=>by rw [e] at hl; cases hl
    have e2:=List.dropLast_concat_getLast hne
    generalize l.getLast hne = c at e2
    have hd:l.dropLast.length = n:=by rw [List.length_dropLast]; omega
    generalize l.dropLast = d at e2 hd
    subst e2
    obtain ⟨i1,i2⟩:=ih d hd
    by_cases hc:c = 10
    ·subst hc
     rw [cutL_feed]
     refine ⟨fun x hx=>?_,fun b hb=>by cases hb⟩
     rcases List.mem_append.1 hx with hx | hx
     ·exact i1 x hx
     ·have:x = (cutL d).2:=by simpa using hx
      subst this
      exact i2
    ·rw [cutL_byte d c hc]
     refine ⟨i1,fun b hb=>?_⟩
     rcases List.mem_append.1 hb with hb | hb
     ·exact i2 b hb
     ·have:b = c:=by simpa using hb
      subst this
      exact hc
  exact (key s.length s rfl).1
def okAt (i:Nat) (c:UInt8):Bool:=if i = 2∨i = 5 then c == 58 else dig c
def timeForm (l:List UInt8):Bool:=decide (l.length = 8) && l.zipIdx.all fun x=>okAt x.2 x.1
theorem form_at (l:List UInt8) (h:timeForm l = true):l.length = 8∧∀ (k:Nat) c,l[k]? = some c→okAt k c = true:=by
 unfold timeForm at h
 simp only [Bool.and_eq_true,decide_eq_true_eq,List.all_eq_true] at h
 exact ⟨h.1,fun k c hk=>h.2 (c,k) (List.mem_zipIdx_iff_getElem?.2 hk)⟩
theorem form_mk (l:List UInt8) (h8:l.length = 8) (h:∀ (k:Nat) c,l[k]? = some c→okAt k c = true):timeForm l = true:=by
 unfold timeForm
 simp only [Bool.and_eq_true,decide_eq_true_eq,List.all_eq_true]
 exact ⟨h8,fun x hx=>h x.2 x.1 (List.mem_zipIdx_iff_getElem?.1 hx)⟩
theorem okAt_colon (k:Nat) (c:UInt8) (hk:k = 2∨k = 5):okAt k c = true ↔ c.toNat = 58:=by
 unfold okAt
 rw [if_pos hk,beq_iff_eq]
 exact ⟨fun h=>by rw [h]; rfl,fun h=>UInt8.toNat_inj.1 h⟩
theorem okAt_digit (k:Nat) (c:UInt8) (hk:¬ (k = 2∨k = 5)):okAt k c = true ↔ 48≤c.toNat∧c.toNat≤57:=by
 unfold okAt
 rw [if_neg hk,dig_iff]
def posD (l:List UInt8):Bool:=!l.isEmpty && !(l[0]? == some 48) && digs l
def laterD (l:List UInt8):Bool:=decide (l.length = 2) && digs l && decide (valN l < 60)
def firstD (l:List UInt8):Bool:=posD l && decide (l.length≤2) && decide (valN l < 60)
theorem posD_iff (l:List UInt8):posD l = true ↔ l≠[]∧l[0]?≠some 48∧digs l = true:=by
 unfold posD
 simp [and_assoc]
theorem laterD_iff (l:List UInt8):laterD l = true ↔ l.length = 2∧digs l = true∧valN l < 60:=by
 unfold laterD
 simp [and_assoc]
theorem firstD_iff (l:List UInt8):firstD l = true ↔ posD l = true∧l.length≤2∧valN l < 60:=by
 unfold firstD
 simp [and_assoc]
def before (c:UInt8) (l:List UInt8):List UInt8:=l.takeWhile (· != c)
def after (c:UInt8) (l:List UInt8):List UInt8:=(l.dropWhile (· != c)).drop 1
theorem take_pre (c:UInt8) (post:List UInt8):∀ pre:List UInt8,c ∉ pre→before c (pre ++ c :: post) = pre∧after c (pre ++ c :: post) = post
 | [],_=>by simp [before,after]
 | b :: l,h=>by
  have hb:(b != c) = true:=by rw [bne_iff_ne]; rintro rfl; exact h (by simp)
  have ih:=take_pre c post l (fun hx=>h (by simp [hx]))
  unfold before after at *
  simp [hb,ih]
theorem split_at (c:UInt8) (l:List UInt8) (h:c∈l):∃ pre post,l = pre ++ c :: post∧c ∉ pre∧before c l = pre∧after c l = post:=by
 obtain ⟨pre,post,rfl,hn⟩:=List.eq_append_cons_of_mem h
 exact ⟨pre,post,rfl,hn,take_pre c post pre hn⟩
def hoursR (H T:List UInt8):Int × Int :=
 if 109∈T∧laterD (before 109 T) = true∧laterD (after 109 T) = true∧posD H = true then
  if 2 < H.length then (0,2) else ((valN H:Int) * 3600 + (valN (before 109 T):Int) * 60 + (valN (after 109 T):Int),0)
 else (0,3)
def minutesR (M S:List UInt8):Int × Int :=
 if firstD M = true∧laterD S = true then ((valN M:Int) * 60 + (valN S:Int),0) else (0,3)
def restR (r:List UInt8):Int × Int :=
 if 104∈r then hoursR (before 104 r) (after 104 r)
 else if 109∈r then minutesR (before 109 r) (after 109 r)
 else if r = [48] then (0,0)
 else if firstD r = true then ((valN r:Int),0) else (0,3)
def durR (l:List UInt8):Int × Int:=if List.isSuffixOf [115] l = true then restR l.dropLast else (0,3)
def timeText (t:Int):List UInt8:=two (t / 3600) ++ [58] ++ two (t % 3600 / 60) ++ [58] ++ two (t % 60)
def durText (n:Int):List UInt8 :=
 if 3600≤n then dec (n / 3600) ++ [104] ++ two (n % 3600 / 60) ++ [109] ++ two (n % 60) ++ [115]
 else if 60≤n then dec (n % 3600 / 60) ++ [109] ++ two (n % 60) ++ [115]
 else dec (n % 60) ++ [115]
def Parts (h m s:Int):Prop:=0≤h∧h≤48∧0≤m∧m < 60∧0≤s∧s < 60∧h * 3600 + m * 60 + s≤172800
instance (h m s:Int):Decidable (Parts h m s):=by unfold Parts; infer_instance
def timeR (l:List UInt8):Int × Int :=
 if timeForm l = true then
  if Parts (pairN l 0) (pairN l 3) (pairN l 6) then ((pairN l 0:Int) * 3600 + (pairN l 3:Int) * 60 + (pairN l 6:Int),0) else (0,10)
 else (0,3)
theorem suffix_split (l:List UInt8) (h:List.isSuffixOf [115] l = true):∃ r,l = r ++ [115]∧l.dropLast = r:=by
 rw [List.isSuffixOf_iff_suffix] at h
 obtain ⟨r,rfl⟩:=h
 exact ⟨r,rfl,by simp⟩
end Go.Proofs.YtpifdbphmnifdaaGreatDoor
