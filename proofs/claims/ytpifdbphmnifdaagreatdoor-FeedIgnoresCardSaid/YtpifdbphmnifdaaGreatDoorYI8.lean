/-
  Facts of the proof. Condition: each theorem's own.
-/
import Derived.Test.YtpifdbphmnifdaaGreatDoorYI6
set_option maxRecDepth 100000
set_option maxHeartbeats 8000000
open Go.Proofs.Tryz
namespace Go.Proofs.YtpifdbphmnifdaaGreatDoor
namespace S19
open Go Go.RowKit
abbrev Th:=Int×Int
abbrev Gt:=Int×Int×Int
abbrev Tc:=Int×List Cl
theorem Jil {α:Type} [DecidableEq α]:∀(P R:List α),P.Nodup→(∀x∈P,x∈R)→P.length≤R.length
 | [],_,_,_=>Nat.zero_le _
 | x::r,R,hn,hs=>by
  obtain⟨h1,h2⟩:=List.nodup_cons.1 hn;have hx:=hs x List.mem_cons_self;have ih:=Jil r (R.erase x) h2 (fun y hy=>by
   have hne:y≠x:=fun e=>h1 (e ▸ hy)
   exact (List.mem_erase_of_ne hne).2 (hs y (List.mem_cons_of_mem _ hy)))
  rw [List.length_erase_of_mem hx] at ih;have:=List.length_pos_of_mem hx;rw [List.length_cons];omega
def nxT (t:Int):List Th→Option Int
 | []=>none
 | x::r=>if x.1=t then some x.2 else nxT t r
def nxV (t:Int) (l:List Th):Int:=(nxT t l).getD 0
def nxB (t:Int) (l:List Th):Bool:=(nxT t l).isSome
section
variable {t:Int} {l:List Th} {q:Option Int} {k:Nat} {x:Th}
theorem J9c (hr:q=nxT t (l.drop k)) (h:l[k]?=some x) (ht:x.1=t):q=some x.2:=by
 rw [hr,Jbc l k x h];unfold nxT;rw [if_pos ht]
theorem J5s (hr:q=nxT t (l.drop k)) (h:l[k]?=some x) (ht:x.1≠t):q=nxT t (l.drop (k+1)):=by
 rw [hr,Jbc l k x h];conv=>lhs;unfold nxT
 rw [if_neg ht]
theorem J9d (hr:q=nxT t (l.drop k)) (h:l.length≤k):q=none:=by
 rw [hr,List.drop_of_length_le h];rfl
end
theorem Ju8 {t:Int}:∀{l:List Th} {y:Int},nxT t l=some y→(t,y)∈l
 | [],y,h=>by cases h
 | x::r,y,h=>by
  unfold nxT at h;split at h
  ·next hx =>
   have:=Option.some.inj h;rw [show (t,y)=x from Prod.ext hx.symm this.symm];exact List.mem_cons_self
  ·exact List.mem_cons_of_mem _ (Ju8 h)
theorem J3k {t y:Int} {l:List Th} (h:nxT t l=some y):y∈l.map Prod.snd:=List.mem_map.2 ⟨_,Ju8 h,rfl⟩
def chF (l:List Th):Nat→List Int→Int→List Int
 | 0,out,_=>out
 | n+1,out,t=>match nxT t l with
  | none=>out
  | some y=>if y∈out then out else chF l n (out++[y]) y
def chT (l:List Th) (t:Int):List Int:=chF l l.length [t] t
section
variable {l:List Th} {n:Nat} {out:List Int} {t y:Int}
theorem J5t (h:nxT t l=none):chF l n out t=out:=by
 cases n with
 | zero=>rfl
 | succ n=>unfold chF;rw [h]
theorem J5u (h:nxT t l=some y) (hy:y∈out):chF l n out t=out:=by
 cases n with
 | zero=>rfl
 | succ n=>unfold chF;rw [h];exact if_pos hy
theorem J5v (h:nxT t l=some y) (hy:y ∉ out):chF l (n+1) out t=chF l n (out++[y]) y:=by
 conv=>lhs;unfold chF
 rw [h];exact if_neg hy
end
structure ChS (l:List Th) (q out:List Int) (t:Int) (n:Nat):Prop where
 is:q=chF l n out t
 last:out[out.length - 1]?=some t
 nod:out.Nodup
 sub:∀z∈out.tail,z∈l.map Prod.snd
 len:n+out.length=l.length+1
 pos:0<out.length
theorem ChS.start (l:List Th) (t:Int):ChS l (chT l t) [t] t l.length:=⟨rfl,rfl,by simp,fun z hz=>by simp at hz,rfl,Nat.zero_lt_one⟩
section
variable {l:List Th} {q out:List Int} {t y:Int} {n:Nat}
theorem ChS.stop (h:ChS l q out t n) (hn:nxT t l=none):q=out:=h.is.trans (J5t hn)
theorem ChS.used (h:ChS l q out t n) (hn:nxT t l=some y) (hy:y∈out):q=out:=h.is.trans (J5u hn hy)
theorem ChS.room (h:ChS l q out t n) (hn:nxT t l=some y) (hy:y ∉ out):0<n:=by
 obtain⟨a,r,rfl⟩:∃a r,out=a::r:=by
  cases out with
  | nil=>exact absurd h.pos (Nat.lt_irrefl 0)
  | cons a r=>exact⟨a,r,rfl⟩
 have h1:(r++[y]).Nodup:=by
  rw [List.nodup_append];refine⟨(List.nodup_cons.1 h.nod).2,by simp,fun x hx z hz=>?_⟩;rw [List.mem_singleton.1 hz];rintro rfl;exact hy (List.mem_cons_of_mem _ hx)
 have h2:=Jil (r++[y]) (l.map Prod.snd) h1 (fun z hz=>by
  rcases List.mem_append.1 hz with hz | hz
  ·exact h.sub z hz
  ·rw [List.mem_singleton.1 hz];exact J3k hn)
 have h3:=h.len;rw [List.length_append,List.length_map,List.length_singleton] at h2;rw [List.length_cons] at h3;omega
theorem ChS.step (h:ChS l q out t n) (hn:nxT t l=some y) (hy:y ∉ out):ChS l q (out++[y]) y (n - 1):=by
 have hp:=h.room hn hy;obtain⟨m,rfl⟩:∃m,n=m+1:=⟨n - 1,by omega⟩;have hl:=h.pos;refine⟨h.is.trans (J5v hn hy),by simp,?_,fun z hz=>?_,?_,by simp⟩
 ·rw [List.nodup_append]
  refine⟨h.nod,by simp,fun x hx z hz=>?_⟩;rw [List.mem_singleton.1 hz];rintro rfl;exact hy hx
 ·cases out with
  | nil=>exact absurd h.pos (Nat.lt_irrefl 0)
  | cons a r =>
   rw [List.cons_append,List.tail_cons] at hz;rcases List.mem_append.1 hz with hz | hz
   ·exact h.sub z hz
   ·rw [List.mem_singleton.1 hz];exact J3k hn
 ·have:=h.len
  rw [List.length_append,List.length_singleton];omega
theorem ChS.le (h:ChS l q out t n):out.length≤l.length+1:=by have:=h.len;omega
end
structure ChOk (l:List Th) (t:Int) (c:List Int):Prop where
 first:c[0]?=some t
 nod:c.Nodup
 link:∀(j:Nat) (x y:Int),c[j]?=some x→c[j+1]?=some y→nxT x l=some y
 last:∀x y,c[c.length - 1]?=some x→nxT x l=some y→y∈c
 len:0<c.length∧c.length≤l.length+1
theorem J3l (l:List Th) (t0:Int) (q:List Int):∀(n:Nat) (out:List Int) (t:Int),ChS l q out t n→out[0]?=some t0→(∀(j:Nat) (x y:Int),out[j]?=some x→out[j+1]?=some y→nxT x l=some y)→ChOk l t0 q
 | n,out,t,h,h0,hl=>by
  cases hn:nxT t l with
  | none =>
   obtain rfl:=h.stop hn;refine⟨h0,h.nod,hl,fun x y hx hy=>?_,h.pos,h.le⟩;rw [h.last] at hx;obtain rfl:=Option.some.inj hx;rw [hn] at hy;cases hy
  | some z =>
   by_cases hz:z∈out
   ·obtain rfl:=h.used hn hz
    refine⟨h0,h.nod,hl,fun x y hx hy=>?_,h.pos,h.le⟩;rw [h.last] at hx;obtain rfl:=Option.some.inj hx;rw [hn] at hy;rw [←Option.some.inj hy];exact hz
   ·have hp:=h.room hn hz
    have hs:=h.step hn hz;have hpos:=h.pos;refine J3l l t0 q (n - 1) _ z hs ?_ ?_
    ·rw [List.getElem?_append_left hpos];exact h0
    ·intro j x y hx hy
     have hj:=(List.getElem?_eq_some_iff.1 hy).1;rw [List.length_append,List.length_singleton] at hj;rw [List.getElem?_append_left (by omega)] at hx;by_cases he:j+1<out.length
     ·rw [List.getElem?_append_left he] at hy
      exact hl j x y hx hy
     ·have e:j=out.length - 1:=by omega
      rw [e,h.last] at hx;obtain rfl:=Option.some.inj hx;rw [List.getElem?_append_right (by omega),show j+1 - out.length=0 by omega] at hy;obtain rfl:=Option.some.inj hy;exact hn
termination_by n=>n
theorem ch_ok (l:List Th) (t:Int):ChOk l t (chT l t):=J3l l t _ l.length [t] t (ChS.start l t) rfl (fun j x y _ hy=>by simp at hy)
theorem J9e (l:List Th) (t:Int):(chT l t).length≤l.length+1:=(ch_ok l t).len.2
def psE (a b:Tc):Int :=
 if a.1≠b.1 then 15 else
 match a.2[a.2.length - 1]?,b.2[0]? with
 | some x,some y=>if x.1≠y.1 then 13 else if y.2.2.1<x.2.1 then 10 else 0
 | _,_=>13
section
variable {a b:Tc} {x y:Cl}
theorem J9f (h:a.1≠b.1):psE a b=15:=by unfold psE;rw [if_pos h]
theorem J5w (h:a.1=b.1) (h1:a.2.length=0):psE a b=13:=by
 unfold psE;rw [if_neg (by simp [h]),List.getElem?_eq_none (by omega)]
theorem ps_to (h:a.1=b.1) (h1:b.2.length=0):psE a b=13:=by
 unfold psE;rw [if_neg (by simp [h]),List.getElem?_eq_none (l:=b.2) (by omega)];split
 ·next h2=>cases h2
 ·rfl
theorem Ju9 (h:a.1=b.1) (hx:a.2[a.2.length - 1]?=some x) (hy:b.2[0]?=some y) (hs:x.1≠y.1):psE a b=13:=by
 unfold psE;rw [if_neg (by simp [h]),hx,hy];exact if_pos hs
theorem Jva (h:a.1=b.1) (hx:a.2[a.2.length - 1]?=some x) (hy:b.2[0]?=some y) (hs:x.1=y.1) (ht:y.2.2.1<x.2.1):psE a b=10:=by
 unfold psE;rw [if_neg (by simp [h]),hx,hy];show (if x.1≠y.1 then (13:Int) else if y.2.2.1<x.2.1 then 10 else 0)=10
 rw [if_neg (by simp [hs]),if_pos ht]
theorem J9g (h:a.1=b.1) (hx:a.2[a.2.length - 1]?=some x) (hy:b.2[0]?=some y) (hs:x.1=y.1) (ht:¬y.2.2.1<x.2.1):psE a b=0:=by
 unfold psE;rw [if_neg (by simp [h]),hx,hy];show (if x.1≠y.1 then (13:Int) else if y.2.2.1<x.2.1 then 10 else 0)=0
 rw [if_neg (by simp [hs]),if_neg ht]
end
def alP (st:Int) (x:Cl):Bool:=decide (x.1=st)&&x.2.2.2.2
def bdP (st:Int) (x:Cl):Bool:=decide (x.1=st)&&x.2.2.2.1
theorem J0d {st:Int} {x:Cl} (h:x.1≠st):alP st x=false:=by unfold alP;rw [decide_eq_false h];rfl
theorem J0e {st:Int} {x:Cl} (h:x.2.2.2.2=false):alP st x=false:=by unfold alP;rw [h,Bool.and_false]
theorem J5x {st:Int} {x:Cl} (h:x.1=st) (k:x.2.2.2.2=true):alP st x=true:=by unfold alP;rw [decide_eq_true h,k];rfl
theorem J0f {st:Int} {x:Cl} (h:x.1≠st):bdP st x=false:=by unfold bdP;rw [decide_eq_false h];rfl
theorem J0g {st:Int} {x:Cl} (h:x.2.2.2.1=false):bdP st x=false:=by unfold bdP;rw [h,Bool.and_false]
theorem J5y {st:Int} {x:Cl} (h:x.1=st) (k:x.2.2.2.1=true):bdP st x=true:=by unfold bdP;rw [decide_eq_true h,k];rfl
def alF (st:Int) (k:Nat) (l:List Cl):Int:=fdF (alP st) (max k 1) (l.drop (max k 1))
def bdF (st:Int) (k:Nat) (l:List Cl):Int:=fdF (bdP st) k (l.dropLast.drop k)
section
variable {st:Int} {l:List Cl} {q:Int} {k:Nat} {x:Cl}
theorem J5z (hr:q=alF st 0 l):q=alF st 1 l:=hr
theorem J9h (hr:q=alF st k l) (hk:0<k) (h:l[k]?=some x) (hp:alP st x=true):q=(k:Int):=by
 unfold alF at hr;rw [Nat.max_eq_left hk] at hr;exact Jk0 hr h hp
theorem Jvb (hr:q=alF st k l) (hk:0<k) (h:l[k]?=some x) (hp:alP st x=false):q=alF st (k+1) l:=by
 unfold alF at hr ⊢;rw [Nat.max_eq_left hk] at hr;rw [Nat.max_eq_left (by omega)];exact Jhi hr h hp
theorem J9i (hr:q=alF st k l) (h:l.length≤k):q=-1:=by
 unfold alF at hr;exact Jk1 hr (by omega)
theorem Jng (h:l[k]?=some x) (hk:k<l.length - 1):l.dropLast[k]?=some x:=by
 rw [List.getElem?_dropLast,if_pos hk];exact h
theorem J9j (hr:q=bdF st k l) (h:l[k]?=some x) (hk:k<l.length - 1) (hp:bdP st x=true):q=(k:Int):=Jk0 hr (Jng h hk) hp
theorem Jvc (hr:q=bdF st k l) (h:l[k]?=some x) (hk:k<l.length - 1) (hp:bdP st x=false):q=bdF st (k+1) l:=Jhi hr (Jng h hk) hp
theorem Jvd (hr:q=bdF st k l) (h:l.length - 1≤k):q=-1:=Jk1 hr (by rw [List.length_dropLast];exact h)
end
theorem Jf4 {α:Type} (p:α→Bool):∀(l:List α) (k j:Nat),fdF p k l=((k+j:Nat):Int)→∀(i:Nat) x,i<j→l[i]?=some x→p x=false
 | [],k,j,h,i,x,hi,hx=>by simp at hx
 | y::r,k,j,h,i,x,hi,hx=>by
  unfold fdF at h;split at h
  ·omega
  ·next hy =>
   cases i with
   | zero =>
    simp at hx;subst hx;exact Bool.eq_false_iff.2 hy
   | succ i =>
    rw [List.getElem?_cons_succ] at hx;exact Jf4 p r (k+1) (j - 1) (by rw [h];congr 1;omega) i x (by omega) hx
theorem al_is (st:Int) (l:List Cl):alF st 0 l=-1∨∃(i:Nat) (x:Cl),alF st 0 l=(i:Int)∧1≤i∧l[i]?=some x∧alP st x=true∧∀(j:Nat) (y:Cl),1≤j→j<i→l[j]?=some y→alP st y=false:=by
 rcases Decidable.em (alF st 0 l=-1) with h | h
 ·exact .inl h
 ·have h':fdF (alP st) 1 (l.drop 1)≠-1:=h
  obtain⟨j,x,h1,h2,h3⟩:=Jjg _ _ _ h';refine .inr ⟨1+j,x,h3,by omega,by rw [←h1,List.getElem?_drop],h2,fun i y hi hj hy=>?_⟩;obtain⟨m,rfl⟩:∃m,i=1+m:=⟨i - 1,by omega⟩;exact Jf4 _ _ _ _ h3 m y (by omega) (by rw [List.getElem?_drop];exact hy)
theorem bd_is (st:Int) (l:List Cl):bdF st 0 l=-1∨∃(i:Nat) (x:Cl),bdF st 0 l=(i:Int)∧i+1<l.length∧l[i]?=some x∧bdP st x=true∧∀(j:Nat) (y:Cl),j<i→l[j]?=some y→bdP st y=false:=by
 rcases Decidable.em (bdF st 0 l=-1) with h | h
 ·exact .inl h
 ·have h':fdF (bdP st) 0 (l.dropLast.drop 0)≠-1:=h
  obtain⟨i,x,h1,h2,h3⟩:=Jjg _ _ _ h';rw [List.drop_zero] at h1;have hi:=(List.getElem?_eq_some_iff.1 h1).1;rw [List.length_dropLast] at hi;refine .inr ⟨i,x,by rw [Nat.zero_add] at h3;exact h3,by omega,?_,h2,fun j y hj hy=>?_⟩
  ·rw [List.getElem?_dropLast,if_pos (by omega)] at h1
   exact h1
  ·exact Jf4 _ _ _ _ h3 j y hj (by rw [List.drop_zero];exact Jng hy (by omega))
def meT (st:Int) (a b:List Cl):Int×Int×Bool :=
 match a[(alF st 0 a).toNat]?,b[(bdF st 0 b).toNat]? with
 | some x,some y=>if alF st 0 a=-1∨bdF st 0 b=-1∨y.2.2.1<x.2.1 then (0,0,false) else (alF st 0 a,bdF st 0 b,true)
 | _,_=>(0,0,false)
section
variable {st:Int} {a b:List Cl} {x y:Cl} {i k:Nat}
theorem J50 (h:alF st 0 a=-1):meT st a b=(0,0,false):=by
 unfold meT;split
 ·rw [if_pos (.inl h)]
 ·rfl
theorem me_to (h:bdF st 0 b=-1):meT st a b=(0,0,false):=by
 unfold meT;split
 ·rw [if_pos (.inr (.inl h))]
 ·rfl
theorem J51 (hi:alF st 0 a=(i:Int)) (hk:bdF st 0 b=(k:Int)) (hx:a[i]?=some x) (hy:b[k]?=some y) (h:y.2.2.1<x.2.1):meT st a b=(0,0,false):=by
 unfold meT;rw [hi,hk,Int.toNat_natCast,Int.toNat_natCast,hx,hy];exact if_pos (.inr (.inr h))
theorem J9k (hi:alF st 0 a=(i:Int)) (hk:bdF st 0 b=(k:Int)) (hx:a[i]?=some x) (hy:b[k]?=some y) (h:¬y.2.2.1<x.2.1):meT st a b=((i:Int),(k:Int),true):=by
 unfold meT;rw [hi,hk,Int.toNat_natCast,Int.toNat_natCast,hx,hy];exact if_neg (by omega)
end
def tcA (ts:List Tc) (i:Int):Tc:=ts[i.toNat]?.getD (0,[])
theorem J9l {ts:List Tc} {i:Int} {k:Nat} {x:Tc} (hi:i=(k:Int)) (h:ts[k]?=some x):tcA ts i=x:=by
 unfold tcA;rw [hi,Int.toNat_natCast,h];rfl
def prE (n:Nat) (f:List Fq) (a b:Int):Int:=if ¬(0≤a∧a<(n:Int))∨¬(0≤b∧b<(n:Int))∨a=b then 9 else if repF a f || repF b f then 17 else 0
section
variable {n:Nat} {f:List Fq} {a b:Int}
theorem pr_a (h:¬(0≤a∧a<(n:Int))):prE n f a b=9:=by unfold prE;rw [if_pos (.inl h)]
theorem pr_b (h:¬(0≤b∧b<(n:Int))):prE n f a b=9:=by unfold prE;rw [if_pos (.inr (.inl h))]
theorem pr_ab (h:a=b):prE n f a b=9:=by unfold prE;rw [if_pos (.inr (.inr h))]
theorem pr_fa (h1:0≤a∧a<(n:Int)) (h2:0≤b∧b<(n:Int)) (h3:a≠b) (h:repF a f=true):prE n f a b=17:=by
 unfold prE;rw [if_neg (by omega),h];rfl
theorem pr_fb (h1:0≤a∧a<(n:Int)) (h2:0≤b∧b<(n:Int)) (h3:a≠b) (h:repF b f=true):prE n f a b=17:=by
 unfold prE;rw [if_neg (by omega),h,Bool.or_true];rfl
theorem pr_ok (h1:0≤a∧a<(n:Int)) (h2:0≤b∧b<(n:Int)) (h3:a≠b) (h:repF a f=false) (h':repF b f=false):prE n f a b=0:=by
 unfold prE;rw [if_neg (by omega),h,h'];rfl
theorem Jve (h:prE n f a b=0):(0≤a∧a<(n:Int))∧(0≤b∧b<(n:Int))∧a≠b∧repF a f=false∧repF b f=false:=by
 unfold prE at h;split at h
 ·omega
 ·next h1 =>
  split at h
  ·omega
  ·next h2 =>
   have:=Bool.eq_false_iff.2 h2;rw [Bool.or_eq_false_iff] at this;refine⟨by omega,by omega,by omega,this⟩
end
def thE (ts:List Tc) (f:List Fq) (seen:List Th) (x:Th):Int :=
 if prE ts.length f x.1 x.2≠0 then prE ts.length f x.1 x.2 else
 if psE (tcA ts x.1) (tcA ts x.2)≠0 then psE (tcA ts x.1) (tcA ts x.2) else
 if x.1∈seen.map Prod.fst∨x.2∈seen.map Prod.snd then 6 else if x.1∈chT seen x.2 then 19 else 0
section
variable {ts:List Tc} {f:List Fq} {seen:List Th} {x:Th}
theorem J52 (h:prE ts.length f x.1 x.2≠0):thE ts f seen x=prE ts.length f x.1 x.2:=by unfold thE;rw [if_pos h]
theorem J53 (h1:prE ts.length f x.1 x.2=0) (h:psE (tcA ts x.1) (tcA ts x.2)≠0):thE ts f seen x=psE (tcA ts x.1) (tcA ts x.2):=by
 unfold thE;rw [if_neg (by simp [h1]),if_pos h]
theorem J54 (h1:prE ts.length f x.1 x.2=0) (h2:psE (tcA ts x.1) (tcA ts x.2)=0) (h:x.1∈seen.map Prod.fst):thE ts f seen x=6:=by
 unfold thE;rw [if_neg (by simp [h1]),if_neg (by simp [h2]),if_pos (.inl h)]
theorem th_to (h1:prE ts.length f x.1 x.2=0) (h2:psE (tcA ts x.1) (tcA ts x.2)=0) (h:x.2∈seen.map Prod.snd):thE ts f seen x=6:=by
 unfold thE;rw [if_neg (by simp [h1]),if_neg (by simp [h2]),if_pos (.inr h)]
theorem J55 (h1:prE ts.length f x.1 x.2=0) (h2:psE (tcA ts x.1) (tcA ts x.2)=0) (h3:x.1 ∉ seen.map Prod.fst) (h4:x.2 ∉ seen.map Prod.snd) (h:x.1∈chT seen x.2):thE ts f seen x=19:=by
 unfold thE;rw [if_neg (by simp [h1]),if_neg (by simp [h2]),if_neg (by rintro (h | h);exact h3 h;exact h4 h),if_pos h]
theorem th_ok (h1:prE ts.length f x.1 x.2=0) (h2:psE (tcA ts x.1) (tcA ts x.2)=0) (h3:x.1 ∉ seen.map Prod.fst) (h4:x.2 ∉ seen.map Prod.snd) (h:x.1 ∉ chT seen x.2):thE ts f seen x=0:=by
 unfold thE;rw [if_neg (by simp [h1]),if_neg (by simp [h2]),if_neg (by rintro (h | h);exact h3 h;exact h4 h),if_neg h]
end
abbrev idP (x:Th):Th:=x
abbrev idG (x:Gt):Gt:=x
def chkH (ts:List Tc) (f:List Fq) (l:List Th):Int×Int:=if 128<l.length then (0,5) else fbF (thE ts f) idP [] 0 l
theorem J56 (l:List Th):l.map idP=l:=List.map_id' l
section
variable {ts:List Tc} {f:List Fq} {l:List Th}
theorem Jvf (h:128<l.length):chkH ts f l=(0,5):=by unfold chkH;rw [if_pos h]
theorem Jru (h:¬128<l.length):chkH ts f l=fbF (thE ts f) idP ((l.take 0).map idP) 0 (l.drop 0):=by unfold chkH;rw [if_neg h];rfl
end
def guE (ts:List Tc) (f:List Fq) (st:Int) (seen:List Gt) (x:Gt):Int :=
 if ¬(0≤x.2.2∧x.2.2<st) then 9 else
 if prE ts.length f x.1 x.2.1≠0 then prE ts.length f x.1 x.2.1 else
 if (meT x.2.2 (tcA ts x.1).2 (tcA ts x.2.1).2).2.2=false then 19 else if x∈seen then 6 else 0
section
variable {ts:List Tc} {f:List Fq} {st:Int} {seen:List Gt} {x:Gt}
theorem J57 (h:¬(0≤x.2.2∧x.2.2<st)):guE ts f st seen x=9:=by unfold guE;rw [if_pos h]
theorem J58 (h1:0≤x.2.2∧x.2.2<st) (h:prE ts.length f x.1 x.2.1≠0):guE ts f st seen x=prE ts.length f x.1 x.2.1:=by
 unfold guE;rw [if_neg (by omega),if_pos h]
theorem J59 (h1:0≤x.2.2∧x.2.2<st) (h2:prE ts.length f x.1 x.2.1=0) (h:(meT x.2.2 (tcA ts x.1).2 (tcA ts x.2.1).2).2.2=false):guE ts f st seen x=19:=by
 unfold guE;rw [if_neg (by omega),if_neg (by simp [h2]),if_pos h]
theorem J0h (h1:0≤x.2.2∧x.2.2<st) (h2:prE ts.length f x.1 x.2.1=0) (h3:(meT x.2.2 (tcA ts x.1).2 (tcA ts x.2.1).2).2.2=true) (h:x∈seen):guE ts f st seen x=6:=by
 unfold guE;rw [if_neg (by omega),if_neg (by simp [h2]),if_neg (by simp [h3]),if_pos h]
theorem gu_ok (h1:0≤x.2.2∧x.2.2<st) (h2:prE ts.length f x.1 x.2.1=0) (h3:(meT x.2.2 (tcA ts x.1).2 (tcA ts x.2.1).2).2.2=true) (h:x ∉ seen):guE ts f st seen x=0:=by
 unfold guE;rw [if_neg (by omega),if_neg (by simp [h2]),if_neg (by simp [h3]),if_neg h]
end
def chkU (ts:List Tc) (f:List Fq) (st:Int) (l:List Gt):Int×Int:=if 128<l.length then (0,5) else fbF (guE ts f st) idG [] 0 l
section
variable {ts:List Tc} {f:List Fq} {st:Int} {l:List Gt}
theorem Jvg (h:128<l.length):chkU ts f st l=(0,5):=by unfold chkU;rw [if_pos h]
theorem Jrv (h:¬128<l.length):chkU ts f st l=fbF (guE ts f st) idG ((l.take 0).map idG) 0 (l.drop 0):=by unfold chkU;rw [if_neg h];rfl
end
open Go.RowKit
def hh (x:Th):List Value:=[.int .i64 x.1,.int .i64 x.2]
theorem hh_len (x:Th):(hh x).length=2:=rfl
abbrev LstH:=@LstG Th hh
theorem two_hh {w:World} {A:Option Addr} {n c:Nat} {l:List Th} (h:LstH w (.slice A n c) l) {i:Nat} {a b:Int} (hs:l[i]?=some (a,b)) :
  ∃k f,A=some ⟨k,f,none⟩∧k<w.heap.size∧w.cell? ⟨k,f+i*2,none⟩=some (.int .i64 a)∧w.cell? ⟨k,f+i*2+1,none⟩=some (.int .i64 b):=by
 obtain⟨A',c',hv,_,_,hx⟩:=h;cases hv
 have hi:=(List.getElem?_eq_some_iff.1 hs).1;obtain⟨k,f,rfl,hb,hcell⟩:=hx (by omega);exact⟨k,f,rfl,hb,hcell (i*2) _ (by rw [←Nat.add_zero (i*2),Jbl hh_len hs 0 (by omega)];rfl),(hcell (i*2+1) _ (by rw [Jbl hh_len hs 1 (by omega)];rfl):_)⟩
abbrev boxH (a b:Int):Obj:=.cells #[.int .i64 a,.int .i64 b] 120 (0,0)
theorem J9m {w:World} {k:Nat} {a b:Int} (h:w.heap[k]?=some (boxH a b)):w.cell? ⟨k,0,none⟩=some (.int .i64 a)∧w.cell? ⟨k,1,none⟩=some (.int .i64 b) :=
 ⟨by rw [cell_of_row _ _ 0 _ _ _ h];rfl,by rw [cell_of_row _ _ 1 _ _ _ h];rfl⟩
theorem J3m {w w7:World} {a b:Int} (h:w.alloc (boxH a b)=w7) :
  Below w.heap.size w w7∧w7.cell? ⟨w.heap.size,0,none⟩=some (.int .i64 a)∧w7.cell? ⟨w.heap.size,1,none⟩=some (.int .i64 b)∧w.heap.size<w7.heap.size∧w7.heap[w.heap.size]?=some (boxH a b):=by
 subst h;have c7:=heap_alloc_new w (boxH a b);obtain⟨h0,h1⟩:=J9m c7;exact⟨(Below.refl _ _).alloc (Nat.le_refl _) _,h0,h1,by simp,c7⟩
def gg (x:Gt):List Value:=[.int .i64 x.1,.int .i64 x.2.1,.int .i64 x.2.2]
theorem gg_len (x:Gt):(gg x).length=3:=rfl
abbrev LstU:=@LstG Gt gg
theorem three_gg {w:World} {A:Option Addr} {n c:Nat} {l:List Gt} (h:LstU w (.slice A n c) l) {i:Nat} {a b s:Int} (hs:l[i]?=some (a,b,s)) :
  ∃k f,A=some ⟨k,f,none⟩∧k<w.heap.size∧w.cell? ⟨k,f+i*3,none⟩=some (.int .i64 a)∧w.cell? ⟨k,f+i*3+1,none⟩=some (.int .i64 b)∧w.cell? ⟨k,f+i*3+2,none⟩=some (.int .i64 s):=by
 obtain⟨A',c',hv,_,_,hx⟩:=h;cases hv
 have hi:=(List.getElem?_eq_some_iff.1 hs).1;obtain⟨k,f,rfl,hb,hcell⟩:=hx (by omega);exact⟨k,f,rfl,hb,hcell (i*3) _ (by rw [←Nat.add_zero (i*3),Jbl gg_len hs 0 (by omega)];rfl),(hcell (i*3+1) _ (by rw [Jbl gg_len hs 1 (by omega)];rfl):_),(hcell (i*3+2) _ (by rw [Jbl gg_len hs 2 (by omega)];rfl):_)⟩
abbrev boxU (a b s:Int):Obj:=.cells #[.int .i64 a,.int .i64 b,.int .i64 s] 122 (0,0)
theorem J9n {w:World} {k:Nat} {a b s:Int} (h:w.heap[k]?=some (boxU a b s)):w.cell? ⟨k,0,none⟩=some (.int .i64 a)∧w.cell? ⟨k,1,none⟩=some (.int .i64 b)∧w.cell? ⟨k,2,none⟩=some (.int .i64 s) :=
 ⟨by rw [cell_of_row _ _ 0 _ _ _ h];rfl,by rw [cell_of_row _ _ 1 _ _ _ h];rfl,by rw [cell_of_row _ _ 2 _ _ _ h];rfl⟩
theorem J9o {w w7:World} {a b s:Int} (h:w.alloc (boxU a b s)=w7) :
  Below w.heap.size w w7∧w7.cell? ⟨w.heap.size,0,none⟩=some (.int .i64 a)∧w7.cell? ⟨w.heap.size,1,none⟩=some (.int .i64 b)∧w7.cell? ⟨w.heap.size,2,none⟩=some (.int .i64 s)∧w.heap.size<w7.heap.size∧w7.heap[w.heap.size]?=some (boxU a b s):=by
 subst h;have c7:=heap_alloc_new w (boxU a b s);obtain⟨h0,h1,h2⟩:=J9n c7;exact⟨(Below.refl _ _).alloc (Nat.le_refl _) _,h0,h1,h2,by simp,c7⟩
theorem int_cell {w:World} {A:Option Addr} {n c:Nat} {l:List Int} (h:LstI w (.slice A n c) l) {i:Nat} {x:Int} (hs:l[i]?=some x):∃b o,A=some ⟨b,o,none⟩∧b<w.heap.size∧w.cell? ⟨b,o+i,none⟩=some (.int .i64 x):=by
 obtain⟨A',c',hv,_,_,hx⟩:=h;cases hv
 have hi:=(List.getElem?_eq_some_iff.1 hs).1;obtain⟨b,o,rfl,hb,hcell⟩:=hx (by omega);exact⟨b,o,rfl,hb,hcell i _ (Jtm l i x hs)⟩
theorem J9p {q:Option Int} {x:Int} (h:q=some x):Ending.returned (.tuple #[.int .i64 x,.bool true])=.returned (.tuple #[.int .i64 (q.getD 0),.bool q.isSome]):=by rw [h];rfl
theorem J6a {q:Option Int} (h:q=none):Ending.returned (.tuple #[.int .i64 0,.bool false])=.returned (.tuple #[.int .i64 (q.getD 0),.bool q.isSome]):=by rw [h];rfl
theorem Jvh (vl:Value) (l:List Th) (hl:l.length≤1000000) (t:Int) (w:World) (h:LstH w vl l):Calls prog 273 #[vl,.int .i64 t] w fun e w'=>e=.returned (.tuple #[.int .i64 (nxV t l),.bool (nxB t l)])∧Below w.heap.size w w':=by
 have H:=Lib.hid h;obtain⟨A,n,rfl,-,-,-⟩:=h;unfold nxV nxB;obtain⟨q,hq⟩:∃q,nxT t l=q:=⟨_,rfl⟩;rw [hq];have HR:=Lib.hid hq;clear hq;go_enter func273,ntmps273
 go_wp2_with fail
 go_loopw [10] (fun i wr=>∃k:Nat,i=.int .i64 k∧k≤l.length∧Hid (q=nxT t (l.drop k))∧Hid (Below w.heap.size w wr)) (fun i _=>l.length - (intOf i).toNat)
 case atStart=>exact⟨0,rfl,Nat.zero_le _,Lib.hid (by rw [←HR.out];rfl),Lib.hid (Below.refl _ _)⟩
 case round =>
  obtain⟨k,rfl,hk,hz,HB⟩:=hrel;by_cases hlt:k<l.length
  ·obtain⟨⟨a,b⟩,hf⟩:=Jao hlt
   obtain⟨c,o,rfl,hc,m0,m1⟩:=two_hh (H.out.below HB.out) hf;obtain⟨w7,hw7⟩:∃W,wr.alloc (boxH a b)=W:=⟨_,rfl⟩;obtain⟨b7,p0,p1,s7,-⟩:=J3m hw7;have gk:(k:Int)<(l.length:Int):=by omega
   have B7:Hid (Below w.heap.size w w7):=HB.out.trans (b7.mono HB.out.size);clear b7 s7 HB;by_cases ht:a=t
   ·have g:=Jaq ht
    have R:=Lib.hid (J9c hz.out hf ht);clear hz hf hc ht HR;go_wp2_with fail
    go_ret2;exact⟨J9p R.out,B7.out⟩
   ·have g:=Jac ht
    have N:=Lib.hid (J5s hz.out hf ht);clear hz hf hc ht;go_wp2_with fail
    go_roundw
    case rel=>exact⟨k+1,by go_num,by omega,N,B7⟩
    case measure=>simp [intOf];omega
  ·have R:=Lib.hid (J9d hz.out (by omega))
   have d:decide (k<l.length)=false:=by rw [decide_eq_false_iff_not];exact hlt
   clear hz hlt HR;go_wp2_with fail
   go_ret2;exact⟨J6a R.out,HB.out⟩
theorem J6b (x:Int) (l:List Int):(l.any fun y=>decide (x=y))=decide (x∈l):=by
 rw [Bool.eq_iff_iff,List.any_eq_true,decide_eq_true_iff];constructor
 ·rintro⟨y,hy,h⟩
  rw [of_decide_eq_true h];exact hy
 ·exact fun h=>⟨x,h,decide_eq_true rfl⟩
theorem J6c (vl:Value) (l:List Int) (hl:l.length≤1000000) (x:Int) (w:World) (h:LstI w vl l):Calls prog 272 #[vl,.int .i64 x] w fun e w'=>e=.returned (.int .i64 (fdT (fun y=>decide (x=y)) l))∧w=w':=by
 have H:=Lib.hid h;obtain⟨A,n,rfl,-,-,-⟩:=h;obtain⟨q,hq⟩:∃q,fdT (fun y=>decide (x=y)) l=q:=⟨_,rfl⟩;rw [hq];have HR:=Lib.hid hq;clear hq;go_enter func272,ntmps272
 go_wp2_with fail
 go_loop [8] (fun i=>∃k:Nat,i=.int .i64 k∧k≤l.length∧Hid (q=fdF (fun y=>decide (x=y)) k (l.drop k))) (fun i=>l.length - (intOf i).toNat)
 case atStart=>exact⟨0,rfl,Nat.zero_le _,Lib.hid (by rw [←HR.out];rfl)⟩
 case round =>
  obtain⟨k,rfl,hk,hz⟩:=hrel;by_cases hlt:k<l.length
  ·obtain⟨a,hf⟩:=Jao hlt
   obtain⟨c,o,rfl,hc,m0⟩:=int_cell H.out hf;have gk:(k:Int)<(l.length:Int):=by omega
   by_cases ht:x=a
   ·have g:=Jaq ht
    have R:=Lib.hid (Jk0 hz.out hf (decide_eq_true ht));clear hz hf hc ht HR;go_wp2_with fail
    go_ret;exact⟨Jad R.out.symm,rfl⟩
   ·have g:=Jac ht
    have N:=Lib.hid (Jhi hz.out hf (decide_eq_false ht));clear hz hf hc ht;go_wp2_with fail
    go_round
    case rel=>exact⟨k+1,by go_num,by omega,N⟩
    case measure=>simp [intOf];omega
  ·have R:=Lib.hid (Jk1 hz.out (by omega))
   have d:decide (k<l.length)=false:=by rw [decide_eq_false_iff_not];exact hlt
   clear hz hlt HR;go_wp2_with fail
   go_ret;exact⟨Jad R.out.symm,rfl⟩
theorem J6d (vl:Value) (l:List Int) (hl:l.length≤1000000) (x:Int) (w:World) (h:LstI w vl l):Calls prog 199 #[vl,.int .i64 x] w fun e w'=>e=.returned (.bool (decide (x∈l)))∧w=w':=by
 have C:=Lib.hid (J6c vl l hl x w h);have R:=Lib.hid ((J3h (fun y=>decide (x=y)) l).trans (J6b x l));generalize fdT (fun y=>decide (x=y)) l=q at C R;obtain⟨A,n,rfl,-,-,-⟩:=h;go_enter func199,ntmps199
 go_wp2_with fail
 refine C.out.mono ?_;rintro e w' ⟨rfl,rfl⟩;clear C;go_wp2_with fail
 go_ret;exact⟨Jaa R.out,rfl⟩
theorem Jjm (i n:Int) (h:0≤i∧i<n) (w:World):Calls prog 201 #[.int .i64 i,.int .i64 n] w fun e w'=>e=.returned (.bool true)∧w=w':=by
 obtain⟨h0,h1⟩:=h;go_enter func201,ntmps201
 go_wp2_with fail
 go_ret;exact⟨rfl,rfl⟩
theorem Jnh (i n:Int) (h:¬(0≤i∧i<n)) (w:World):Calls prog 201 #[.int .i64 i,.int .i64 n] w fun e w'=>e=.returned (.bool false)∧w=w':=by
 by_cases h0:0≤i
 ·have d:decide (i<n)=false:=decide_eq_false (fun h1=>h ⟨h0,h1⟩)
  clear h;go_enter func201,ntmps201
  go_wp2_with fail
  go_ret;exact⟨rfl,rfl⟩
 ·have d:decide (0≤i)=false:=decide_eq_false h0
  clear h h0;go_enter func201,ntmps201
  go_wp2_with fail
  go_ret;exact⟨rfl,rfl⟩
open Go.RowKit Go.Maps Go.WideMaps
def Ix64 (x:Int):Prop:=-9223372036854775808≤x∧x≤9223372036854775807
theorem Jvi:Keyed prog 3:=int_keyed underlying3
theorem J9q (a:Int) (h:Ix64 a):keyOf prog 3 (.int .i64 a)=some (.int .i64 a):=keyOf_int_mk underlying3 (WalkArith.wf_i64 h)
theorem pbool_inv {v:Value} {z:Dm×List MemPlace} (h:plainElem prog 4 v=some z):∃x,v=.bool x∧z=(.lit (.bool x),[]):=by
 unfold plainElem at h;rw [underlying4] at h;cases v <;> simp at h
 exact⟨_,rfl,h.symm⟩
theorem below_no {w w':World} (hb:Below w.heap.size w w'):w.grownBy w' none:=⟨hb.os,hb.tape,hb.output,hb.size,fun k hk _=>hb.block k hk⟩
def MapN (w:World) (b:Nat) (ls:List Int):Prop:=∃D:Dm,w.ownsMap prog 3 (plainElem prog 4) b ls.length D∧IsMap D∧(∀x,has D (.int .i64 x)=decide (x∈ls))∧∀x z,x∈ls→D.atKey (.int .i64 x) z=.lit (.bool true)
theorem MapN.made (w:World):MapN (w.alloc (.map #[] 0)) w.heap.size []:=⟨.map [],World.ownsMap_made _ _ _ _,isMap_empty,fun x=>by simp [has_eq],fun x z h=>by simp at h⟩
theorem MapN.lt {w:World} {b:Nat} {ls:List Int} (h:MapN w b ls):b<w.heap.size:=by
 obtain⟨D,h1,_⟩:=h;exact h1.lt
theorem MapN.kept {w w':World} {b:Nat} {ls:List Int} {row:Option Nat} (h:MapN w b ls) (hg:w.grownBy w' row) (hne:some b≠row):MapN w' b ls:=by
 obtain⟨D,h1,h2⟩:=h;exact⟨D,h1.kept hg hne,h2⟩
theorem MapN.below {w w':World} {b:Nat} {ls:List Int} (h:MapN w b ls) (hb:Below w.heap.size w w'):MapN w' b ls:=h.kept (below_no hb) (by simp)
theorem MapN.look {w:World} {b:Nat} {ls:List Int} (h:MapN w b ls) (x:Int) (hx:Ix64 x):(Instr.lookup 204 (.map (some b)) (.int .i64 x) false).run prog w=.ok (.bool (decide (x∈ls))) w:=by
 obtain⟨D,h1,h2,h3,h4⟩:=h;obtain⟨v,ps,hrun,hv⟩:=h1.lookup Jvi underlying204 (Je6 w) (plainElem_bool underlying4 false) (J9q x hx);obtain⟨c,rfl,hc⟩:=pbool_inv hv;have hc:=congrArg Prod.fst hc;rw [hrun];have:c=decide (x∈ls):=by
  by_cases hm:x∈ls
  ·rw [h4 _ _ hm] at hc
   simp at hc;simp [hm,←hc]
  ·rw [atKey_of_not_has (by rw [h3];exact decide_eq_false hm)] at hc
   simp at hc;simp [hm,←hc]
 rw [this]
theorem MapN.update {w:World} {b:Nat} {ls:List Int} (h:MapN w b ls) (x:Int) (hx:Ix64 x) (hl:ls.length<1099511627776) :
  ∃w',(Instr.mapUpdate 204 (.map (some b)) (.int .i64 x) (.bool true)).run prog w=.ok () w'∧MapN w' b (ls++[x])∧w.grownBy w' (some b):=by
 obtain⟨D,h1,h2,h3,h4⟩:=h;obtain⟨w',hrun,g1,g2⟩:=h1.update Jvi underlying204 (by unfold maxLen;omega) (J9q x hx) (plainElem_bool underlying4 true);refine⟨w',hrun,⟨_,by rw [List.length_append];exact g1,h2.put _ _,fun y=>?_,fun y z hi=>?_⟩,g2⟩
 ·by_cases hy:y=x
  ·subst hy
   rw [has_put_same h2 (by simp [WideAt.IsKeyLit])];simp
  ·rw [has_put_other (by simpa using hy),h3]
   simp [hy]
 ·by_cases hy:y=x
  ·subst hy
   rw [atKey_put_same h2 (by simp [WideAt.IsKeyLit])]
  ·rw [atKey_put_other (by simpa using hy)]
   exact h4 y z (by simpa [hy] using hi)
theorem J6e:laidOutB prog=true:=by kernel_rfl
theorem J3n:(122:TypeId)<prog.types.size:=of_decide_eq_true (by kernel_rfl)
theorem J6f:(match prog.underlying 122 with | some (.array _ _) | some (.struct _)=>true | _=>false)=true:=by kernel_rfl
theorem Jpm:prog.cellsOf 122=3:=by kernel_rfl
theorem int_cells:prog.cellsOf 3=1:=by kernel_rfl
theorem J9r:prog.keyType 122=true:=by kernel_rfl
theorem Jvj:Keyed prog 122:=Keyed.of_law (deep_law_laid J6e (m:=3) (by omega) J3n (by kernel_rfl) J6f)
theorem J0i:∃m,prog.types.size=m+1:=by
 cases h:prog.types.size with
 | zero=>exact absurd (h ▸ J3n:(_:Nat)<0) (Nat.not_lt_zero _)
 | succ m=>exact⟨m,rfl⟩
def Gu64 (p:Gt):Prop:=Ix64 p.1∧Ix64 p.2.1∧Ix64 p.2.2
abbrev guV (p:Gt):Value:=.agg #[.int .i64 p.1,.int .i64 p.2.1,.int .i64 p.2.2]
def kg (p:Gt):List UInt8:=keyBytes [.int .i64 p.1,.int .i64 p.2.1,.int .i64 p.2.2]
theorem Jpn (p:Gt) (h:Gu64 p):keyOf prog 122 (guV p)=some (.string (kg p)):=by
 have w1:=WalkArith.wf_i64 h.1;have w2:=WalkArith.wf_i64 h.2.1;have w3:=WalkArith.wf_i64 h.2.2;have hu:=underlying122;have hi:=underlying3;obtain⟨m,hm⟩:=J0i;unfold keyOf;simp only [hu];rw [if_pos (by simp [J9r,Value.formed,hu,Jpm]),hm];unfold Program.keyLits;simp only [hu,Value.cells];rw [if_pos ⟨by rw [Jpm];rfl,by simp⟩];simp [int_cells,Program.keyLits,hi,w1,w2,w3,kg]
theorem J3o {p q:Gt} (hp:Gu64 p) (hq:Gu64 q) (h:kg p=kg q):p=q:=by
 have h1:=Jpn p hp;have h2:=Jpn q hq;rw [←h] at h2;have:=Jvj.inj h1 h2;simp at this;exact Prod.ext this.1 (Prod.ext this.2.1 this.2.2)
def MapU (w:World) (b:Nat) (ls:List Gt):Prop:=(∀p∈ls,Gu64 p)∧∃D:Dm,w.ownsMap prog 122 (plainElem prog 4) b ls.length D∧IsMap D∧(∀p,Gu64 p→has D (.string (kg p))=decide (p∈ls))∧∀p z,p∈ls→D.atKey (.string (kg p)) z=.lit (.bool true)
theorem MapU.made (w:World):MapU (w.alloc (.map #[] 0)) w.heap.size []:=⟨fun p hp=>absurd hp (by simp),.map [],World.ownsMap_made _ _ _ _,isMap_empty,fun x _=>by simp [has_eq],fun x z h=>by simp at h⟩
theorem MapU.lt {w:World} {b:Nat} {ls:List Gt} (h:MapU w b ls):b<w.heap.size:=by
 obtain⟨_,D,h1,_⟩:=h;exact h1.lt
theorem MapU.below {w w':World} {b:Nat} {ls:List Gt} (h:MapU w b ls) (hb:Below w.heap.size w w'):MapU w' b ls:=by
 obtain⟨h0,D,h1,h2⟩:=h;exact⟨h0,D,h1.kept (below_no hb) (by simp),h2⟩
theorem MapU.look {w:World} {b:Nat} {ls:List Gt} (h:MapU w b ls) (p:Gt) (hp:Gu64 p) :
  (Instr.lookup 208 (.map (some b)) (guV p) false).run prog w=.ok (.bool (decide (p∈ls))) w:=by
 obtain⟨h0,D,h1,h2,h3,h4⟩:=h;obtain⟨v,ps,hrun,hv⟩:=h1.lookup Jvj underlying208 (Je6 w) (plainElem_bool underlying4 false) (Jpn p hp);obtain⟨c,rfl,hc⟩:=pbool_inv hv;have hc:=congrArg Prod.fst hc;rw [hrun];have:c=decide (p∈ls):=by
  by_cases hm:p∈ls
  ·rw [h4 _ _ hm] at hc
   simp at hc;simp [hm,←hc]
  ·rw [atKey_of_not_has (by rw [h3 p hp];exact decide_eq_false hm)] at hc
   simp at hc;simp [hm,←hc]
 rw [this]
theorem MapU.update {w:World} {b:Nat} {ls:List Gt} (h:MapU w b ls) (p:Gt) (hp:Gu64 p) (hl:ls.length<1099511627776) :
  ∃w',(Instr.mapUpdate 208 (.map (some b)) (guV p) (.bool true)).run prog w=.ok () w'∧MapU w' b (ls++[p])∧w.grownBy w' (some b):=by
 obtain⟨h0,D,h1,h2,h3,h4⟩:=h;obtain⟨w',hrun,g1,g2⟩:=h1.update Jvj underlying208 (by unfold maxLen;omega) (Jpn p hp) (plainElem_bool underlying4 true);refine⟨w',hrun,⟨fun q hq=>?_,_,by rw [List.length_append];exact g1,h2.put _ _,fun q hq=>?_,fun q z hi=>?_⟩,g2⟩
 ·rcases List.mem_append.1 hq with hq | hq
  ·exact h0 q hq
  ·rw [List.mem_singleton.1 hq];exact hp
 ·by_cases hx:q=p
  ·subst hx
   rw [has_put_same h2 (by simp [WideAt.IsKeyLit])];simp
  ·rw [has_put_other (fun e=>hx (J3o hq hp (by simpa using e))),h3 q hq]
   simp [hx]
 ·by_cases hx:q=p
  ·subst hx
   rw [atKey_put_same h2 (by simp [WideAt.IsKeyLit])]
  ·have hq:q∈ls:=by simpa [hx] using hi
   rw [atKey_put_other (fun e=>hx (J3o (h0 q hq) hp (by simpa using e)))];exact h4 q z hq
def J9s:Value→Nat
 | .slice _ n _=>n
 | _=>0
theorem J6g {w w1:World} {x:Int} (h:w.alloc (.cells #[.int .i64 x] 3 (0,0))=w1):OwnI w1 w.heap.size (.slice (some ⟨w.heap.size,0,none⟩) 1 1) [x]:=by
 rw [←h];exact World.ownsRow_lit w #[.int .i64 x] 1 (Nat.le_refl _) (by unfold maxLen;omega) rfl
theorem Jvk {w:World} {base b:Nat} {v:Value} {l ls:List Int} (h:OwnI w base v l) (hm:MapN w b ls):v.ownBlock=none∨v.ownBlock≠some b:=by
 obtain⟨D,⟨es,clock,hb,-⟩,-⟩:=hm;rcases h.2 with ⟨rfl,-⟩ | ⟨g,cap,cur,rfl,-,hg,-⟩
 ·exact .inl rfl
 ·refine .inr fun e=>?_
  obtain rfl:g=b:=Option.some.inj e;rw [hb] at hg;cases hg
def Th64 (l:List Th):Prop:=∀x∈l,Ix64 x.1∧Ix64 x.2
theorem Th64.nx {l:List Th} (h:Th64 l) {t y:Int} (hn:nxT t l=some y):Ix64 y:=(h _ (Ju8 hn)).2
theorem Th64.take {l:List Th} (h:Th64 l) (k:Nat):Th64 (l.take k):=fun x hx=>h x (List.mem_of_mem_take hx)
theorem J3p {t y:Int} {l:List Th} (h:nxT t l=some y):nxV t l=y∧nxB t l=true:=by unfold nxV nxB;rw [h];exact⟨rfl,rfl⟩
theorem J9t {t:Int} {l:List Th} (h:nxT t l=none):nxB t l=false:=by unfold nxB;rw [h];rfl
theorem Jrw (vl:Value) (l:List Th) (hl:l.length≤1000000) (hs:Th64 l) (t:Int) (ht:Ix64 t) (w:World) (h:LstH w vl l) :
  Calls prog 200 #[vl,.int .i64 t] w fun e w'=>∃u,e=.returned u∧OwnI w' w.heap.size u (chT l t)∧Below w.heap.size w w':=by
 obtain⟨w1,hw1⟩:∃x,w.alloc (.cells #[.int .i64 t] 3 (0,0))=x:=⟨_,rfl⟩;have b1:Below w.heap.size w w1:=by rw [←hw1];exact (Below.refl _ _).alloc (Nat.le_refl _) _
 have z1:w.heap.size<w1.heap.size:=by rw [←hw1];simp
 have b2:Below w1.heap.size w1 (w1.alloc (.map #[] 0)):=(Below.refl _ _).alloc (Nat.le_refl _) _;obtain⟨w3,hrun,M3,g3⟩:=(MapN.made w1).update t ht (by decide);have O3:Hid (OwnI w3 w.heap.size (.slice (some ⟨w.heap.size,0,none⟩) 1 1) [t]):=((J6g hw1).below b2).kept g3 (.inr (fun e=>by have:=Option.some.inj e;simp at this;omega));have B3:Hid (Below w.heap.size w w3):=(b1.trans (b2.mono b1.size)).grown g3 (Nat.le_trans b1.size b2.size) (fun j hj=>by cases hj;exact b1.size);have MM:Hid (MapN w3 w1.heap.size [t]):=M3;have H:=Lib.hid h;have Z1:=Lib.hid z1;have HS:=Lib.hid hs;have C3:=Lib.hid (Jvh vl l hl t w3 (h.below B3.out));have hmm:=@run_makeMap prog;obtain⟨A,cn,rfl,-,-,-⟩:=h;obtain⟨q,hq⟩:∃q,chT l t=q:=⟨_,rfl⟩;rw [hq];have ST:Hid (ChS l q [t] t l.length):=by rw [←hq];exact ChS.start l t
 clear hq b1 b2 z1 M3 g3 hs;go_enter func200,ntmps200
 go_wp2_with fail
 go_step3
 go_wp2_with fail
 go_step3
 go_wp2_with fail
 refine C3.out.mono ?_;rintro e w4 ⟨rfl,b4⟩;have O4:=Lib.hid (OwnI.below O3.out b4);have M4:=Lib.hid (MM.out.below b4);have B4:Hid (Below w.heap.size w w4):=B3.out.trans (b4.mono B3.out.size);clear b4 C3 O3 MM B3 hrun hmm;generalize hx0:nxV t l=x0;generalize hy0:nxB t l=y0;have HX:=Lib.hid hx0;have HY:=Lib.hid hy0;clear hx0 hy0;go_wp2_with fail
 go_loopw [5,7,8] (fun v x o wr=>∃(out:List Int) (t:Int) (n:Nat) (y:Int) (r:Bool),x=.int .i64 y∧o=.bool r∧Hid (ChS l q out t n)∧Hid (nxV t l=y)∧Hid (nxB t l=r)∧Hid (OwnI wr w.heap.size v out)∧Hid (MapN wr w1.heap.size out)∧Hid (Below w.heap.size w wr)) (fun v _ _ _=>l.length+2 - J9s v)
 case atStart=>exact⟨[t],t,l.length,x0,y0,rfl,rfl,ST,HX,HY,O4,M4,B4⟩
 case round =>
  clear ST HX HY O4 M4 B4;obtain⟨out,t,n,y,r,rfl,rfl,HC,HX,HY,HO,HM,HB⟩:=hrel;obtain⟨A',c',rfl⟩:=Jei HO.out;have hle:=HC.out.le;cases hn:nxT t l with
  | none =>
   obtain rfl:false=r:=(J9t hn).symm.trans HY.out;have R:=Lib.hid (HC.out.stop hn);clear hn HX HY HM HC;go_wp2_with fail
   rw [Exit.noGoto_ret];go_ret;exact⟨_,rfl,by rw [R.out];exact HO.out,HB.out⟩
  | some z =>
   obtain rfl:true=r:=(J3p hn).2.symm.trans HY.out;obtain rfl:z=y:=(J3p hn).1.symm.trans HX.out;have zx:=HS.out.nx hn;have lk:=HM.out.look z zx;by_cases hz:z∈out
   ·rw [decide_eq_true hz] at lk
    have R:=Lib.hid (HC.out.used hn hz);clear hn HX HY HM HC hz;go_wp2_with fail
    rw [Exit.noGoto_ret];go_ret;exact⟨_,rfl,by rw [R.out];exact HO.out,HB.out⟩
   ·rw [decide_eq_false hz] at lk
    have HC2:=Lib.hid (HC.out.step hn hz);have hlt:out.length+1≤l.length+1:=by have:=HC2.out.le;rw [List.length_append,List.length_singleton] at this;exact this
    obtain⟨w5,hrun,m5,g5⟩:=HM.out.update z zx (by omega);have O5:=Lib.hid (HO.out.kept g5 (Jvk HO.out HM.out));have B5:Hid (Below w.heap.size w w5):=HB.out.grown g5 HB.out.size (fun j hj=>by cases hj;exact Nat.le_of_lt Z1.out);obtain⟨w6,hw6⟩:∃x,w5.alloc (.cells #[.int .i64 z] 3 (0,0))=x:=⟨_,rfl⟩;have b6:Below w5.heap.size w5 w6:=by rw [←hw6];exact (Below.refl _ _).alloc (Nat.le_refl _) _
    have h6:w6.heap[w5.heap.size]?=some (.cells #[.int .i64 z] 3 (0,0)):=by rw [←hw6];exact heap_alloc_new _ _
    have O6:Hid (OwnI w6 w.heap.size (.slice A' out.length c') out):=OwnI.below O5.out b6;have M6:=Lib.hid (m5.below b6);have B6:Hid (Below w.heap.size w w6):=B5.out.trans (b6.mono B5.out.size);clear hn HX HY HM HC hz HO HB O5 B5 m5 g5 b6 zx;go_wp2_with (at_builtin;refine Jzs _ rfl (.tmp 32) (.tmp 34) rfl w.heap.size (.slice A' out.length c') out z rfl O6.out w5.heap.size _ h6 rfl rfl B6.out.size (by omega) ?_;intro v7 w7 o7 g7 wh7;clear wh7;refine Hid.out ?_)
    have M7:=Lib.hid (M6.out.kept g7 (by rcases Jvk O6.out M6.out with h | h;rw [h];simp;exact fun e=>h e.symm));have B7:Hid (Below w.heap.size w w7):=B6.out.grown g7 B6.out.size (fun j hj=>(World.ownsRow.lt O6.out j hj).1);have O7:=Lib.hid o7;obtain⟨A7,c7,e7⟩:=Jei o7;rw [List.length_append,List.length_singleton] at e7;subst e7;have C7:=Lib.hid (Jvh (.slice A l.length cn) l hl z w7 (H.out.below B7.out));clear o7 g7 M6 O6 B6 h6 lk hrun hw6;refine Lib.hid ?_;go_wp2_with fail
    refine C7.out.mono ?_;rintro e w8 ⟨rfl,b8⟩;have O8:=Lib.hid (OwnI.below O7.out b8);have M8:=Lib.hid (M7.out.below b8);have B8:Hid (Below w.heap.size w w8):=B7.out.trans (b8.mono B7.out.size);clear b8 C7 O7 M7 B7;generalize hx8:nxV z l=x8;generalize hy8:nxB z l=y8;have HX:=Lib.hid hx8;have HY:=Lib.hid hy8;clear hx8 hy8;go_wp2_with fail
    go_roundw
    case rel=>exact⟨_,z,n - 1,x8,y8,rfl,rfl,HC2,HX,HY,O8,M8,B8⟩
    case measure=>simp only [J9s];first | exact hmeas | (simp;omega) | omega
abbrev prFn (k:Nat):Value:=.func (.func 270) #[] #[.pointer (some ⟨k,0,none⟩),.pointer (some ⟨k+1,0,none⟩)]
theorem Jpo (A B:Option Addr) (n c m d:Nat) (w:World):Calls prog 197 #[.slice A n c,.slice B m d] w fun e w'=>e=.returned (prFn w.heap.size)∧w'.cell? ⟨w.heap.size,0,none⟩=some (.slice A n c)∧w'.cell? ⟨w.heap.size+1,0,none⟩=some (.slice B m d)∧Below w.heap.size w w'∧w.heap.size+1<w'.heap.size:=by
 obtain⟨w7,hw7,z7,ra,rb,b7⟩:=Jda w (.cells #[.slice A n c] 27 (0,0)) (.cells #[.slice B m d] 28 (0,0));have RA:=Lib.hid ra;have RB:=Lib.hid rb;have B7:=Lib.hid b7;have Z7:=Lib.hid z7;clear ra rb b7 z7;go_enter func197,ntmps197
 go_wp2_with fail
 go_ret;exact⟨rfl,by rw [cell_of_row _ _ 0 _ _ _ RA.out];rfl,by rw [cell_of_row _ _ 0 _ _ _ RB.out];rfl,B7.out,by rw [Z7.out];omega⟩
theorem Jlk:∀args W,(callFunc 270 args).run prog W=.ok (.enter 270 args) W:=Jbv func270 (by kernel_rfl) (by kernel_rfl)
theorem Jvl (k:Nat) (vt vf:Value) (ts:List Tp) (f:List Fq) (hf:f.length≤5000) (a b:Int) (w:World) (m0:w.cell? ⟨k,0,none⟩=some vt) (m1:w.cell? ⟨k+1,0,none⟩=some vf) (ht:Jeb w vt ts) (hq:LstF w vf f):Calls prog 270 #[.int .i64 a,.int .i64 b,.pointer (some ⟨k,0,none⟩),.pointer (some ⟨k+1,0,none⟩)] w fun e w'=>e=.returned (.int .i64 (prE ts.length f a b))∧Below w.heap.size w w':=by
 have F1:=Lib.hid (Jpi vf f hf a w hq);have HQ:=Lib.hid hq;have M1:=Lib.hid m1;obtain⟨⟨A,n,rfl,-,-,-⟩,-⟩:=ht;obtain⟨B,m,rfl,-,-,-⟩:=id hq;clear hq;by_cases h1:¬(0≤a∧a<(ts.length:Int))
 ·have R:=Lib.hid (pr_a (f:=f) (b:=b) h1).symm
  have X:=Lib.hid (fun W=>Jnh a (ts.length:Int) h1 W);clear h1 F1;go_enter func270,ntmps270
  go_wp2_with fail
  refine (X.out _).mono ?_;rintro e w' ⟨rfl,rfl⟩;go_wp2_with fail
  go_ret;exact⟨Jad R.out,Below.refl _ _⟩
 have h1:=Decidable.not_not.1 h1;have X:=Lib.hid (fun W=>Jjm a (ts.length:Int) h1 W);by_cases h2:¬(0≤b∧b<(ts.length:Int))
 ·have R:=Lib.hid (pr_b (f:=f) (a:=a) h2).symm
  have Y:=Lib.hid (fun W=>Jnh b (ts.length:Int) h2 W);clear h1 h2 F1;go_enter func270,ntmps270
  go_wp2_with fail
  refine (X.out _).mono ?_;rintro e w' ⟨rfl,rfl⟩;go_wp2_with fail
  refine (Y.out _).mono ?_;rintro e w' ⟨rfl,rfl⟩;go_wp2_with fail
  go_ret;exact⟨Jad R.out,Below.refl _ _⟩
 have h2:=Decidable.not_not.1 h2;have Y:=Lib.hid (fun W=>Jjm b (ts.length:Int) h2 W);by_cases h3:a=b
 ·have R:=Lib.hid (pr_ab (n:=ts.length) (f:=f) h3).symm
  have g:=Jaq h3;clear h1 h2 h3 F1;go_enter func270,ntmps270
  go_wp2_with fail
  refine (X.out _).mono ?_;rintro e w' ⟨rfl,rfl⟩;go_wp2_with fail
  refine (Y.out _).mono ?_;rintro e w' ⟨rfl,rfl⟩;go_wp2_with fail
  go_ret;exact⟨Jad R.out,Below.refl _ _⟩
 have g:=Jac h3;cases h4:repF a f with
 | true =>
  rw [h4] at F1;have R:=Lib.hid (pr_fa h1 h2 h3 h4).symm;clear h1 h2 h3 h4;go_enter func270,ntmps270
  go_wp2_with fail
  refine (X.out _).mono ?_;rintro e w' ⟨rfl,rfl⟩;go_wp2_with fail
  refine (Y.out _).mono ?_;rintro e w' ⟨rfl,rfl⟩;go_wp2_with fail
  refine F1.out.mono ?_;rintro e w1 ⟨rfl,b1⟩;go_wp2_with fail
  go_ret;exact⟨Jad R.out,b1⟩
 | false =>
  rw [h4] at F1;have F2:=Lib.hid (fun W (hW:Below w.heap.size w W)=>Jpi (.slice B f.length m) f hf b W (HQ.out.below hW));cases h5:repF b f with
  | true =>
   rw [h5] at F2;have R:=Lib.hid (pr_fb h1 h2 h3 h5).symm;clear h1 h2 h3 h4 h5;go_enter func270,ntmps270
   go_wp2_with fail
   refine (X.out _).mono ?_;rintro e w' ⟨rfl,rfl⟩;go_wp2_with fail
   refine (Y.out _).mono ?_;rintro e w' ⟨rfl,rfl⟩;go_wp2_with fail
   refine F1.out.mono ?_;rintro e w1 ⟨rfl,b1⟩;have K2:=Lib.hid (F2.out w1 b1);have m1:=(b1.cell (p:=⟨k+1,0,none⟩) (World.block_lt_of_cell? _ _ M1.out)).trans M1.out;have B1:=Lib.hid b1;clear F1 F2 b1;go_wp2_with fail
   refine K2.out.mono ?_;rintro e w2 ⟨rfl,b2⟩;have B2:Hid (Below w.heap.size w w2):=B1.out.trans (b2.mono B1.out.size);clear K2 b2;go_wp2_with fail
   go_ret;exact⟨Jad R.out,B2.out⟩
  | false =>
   rw [h5] at F2;have R:=Lib.hid (pr_ok h1 h2 h3 h4 h5).symm;clear h1 h2 h3 h4 h5;go_enter func270,ntmps270
   go_wp2_with fail
   refine (X.out _).mono ?_;rintro e w' ⟨rfl,rfl⟩;go_wp2_with fail
   refine (Y.out _).mono ?_;rintro e w' ⟨rfl,rfl⟩;go_wp2_with fail
   refine F1.out.mono ?_;rintro e w1 ⟨rfl,b1⟩;have K2:=Lib.hid (F2.out w1 b1);have m1:=(b1.cell (p:=⟨k+1,0,none⟩) (World.block_lt_of_cell? _ _ M1.out)).trans M1.out;have B1:=Lib.hid b1;clear F1 F2 b1;go_wp2_with fail
   refine K2.out.mono ?_;rintro e w2 ⟨rfl,b2⟩;have B2:Hid (Below w.heap.size w w2):=B1.out.trans (b2.mono B1.out.size);clear K2 b2;go_wp2_with fail
   go_ret;exact⟨Jad R.out,B2.out⟩
theorem Jvm (s:ByteArray) (r c:Int) (f:Bool) (v:Value) (l:List Cl) (s':ByteArray) (r' c':Int) (f':Bool) (v':Value) (l':List Cl) (hl:l.length≤1000000) (w:World) (h:LstC w v l) (h':LstC w v' l') :
  Calls prog 198 #[.agg #[.string s,.int .i64 r,.int .i64 c,.bool f,v],.agg #[.string s',.int .i64 r',.int .i64 c',.bool f',v']] w fun e w'=>e=.returned (.int .i64 (psE (c,l) (c',l')))∧Below w.heap.size w w':=by
 obtain⟨w7,hw7,z7,ra,rb,b7⟩:=Jda w (boxT s r c f v) (boxT s' r' c' f' v');obtain⟨-,-,p2,-,p4⟩:=J3e ra;obtain⟨-,-,q2,-,q4⟩:=J3e rb;have B7:=Lib.hid b7;have H:=Lib.hid (h.below b7);have H':=Lib.hid (h'.below b7);obtain⟨A,n,rfl,-,-,-⟩:=h;obtain⟨A',n',rfl,-,-,-⟩:=h';clear b7 ra rb z7;by_cases hc:¬c=c'
 ·have g:=Jae hc
  have R:=Lib.hid (J9f (a:=(c,l)) (b:=(c',l')) hc).symm;clear hc;go_enter func198,ntmps198
  go_wp2_with fail
  go_ret;exact⟨Jad R.out,B7.out⟩
 have hc:c=c':=Decidable.not_not.1 hc;have g:=Jar hc;by_cases h0:l.length=0
 ·have g0:((l.length:Int)==0)=true:=Jaq (by omega)
  have g0':(l.length==0)=true:=by rw [h0];rfl
  have R:=Lib.hid (J5w (a:=(c,l)) (b:=(c',l')) hc h0).symm;clear hc h0;go_enter func198,ntmps198
  go_wp2_with fail
  go_ret;exact⟨Jad R.out,B7.out⟩
 have g0:((l.length:Int)==0)=false:=Jac (by omega);have g0':(l.length==0)=false:=by rw [beq_eq_false_iff_ne];exact h0
 by_cases h1:l'.length=0
 ·have g1:((l'.length:Int)==0)=true:=Jaq (by omega)
  have g1':(l'.length==0)=true:=by rw [h1];rfl
  have R:=Lib.hid (ps_to (a:=(c,l)) (b:=(c',l')) hc h1).symm;clear hc h0 h1;go_enter func198,ntmps198
  go_wp2_with fail
  go_ret;exact⟨Jad R.out,B7.out⟩
 have g1:((l'.length:Int)==0)=false:=Jac (by omega);have g1':(l'.length==0)=false:=by rw [beq_eq_false_iff_ne];exact h1
 obtain⟨⟨y,ya,yd,yo,yu⟩,hy⟩:=Jao (l:=l') (k:=0) (by omega);obtain⟨⟨x,xa,xd,xo,xu⟩,hx⟩:=Jao (l:=l) (k:=l.length - 1) (by omega);have HX:=Lib.hid hx;have HY:=Lib.hid hy;obtain⟨k,hk⟩:∃k,l.length - 1=k:=⟨_,rfl⟩;rw [hk] at hx;obtain⟨b,o,rfl,-,m0,m1,m2,m3,m4⟩:=Jbp H.out hx;obtain⟨b',o',rfl,-,t0,t1,t2,t3,t4⟩:=Jbp H'.out hy;rw [Nat.zero_mul,Nat.add_zero] at t0 t1 t2 t3 t4;have e1:(l.length:Int) - 1=(k:Int):=by omega
 have kle:k≤1000000:=by omega
 have kn:(k:Int)<(l.length:Int):=by omega
 have wk:IntKind.i64.wrap (k:Int)=(k:Int):=IntWalk.i64_in _ (by omega);have gn:(0:Int)<(l'.length:Int):=by omega
 have gn':0<l'.length:=by omega
 have HC:=Lib.hid hc;clear hx hy hk h0 h1 hc;go_enter func198,ntmps198
 go_wp2_with fail
 go_region_held3 (fun W=>W.cell? ⟨w.heap.size,4,none⟩=some (.slice (some ⟨b,o,none⟩) l.length n)∧W.cell? ⟨w.heap.size+1,4,none⟩=some (.slice (some ⟨b',o',none⟩) l'.length n')∧W.cell? ⟨b,o+k*5,none⟩=some (.int .i64 x)∧W.cell? ⟨b,o+k*5+1,none⟩=some (.int .i64 xa)∧W.cell? ⟨b,o+k*5+2,none⟩=some (.int .i64 xd)∧W.cell? ⟨b,o+k*5+3,none⟩=some (.bool xo)∧W.cell? ⟨b,o+k*5+4,none⟩=some (.bool xu)∧W.cell? ⟨b',o',none⟩=some (.int .i64 y)∧W.cell? ⟨b',o'+1,none⟩=some (.int .i64 ya)∧W.cell? ⟨b',o'+2,none⟩=some (.int .i64 yd)∧W.cell? ⟨b',o'+3,none⟩=some (.bool yo)∧W.cell? ⟨b',o'+4,none⟩=some (.bool yu)) (go_keep) (first | fail)
 ·obtain⟨w9,hw9,z9,rx,ry,b9⟩:=Jda w7 (boxC x xa xd xo xu) (boxC y ya yd yo yu)
  rw [hw9];have B9:Hid (Below w.heap.size w w9.drew):=B7.out.trans (b9.drew.mono B7.out.size);obtain⟨u0,u1,-,-,-⟩:=Jpb (w:=w9.drew) rx;obtain⟨v0,-,v2,-,-⟩:=Jpb (w:=w9.drew) ry;clear hw9 z9 rx ry b9 p2 p4 q2 q4 m0 m1 m2 m3 m4 t0 t1 t2 t3 t4 B7;generalize w9.drew=w8 at *;by_cases e0:¬x=y
  ·have d0:=Jae e0
   have R:=Lib.hid (Ju9 (a:=(c,l)) (b:=(c',l')) HC.out HX.out HY.out e0).symm;clear e0 HX HY;go_wp2_with fail
   go_ret;exact⟨Jad R.out,B9.out⟩
  have e0:=Decidable.not_not.1 e0;have d0:=Jar e0;by_cases e1:yd<xa
  ·have R:=Lib.hid (Jva (a:=(c,l)) (b:=(c',l')) HC.out HX.out HY.out e0 e1).symm
   clear e0 HX HY;go_wp2_with fail
   go_ret;exact⟨Jad R.out,B9.out⟩
  have d1:decide (yd<xa)=false:=decide_eq_false e1;have R:=Lib.hid (J9g (a:=(c,l)) (b:=(c',l')) HC.out HX.out HY.out e0 e1).symm;clear e0 e1 HX HY;go_wp2_with fail
  go_ret;exact⟨Jad R.out,B9.out⟩
 ·obtain⟨w9,hw9,z9,ry,rx,b9⟩:=Jda w7 (boxC y ya yd yo yu) (boxC x xa xd xo xu)
  rw [hw9];have B9:Hid (Below w.heap.size w w9.drew):=B7.out.trans (b9.drew.mono B7.out.size);obtain⟨u0,u1,-,-,-⟩:=Jpb (w:=w9.drew) rx;obtain⟨v0,-,v2,-,-⟩:=Jpb (w:=w9.drew) ry;clear hw9 z9 rx ry b9 p2 p4 q2 q4 m0 m1 m2 m3 m4 t0 t1 t2 t3 t4 B7;generalize w9.drew=w8 at *;by_cases e0:¬x=y
  ·have d0:=Jae e0
   have R:=Lib.hid (Ju9 (a:=(c,l)) (b:=(c',l')) HC.out HX.out HY.out e0).symm;clear e0 HX HY;go_wp2_with fail
   go_ret;exact⟨Jad R.out,B9.out⟩
  have e0:=Decidable.not_not.1 e0;have d0:=Jar e0;by_cases e1:yd<xa
  ·have R:=Lib.hid (Jva (a:=(c,l)) (b:=(c',l')) HC.out HX.out HY.out e0 e1).symm
   clear e0 HX HY;go_wp2_with fail
   go_ret;exact⟨Jad R.out,B9.out⟩
  have d1:decide (yd<xa)=false:=decide_eq_false e1;have R:=Lib.hid (J9g (a:=(c,l)) (b:=(c',l')) HC.out HX.out HY.out e0 e1).symm;clear e0 e1 HX HY;go_wp2_with fail
  go_ret;exact⟨Jad R.out,B9.out⟩
def tcT (x:Tp):Tc:=(x.2.2.1,x.2.2.2.2.2)
theorem J0j {ts:List Tp} {i:Nat} {s:List UInt8} {r c:Int} {f:Bool} {v:Value} {cl:List Cl} (h:ts[i]?=some (s,r,c,f,v,cl)):tcA (ts.map tcT) (i:Int)=(c,cl):=J9l rfl (by rw [List.getElem?_map,h];rfl)
theorem J6h:(prog.info? 120).map (fun i=>(i.zero,i.size,i.bytes))=some (some (.agg #[.int .i64 0,.int .i64 0]),2,16):=by kernel_rfl
theorem J6i:∀w,(Go.sizeOf 120).run prog w=.ok 2 w:=fun w=>by
 obtain⟨i,hi,_,hsz,_⟩:=info_parts J6h;simp [sizeOf,typeInfo,hi,hsz]
theorem Jpp:prog.elem 29=120:=by simp [Program.elem,underlying29]
theorem Jvn:prog.underlying 29=some (.slice (prog.elem 29)):=by rw [Jpp];exact underlying29
theorem J9u {w:World} {vl:Value} {l:List Th} (h:LstH w vl l) (j:Nat) (hj:j≤l.length) (_:l.length≤9223372036854775807) (x:Int) (hx:x=j):∃u,(∀W,(Instr.slice 29 vl none (some (.int .i64 x)) none).run prog W=.ok u W)∧LstH w u (l.take j):=by
 subst hx;have H:=h;obtain⟨A,c,rfl,hc,-,-⟩:=h;refine⟨sliced A 0 j c 2,fun W=>?_,?_⟩
 ·rw [run_slice_h W 29 A l.length c Jvn .i64 j (by omega) (by omega),Jpp,J6i]
  rfl
 ·have:=LstG.part hh_len H 0 j c (Nat.zero_le _) hj (by omega) (Nat.le_refl _)
  rw [List.drop_zero,Nat.sub_zero] at this;exact this
theorem J6j {f:FuncId} {args:Array Value} {w W:World} {l:List Int} (h:Calls prog f args W fun e w'=>∃u,e=.returned u∧OwnI w' W.heap.size u l∧Below W.heap.size W w') (hb:Below w.heap.size w W):Calls prog f args W fun e w'=>∃u,e=.returned u∧LstI w' u l∧Below w.heap.size w w' :=
 h.mono fun _ _ ⟨u,h1,h2,h3⟩=>⟨u,h1,OwnI.lst h2,hb.trans (h3.mono hb.size)⟩
theorem Jvo {f:FuncId} {args:Array Value} {w W:World} {x:Value} (h:Calls prog f args W fun e w'=>e=.returned x∧Below W.heap.size W w') (hb:Below w.heap.size w W):Calls prog f args W fun e w'=>e=.returned x∧Below w.heap.size w w' :=
 h.mono fun _ _ ⟨h1,h3⟩=>⟨h1,hb.trans (h3.mono hb.size)⟩
theorem J0k {l:List Th} {k:Nat} {a b:Int} (h:l[k]?=some (a,b)):(l.take (k+1)).map Prod.fst=(l.take k).map Prod.fst++[a]:=by rw [Jb0 l k _ h,List.map_append];rfl
theorem J0l {l:List Th} {k:Nat} {a b:Int} (h:l[k]?=some (a,b)):(l.take (k+1)).map Prod.snd=(l.take k).map Prod.snd++[b]:=by rw [Jb0 l k _ h,List.map_append];rfl
theorem Jpq {w W:World} {g e:Nat} {ls ms:List Int} (hW:Below w.heap.size w W) (hb:g≠e) (h1:MapN w g ls) (h2:MapN w e ms) (a b:Int) (ha:Ix64 a) (hb':Ix64 b) (n1:ls.length<1000000) (n2:ms.length<1000000) :
  ∃wa wb,(Instr.mapUpdate 204 (.map (some g)) (.int .i64 a) (.bool true)).run prog W=.ok () wa∧(Instr.mapUpdate 204 (.map (some e)) (.int .i64 b) (.bool true)).run prog wa=.ok () wb ∧
   MapN wb g (ls++[a])∧MapN wb e (ms++[b])∧w.heap.size≤wa.heap.size∧wa.heap.size≤wb.heap.size∧(∀k,k<w.heap.size→k≠g→wa.heap[k]?=w.heap[k]?)∧(∀base,base≤w.heap.size→base≤g→base≤e→Below base w wb):=by
 obtain⟨wa,r1,m1,g1⟩:=(h1.below hW).update a ha (by omega);obtain⟨wb,r2,m2,g2⟩:=((h2.below hW).kept g1 (fun h=>hb (Option.some.inj h).symm)).update b hb' (by omega);have sz:=hW.size;refine⟨wa,wb,r1,r2,m1.kept g2 (fun h=>hb (Option.some.inj h)),m2,Nat.le_trans sz g1.size,g2.size,fun k hk hne=>(g1.block k (Nat.lt_of_lt_of_le hk sz) (fun h=>hne (Option.some.inj h))).trans (hW.block k hk),fun base hba hg he=>?_⟩;exact ((hW.mono hba).grown g1 (by omega) (fun j hj=>by cases hj;exact hg)).grown g2 (by have:=g1.size;omega) (fun j hj=>by cases hj;exact he)
def fzV (q:Int):Int:=if q=-1 then 0 else q
def fzB (q:Int):Bool:=decide (q≠-1)
theorem J3q {q:Int} {k:Nat} (h:q=(k:Int)):Ending.returned (.tuple #[.int .i64 (k:Int),.bool true])=.returned (.tuple #[.int .i64 (fzV q),.bool (fzB q)]):=by
 have h1:q≠-1:=by omega
 unfold fzV fzB;rw [if_neg h1,decide_eq_true h1,h]
theorem Jvp {q:Int} (h:q=-1):Ending.returned (.tuple #[.int .i64 0,.bool false])=.returned (.tuple #[.int .i64 (fzV q),.bool (fzB q)]):=by
 unfold fzV fzB;rw [if_pos h,decide_eq_false (by simp [h])]
theorem J0m:fzV (-1)=0∧fzB (-1)=false:=⟨rfl,rfl⟩
theorem Jpr {q:Int} {k:Nat} (h:q=(k:Int)):fzV q=(k:Int)∧fzB q=true:=by
 have h1:q≠-1:=by omega
 unfold fzV fzB;rw [if_neg h1];exact⟨h,decide_eq_true h1⟩
theorem Jps {q:Int×Int×Bool} {x y:Int} {z:Bool} (h:q=(x,y,z)):Ending.returned (.tuple #[.int .i64 x,.int .i64 y,.bool z])=.returned (.tuple #[.int .i64 q.1,.int .i64 q.2.1,.bool q.2.2]):=by rw [h]
theorem J6k (vl:Value) (l:List Cl) (hl:l.length≤1000000) (st:Int) (w:World) (h:LstC w vl l):Calls prog 274 #[vl,.int .i64 st] w fun e w'=>e=.returned (.tuple #[.int .i64 (fzV (alF st 0 l)),.bool (fzB (alF st 0 l))])∧Below w.heap.size w w':=by
 have H:=Lib.hid h;obtain⟨A,n,rfl,-,-,-⟩:=h;obtain⟨q,hq⟩:∃q,alF st 0 l=q:=⟨_,rfl⟩;rw [hq];have HR:=Lib.hid hq;clear hq;go_enter func274,ntmps274
 go_wp2_with fail
 go_loopw [10] (fun i wr=>∃k:Nat,i=.int .i64 k∧k≤l.length∧Hid (q=alF st k l)∧Hid (Below w.heap.size w wr)) (fun i _=>l.length - (intOf i).toNat)
 case atStart=>exact⟨0,rfl,Nat.zero_le _,Lib.hid HR.out.symm,Lib.hid (Below.refl _ _)⟩
 case round =>
  obtain⟨k,rfl,hk,hz,HB⟩:=hrel;by_cases hlt:k<l.length
  ·obtain⟨⟨s,a,d,b,u⟩,hf⟩:=Jao hlt
   obtain⟨c,o,rfl,hc,m0,m1,m2,m3,m4⟩:=Jbp (H.out.below HB.out) hf;obtain⟨w7,hw7⟩:∃W,wr.alloc (boxC s a d b u)=W:=⟨_,rfl⟩;obtain⟨b7,p0,p1,p2,p3,p4,s7⟩:=Jlf hw7;have gk:(k:Int)<(l.length:Int):=by omega
   have B7:Hid (Below w.heap.size w w7):=HB.out.trans (b7.mono HB.out.size);clear b7 s7 HB;by_cases k0:k=0
   ·subst k0
    have N:Hid (q=alF st (0+1) l):=Lib.hid (J5z hz.out);rw [Nat.zero_mul,Nat.add_zero] at m0 m1 m2 m3 m4;clear hz hf hc;go_wp2_with fail
    go_roundw
    case rel=>exact⟨0+1,by go_num,by omega,N,B7⟩
    case measure=>simp [intOf];omega
   have gp':0<k:=by omega
   have gp:(0:Int)<(k:Int):=by omega
   by_cases hs:¬s=st
   ·have g:=Jac hs
    have N:=Lib.hid (Jvb hz.out gp' hf (J0d (st:=st) (x:=(s,a,d,b,u)) hs));clear hz hf hc hs;go_wp2_with fail
    go_roundw
    case rel=>exact⟨k+1,by go_num,by omega,N,B7⟩
    case measure=>simp [intOf];omega
   have hs:=Decidable.not_not.1 hs;have g:=Jaq hs;cases u with
   | false =>
    have N:=Lib.hid (Jvb hz.out gp' hf (J0e (st:=st) (x:=(s,a,d,b,false)) rfl));obtain⟨f4,e4⟩:=box_last hw7;clear hz hf hc hs;go_wp2_with fail
    go_roundw
    case rel=>exact⟨k+1,by go_num,by omega,N,B7⟩
    case measure=>simp [intOf];omega
   | true =>
    have R:=Lib.hid (J9h hz.out gp' hf (J5x (st:=st) (x:=(s,a,d,b,true)) hs rfl));clear hz hf hc hs HR;go_wp2_with fail
    go_ret2;exact⟨J3q R.out,B7.out⟩
  ·have R:=Lib.hid (J9i hz.out (by omega))
   have dd:decide (k<l.length)=false:=by rw [decide_eq_false_iff_not];exact hlt
   clear hz hlt HR;go_wp2_with fail
   go_ret2;exact⟨Jvp R.out,HB.out⟩
theorem J6l (vl:Value) (l:List Cl) (hl:l.length≤1000000) (st:Int) (w:World) (h:LstC w vl l):Calls prog 275 #[vl,.int .i64 st] w fun e w'=>e=.returned (.tuple #[.int .i64 (fzV (bdF st 0 l)),.bool (fzB (bdF st 0 l))])∧Below w.heap.size w w':=by
 have H:=Lib.hid h;obtain⟨A,n,rfl,-,-,-⟩:=h;obtain⟨q,hq⟩:∃q,bdF st 0 l=q:=⟨_,rfl⟩;rw [hq];have HR:=Lib.hid hq;clear hq;go_enter func275,ntmps275
 go_wp2_with fail
 go_loopw [10] (fun i wr=>∃k:Nat,i=.int .i64 k∧k≤l.length∧Hid (q=bdF st k l)∧Hid (Below w.heap.size w wr)) (fun i _=>l.length - (intOf i).toNat)
 case atStart=>exact⟨0,rfl,Nat.zero_le _,Lib.hid HR.out.symm,Lib.hid (Below.refl _ _)⟩
 case round =>
  obtain⟨k,rfl,hk,hz,HB⟩:=hrel;by_cases hlt:k<l.length
  ·obtain⟨⟨s,a,d,b,u⟩,hf⟩:=Jao hlt
   obtain⟨c,o,rfl,hc,m0,m1,m2,m3,m4⟩:=Jbp (H.out.below HB.out) hf;obtain⟨w7,hw7⟩:∃W,wr.alloc (boxC s a d b u)=W:=⟨_,rfl⟩;obtain⟨b7,p0,p1,p2,p3,p4,s7⟩:=Jlf hw7;have gk:(k:Int)<(l.length:Int):=by omega
   have B7:Hid (Below w.heap.size w w7):=HB.out.trans (b7.mono HB.out.size);clear b7 s7 HB;obtain⟨m,hm⟩:∃m,l.length - 1=m:=⟨_,rfl⟩;have e1:(l.length:Int) - 1=(m:Int):=by omega
   have mle:m≤1000000:=by omega
   have wm:IntKind.i64.wrap (m:Int)=(m:Int):=IntWalk.i64_in _ (by omega);by_cases km:¬k<m
   ·have d1:decide (k<m)=false:=by rw [decide_eq_false_iff_not];exact km
    have d2:decide ((k:Int)<(m:Int))=false:=by rw [decide_eq_false_iff_not];omega
    have N:Hid (q=bdF st (k+1) l):=Lib.hid ((Jvd hz.out (by omega)).trans (Jvd (st:=st) (k:=k+1) rfl (by omega)).symm);clear hz hf hc hm km;go_wp2_with fail
    go_roundw
    case rel=>exact⟨k+1,by go_num,by omega,N,B7⟩
    case measure=>simp [intOf];omega
   have km:=Decidable.not_not.1 km;have gm:(k:Int)<(m:Int):=by omega
   have hkm:k<l.length - 1:=by omega
   clear hm;by_cases hs:¬s=st
   ·have g:=Jac hs
    have N:=Lib.hid (Jvc hz.out hf hkm (J0f (st:=st) (x:=(s,a,d,b,u)) hs));clear hz hf hc hs hkm;go_wp2_with fail
    go_roundw
    case rel=>exact⟨k+1,by go_num,by omega,N,B7⟩
    case measure=>simp [intOf];omega
   have hs:=Decidable.not_not.1 hs;have g:=Jaq hs;cases b with
   | false =>
    have N:=Lib.hid (Jvc hz.out hf hkm (J0g (st:=st) (x:=(s,a,d,false,u)) rfl));clear hz hf hc hs hkm;go_wp2_with fail
    go_roundw
    case rel=>exact⟨k+1,by go_num,by omega,N,B7⟩
    case measure=>simp [intOf];omega
   | true =>
    have R:=Lib.hid (J9j hz.out hf hkm (J5y (st:=st) (x:=(s,a,d,true,u)) hs rfl));clear hz hf hc hs hkm HR;go_wp2_with fail
    go_ret2;exact⟨J3q R.out,B7.out⟩
  ·have R:=Lib.hid ((fun h1 h2=>Jvd h1 (Nat.le_trans (Nat.sub_le _ _) h2)) hz.out (by omega))
   have dd:decide (k<l.length)=false:=by rw [decide_eq_false_iff_not];exact hlt
   clear hz hlt HR;go_wp2_with fail
   go_ret2;exact⟨Jvp R.out,HB.out⟩
theorem J6m (va vb:Value) (a b:List Cl) (ha:a.length≤1000000) (hb:b.length≤1000000) (st:Int) (w:World) (h1:LstC w va a) (h2:LstC w vb b):Calls prog 202 #[va,vb,.int .i64 st] w fun e w'=>e=.returned (.tuple #[.int .i64 ((meT st a b).1),.int .i64 ((meT st a b).2.1),.bool ((meT st a b).2.2)])∧Below w.heap.size w w':=by
 have H1:=Lib.hid h1;have H2:=Lib.hid h2;obtain⟨A,n,rfl,-,-,-⟩:=h1;obtain⟨B,m,rfl,-,-,-⟩:=h2;have C1:=Lib.hid (J6k (.slice A a.length n) a ha st w H1.out);have C2:=Lib.hid (fun W (hW:Below w.heap.size w W)=>J6l (.slice B b.length m) b hb st W (H2.out.below hW));obtain⟨q,hq⟩:∃q,meT st a b=q:=⟨_,rfl⟩;rw [hq];have HQ:=Lib.hid hq;clear hq;by_cases n1:alF st 0 a=-1
 ·have R:Hid (q=(0,0,false)):=HQ.out.symm.trans (J50 n1)
  rw [n1,J0m.1,J0m.2] at C1;generalize fzV (bdF st 0 b)=x2 at C2;generalize fzB (bdF st 0 b)=y2 at C2;clear n1 HQ;go_enter func202,ntmps202
  go_wp2_with fail
  refine C1.out.mono ?_;rintro e w1 ⟨rfl,b1⟩;have B1:Hid (Below w.heap.size w w1):=b1;have K2:=Lib.hid (C2.out w1 b1);clear b1 C1 C2;go_wp2_with fail
  refine K2.out.mono ?_;rintro e w2 ⟨rfl,b2⟩;have B2:Hid (Below w.heap.size w w2):=B1.out.trans (b2.mono B1.out.size);clear b2 K2 B1;go_wp2_with fail
  go_quiet (fail)
  have B3:Hid (Below w.heap.size w (w2.drewN nq)):=Jaj B2.out nq;generalize w2.drewN nq=w3 at B3 ⊢;go_wp2_with fail
  go_ret3
  exact⟨Jps R.out,B3.out⟩
 rcases al_is st a with e | ⟨i,⟨xs,xa,xd,xb,xu⟩,i1,-,ix,-⟩
 ·exact absurd e n1
 rw [(Jpr i1).1,(Jpr i1).2] at C1;by_cases n2:bdF st 0 b=-1
 ·have R:Hid (q=(0,0,false)):=HQ.out.symm.trans (me_to n2)
  rw [n2,J0m.1,J0m.2] at C2;clear n1 n2 HQ i1 ix;go_enter func202,ntmps202
  go_wp2_with fail
  refine C1.out.mono ?_;rintro e w1 ⟨rfl,b1⟩;have B1:Hid (Below w.heap.size w w1):=b1;have K2:=Lib.hid (C2.out w1 b1);clear b1 C1 C2;go_wp2_with fail
  refine K2.out.mono ?_;rintro e w2 ⟨rfl,b2⟩;have B2:Hid (Below w.heap.size w w2):=B1.out.trans (b2.mono B1.out.size);clear b2 K2 B1;go_wp2_with fail
  go_quiet (fail)
  have B3:Hid (Below w.heap.size w (w2.drewN nq)):=Jaj B2.out nq;generalize w2.drewN nq=w3 at B3 ⊢;go_wp2_with fail
  go_ret3
  exact⟨Jps R.out,B3.out⟩
 rcases bd_is st b with e | ⟨k,⟨ys,ya,yd,yb,yu⟩,k1,-,kx,-⟩
 ·exact absurd e n2
 rw [(Jpr k1).1,(Jpr k1).2] at C2;have IX:=Lib.hid ix;have KX:=Lib.hid kx;have gi:(i:Int)<(a.length:Int):=by have:=(List.getElem?_eq_some_iff.1 ix).1;omega
 have gk:(k:Int)<(b.length:Int):=by have:=(List.getElem?_eq_some_iff.1 kx).1;omega
 by_cases lt:yd<xa
 ·have R:Hid (q=(0,0,false)):=HQ.out.symm.trans (J51 i1 k1 ix kx lt)
  clear n1 n2 HQ i1 k1 ix kx;go_enter func202,ntmps202
  go_wp2_with fail
  refine C1.out.mono ?_;rintro e w1 ⟨rfl,b1⟩;have B1:Hid (Below w.heap.size w w1):=b1;have K2:=Lib.hid (C2.out w1 b1);clear b1 C1 C2;go_wp2_with fail
  refine K2.out.mono ?_;rintro e w2 ⟨rfl,b2⟩;have B2:Hid (Below w.heap.size w w2):=B1.out.trans (b2.mono B1.out.size);clear b2 K2 B1;obtain⟨c,o,rfl,-,p0,p1,p2,p3,p4⟩:=Jbp (H1.out.below B2.out) IX.out;obtain⟨c',o',rfl,-,q0,q1,q2,q3,q4⟩:=Jbp (H2.out.below B2.out) KX.out;go_wp2_with fail
  go_quiet (fail)
  have B3:Hid (Below w.heap.size w (w2.drewN nq)):=Jaj B2.out nq;generalize w2.drewN nq=w3 at B3 ⊢;go_wp2_with fail
  go_ret3
  exact⟨Jps R.out,B3.out⟩
 have nl:decide (yd<xa)=false:=decide_eq_false lt;have R:Hid (q=((i:Int),(k:Int),true)):=HQ.out.symm.trans (J9k i1 k1 ix kx lt);clear n1 n2 HQ i1 k1 ix kx lt;go_enter func202,ntmps202
 go_wp2_with fail
 refine C1.out.mono ?_;rintro e w1 ⟨rfl,b1⟩;have B1:Hid (Below w.heap.size w w1):=b1;have K2:=Lib.hid (C2.out w1 b1);clear b1 C1 C2;go_wp2_with fail
 refine K2.out.mono ?_;rintro e w2 ⟨rfl,b2⟩;have B2:Hid (Below w.heap.size w w2):=B1.out.trans (b2.mono B1.out.size);clear b2 K2 B1;obtain⟨c,o,rfl,-,p0,p1,p2,p3,p4⟩:=Jbp (H1.out.below B2.out) IX.out;obtain⟨c',o',rfl,-,q0,q1,q2,q3,q4⟩:=Jbp (H2.out.below B2.out) KX.out;go_wp2_with fail
 go_quiet (fail)
 have B3:Hid (Below w.heap.size w (w2.drewN nq)):=Jaj B2.out nq;generalize w2.drewN nq=w3 at B3 ⊢;go_wp2_with fail
 go_ret3
 exact⟨Jps R.out,B3.out⟩
def Gus64 (l:List Gt):Prop:=∀x∈l,Gu64 x
theorem kchku_any (vl:Value) (l:List Gt) (hl:l.length≤1000000) (hs:Gus64 l) (vt:Value) (ts:List Tp) (hts:∀x∈ts,x.2.2.2.2.2.length≤1000000) (vf:Value) (f:List Fq) (hf:f.length≤5000) (st:Int) (w:World) (h1:LstU w vl l) (h2:Jeb w vt ts) (h3:LstF w vf f) :
  Calls prog 111 #[vl,vt,vf,.int .i64 st] w fun e w'=>e=.returned (.tuple #[.int .i64 ((chkU (ts.map tcT) f st l).1),.int .i64 ((chkU (ts.map tcT) f st l).2)])∧Below w.heap.size w w':=by
 have H1:=Lib.hid h1;have H2:=Lib.hid h2;have H3:=Lib.hid h3;have HS:=Lib.hid hs;have HTS:=Lib.hid hts;have hlen:(ts.map tcT).length=ts.length:=List.length_map ..;obtain⟨A,n,rfl,-,-,-⟩:=h1;obtain⟨⟨B,m,rfl,-,-,-⟩,-⟩:=h2;obtain⟨D,r,rfl,-,-,-⟩:=h3;clear hs hts;by_cases hm:128<l.length
 ·have R:=Lib.hid (Jvg (ts:=ts.map tcT) (f:=f) (st:=st) hm)
  have g:(128:Int)<(l.length:Int):=by omega
  generalize chkU (ts.map tcT) f st l=q at R ⊢;clear hm hlen;go_enter func111,ntmps111
  go_wp2_with fail
  go_ret2;exact⟨ret_chk (by rw [R.out]) (by rw [R.out]),Below.refl _ _⟩
 have g:decide ((128:Int)<(l.length:Int))=false:=by rw [decide_eq_false_iff_not];omega
 have ST:=Lib.hid (Jrv (ts:=ts.map tcT) (f:=f) (st:=st) (l:=l) hm);have hm':l.length≤128:=by omega
 have hmm:=@run_makeMap prog;obtain⟨q,hq⟩:∃q,chkU (ts.map tcT) f st l=q:=⟨_,rfl⟩;rw [hq];rw [hq] at ST;have C1:=Lib.hid (Jpo B D ts.length m f.length r w);have HLEN:=Lib.hid hlen;clear hm hq hlen;go_enter func111,ntmps111
 go_wp2_with fail
 refine C1.out.mono ?_;rintro e w1 ⟨rfl,m0,m1,b1,z1⟩;have M0:=Lib.hid m0;have M1:=Lib.hid m1;have B1:=Lib.hid b1;have Z1:=Lib.hid z1;obtain⟨w2,hw2⟩:∃x,w1.alloc (.map #[] 0)=x:=⟨_,rfl⟩;have N0:Hid (MapU w2 w1.heap.size ((l.take 0).map idG)):=by
  show MapU _ _ []
  rw [←hw2];exact MapU.made w1
 have B2:Hid (Below w1.heap.size w1 w2):=by rw [←hw2];exact (Below.refl _ _).alloc (Nat.le_refl _) _
 clear m0 m1 b1 z1 C1;go_wp2_with fail
 go_loopw [27] (fun i wr=>∃k:Nat,i=.int .i64 k∧k≤l.length∧Hid (q=fbF (guE (ts.map tcT) f st) idG ((l.take k).map idG) k (l.drop k))∧Hid (MapU wr w1.heap.size ((l.take k).map idG))∧Hid (Below w1.heap.size w1 wr)) (fun i _=>l.length - (intOf i).toNat)
 case atStart=>exact⟨0,rfl,Nat.zero_le _,ST,N0,B2⟩
 case round =>
  clear g ST hmm N0 B2 hw2;obtain⟨k,rfl,hk,hz,HL,HB⟩:=hrel;have BW:Hid (Below w.heap.size w wr):=B1.out.trans (HB.out.mono B1.out.size);by_cases hlt:k<l.length
  ·obtain⟨⟨a,b,s⟩,hx⟩:=Jao hlt
   have hab:=HS.out _ (List.mem_iff_getElem?.2 ⟨_,hx⟩);obtain⟨c,o,rfl,hc,r0,r1,r2⟩:=three_gg (H1.out.below BW.out) hx;obtain⟨w7,hw7⟩:∃W,wr.alloc (boxU a b s)=W:=⟨_,rfl⟩;obtain⟨b7,p0,p1,p2,s7,-⟩:=J9o hw7;have gk:(k:Int)<(l.length:Int):=by omega
   have B7:Hid (Below w1.heap.size w1 w7):=HB.out.trans (b7.mono HB.out.size);have W7:Hid (Below w.heap.size w w7):=BW.out.trans (b7.mono BW.out.size);have L7:=Lib.hid (HL.out.below b7);have SL:=Lib.hid HL.out.lt;have x0:=(B7.out.cell (p:=⟨w.heap.size,0,none⟩) (World.block_lt_of_cell? _ _ M0.out)).trans M0.out;have x1:=(B7.out.cell (p:=⟨w.heap.size+1,0,none⟩) (World.block_lt_of_cell? _ _ M1.out)).trans M1.out;have PR:=Lib.hid (Jvl w.heap.size (.slice B ts.length m) (.slice D f.length r) ts f hf a b w7 x0 x1 (H2.out.below W7.out) (H3.out.below W7.out));have S7:=Lib.hid s7;have ce:=Jlk;clear b7 HL s7 x0 x1 hc HB BW;by_cases n0:¬(0≤s∧s<st)
   ·have R:=Lib.hid (Ja7 hz.out hx (J57 (ts:=ts.map tcT) (f:=f) (st:=st) (seen:=(l.take k).map idG) (x:=(a,b,s)) n0) (by decide))
    have X:=Lib.hid (fun W=>Jnh s st n0 W);clear hz hx n0 hab PR;go_wp2_with fail
    refine (X.out _).mono ?_;rintro e w' ⟨rfl,rfl⟩;go_wp2_with fail
    go_ret2;exact⟨ret_chk (by rw [R.out]) (by rw [R.out]),W7.out⟩
   have n0:=Decidable.not_not.1 n0;have X:=Lib.hid (fun W=>Jjm s st n0 W);have N0:=Lib.hid n0;by_cases e1:prE ts.length f a b≠0
   ·have R:=Lib.hid (Ja7 hz.out hx ((J58 (ts:=ts.map tcT) (f:=f) (st:=st) (seen:=(l.take k).map idG) (x:=(a,b,s)) n0 (by rw [HLEN.out];exact e1)).trans (by rw [HLEN.out])) e1)
    have ne:=Jae e1;have R2:Hid (q=((k:Int),prE ts.length f a b)):=R.out;generalize prE ts.length f a b=z at PR R2 ne;clear hz hx e1 n0 hab R;go_wp2_with fail
    refine (X.out _).mono ?_;rintro e w' ⟨rfl,rfl⟩;go_wp2_with fail
    refine PR.out.mono ?_;rintro e w8 ⟨rfl,b8⟩;have W8:Hid (Below w.heap.size w w8):=W7.out.trans (b8.mono W7.out.size);clear b8 PR;go_wp2_with fail
    go_ret2;exact⟨ret_chk (by rw [R2.out]) (by rw [R2.out]),W8.out⟩
   have e1:=Decidable.not_not.1 e1;obtain⟨ga,gb,-,-,-⟩:=Jve e1;obtain⟨i,rfl⟩:∃i:Nat,a=(i:Int):=⟨a.toNat,by omega⟩;obtain⟨j,rfl⟩:∃j:Nat,b=(j:Int):=⟨b.toNat,by omega⟩;obtain⟨⟨xi,xr,xc,xf,xv,xl⟩,tx⟩:=Jao (l:=ts) (k:=i) (by omega);obtain⟨⟨yi,yr,yc,yf,yv,yl⟩,ty⟩:=Jao (l:=ts) (k:=j) (by omega);obtain⟨xn,hxn⟩:∃s,str xi=s:=⟨_,rfl⟩;obtain⟨yn,hyn⟩:∃s,str yi=s:=⟨_,rfl⟩;have hxl:xl.length≤1000000:=HTS.out _ (List.mem_iff_getElem?.2 ⟨_,tx⟩);have hyl:yl.length≤1000000:=HTS.out _ (List.mem_iff_getElem?.2 ⟨_,ty⟩);have AX:=Lib.hid (J0j tx);have AY:=Lib.hid (J0j ty);have gi:(i:Int)<(ts.length:Int):=ga.2;have gj:(j:Int)<(ts.length:Int):=gb.2;have ile:(i:Int)≤9223372036854775807:=hab.1.2;have jle:(j:Int)≤9223372036854775807:=hab.2.1.2;have GU:=Lib.hid hab;have TX:=Lib.hid tx;have TY:=Lib.hid ty;have XN:=Lib.hid hxn;have YN:=Lib.hid hyn;have E1:Hid (prE (ts.map tcT).length f (i:Int) (j:Int)=0):=by rw [HLEN.out];exact e1
   rw [e1] at PR;have HX:=Lib.hid hx;clear e1 ga gb hab tx ty hxn hyn hx n0;go_wp2_with fail
   refine (X.out _).mono ?_;rintro e w' ⟨rfl,rfl⟩;go_wp2_with fail
   refine PR.out.mono ?_;rintro e w8 ⟨rfl,b8⟩;have B8:Hid (Below w1.heap.size w1 w8):=B7.out.trans (b8.mono B7.out.size);have W8:Hid (Below w.heap.size w w8):=W7.out.trans (b8.mono W7.out.size);have L8:=Lib.hid (L7.out.below b8);have T8:=Lib.hid (H2.out.below W8.out);have p0:=(b8.cell (p:=⟨wr.heap.size,0,none⟩) S7.out).trans p0;have p1:=(b8.cell (p:=⟨wr.heap.size,1,none⟩) S7.out).trans p1;have p2:=(b8.cell (p:=⟨wr.heap.size,2,none⟩) S7.out).trans p2;have S8:Hid (wr.heap.size<w8.heap.size):=Nat.lt_of_lt_of_le S7.out b8.size;clear b8 PR L7 B7 W7 S7 r0 r1 r2 hw7 X;obtain⟨bx,ox,Bx,mx,ex,rfl,hbx,-,-,-,-,x4,lx,-,-⟩:=Jb8 T8.out TX.out XN.out;obtain⟨by_,oy,By,my,ey,rfl,hby,-,-,-,-,y4,ly,-,-⟩:=Jb8 T8.out TY.out YN.out;subst ex;cases ey
   have HBX:=Lib.hid hbx;have KC:=Lib.hid (fun W (hW:Below w8.heap.size w8 W)=>Jvo (J6m (.slice Bx xl.length mx) (.slice By yl.length my) xl yl hxl hyl s W (lx.below hW) (ly.below hW)) hW);clear hbx hby lx ly ce;have A1:(meT s (tcA (ts.map tcT) (i:Int)).2 (tcA (ts.map tcT) (j:Int)).2).2.2=(meT s xl yl).2.2:=by rw [AX.out,AY.out]
   have A2:=Lib.hid A1;clear A1;generalize (meT s xl yl).1=u1 at KC;generalize (meT s xl yl).2.1=u2 at KC;generalize (meT s xl yl).2.2=u3 at KC A2;cases u3 with
   | false =>
    have R:=Lib.hid (Ja7 hz.out HX.out (J59 (seen:=(l.take k).map idG) (x:=((i:Int),(j:Int),s)) N0.out E1.out A2.out) (by decide));clear hz;go_wp2_with fail
    go_region_held3 (fun W=>W.cell? ⟨wr.heap.size,0,none⟩=some (.int .i64 (i:Int))∧W.cell? ⟨wr.heap.size,1,none⟩=some (.int .i64 (j:Int))∧W.cell? ⟨wr.heap.size,2,none⟩=some (.int .i64 s)∧W.cell? ⟨bx,ox+i*5+4,none⟩=some (.slice Bx xl.length mx)∧W.cell? ⟨bx,ox+j*5+4,none⟩=some (.slice By yl.length my)) (first | assumption | (exact⟨by assumption,by assumption,by assumption,by assumption,by assumption⟩)) (first
     | (go_at_call 202;with_reducible refine (KC.out _ (by first | exact Below.refl _ _ | exact (Below.refl _ _).drew)).mono ?_;rintro e w9 ⟨rfl,b9⟩;have z0:=(b9.cell (p:=⟨wr.heap.size,0,none⟩) S8.out).trans p0;have z1:=(b9.cell (p:=⟨wr.heap.size,1,none⟩) S8.out).trans p1;have z2:=(b9.cell (p:=⟨wr.heap.size,2,none⟩) S8.out).trans p2;have z3:=(b9.cell (p:=⟨bx,ox+i*5+4,none⟩) HBX.out).trans x4;have z4:=(b9.cell (p:=⟨bx,ox+j*5+4,none⟩) HBX.out).trans y4))
    have W9:Hid (Below w.heap.size w w9):=W8.out.trans (b9.mono W8.out.size);clear b9 KC z0 z1 z2 z3 z4;go_wp2_with fail
    go_ret2;exact⟨ret_chk (by rw [R.out]) (by rw [R.out]),W9.out⟩
   | true =>
    go_wp2_with fail
    go_region_held3 (fun W=>W.cell? ⟨wr.heap.size,0,none⟩=some (.int .i64 (i:Int))∧W.cell? ⟨wr.heap.size,1,none⟩=some (.int .i64 (j:Int))∧W.cell? ⟨wr.heap.size,2,none⟩=some (.int .i64 s)∧W.cell? ⟨bx,ox+i*5+4,none⟩=some (.slice Bx xl.length mx)∧W.cell? ⟨bx,ox+j*5+4,none⟩=some (.slice By yl.length my)) (first | assumption | (exact⟨by assumption,by assumption,by assumption,by assumption,by assumption⟩)) (first
     | (go_at_call 202;with_reducible refine (KC.out _ (by first | exact Below.refl _ _ | exact (Below.refl _ _).drew)).mono ?_;rintro e w9 ⟨rfl,b9⟩;have z0:=(b9.cell (p:=⟨wr.heap.size,0,none⟩) S8.out).trans p0;have z1:=(b9.cell (p:=⟨wr.heap.size,1,none⟩) S8.out).trans p1;have z2:=(b9.cell (p:=⟨wr.heap.size,2,none⟩) S8.out).trans p2;have z3:=(b9.cell (p:=⟨bx,ox+i*5+4,none⟩) HBX.out).trans x4;have z4:=(b9.cell (p:=⟨bx,ox+j*5+4,none⟩) HBX.out).trans y4))
    have B9:Hid (Below w1.heap.size w1 w9):=B8.out.trans (b9.mono B8.out.size);have W9:Hid (Below w.heap.size w w9):=W8.out.trans (b9.mono W8.out.size);have L9:=Lib.hid (L8.out.below b9);clear b9 KC z3 z4 p0 p1 p2 x4 y4 T8 L8 B8 W8;have lk:=L9.out.look ((i:Int),(j:Int),s) GU.out;by_cases d1:((i:Int),(j:Int),s)∈(l.take k).map idG
    ·have R:=Lib.hid (Ja7 hz.out HX.out (J0h (seen:=(l.take k).map idG) (x:=((i:Int),(j:Int),s)) N0.out E1.out A2.out d1) (by decide))
     rw [decide_eq_true d1] at lk;clear hz d1;go_wp2_with fail
     go_ret2;exact⟨ret_chk (by rw [R.out]) (by rw [R.out]),W9.out⟩
    rw [decide_eq_false d1] at lk;have N:=Lib.hid (Jdz hz.out HX.out (gu_ok (seen:=(l.take k).map idG) (x:=((i:Int),(j:Int),s)) N0.out E1.out A2.out d1));obtain⟨wv,hrun,mv,gv⟩:=L9.out.update ((i:Int),(j:Int),s) GU.out (by rw [List.length_map,List.length_take];omega);have MV:Hid (MapU wv w1.heap.size ((l.take (k+1)).map idG)):=by show MapU _ _ _;rw [Jdy (key:=idG) HX.out];exact mv
    have BV:Hid (Below w1.heap.size w1 wv):=B9.out.grown gv B9.out.size (fun y hy=>by cases hy;exact Nat.le_refl _);clear hz d1 mv gv L9 B9;go_wp2_with fail
    go_roundw
    case rel=>exact⟨k+1,by go_num,by omega,N,MV,BV⟩
    case measure=>simp [intOf];omega
  ·have R:=Lib.hid (Jd0 hz.out (by omega))
   have d:decide (k<l.length)=false:=by rw [decide_eq_false_iff_not];exact hlt
   clear hz hlt HL;go_wp2_with fail
   go_ret2;exact⟨ret_chk (by rw [R.out]) (by rw [R.out]),BW.out⟩
theorem kchkh_any (vl:Value) (l:List Th) (hl:l.length≤1000000) (hs:Th64 l) (vt:Value) (ts:List Tp) (hts:∀x∈ts,x.2.2.2.2.2.length≤1000000) (vf:Value) (f:List Fq) (hf:f.length≤5000) (w:World) (h1:LstH w vl l) (h2:Jeb w vt ts) (h3:LstF w vf f) :
  Calls prog 109 #[vl,vt,vf] w fun e w'=>e=.returned (.tuple #[.int .i64 ((chkH (ts.map tcT) f l).1),.int .i64 ((chkH (ts.map tcT) f l).2)])∧Below w.heap.size w w':=by
 have H1:=Lib.hid h1;have H2:=Lib.hid h2;have H3:=Lib.hid h3;have HS:=Lib.hid hs;have HTS:=Lib.hid hts;have hlen:(ts.map tcT).length=ts.length:=List.length_map ..;obtain⟨A,n,rfl,-,-,-⟩:=h1;obtain⟨⟨B,m,rfl,-,-,-⟩,-⟩:=h2;obtain⟨D,r,rfl,-,-,-⟩:=h3;clear hs hts;by_cases hm:128<l.length
 ·have R:=Lib.hid (Jvf (ts:=ts.map tcT) (f:=f) hm)
  have g:(128:Int)<(l.length:Int):=by omega
  generalize chkH (ts.map tcT) f l=q at R ⊢;clear hm hlen;go_enter func109,ntmps109
  go_wp2_with fail
  go_ret2;exact⟨ret_chk (by rw [R.out]) (by rw [R.out]),Below.refl _ _⟩
 have g:decide ((128:Int)<(l.length:Int))=false:=by rw [decide_eq_false_iff_not];omega
 have ST:=Lib.hid (Jru (ts:=ts.map tcT) (f:=f) (l:=l) hm);have hm':l.length≤128:=by omega
 have hmm:=@run_makeMap prog;obtain⟨q,hq⟩:∃q,chkH (ts.map tcT) f l=q:=⟨_,rfl⟩;rw [hq];rw [hq] at ST;have C1:=Lib.hid (Jpo B D ts.length m f.length r w);have HLEN:=Lib.hid hlen;clear hm hq hlen;go_enter func109,ntmps109
 go_wp2_with fail
 refine C1.out.mono ?_;rintro e w1 ⟨rfl,m0,m1,b1,z1⟩;have M0:=Lib.hid m0;have M1:=Lib.hid m1;have B1:=Lib.hid b1;have Z1:=Lib.hid z1;obtain⟨w2,hw2⟩:∃x,w1.alloc (.map #[] 0)=x:=⟨_,rfl⟩;obtain⟨w3,hw3⟩:∃x,w2.alloc (.map #[] 0)=x:=⟨_,rfl⟩;have z2:w1.heap.size<w2.heap.size:=by rw [←hw2];simp
 have b3:Below w2.heap.size w2 w3:=by rw [←hw3];exact (Below.refl _ _).alloc (Nat.le_refl _) _
 have b2:Below w1.heap.size w1 w2:=by rw [←hw2];exact (Below.refl _ _).alloc (Nat.le_refl _) _
 have N0:Hid (MapN w3 w1.heap.size ((l.take 0).map Prod.fst)):=by
  show MapN _ _ []
  exact MapN.below (by rw [←hw2];exact MapN.made w1) b3
 have N1:Hid (MapN w3 w2.heap.size ((l.take 0).map Prod.snd)):=by
  show MapN _ _ []
  rw [←hw3];exact MapN.made w2
 have B3:Hid (Below w1.heap.size w1 w3):=b2.trans (b3.mono b2.size);have Z2:=Lib.hid z2;clear m0 m1 b1 z1 z2 b2 b3 C1;go_wp2_with fail
 go_loopw [25] (fun i wr=>∃k:Nat,i=.int .i64 k∧k≤l.length∧Hid (q=fbF (thE (ts.map tcT) f) idP ((l.take k).map idP) k (l.drop k))∧Hid (MapN wr w1.heap.size ((l.take k).map Prod.fst))∧Hid (MapN wr w2.heap.size ((l.take k).map Prod.snd))∧Hid (Below w1.heap.size w1 wr)) (fun i _=>l.length - (intOf i).toNat)
 case atStart=>exact⟨0,rfl,Nat.zero_le _,ST,N0,N1,B3⟩
 case round =>
  clear g ST hmm N0 N1 B3 hw2 hw3;obtain⟨k,rfl,hk,hz,HL,HE,HB⟩:=hrel;have BW:Hid (Below w.heap.size w wr):=B1.out.trans (HB.out.mono B1.out.size);by_cases hlt:k<l.length
  ·obtain⟨⟨a,b⟩,hx⟩:=Jao hlt
   have hab:=HS.out _ (List.mem_iff_getElem?.2 ⟨_,hx⟩);obtain⟨c,o,rfl,hc,r0,r1⟩:=two_hh (H1.out.below BW.out) hx;obtain⟨w7,hw7⟩:∃W,wr.alloc (boxH a b)=W:=⟨_,rfl⟩;obtain⟨b7,p0,p1,s7,-⟩:=J3m hw7;have gk:(k:Int)<(l.length:Int):=by omega
   have B7:Hid (Below w1.heap.size w1 w7):=HB.out.trans (b7.mono HB.out.size);have W7:Hid (Below w.heap.size w w7):=BW.out.trans (b7.mono BW.out.size);have L7:=Lib.hid (HL.out.below b7);have E7:=Lib.hid (HE.out.below b7);have x0:=(B7.out.cell (p:=⟨w.heap.size,0,none⟩) (World.block_lt_of_cell? _ _ M0.out)).trans M0.out;have x1:=(B7.out.cell (p:=⟨w.heap.size+1,0,none⟩) (World.block_lt_of_cell? _ _ M1.out)).trans M1.out;have PR:=Lib.hid (Jvl w.heap.size (.slice B ts.length m) (.slice D f.length r) ts f hf a b w7 x0 x1 (H2.out.below W7.out) (H3.out.below W7.out));have S7:=Lib.hid s7;have ce:=Jlk;have TP:=Lib.hid (J52 (ts:=ts.map tcT) (f:=f) (seen:=(l.take k).map idP) (x:=(a,b)));rw [HLEN.out] at TP;have SB:=Lib.hid HE.out.lt;have SL:=Lib.hid HL.out.lt;clear b7 HL HE s7 x0 x1 hc HB BW;by_cases e1:prE ts.length f a b≠0
   ·have R:=Lib.hid (Ja7 hz.out hx (TP.out e1) e1)
    have ne:=Jae e1;generalize prE ts.length f a b=z at PR R ne;clear hz hx e1 TP hab;go_wp2_with fail
    refine PR.out.mono ?_;rintro e w8 ⟨rfl,b8⟩;have W8:Hid (Below w.heap.size w w8):=W7.out.trans (b8.mono W7.out.size);clear b8 PR;go_wp2_with fail
    go_ret2;exact⟨ret_chk (by rw [R.out]) (by rw [R.out]),W8.out⟩
   have e1:=Decidable.not_not.1 e1;obtain⟨ga,gb,-,-,-⟩:=Jve e1;obtain⟨i,rfl⟩:∃i:Nat,a=(i:Int):=⟨a.toNat,by omega⟩;obtain⟨j,rfl⟩:∃j:Nat,b=(j:Int):=⟨b.toNat,by omega⟩;have HI:=hab.1;have JX:=Lib.hid hab.2;have IX:=Lib.hid hab.1;obtain⟨⟨xi,xr,xc,xf,xv,xl⟩,tx⟩:=Jao (l:=ts) (k:=i) (by omega);obtain⟨⟨yi,yr,yc,yf,yv,yl⟩,ty⟩:=Jao (l:=ts) (k:=j) (by omega);obtain⟨xn,hxn⟩:∃s,str xi=s:=⟨_,rfl⟩;obtain⟨yn,hyn⟩:∃s,str yi=s:=⟨_,rfl⟩;have gi:(i:Int)<(ts.length:Int):=ga.2;have gj:(j:Int)<(ts.length:Int):=gb.2;have ile:(i:Int)≤9223372036854775807:=hab.1.2;have jle:(j:Int)≤9223372036854775807:=hab.2.2;have hxl:xl.length≤1000000:=HTS.out _ (List.mem_iff_getElem?.2 ⟨_,tx⟩);have TX:=Lib.hid tx;have TY:=Lib.hid ty;have XN:=Lib.hid hxn;have YN:=Lib.hid hyn;have AX:=Lib.hid (J0j tx);have AY:=Lib.hid (J0j ty);have E1:Hid (prE (ts.map tcT).length f (i:Int) (j:Int)=0):=by rw [HLEN.out];exact e1
   rw [e1] at PR;have HX:=Lib.hid hx;clear TP e1 ga gb HI hab tx ty hxn hyn hx;go_wp2_with fail
   refine PR.out.mono ?_;rintro e w8 ⟨rfl,b8⟩;have B8:Hid (Below w1.heap.size w1 w8):=B7.out.trans (b8.mono B7.out.size);have W8:Hid (Below w.heap.size w w8):=W7.out.trans (b8.mono W7.out.size);have L8:=Lib.hid (L7.out.below b8);have E8:=Lib.hid (E7.out.below b8);have T8:=Lib.hid (H2.out.below W8.out);have p0:=(b8.cell (p:=⟨wr.heap.size,0,none⟩) S7.out).trans p0;have p1:=(b8.cell (p:=⟨wr.heap.size,1,none⟩) S7.out).trans p1;have S8:Hid (wr.heap.size<w8.heap.size):=Nat.lt_of_lt_of_le S7.out b8.size;clear b8 PR L7 E7 B7 W7 S7 r0 r1 hw7;obtain⟨bx,ox,Bx,mx,ex,rfl,hbx,x0,x1,x2,x3,x4,lx,-,-⟩:=Jb8 T8.out TX.out XN.out;obtain⟨by_,oy,By,my,ey,rfl,hby,y0,y1,y2,y3,y4,ly,-,-⟩:=Jb8 T8.out TY.out YN.out;subst ex;cases ey
   have HBX:=Lib.hid hbx;have KC:=Lib.hid (fun W (hW:Below w8.heap.size w8 W)=>Jvo (Jvm xn xr xc xf (.slice Bx xl.length mx) xl yn yr yc yf (.slice By yl.length my) yl hxl W (lx.below hW) (ly.below hW)) hW);clear hbx hby lx ly ce;have THP:=Lib.hid (J53 (ts:=ts.map tcT) (f:=f) (seen:=(l.take k).map idP) (x:=((i:Int),(j:Int))) E1.out);rw [show tcA (ts.map tcT) (((i:Int),(j:Int)):Th).1=(xc,xl) from AX.out,show tcA (ts.map tcT) (((i:Int),(j:Int)):Th).2=(yc,yl) from AY.out] at THP;by_cases e2:psE (xc,xl) (yc,yl)≠0
   ·have R:=Lib.hid (Ja7 hz.out HX.out (THP.out e2) e2)
    have ne:=Jae e2;generalize psE (xc,xl) (yc,yl)=z at KC R ne;clear hz e2 THP;go_wp2_with fail
    go_region_held3 (fun W=>W.cell? ⟨wr.heap.size,0,none⟩=some (.int .i64 (i:Int))∧W.cell? ⟨wr.heap.size,1,none⟩=some (.int .i64 (j:Int))∧W.cell? ⟨bx,ox+i*5,none⟩=some (.string xn)∧W.cell? ⟨bx,ox+i*5+1,none⟩=some (.int .i64 xr)∧W.cell? ⟨bx,ox+i*5+2,none⟩=some (.int .i64 xc)∧W.cell? ⟨bx,ox+i*5+3,none⟩=some (.bool xf)∧W.cell? ⟨bx,ox+i*5+4,none⟩=some (.slice Bx xl.length mx)∧W.cell? ⟨bx,ox+j*5,none⟩=some (.string yn)∧W.cell? ⟨bx,ox+j*5+1,none⟩=some (.int .i64 yr)∧W.cell? ⟨bx,ox+j*5+2,none⟩=some (.int .i64 yc)∧W.cell? ⟨bx,ox+j*5+3,none⟩=some (.bool yf)∧W.cell? ⟨bx,ox+j*5+4,none⟩=some (.slice By yl.length my)) (first | assumption | (exact⟨by assumption,by assumption,by assumption,by assumption,by assumption,by assumption,by assumption,by assumption,by assumption,by assumption,by assumption,by assumption⟩)) (first
     | (go_at_call 198;with_reducible refine (KC.out _ (by first | exact Below.refl _ _ | exact (Below.refl _ _).drew)).mono ?_;rintro e w9 ⟨rfl,b9⟩;have z0:=(b9.cell (p:=⟨wr.heap.size,0,none⟩) S8.out).trans p0;have z1:=(b9.cell (p:=⟨wr.heap.size,1,none⟩) S8.out).trans p1;have z2:=(b9.cell (p:=⟨bx,ox+i*5,none⟩) HBX.out).trans x0;have z3:=(b9.cell (p:=⟨bx,ox+i*5+1,none⟩) HBX.out).trans x1;have z4:=(b9.cell (p:=⟨bx,ox+i*5+2,none⟩) HBX.out).trans x2;have z5:=(b9.cell (p:=⟨bx,ox+i*5+3,none⟩) HBX.out).trans x3;have z6:=(b9.cell (p:=⟨bx,ox+i*5+4,none⟩) HBX.out).trans x4;have z7:=(b9.cell (p:=⟨bx,ox+j*5,none⟩) HBX.out).trans y0;have z8:=(b9.cell (p:=⟨bx,ox+j*5+1,none⟩) HBX.out).trans y1;have z9:=(b9.cell (p:=⟨bx,ox+j*5+2,none⟩) HBX.out).trans y2;have z10:=(b9.cell (p:=⟨bx,ox+j*5+3,none⟩) HBX.out).trans y3;have z11:=(b9.cell (p:=⟨bx,ox+j*5+4,none⟩) HBX.out).trans y4))
    have W9:Hid (Below w.heap.size w w9):=W8.out.trans (b9.mono W8.out.size);clear b9 KC z0 z1 z2 z3 z4 z5 z6 z7 z8 z9 z10 z11;go_wp2_with fail
    go_ret2;exact⟨ret_chk (by rw [R.out]) (by rw [R.out]),W9.out⟩
   have e2:=Decidable.not_not.1 e2;rw [e2] at KC;have E2:Hid (psE (tcA (ts.map tcT) (i:Int)) (tcA (ts.map tcT) (j:Int))=0):=by rw [AX.out,AY.out];exact e2
   clear THP e2;go_wp2_with fail
   go_region_held3 (fun W=>W.cell? ⟨wr.heap.size,0,none⟩=some (.int .i64 (i:Int))∧W.cell? ⟨wr.heap.size,1,none⟩=some (.int .i64 (j:Int))∧W.cell? ⟨bx,ox+i*5,none⟩=some (.string xn)∧W.cell? ⟨bx,ox+i*5+1,none⟩=some (.int .i64 xr)∧W.cell? ⟨bx,ox+i*5+2,none⟩=some (.int .i64 xc)∧W.cell? ⟨bx,ox+i*5+3,none⟩=some (.bool xf)∧W.cell? ⟨bx,ox+i*5+4,none⟩=some (.slice Bx xl.length mx)∧W.cell? ⟨bx,ox+j*5,none⟩=some (.string yn)∧W.cell? ⟨bx,ox+j*5+1,none⟩=some (.int .i64 yr)∧W.cell? ⟨bx,ox+j*5+2,none⟩=some (.int .i64 yc)∧W.cell? ⟨bx,ox+j*5+3,none⟩=some (.bool yf)∧W.cell? ⟨bx,ox+j*5+4,none⟩=some (.slice By yl.length my)) (first | assumption | (exact⟨by assumption,by assumption,by assumption,by assumption,by assumption,by assumption,by assumption,by assumption,by assumption,by assumption,by assumption,by assumption⟩)) (first
    | (go_at_call 198;with_reducible refine (KC.out _ (by first | exact Below.refl _ _ | exact (Below.refl _ _).drew)).mono ?_;rintro e w9 ⟨rfl,b9⟩;have z0:=(b9.cell (p:=⟨wr.heap.size,0,none⟩) S8.out).trans p0;have z1:=(b9.cell (p:=⟨wr.heap.size,1,none⟩) S8.out).trans p1;have z2:=(b9.cell (p:=⟨bx,ox+i*5,none⟩) HBX.out).trans x0;have z3:=(b9.cell (p:=⟨bx,ox+i*5+1,none⟩) HBX.out).trans x1;have z4:=(b9.cell (p:=⟨bx,ox+i*5+2,none⟩) HBX.out).trans x2;have z5:=(b9.cell (p:=⟨bx,ox+i*5+3,none⟩) HBX.out).trans x3;have z6:=(b9.cell (p:=⟨bx,ox+i*5+4,none⟩) HBX.out).trans x4;have z7:=(b9.cell (p:=⟨bx,ox+j*5,none⟩) HBX.out).trans y0;have z8:=(b9.cell (p:=⟨bx,ox+j*5+1,none⟩) HBX.out).trans y1;have z9:=(b9.cell (p:=⟨bx,ox+j*5+2,none⟩) HBX.out).trans y2;have z10:=(b9.cell (p:=⟨bx,ox+j*5+3,none⟩) HBX.out).trans y3;have z11:=(b9.cell (p:=⟨bx,ox+j*5+4,none⟩) HBX.out).trans y4))
   have B9:Hid (Below w1.heap.size w1 w9):=B8.out.trans (b9.mono B8.out.size);have W9:Hid (Below w.heap.size w w9):=W8.out.trans (b9.mono W8.out.size);have L9:=Lib.hid (L8.out.below b9);have E9:=Lib.hid (E8.out.below b9);have S9:Hid (wr.heap.size<w9.heap.size):=Nat.lt_of_lt_of_le S8.out b9.size;have p0:=(b9.cell (p:=⟨wr.heap.size,0,none⟩) S8.out).trans p0;have p1:=(b9.cell (p:=⟨wr.heap.size,1,none⟩) S8.out).trans p1;clear z0 z1 z2 z3 z4 z5 z6 z7 z8 z9 z10 z11 x0 x1 x2 x3 x4 y0 y1 y2 y3 y4 b9 KC T8 L8 E8 B8 W8;have mp:=J56 (l.take k);have lk1:=L9.out.look (i:Int) IX.out;have lk2:=E9.out.look (j:Int) JX.out;by_cases d1:(i:Int)∈(l.take k).map Prod.fst
   ·have R:=Lib.hid (Ja7 hz.out HX.out (J54 (x:=((i:Int),(j:Int))) E1.out E2.out (by rw [mp];exact d1)) (by decide))
    rw [decide_eq_true d1] at lk1;clear hz d1 mp;go_wp2_with fail
    go_ret2;exact⟨ret_chk (by rw [R.out]) (by rw [R.out]),W9.out⟩
   rw [decide_eq_false d1] at lk1;by_cases d2:(j:Int)∈(l.take k).map Prod.snd
   ·have R:=Lib.hid (Ja7 hz.out HX.out (th_to (x:=((i:Int),(j:Int))) E1.out E2.out (by rw [mp];exact d2)) (by decide))
    rw [decide_eq_true d2] at lk2;clear hz d1 d2 mp;go_wp2_with fail
    go_ret2;exact⟨ret_chk (by rw [R.out]) (by rw [R.out]),W9.out⟩
   rw [decide_eq_false d2] at lk2;obtain⟨u,su,lu⟩:=J9u (H1.out.below W9.out) k hk (by omega) (k:Int) rfl;have CH:=Lib.hid (fun W (hW:Below w9.heap.size w9 W)=>J6j (Jrw u (l.take k) (by rw [List.length_take];omega) (HS.out.take k) (j:Int) JX.out W (lu.below hW)) hW);have cln:=J9e (l.take k) (j:Int);have CL:Hid ((chT (l.take k) (j:Int)).length≤1000000):=Nat.le_trans cln (by rw [List.length_take];omega);have CT:=Lib.hid (fun v W (hv:LstI W v (chT (l.take k) (j:Int)))=>J6d v (chT (l.take k) (j:Int)) CL.out (i:Int) W hv);by_cases d3:(i:Int)∈chT (l.take k) (j:Int)
   ·have R:=Lib.hid (Ja7 hz.out HX.out (J55 (x:=((i:Int),(j:Int))) E1.out E2.out (by rw [mp];exact d1) (by rw [mp];exact d2) (by rw [mp];exact d3)) (by decide))
    rw [decide_eq_true d3] at CT;generalize chT (l.take k) (j:Int)=cs at CH CT;clear hz d1 d2 d3 mp cln CL lu;go_wp2_with fail
    go_region_held3 (fun W=>W.cell? ⟨wr.heap.size,0,none⟩=some (.int .i64 (i:Int))∧W.cell? ⟨wr.heap.size,1,none⟩=some (.int .i64 (j:Int))) (first | assumption | (exact⟨by assumption,by assumption⟩)) (first
     | (go_at_call 200;with_reducible refine (CH.out _ (by first | exact Below.refl _ _ | exact (Below.refl _ _).drew)).mono ?_;rintro e wa ⟨ua,rfl,la,ba⟩;have z0:=(ba.cell (p:=⟨wr.heap.size,0,none⟩) S9.out).trans p0;have z1:=(ba.cell (p:=⟨wr.heap.size,1,none⟩) S9.out).trans p1;have LA:=Lib.hid la;have BA:=Lib.hid ba;clear la ba)
     | (go_at_call 199;with_reducible refine (CT.out _ _ (by first | exact LA.out | exact LA.out.below (Below.refl _ _).drew)).mono ?_;rintro e w' ⟨rfl,rfl⟩))
    all_goals
     have Wa:Hid (Below w.heap.size w wa):=W9.out.trans (BA.out.mono W9.out.size);clear z0 z1 CH CT LA BA;go_wp2_with fail
     go_ret2;exact⟨ret_chk (by rw [R.out]) (by rw [R.out]),Wa.out⟩
   have N:=Lib.hid (Jdz hz.out HX.out (th_ok (x:=((i:Int),(j:Int))) E1.out E2.out (by rw [mp];exact d1) (by rw [mp];exact d2) (by rw [mp];exact d3)));rw [decide_eq_false d3] at CT;generalize chT (l.take k) (j:Int)=cs at CH CT;have FT:=Lib.hid (J0k HX.out);have SN:=Lib.hid (J0l HX.out);have n1:((l.take k).map Prod.fst).length<1000000:=by rw [List.length_map,List.length_take];omega
   have n2:((l.take k).map Prod.snd).length<1000000:=by rw [List.length_map,List.length_take];omega
   have NN:=Lib.hid (And.intro n1 n2);clear hz d1 d2 d3 mp cln CL lu n1 n2;go_wp2_with fail
   go_region_held3 (fun W=>W.cell? ⟨wr.heap.size,0,none⟩=some (.int .i64 (i:Int))∧W.cell? ⟨wr.heap.size,1,none⟩=some (.int .i64 (j:Int))) (first | assumption | (exact⟨by assumption,by assumption⟩)) (first
    | (go_at_call 200;with_reducible refine (CH.out _ (by first | exact Below.refl _ _ | exact (Below.refl _ _).drew)).mono ?_;rintro e wa ⟨ua,rfl,la,ba⟩;have z0:=(ba.cell (p:=⟨wr.heap.size,0,none⟩) S9.out).trans p0;have z1:=(ba.cell (p:=⟨wr.heap.size,1,none⟩) S9.out).trans p1;have LA:=Lib.hid la;have BA:=Lib.hid ba;clear la ba)
    | (go_at_call 199;with_reducible refine (CT.out _ _ (by first | exact LA.out | exact LA.out.below (Below.refl _ _).drew)).mono ?_;rintro e w' ⟨rfl,rfl⟩))
   all_goals
    have Ba:Hid (Below w1.heap.size w1 wa):=B9.out.trans (BA.out.mono B9.out.size);have La:=Lib.hid (L9.out.below BA.out);have Ea:=Lib.hid (E9.out.below BA.out);have Sa:Hid (wr.heap.size<wa.heap.size):=Nat.lt_of_lt_of_le S9.out BA.out.size;have MNE:w1.heap.size≠w2.heap.size:=by have:=Z2.out;omega
    obtain⟨v1,v2,ra1,ra2,g1,g2,s1,s2,k1,bl1⟩:=Jpq (w:=wa) (W:=wa.drew) (Below.refl _ _).drew MNE La.out Ea.out (i:Int) (j:Int) IX.out JX.out NN.out.1 NN.out.2;obtain⟨u1,u2,rb1,rb2,h1',h2',t1',t2',k2,bl2⟩:=Jpq (w:=wa) (W:=wa.drew) (Below.refl _ _).drew MNE.symm Ea.out La.out (j:Int) (i:Int) JX.out IX.out NN.out.2 NN.out.1;have c0:=(World.cell?_of_block (a:=⟨wr.heap.size,0,none⟩) (k1 wr.heap.size Sa.out (Nat.ne_of_gt SL.out))).trans z0;have c1:=(World.cell?_of_block (a:=⟨wr.heap.size,1,none⟩) (k1 wr.heap.size Sa.out (Nat.ne_of_gt SL.out))).trans z1;have d0:=(World.cell?_of_block (a:=⟨wr.heap.size,0,none⟩) (k2 wr.heap.size Sa.out (Nat.ne_of_gt SB.out))).trans z0;have d1:=(World.cell?_of_block (a:=⟨wr.heap.size,1,none⟩) (k2 wr.heap.size Sa.out (Nat.ne_of_gt SB.out))).trans z1;have lw1:w1.heap.size≤wa.heap.size:=Ba.out.size;have X1:Hid (Below w1.heap.size w1 v2):=Ba.out.trans (bl1 _ lw1 (Nat.le_refl _) (Nat.le_of_lt Z2.out));have X2:Hid (Below w1.heap.size w1 u2):=Ba.out.trans (bl2 _ lw1 (Nat.le_of_lt Z2.out) (Nat.le_refl _));have G1:Hid (MapN v2 w1.heap.size ((l.take (k+1)).map Prod.fst)):=by show MapN _ _ _;rw [FT.out];exact g1
    have G2:Hid (MapN v2 w2.heap.size ((l.take (k+1)).map Prod.snd)):=by show MapN _ _ _;rw [SN.out];exact g2
    have K2:Hid (MapN u2 w1.heap.size ((l.take (k+1)).map Prod.fst)):=by show MapN _ _ _;rw [FT.out];exact h2'
    have K1:Hid (MapN u2 w2.heap.size ((l.take (k+1)).map Prod.snd)):=by show MapN _ _ _;rw [SN.out];exact h1'
    clear g1 g2 h1' h2' k1 k2 bl1 bl2 s1 s2 t1' t2' La Ea Ba lw1 MNE FT SN p0 p1 su;go_wp2_with fail
    go_region
    all_goals
     go_wp2_with fail
     go_roundw
     case rel=>first | exact⟨k+1,by go_num,by omega,N,G1,G2,X1⟩ | exact⟨k+1,by go_num,by omega,N,K2,K1,X2⟩
     case measure=>simp [intOf];omega
  ·have R:=Lib.hid (Jd0 hz.out (by omega))
   have d:decide (k<l.length)=false:=by rw [decide_eq_false_iff_not];exact hlt
   clear hz hlt HL HE;go_wp2_with fail
   go_ret2;exact⟨ret_chk (by rw [R.out]) (by rw [R.out]),BW.out⟩
open Go.RowKit Go.ChangeShapes Go.WideShapes Go.Deep
end S19
end Go.Proofs.YtpifdbphmnifdaaGreatDoor
