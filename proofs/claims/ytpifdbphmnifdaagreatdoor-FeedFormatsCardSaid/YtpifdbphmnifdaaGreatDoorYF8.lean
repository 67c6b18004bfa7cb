/-
  Facts. Condition: each theorem's own.
-/
import Derived.Test.YtpifdbphmnifdaaGreatDoorYF6
set_option maxRecDepth 100000
set_option maxHeartbeats 8000000
section
variable {p:Prop}
theorem Xk(h:p:=by have B3:Hid (Po w (w8.drewN nq)):=Jab W9.out nq;generalize w8.drewN nq=w3 at B3 |-;go_wp2_with fail;go_ret;exact⟨Jad (by rw[R.out]),B3.out⟩):p:=h
theorem Xl(h:p:=by have Wa:Hid (Po w wa):=WR.out.trans (BA.out.mono WR.out.size);clear z0 z1 CH CT LA BA;go_wp2_with fail;go_ret;exact⟨Jad Va,Wa.out⟩):p:=h
theorem Xm(h:p:=by first | exact LA.out | exact LA.out.below (Below.refl _ _).drew):p:=h
theorem Xn(h:p:=by go_wp2_with fail;go_ret;exact⟨Jad Va,W7.out⟩):p:=h
theorem Xo(h:p:=by go_wp2_with fail;go_ret;exact⟨Jad Va,W4.out.trans ((Jar (Jb4 hn nq).out).mono W4.out.size)⟩):p:=h
theorem Xp(h:p:=by go_wp2_with fail;go_ret2;exact⟨ret_chk Va Va,W9.out⟩):p:=h
theorem Xq(h:p:=by go_wp2_with fail;go_ret;exact⟨Jad R.out,B9.out⟩):p:=h
theorem Xr(h:p:=by go_ret;exact⟨_,rfl,by rw[R.out];exact HO.out,HB.out⟩):p:=h
theorem Xs(h:p:=by go_wp2_with fail;go_ret;exact⟨Jac (by rw[<-HR.out,R.out]),rfl⟩):p:=h
theorem Xt(h:p:=by have R:Hid (Q=15):=HQ.out.symm.trans ((THP.out (by rw[Jot hcal];decide)).trans (Jot hcal));clear hcal HQ THP;go_wp2_with fail;go_ret;exact⟨Jad Va,W9.out⟩):p:=h
theorem Xu(h:p:=by rw[R2.out]):p:=h
theorem Xv(h:p:=by have d1:decide (yd<xa)=false:=Pj e1;have R:=Pe (J4b (a:=(c,l)) (b:=(c',l')) HC.out HX.out HY.out e0 e1).symm;clear e0 e1 HX HY;exact Xq):p:=h
theorem Xw(h:p:=by go_enter func198,ntmps198;go_wp2_with fail;go_ret;exact⟨Jad R.out,B7.out⟩):p:=h
theorem Xx(h:p:=by rintro e w2 ⟨rfl,b2⟩;have B2:Hid (Po w w2):=B1.out.trans (b2.mono B1.out.size);clear K2 b2;go_wp2_with fail;go_ret;exact⟨Jad R.out,B2.out⟩):p:=h
theorem Xy(h:p:=by go_wp2_with fail;go_ret;exact⟨Jac R.out,rfl⟩):p:=h
theorem Xz(h:p:=by go_wp2_with fail;go_ret2;exact⟨ret_chk Va Va,B1.out⟩):p:=h
theorem X5(h:p:=by rintro e w1 ⟨rfl,b1⟩;have B1:Hid (Po w w1):=HB.out.trans (b1.mono HB.out.size);clear b1 C HB;exact Xz):p:=h
theorem X6(h:p:=by have B4:Hid (Po w ((w8.drewN na).drewN nq)):=Jab (Jab W9.out na) nq;go_wp2_with fail;go_ret;exact⟨Jad Va,B4.out⟩):p:=h
theorem X7(h:p:=by simp[h]):p:=h
theorem X8(h:p:=by have R:=Pe (Jhd (a:=(c,l)) (b:=(c',l')) HC.out HX.out HY.out e0).symm;clear e0 HX HY;exact Xq):p:=h
theorem X9(h:p:=by rw[AX.out,AY.out];exact J4b HCAL.out XP.out YQ.out N6.out n7):p:=h
theorem Ya(h:p:=by have:=S7.out;have z:w9.drew.heap.size=w7.heap.size+2:=z9;exact⟨Ka,Ka⟩):p:=h
theorem Yb(h:p:=by go_wp2_with fail;go_ret;exact⟨Jad R.out,Pg⟩):p:=h
theorem Yc(h:p:=by have:=HC2.out.le;rw[Pq,List.length_singleton] at this;exact this):p:=h
theorem Yd(h:p:=by rw[h];rfl):p:=h
theorem Ye(h:p:=by simp[h2]):p:=h
theorem Yf(h:p:=by rw[Jhe HCAL.out XP.out YQ.out N6.out n7];decide):p:=h
theorem Yg(h:p:=by exact⟨Jh2 R.out,B3.out⟩):p:=h
theorem Yh(h:p:=by clear hz hlt HR;go_wp2_with fail;go_ret2;exact⟨Jzu R.out,HB.out⟩):p:=h
theorem Yi(h:p:=by obtain⟨h0,D,h1,h2⟩:=h;exact⟨h0,D,h1.kept (below_no hb) Ke,h2⟩):p:=h
end
open Go.Proofs.Tryz
namespace Go.Proofs.YtpifdbphmnifdaaGreatDoor
namespace S19
open Go Go.RowKit
abbrev Th:=Int×Int
abbrev Gt:=Int×Int×Int
abbrev Tc:=Int×List Cl
theorem Jkq{α:Type}[DecidableEq α]:∀(P R:List α),P.Nodup->(∀x∈P,x∈R)->P.length<=R.length
 | [],_,_,_=>Nat.zero_le _
 | x::r,R,hn,hs=>by
  obtain⟨h1,h2⟩:=List.nodup_cons.1 hn;have hx:=hs x List.mem_cons_self;have ih:=Jkq r (R.erase x) h2 (fun y hy=>by
   have hne:y≠x:=fun e=>h1 (e ▸ hy)
   exact(List.mem_erase_of_ne hne).2 (hs y (List.mem_cons_of_mem _ hy)))
  rw[List.length_erase_of_mem hx] at ih;have:=List.length_pos_of_mem hx;rw[List.length_cons];omega
def nxT(t:Int):List Th->Option Int
 | []=>none
 | x::r=>if x.1=t then some x.2 else nxT t r
def nxV(t:Int)(l:List Th):Int:=(nxT t l).getD 0
def nxB(t:Int)(l:List Th):Bool:=(nxT t l).isSome
section
variable {t:Int} {l:List Th} {q:Option Int} {k:Nat} {x:Th}
theorem J7r(hr:q=nxT t (l.drop k))(h:l[k]?=some x)(ht:x.1=t):q=some x.2:=by
 rw[hr,Jbg l k x h];unfold nxT;rw[if_pos ht]
theorem Jy5(hr:q=nxT t (l.drop k))(h:l[k]?=some x)(ht:x.1≠t):q=nxT t (l.drop (k+1)):=by
 rw[hr,Jbg l k x h];conv=>lhs;unfold nxT
 rw[if_neg ht]
theorem J7s(hr:q=nxT t (l.drop k))(h:l.length<=k):q=none:=by
 exact Ky
end
theorem Jy6{t:Int}:∀{l:List Th} {y:Int},nxT t l=some y->(t,y)∈l
 | [],y,h=>Qi
 | x::r,y,h=>by
  unfold nxT at h;split at h
  ·next hx =>
   have:=Pp h;rw[show(t,y)=x from Prod.ext hx.symm this.symm];exact List.mem_cons_self
  ·exact List.mem_cons_of_mem _ (Jy6 h)
theorem J7t{t y:Int}{l:List Th}(h:nxT t l=some y):y∈l.map Prod.snd:=List.mem_map.2 ⟨_,Jy6 h,rfl⟩
def chF(l:List Th):Nat->List Int->Int->List Int
 | 0,out,_=>out
 | n+1,out,t=>match nxT t l with
  | none=>out
  | some y=>if y∈out then out else chF l n (out++[y]) y
def chT(l:List Th)(t:Int):List Int:=chF l l.length [t] t
section
variable {l:List Th} {n:Nat} {out:List Int} {t y:Int}
theorem J9v(h:nxT t l=none):chF l n out t=out:=by
 cases n with
 | zero=>rfl
 | succ n=>unfold chF;rw[h]
theorem J9w(h:nxT t l=some y)(hy:y∈out):chF l n out t=out:=by
 cases n with
 | zero=>rfl
 | succ n=>unfold chF;rw[h];exact if_pos hy
theorem J9x(h:nxT t l=some y)(hy:y ∉ out):chF l (n+1) out t=chF l n (out++[y]) y:=by
 conv=>lhs;unfold chF
 rw[h];exact if_neg hy
end
structure ChS (l:List Th) (q out:List Int) (t:Int) (n:Nat):Prop where
 is:q=chF l n out t
 last:out[out.length - 1]?=some t
 nod:out.Nodup
 sub:∀z∈out.tail,z∈l.map Prod.snd
 len:n+out.length=l.length+1
 pos:0<out.length
theorem ChS.start(l:List Th)(t:Int):ChS l (chT l t) [t] t l.length:=⟨rfl,rfl,Ke,fun z hz=>by simp at hz,rfl,Nat.zero_lt_one⟩
section
variable {l:List Th} {q out:List Int} {t y:Int} {n:Nat}
theorem ChS.stop(h:ChS l q out t n)(hn:nxT t l=none):q=out:=h.is.trans (J9v hn)
theorem ChS.used(h:ChS l q out t n)(hn:nxT t l=some y)(hy:y∈out):q=out:=h.is.trans (J9w hn hy)
theorem ChS.full(h:ChS l q out t 0):q=out:=h.is
theorem ChS.room(h:ChS l q out t n)(hn:nxT t l=some y)(hy:y ∉ out):0<n:=by
 obtain⟨a,r,rfl⟩:∃a r,out=a::r:=by
  cases out with
  | nil=>exact absurd h.pos (Nat.lt_irrefl 0)
  | cons a r=>exact⟨a,r,rfl⟩
 have h1:(r++[y]).Nodup:=by
  rw[List.nodup_append];refine⟨(List.nodup_cons.1 h.nod).2,Ke,fun x hx z hz=>?_⟩;rw[List.mem_singleton.1 hz];rintro rfl;exact hy (List.mem_cons_of_mem _ hx)
 have h2:=Jkq (r++[y]) (l.map Prod.snd) h1 (fun z hz=>by
  rcases List.mem_append.1 hz with hz | hz
  ·exact h.sub z hz
  ·rw[List.mem_singleton.1 hz];exact J7t hn)
 have h3:=h.len;rw[Pq,Pr,List.length_singleton] at h2;rw[List.length_cons] at h3;omega
theorem ChS.step(h:ChS l q out t n)(hn:nxT t l=some y)(hy:y ∉ out):ChS l q (out++[y]) y (n - 1):=by
 have hp:=h.room hn hy;obtain⟨m,rfl⟩:∃m,n=m+1:=⟨n - 1,Ka⟩;have hl:=h.pos;refine⟨h.is.trans (J9x hn hy),Ke,?_,fun z hz=>?_,?_,Ke⟩
 ·rw[List.nodup_append]
  refine⟨h.nod,Ke,fun x hx z hz=>?_⟩;rw[List.mem_singleton.1 hz];rintro rfl;exact hy hx
 ·cases out with
  | nil=>exact absurd h.pos (Nat.lt_irrefl 0)
  | cons a r =>
   rw[List.cons_append,List.tail_cons] at hz;rcases List.mem_append.1 hz with hz | hz
   ·exact h.sub z hz
   ·rw[List.mem_singleton.1 hz];exact J7t hn
 ·have:=h.len
  rw[Pq,List.length_singleton];omega
theorem ChS.le(h:ChS l q out t n):out.length<=l.length+1:=by have:=h.len;omega
end
structure ChOk (l:List Th) (t:Int) (c:List Int):Prop where
 first:c[0]?=some t
 nod:c.Nodup
 link:∀(j:Nat) (x y:Int),c[j]?=some x->c[j+1]?=some y->nxT x l=some y
 last:∀x y,c[c.length - 1]?=some x->nxT x l=some y->y∈c
 len:0<c.length/\c.length<=l.length+1
theorem J7u(l:List Th)(t0:Int)(q:List Int):∀(n:Nat) (out:List Int) (t:Int),ChS l q out t n->out[0]?=some t0->(∀(j:Nat) (x y:Int),out[j]?=some x->out[j+1]?=some y->nxT x l=some y)->ChOk l t0 q
 | n,out,t,h,h0,hl=>by
  cases hn:nxT t l with
  | none =>
   obtain rfl:=h.stop hn;refine⟨h0,h.nod,hl,fun x y hx hy=>?_,h.pos,h.le⟩;rw[h.last] at hx;obtain rfl:=Pp hx;rw[hn] at hy;cases hy
  | some z =>
   by_cases hz:z∈out
   ·obtain rfl:=h.used hn hz
    refine⟨h0,h.nod,hl,fun x y hx hy=>?_,h.pos,h.le⟩;rw[h.last] at hx;obtain rfl:=Pp hx;rw[hn] at hy;rw[<-Pp hy];exact hz
   ·have hp:=h.room hn hz
    have hs:=h.step hn hz;have hpos:=h.pos;refine J7u l t0 q (n - 1) _ z hs ?_ ?_
    ·rw[List.getElem?_append_left hpos];exact h0
    ·intro j x y hx hy
     have hj:=(Pm hy).1;rw[Pq,List.length_singleton] at hj;rw[List.getElem?_append_left Ka] at hx;by_cases he:j+1<out.length
     ·rw[List.getElem?_append_left he] at hy
      exact hl j x y hx hy
     ·have e:j=out.length - 1:=Ka
      rw[e,h.last] at hx;obtain rfl:=Pp hx;rw[List.getElem?_append_right Ka,show j+1 - out.length=0 by omega] at hy;obtain rfl:=Pp hy;exact hn
termination_by n=>n
theorem ch_ok(l:List Th)(t:Int):ChOk l t (chT l t):=J7u l t _ l.length [t] t (ChS.start l t) rfl (fun j x y _ hy=>by simp at hy)
theorem Jy7(l:List Th)(t:Int):(chT l t).length<=l.length+1:=(ch_ok l t).len.2
def psE(a b:Tc):Int :=
 if a.1≠b.1 then 15 else
 match a.2[a.2.length - 1]?,b.2[0]? with
 | some x,some y=>if x.1≠y.1 then 13 else if y.2.2.1<x.2.1 then 10 else 0
 | _,_=>13
section
variable {a b:Tc} {x y:Cl}
theorem Jot(h:a.1≠b.1):psE a b=15:=by unfold psE;rw[if_pos h]
theorem Ji1(h:a.1=b.1)(h1:a.2.length=0):psE a b=13:=by
 unfold psE;rw[if_neg X7,List.getElem?_eq_none Ka]
theorem Jy8(h:a.1=b.1)(h1:b.2.length=0):psE a b=13:=by
 unfold psE;rw[if_neg X7,List.getElem?_eq_none (l:=b.2) Ka];split
 ·next h2=>cases h2
 ·rfl
theorem Jhd(h:a.1=b.1)(hx:a.2[a.2.length - 1]?=some x)(hy:b.2[0]?=some y)(hs:x.1≠y.1):psE a b=13:=by
 unfold psE;rw[if_neg X7,hx,hy];exact if_pos hs
theorem Jhe(h:a.1=b.1)(hx:a.2[a.2.length - 1]?=some x)(hy:b.2[0]?=some y)(hs:x.1=y.1)(ht:y.2.2.1<x.2.1):psE a b=10:=by
 unfold psE;rw[if_neg X7,hx,hy];show(if x.1≠y.1 then(13:Int) else if y.2.2.1<x.2.1 then 10 else 0)=10
 rw[if_neg (by simp[hs]),if_pos ht]
theorem J4b(h:a.1=b.1)(hx:a.2[a.2.length - 1]?=some x)(hy:b.2[0]?=some y)(hs:x.1=y.1)(ht:¬y.2.2.1<x.2.1):psE a b=0:=by
 unfold psE;rw[if_neg X7,hx,hy];show(if x.1≠y.1 then(13:Int) else if y.2.2.1<x.2.1 then 10 else 0)=0
 rw[if_neg (by simp[hs]),if_neg ht]
end
def alP(st:Int)(x:Cl):Bool:=decide (x.1=st)&&x.2.2.2.2
def bdP(st:Int)(x:Cl):Bool:=decide (x.1=st)&&x.2.2.2.1
variable {st:Int} {x:Cl}
theorem Jtg(h:x.1≠st):alP st x=false:=by unfold alP;rw[Pj h];rfl
theorem Jth(h:x.2.2.2.2=false):alP st x=false:=by unfold alP;rw[h,Bool.and_false]
theorem Jy9(h:x.1=st)(k:x.2.2.2.2=true):alP st x=true:=by unfold alP;rw[Pk h,k];rfl
theorem Jti(h:x.1≠st):bdP st x=false:=by unfold bdP;rw[Pj h];rfl
theorem Jtj(h:x.2.2.2.1=false):bdP st x=false:=by unfold bdP;rw[h,Bool.and_false]
theorem Jza(h:x.1=st)(k:x.2.2.2.1=true):bdP st x=true:=by unfold bdP;rw[Pk h,k];rfl
def alF(st:Int)(k:Nat)(l:List Cl):Int:=fdF (alP st) (max k 1) (l.drop (max k 1))
def bdF(st:Int)(k:Nat)(l:List Cl):Int:=fdF (bdP st) k (l.dropLast.drop k)
section
variable {st:Int} {l:List Cl} {q:Int} {k:Nat} {x:Cl}
theorem Jzb(hr:q=alF st 0 l):q=alF st 1 l:=hr
theorem J7v(hr:q=alF st k l)(hk:0<k)(h:l[k]?=some x)(hp:alP st x=true):q=(k:Int):=by
 unfold alF at hr;rw[Nat.max_eq_left hk] at hr;exact Jka hr h hp
theorem Jl7(hr:q=alF st k l)(hk:0<k)(h:l[k]?=some x)(hp:alP st x=false):q=alF st (k+1) l:=by
 unfold alF at hr |-;rw[Nat.max_eq_left hk] at hr;rw[Nat.max_eq_left Ka];exact Jg7 hr h hp
theorem J7w(hr:q=alF st k l)(h:l.length<=k):q=-1:=by
 unfold alF at hr;exact Jkb hr Ka
theorem Jqz(h:l[k]?=some x)(hk:k<l.length - 1):l.dropLast[k]?=some x:=by
 rw[List.getElem?_dropLast,if_pos hk];exact h
theorem J7x(hr:q=bdF st k l)(h:l[k]?=some x)(hk:k<l.length - 1)(hp:bdP st x=true):q=(k:Int):=Jka hr (Jqz h hk) hp
theorem Jl8(hr:q=bdF st k l)(h:l[k]?=some x)(hk:k<l.length - 1)(hp:bdP st x=false):q=bdF st (k+1) l:=Jg7 hr (Jqz h hk) hp
theorem Jtk(hr:q=bdF st k l)(h:l.length - 1<=k):q=-1:=Jkb hr (by rw[List.length_dropLast];exact h)
end
theorem Jhf{α:Type}(p:α->Bool):∀(l:List α) (k j:Nat),fdF p k l=((k+j:Nat):Int)->∀(i:Nat) x,i<j->l[i]?=some x->p x=false
 | [],k,j,h,i,x,hi,hx=>by simp at hx
 | y::r,k,j,h,i,x,hi,hx=>by
  unfold fdF at h;split at h
  ·omega
  ·next hy =>
   cases i with
   | zero =>
    simp at hx;subst hx;exact Bool.eq_false_iff.2 hy
   | succ i =>
    rw[List.getElem?_cons_succ] at hx;exact Jhf p r (k+1) (j - 1) (by rw[h];congr 1;omega) i x Ka hx
theorem al_is(st:Int)(l:List Cl):alF st 0 l=-1\/∃(i:Nat) (x:Cl),alF st 0 l=(i:Int)/\1<=i/\l[i]?=some x/\alP st x=true/\∀(j:Nat) (y:Cl),1<=j->j<i->l[j]?=some y->alP st y=false:=by
 rcases Decidable.em (alF st 0 l=-1) with h | h
 ·exact .inl h
 ·have h':fdF (alP st) 1 (l.drop 1)≠-1:=h
  obtain⟨j,x,h1,h2,h3⟩:=Jlu _ _ _ h';refine .inr ⟨1+j,x,h3,Ka,by rw[<-h1,List.getElem?_drop],h2,fun i y hi hj hy=>?_⟩;obtain⟨m,rfl⟩:∃m,i=1+m:=⟨i - 1,Ka⟩;exact Jhf _ _ _ _ h3 m y Ka (by rw[List.getElem?_drop];exact hy)
theorem bd_is(st:Int)(l:List Cl):bdF st 0 l=-1\/∃(i:Nat) (x:Cl),bdF st 0 l=(i:Int)/\i+1<l.length/\l[i]?=some x/\bdP st x=true/\∀(j:Nat) (y:Cl),j<i->l[j]?=some y->bdP st y=false:=by
 rcases Decidable.em (bdF st 0 l=-1) with h | h
 ·exact .inl h
 ·have h':fdF (bdP st) 0 (l.dropLast.drop 0)≠-1:=h
  obtain⟨i,x,h1,h2,h3⟩:=Jlu _ _ _ h';rw[List.drop_zero] at h1;have hi:=(Pm h1).1;rw[List.length_dropLast] at hi;refine .inr ⟨i,x,by rw[Nat.zero_add] at h3;exact h3,Ka,?_,h2,fun j y hj hy=>?_⟩
  ·rw[List.getElem?_dropLast,if_pos Ka] at h1
   exact h1
  ·exact Jhf _ _ _ _ h3 j y hj (by rw[List.drop_zero];exact Jqz hy Ka)
def meT(st:Int)(a b:List Cl):Int×Int×Bool :=
 match a[(alF st 0 a).toNat]?,b[(bdF st 0 b).toNat]? with
 | some x,some y=>if alF st 0 a=-1\/bdF st 0 b=-1\/y.2.2.1<x.2.1 then(0,0,false) else(alF st 0 a,bdF st 0 b,true)
 | _,_=>(0,0,false)
section
variable {st:Int} {a b:List Cl} {x y:Cl} {i k:Nat}
theorem Jzc(h:alF st 0 a=-1):meT st a b=(0,0,false):=by
 unfold meT;split
 ·rw[if_pos (.inl h)]
 ·rfl
theorem Qde(h:bdF st 0 b=-1):meT st a b=(0,0,false):=by
 unfold meT;split
 ·rw[if_pos (.inr (.inl h))]
 ·rfl
theorem Jzd(hi:alF st 0 a=(i:Int))(hk:bdF st 0 b=(k:Int))(hx:a[i]?=some x)(hy:b[k]?=some y)(h:y.2.2.1<x.2.1):meT st a b=(0,0,false):=by
 unfold meT;rw[hi,hk,Int.toNat_natCast,Int.toNat_natCast,hx,hy];exact if_pos (.inr (.inr h))
theorem J7y(hi:alF st 0 a=(i:Int))(hk:bdF st 0 b=(k:Int))(hx:a[i]?=some x)(hy:b[k]?=some y)(h:¬y.2.2.1<x.2.1):meT st a b=((i:Int),(k:Int),true):=by
 unfold meT;rw[hi,hk,Int.toNat_natCast,Int.toNat_natCast,hx,hy];exact if_neg Ka
end
def tcA(ts:List Tc)(i:Int):Tc:=ts[i.toNat]?.getD (0,[])
theorem Qdf{ts:List Tc}{i:Int}{k:Nat}{x:Tc}(hi:i=(k:Int))(h:ts[k]?=some x):tcA ts i=x:=by
 unfold tcA;rw[hi,Int.toNat_natCast,h];rfl
def prE(n:Nat)(f:List Fq)(a b:Int):Int:=if ¬(0<=a/\a<(n:Int))\/¬(0<=b/\b<(n:Int))\/a=b then 9 else if repF a f || repF b f then 17 else 0
section
variable {n:Nat} {f:List Fq} {a b:Int}
theorem pr_a(h:¬(0<=a/\a<(n:Int))):prE n f a b=9:=by unfold prE;rw[if_pos (.inl h)]
theorem pr_b(h:¬(0<=b/\b<(n:Int))):prE n f a b=9:=by unfold prE;rw[if_pos (.inr (.inl h))]
theorem J4c(h:a=b):prE n f a b=9:=by unfold prE;rw[if_pos (.inr (.inr h))]
theorem J4d(h1:0<=a/\a<(n:Int))(h2:0<=b/\b<(n:Int))(h3:a≠b)(h:repF a f=true):prE n f a b=17:=by
 unfold prE;rw[if_neg Ka,h];rfl
theorem J4e(h1:0<=a/\a<(n:Int))(h2:0<=b/\b<(n:Int))(h3:a≠b)(h:repF b f=true):prE n f a b=17:=by
 unfold prE;rw[if_neg Ka,h,Bool.or_true];rfl
theorem J9y(h1:0<=a/\a<(n:Int))(h2:0<=b/\b<(n:Int))(h3:a≠b)(h:repF a f=false)(h':repF b f=false):prE n f a b=0:=by
 unfold prE;rw[if_neg Ka,h,h'];rfl
theorem Jze(h:prE n f a b=0):(0<=a/\a<(n:Int))/\(0<=b/\b<(n:Int))/\a≠b/\repF a f=false/\repF b f=false:=by
 unfold prE at h;split at h
 ·omega
 ·next h1 =>
  split at h
  ·omega
  ·next h2 =>
   have:=Bool.eq_false_iff.2 h2;rw[Bool.or_eq_false_iff] at this;refine⟨Ka,Ka,Ka,this⟩
end
def thE(ts:List Tc)(f:List Fq)(seen:List Th)(x:Th):Int :=
 if prE ts.length f x.1 x.2≠0 then prE ts.length f x.1 x.2 else
 if psE (tcA ts x.1) (tcA ts x.2)≠0 then psE (tcA ts x.1) (tcA ts x.2) else
 if x.1∈seen.map Prod.fst\/x.2∈seen.map Prod.snd then 6 else if x.1∈chT seen x.2 then 19 else 0
section
variable {ts:List Tc} {f:List Fq} {seen:List Th} {x:Th}
theorem Jzf(h:prE ts.length f x.1 x.2≠0):thE ts f seen x=prE ts.length f x.1 x.2:=by unfold thE;rw[if_pos h]
theorem Jzg(h1:prE ts.length f x.1 x.2=0)(h:psE (tcA ts x.1) (tcA ts x.2)≠0):thE ts f seen x=psE (tcA ts x.1) (tcA ts x.2):=by
 unfold thE;rw[if_neg Q5,if_pos h]
theorem Jq0(h1:prE ts.length f x.1 x.2=0)(h2:psE (tcA ts x.1) (tcA ts x.2)=0)(h:x.1∈seen.map Prod.fst):thE ts f seen x=6:=by
 unfold thE;rw[if_neg Q5,if_neg Ye,if_pos (.inl h)]
theorem J9z(h1:prE ts.length f x.1 x.2=0)(h2:psE (tcA ts x.1) (tcA ts x.2)=0)(h:x.2∈seen.map Prod.snd):thE ts f seen x=6:=by
 unfold thE;rw[if_neg Q5,if_neg Ye,if_pos (.inr h)]
theorem Jq1(h1:prE ts.length f x.1 x.2=0)(h2:psE (tcA ts x.1) (tcA ts x.2)=0)(h3:x.1 ∉ seen.map Prod.fst)(h4:x.2 ∉ seen.map Prod.snd)(h:x.1∈chT seen x.2):thE ts f seen x=19:=by
 unfold thE;rw[if_neg Q5,if_neg Ye,if_neg (by rintro(h | h);exact h3 h;exact h4 h),if_pos h]
theorem J90(h1:prE ts.length f x.1 x.2=0)(h2:psE (tcA ts x.1) (tcA ts x.2)=0)(h3:x.1 ∉ seen.map Prod.fst)(h4:x.2 ∉ seen.map Prod.snd)(h:x.1 ∉ chT seen x.2):thE ts f seen x=0:=by
 unfold thE;rw[if_neg Q5,if_neg Ye,if_neg (by rintro(h | h);exact h3 h;exact h4 h),if_neg h]
end
abbrev idP(x:Th):Th:=x
abbrev idG(x:Gt):Gt:=x
def chkH(ts:List Tc)(f:List Fq)(l:List Th):Int×Int:=if 128<l.length then(0,5) else fbF (thE ts f) idP [] 0 l
theorem Jzh(l:List Th):l.map idP=l:=List.map_id' l
theorem Jq2(l:List Gt):l.map idG=l:=List.map_id' l
section
variable {ts:List Tc} {f:List Fq} {l:List Th}
theorem Jou(h:128<l.length):chkH ts f l=(0,5):=by unfold chkH;rw[if_pos h]
theorem Jkr(h:¬128<l.length):chkH ts f l=fbF (thE ts f) idP ((l.take 0).map idP) 0 (l.drop 0):=by unfold chkH;rw[if_neg h];rfl
end
def guE(ts:List Tc)(f:List Fq)(st:Int)(seen:List Gt)(x:Gt):Int :=
 if ¬(0<=x.2.2/\x.2.2<st) then 9 else
 if prE ts.length f x.1 x.2.1≠0 then prE ts.length f x.1 x.2.1 else
 if(meT x.2.2 (tcA ts x.1).2 (tcA ts x.2.1).2).2.2=false then 19 else if x∈seen then 6 else 0
section
variable {ts:List Tc} {f:List Fq} {st:Int} {seen:List Gt} {x:Gt}
theorem Jq3(h:¬(0<=x.2.2/\x.2.2<st)):guE ts f st seen x=9:=by unfold guE;rw[if_pos h]
theorem Jq4(h1:0<=x.2.2/\x.2.2<st)(h:prE ts.length f x.1 x.2.1≠0):guE ts f st seen x=prE ts.length f x.1 x.2.1:=by
 unfold guE;rw[if_neg Ka,if_pos h]
theorem Qdg(h:prE ts.length f x.1 x.2.1=9):guE ts f st seen x=9:=by
 by_cases h1:0<=x.2.2/\x.2.2<st
 ·rw[Jq4 h1 Ka,h]
 ·exact Jq3 h1
theorem Jzi(h1:0<=x.2.2/\x.2.2<st)(h2:prE ts.length f x.1 x.2.1=0)(h:(meT x.2.2 (tcA ts x.1).2 (tcA ts x.2.1).2).2.2=false):guE ts f st seen x=19:=by
 unfold guE;rw[if_neg Ka,if_neg Ye,if_pos h]
theorem Jtl(h1:0<=x.2.2/\x.2.2<st)(h2:prE ts.length f x.1 x.2.1=0)(h3:(meT x.2.2 (tcA ts x.1).2 (tcA ts x.2.1).2).2.2=true)(h:x∈seen):guE ts f st seen x=6:=by
 unfold guE;rw[if_neg Ka,if_neg Ye,if_neg (by simp[h3]),if_pos h]
theorem Qdh(h1:0<=x.2.2/\x.2.2<st)(h2:prE ts.length f x.1 x.2.1=0)(h3:(meT x.2.2 (tcA ts x.1).2 (tcA ts x.2.1).2).2.2=true)(h:x ∉ seen):guE ts f st seen x=0:=by
 unfold guE;rw[if_neg Ka,if_neg Ye,if_neg (by simp[h3]),if_neg h]
end
def chkU(ts:List Tc)(f:List Fq)(st:Int)(l:List Gt):Int×Int:=if 128<l.length then(0,5) else fbF (guE ts f st) idG [] 0 l
section
variable {ts:List Tc} {f:List Fq} {st:Int} {l:List Gt}
theorem Jov(h:128<l.length):chkU ts f st l=(0,5):=by unfold chkU;rw[if_pos h]
theorem Jks(h:¬128<l.length):chkU ts f st l=fbF (guE ts f st) idG ((l.take 0).map idG) 0 (l.drop 0):=by unfold chkU;rw[if_neg h];rfl
end
open Go.RowKit
def hh(x:Th):List Value:=[.int .i64 x.1,.int .i64 x.2]
theorem hh_len(x:Th):(hh x).length=2:=rfl
abbrev LstH:=@LstG Th hh
variable {w W w':World} {b k n c:Nat} {ls l:List Int} {a x q:Int} {A:Option Addr} {v:Value}
theorem two_hh{l:List Th}(h:LstH w (.slice A n c) l){i:Nat}{a b:Int}(hs:l[i]?=some (a,b)):
  ∃k f,A=some ⟨k,f,none⟩/\k<w.heap.size/\w.cell? ⟨k,f+i*2,none⟩=some (.int .i64 a)/\w.cell? ⟨k,f+i*2+1,none⟩=some (.int .i64 b):=by
 obtain⟨A',c',hv,_,_,hx⟩:=h;cases hv;have hi:=(Pm hs).1;obtain⟨k,f,rfl,hb,hcell⟩:=hx Ka;exact⟨k,f,rfl,hb,hcell (i*2) _ (by rw[<-Nat.add_zero (i*2),Jbq hh_len hs 0 Ka];rfl),(hcell (i*2+1) _ (by rw[Jbq hh_len hs 1 Ka];rfl):_)⟩
abbrev boxH(a b:Int):Obj:=.cells #[.int .i64 a,.int .i64 b] 120 (0,0)
theorem Qdi{b:Int}(h:w.heap[k]?=some (boxH a b)):w.cell? ⟨k,0,none⟩=some (.int .i64 a)/\w.cell? ⟨k,1,none⟩=some (.int .i64 b) :=
 ⟨Jk,Jj⟩
theorem Jzj{w7:World}{b:Int}(h:w.alloc (boxH a b)=w7):
  Po w w7/\w7.cell? ⟨w.heap.size,0,none⟩=some (.int .i64 a)/\w7.cell? ⟨w.heap.size,1,none⟩=some (.int .i64 b)/\w.heap.size<w7.heap.size/\w7.heap[w.heap.size]?=some (boxH a b):=by
 subst h;have c7:=heap_alloc_new w (boxH a b);obtain⟨h0,h1⟩:=Qdi c7;exact⟨(Below.refl _ _).alloc Ph _,h0,h1,Ke,c7⟩
def gg(x:Gt):List Value:=[.int .i64 x.1,.int .i64 x.2.1,.int .i64 x.2.2]
theorem gg_len(x:Gt):(gg x).length=3:=rfl
abbrev LstU:=@LstG Gt gg
theorem three_gg{l:List Gt}(h:LstU w (.slice A n c) l){i:Nat}{a b s:Int}(hs:l[i]?=some (a,b,s)):
  ∃k f,A=some ⟨k,f,none⟩/\k<w.heap.size/\w.cell? ⟨k,f+i*3,none⟩=some (.int .i64 a)/\w.cell? ⟨k,f+i*3+1,none⟩=some (.int .i64 b)/\w.cell? ⟨k,f+i*3+2,none⟩=some (.int .i64 s):=by
 obtain⟨A',c',hv,_,_,hx⟩:=h;cases hv;have hi:=(Pm hs).1;obtain⟨k,f,rfl,hb,hcell⟩:=hx Ka;exact⟨k,f,rfl,hb,hcell (i*3) _ (by rw[<-Nat.add_zero (i*3),Jbq gg_len hs 0 Ka];rfl),(hcell (i*3+1) _ (by rw[Jbq gg_len hs 1 Ka];rfl):_),(hcell (i*3+2) _ (by rw[Jbq gg_len hs 2 Ka];rfl):_)⟩
abbrev boxU(a b s:Int):Obj:=.cells #[.int .i64 a,.int .i64 b,.int .i64 s] 122 (0,0)
theorem Qdj{b s:Int}(h:w.heap[k]?=some (boxU a b s)):w.cell? ⟨k,0,none⟩=some (.int .i64 a)/\w.cell? ⟨k,1,none⟩=some (.int .i64 b)/\w.cell? ⟨k,2,none⟩=some (.int .i64 s) :=
 ⟨Jk,Jj,Jn⟩
theorem J7z{w7:World}{b s:Int}(h:w.alloc (boxU a b s)=w7):
  Po w w7/\w7.cell? ⟨w.heap.size,0,none⟩=some (.int .i64 a)/\w7.cell? ⟨w.heap.size,1,none⟩=some (.int .i64 b)/\w7.cell? ⟨w.heap.size,2,none⟩=some (.int .i64 s)/\w.heap.size<w7.heap.size/\w7.heap[w.heap.size]?=some (boxU a b s):=by
 subst h;have c7:=heap_alloc_new w (boxU a b s);obtain⟨h0,h1,h2⟩:=Qdj c7;exact⟨(Below.refl _ _).alloc Ph _,h0,h1,h2,Ke,c7⟩
theorem int_cell(h:LstI w (.slice A n c) l){i:Nat}{x:Int}(hs:l[i]?=some x):∃b o,A=some ⟨b,o,none⟩/\b<w.heap.size/\w.cell? ⟨b,o+i,none⟩=some (.int .i64 x):=by
 obtain⟨A',c',hv,_,_,hx⟩:=h;cases hv;have hi:=(Pm hs).1;obtain⟨b,o,rfl,hb,hcell⟩:=hx Ka;exact⟨b,o,rfl,hb,hcell i _ (Jxe l i x hs)⟩
theorem J70{q:Option Int}(h:q=some x):Ending.returned (.tuple #[.int .i64 x,.bool true])=.returned (.tuple #[.int .i64 (q.getD 0),.bool q.isSome]):=Yd
theorem Jzk{q:Option Int}(h:q=none):Ending.returned (.tuple #[.int .i64 0,.bool false])=.returned (.tuple #[.int .i64 (q.getD 0),.bool q.isSome]):=Yd
theorem Jzl(vl:Value)(l:List Th)(hl:l.length<=1000000)(t:Int)(w:World)(h:LstH w vl l):Pc 273 #[vl,.int .i64 t] w (.tuple #[.int .i64 (nxV t l),.bool (nxB t l)]):=by
 have H:=Pe h;obtain⟨A,n,rfl,-,-,-⟩:=h;unfold nxV nxB;obtain⟨q,hq⟩:=Pi (nxT t l);rw[hq];have HR:=Pe hq;clear hq;go_enter func273,ntmps273;go_wp2_with fail;go_loopw [10] (fun i wr=>∃k:Nat,i=.int .i64 k/\k<=l.length/\Hid (q=nxT t (l.drop k))/\Hid (Po w wr)) (fun i _=>l.length - (intOf i).toNat);case atStart=>exact⟨0,rfl,Nat.zero_le _,Pe Zk,Pe Pg⟩
 case round =>
  obtain⟨k,rfl,hk,hz,HB⟩:=hrel;by_cases hlt:k<l.length
  ·obtain⟨⟨a,b⟩,hf⟩:=Jah hlt
   obtain⟨c,o,rfl,hc,m0,m1⟩:=two_hh (H.out.below HB.out) hf;obtain⟨w7,hw7⟩:=Pi (wr.alloc (boxH a b));obtain⟨b7,p0,p1,s7,-⟩:=Jzj hw7;have gk:(k:Int)<(l.length:Int):=Ka;have B7:Hid (Po w w7):=HB.out.trans (b7.mono HB.out.size);clear b7 s7 HB;by_cases ht:a=t
   ·have g:=Jag ht
    have R:=Pe (J7r hz.out hf ht);clear hz hf hc ht HR;go_wp2_with fail;go_ret2;exact⟨J70 R.out,B7.out⟩
   ·have g:=Jaa ht
    have N:=Pe (Jy5 hz.out hf ht);clear hz hf hc ht;go_wp2_with fail;go_roundw;case rel=>exact⟨k+1,Kj,Ka,N,B7⟩
    case measure=>exact Q7
  ·have R:=Pe (J7s hz.out Ka)
   have d:decide (k<l.length)=false:=Kg;clear hz hlt HR;go_wp2_with fail;go_ret2;exact⟨Jzk R.out,HB.out⟩
theorem J91(vl:Value)(l:List Th)(hl:l.length<=1000000)(t:Int)(w:World)(h:LstH w vl l):Pb 309 #[vl,.int .i64 t] w (.tuple #[.int .i64 (nxV t l),.bool (nxB t l)]):=by
 have H:=Pe h;obtain⟨A,n,rfl,-,-,-⟩:=h;unfold nxV nxB;obtain⟨q,hq⟩:=Pi (nxT t l);rw[hq];have HR:=Pe hq;clear hq;go_enter func309,ntmps309;go_wp2_with fail;go_loop [6] (fun i=>∃k:Nat,i=.int .i64 k/\k<=l.length/\Hid (q=nxT t (l.drop k))) (fun i=>l.length - (intOf i).toNat);case atStart=>exact⟨0,rfl,Nat.zero_le _,Pe Zk⟩
 case round =>
  obtain⟨k,rfl,hk,hz⟩:=hrel;by_cases hlt:k<l.length
  ·obtain⟨⟨a,b⟩,hf⟩:=Jah hlt
   obtain⟨c,o,rfl,hc,m0,m1⟩:=two_hh H.out hf;have gk:(k:Int)<(l.length:Int):=Ka;by_cases ht:a=t
   ·have g:=Jag ht
    have R:=Pe (J7r hz.out hf ht);clear hz hf hc ht HR;go_wp2_with fail;go_ret2;exact⟨J70 R.out,rfl⟩
   ·have g:=Jaa ht
    have N:=Pe (Jy5 hz.out hf ht);clear hz hf hc ht;go_wp2_with fail;go_round;case rel=>exact⟨k+1,Kj,Ka,N⟩
    case measure=>exact Q7
  ·have R:=Pe (J7s hz.out Ka)
   have d:decide (k<l.length)=false:=Kg;clear hz hlt HR;go_wp2_with fail;go_ret2;exact⟨Jzk R.out,rfl⟩
theorem J92(x:Int)(l:List Int):(l.any fun y=>decide (x=y))=decide (x∈l):=by
 rw[Bool.eq_iff_iff,List.any_eq_true,decide_eq_true_iff];constructor
 ·rintro⟨y,hy,h⟩
  rw[of_decide_eq_true h];exact hy
 ·exact fun h=>⟨x,h,Pk rfl⟩
theorem J93(vl:Value)(l:List Int)(hl:l.length<=1000000)(x:Int)(w:World)(h:LstI w vl l):Pb 272 #[vl,.int .i64 x] w (.int .i64 (fdT (fun y=>decide (x=y)) l)):=by
 have H:=Pe h;obtain⟨A,n,rfl,-,-,-⟩:=h;obtain⟨q,hq⟩:=Pi (fdT (fun y=>decide (x=y)) l);rw[hq];have HR:=Pe hq;clear hq;go_enter func272,ntmps272;go_wp2_with fail;go_loop [8] (fun i=>∃k:Nat,i=.int .i64 k/\k<=l.length/\Hid (q=fdF (fun y=>decide (x=y)) k (l.drop k))) (fun i=>l.length - (intOf i).toNat);case atStart=>exact⟨0,rfl,Nat.zero_le _,Pe Zk⟩
 case round =>
  obtain⟨k,rfl,hk,hz⟩:=hrel;by_cases hlt:k<l.length
  ·obtain⟨a,hf⟩:=Jah hlt
   obtain⟨c,o,rfl,hc,m0⟩:=int_cell H.out hf;have gk:(k:Int)<(l.length:Int):=Ka;by_cases ht:x=a
   ·have g:=Jag ht
    have R:=Pe (Jka hz.out hf (Pk ht));clear hz hf hc ht HR;exact Vg
   ·have g:=Jaa ht
    have N:=Pe (Jg7 hz.out hf (Pj ht));clear hz hf hc ht;go_wp2_with fail;go_round;case rel=>exact⟨k+1,Kj,Ka,N⟩
    case measure=>exact Q7
  ·have R:=Pe (Jkb hz.out Ka)
   have d:decide (k<l.length)=false:=Kg;clear hz hlt HR;exact Vg
theorem J94(vl:Value)(l:List Int)(hl:l.length<=1000000)(x:Int)(w:World)(h:LstI w vl l):Pb 199 #[vl,.int .i64 x] w (.bool (decide (x∈l))):=by
 have C:=Pe (J93 vl l hl x w h);have R:=Pe ((J7o (fun y=>decide (x=y)) l).trans (J92 x l));generalize fdT (fun y=>decide (x=y)) l=q at C R;obtain⟨A,n,rfl,-,-,-⟩:=h;go_enter func199,ntmps199;go_wp2_with fail;refine Pf C.out ?_;clear C;exact Xy
theorem Qdk(h:l[k]?=some x):x∈l:=List.mem_iff_getElem?.2 ⟨k,h⟩
theorem Jl9(vl:Value)(l:List Int)(hl:l.length<=1000000)(x:Int)(w:World)(h:LstI w vl l):Pb 239 #[vl,.int .i64 x] w (.bool (decide (x∈l))):=by
 have H:=Pe h;obtain⟨A,n,rfl,-,-,-⟩:=h;obtain⟨q,hq⟩:=Pi (decide (x∈l));rw[hq];have HR:=Pe hq;clear hq;go_enter func239,ntmps239;go_wp2_with fail;go_loop [5] (fun i=>∃k:Nat,i=.int .i64 k/\k<=l.length/\Hid (∀(j:Nat) y,j<k->l[j]?=some y->y≠x)) (fun i=>l.length - (intOf i).toNat);case atStart=>exact⟨0,rfl,Nat.zero_le _,Pe (fun j y hj=>absurd hj (Nat.not_lt_zero _))⟩
 case round =>
  obtain⟨k,rfl,hk,hall⟩:=hrel;by_cases hlt:k<l.length
  ·obtain⟨a,hf⟩:=Jah hlt
   obtain⟨c,o,rfl,hc,m0⟩:=int_cell H.out hf;have gk:(k:Int)<(l.length:Int):=Ka;by_cases ht:a=x
   ·have g:=Jag ht
    have R:=Pe (Pk (show x∈l by rw[<-ht];exact Qdk hf));clear hall hf hc ht;exact Xs
   ·have g:=Jaa ht
    have N:Hid (∀(j:Nat) y,j<k+1->l[j]?=some y->y≠x):=by
     intro j z hj hz;by_cases hjk:j<k
     ·exact hall.out j z hjk hz
     ·obtain rfl:j=k:=Ka
      rw[hf] at hz;obtain rfl:=Pp hz;exact ht
    clear hall hf hc ht;go_wp2_with fail;go_round;case rel=>exact⟨k+1,Kj,Ka,N⟩
    case measure=>exact Q7
  ·have R:=Pe (Pj (p:=x∈l) (fun hm=>by
    obtain⟨j,hj⟩:=List.mem_iff_getElem?.1 hm;exact hall.out j x Qx hj rfl))
   have d:decide (k<l.length)=false:=Kg;clear hall hlt;exact Xs
theorem Jma(i n:Int)(h:0<=i/\i<n)(w:World):Pb 201 #[.int .i64 i,.int .i64 n] w (.bool true):=by
 obtain⟨h0,h1⟩:=h;go_enter func201,ntmps201;exact Kc
theorem Jq5(i n:Int)(h:¬(0<=i/\i<n))(w:World):Pb 201 #[.int .i64 i,.int .i64 n] w (.bool false):=by
 by_cases h0:0<=i
 ·have d:decide (i<n)=false:=Pj (fun h1=>h ⟨h0,h1⟩)
  clear h;go_enter func201,ntmps201;exact Kc
 ·have d:decide (0<=i)=false:=Pj h0
  clear h h0;go_enter func201,ntmps201;exact Kc
theorem Jgl(i n:Int)(h:0<=i/\i<n)(w:World):Pb 237 #[.int .i64 i,.int .i64 n] w (.bool true):=by
 obtain⟨h0,h1⟩:=h;go_enter func237,ntmps237;exact Kc
theorem Ji2(i n:Int)(h:¬(0<=i/\i<n))(w:World):Pb 237 #[.int .i64 i,.int .i64 n] w (.bool false):=by
 by_cases h0:0<=i
 ·have d:decide (i<n)=false:=Pj (fun h1=>h ⟨h0,h1⟩)
  clear h;go_enter func237,ntmps237;exact Kc
 ·have d:decide (0<=i)=false:=Pj h0
  clear h h0;go_enter func237,ntmps237;exact Kc
theorem Jii(vl:Value)(l:List Fq)(hl:l.length<=5000)(tr:Int)(w:World)(h:LstF w vl l):Pb 238 #[vl,.int .i64 tr] w (.bool (repF tr l)):=by
 have H:=Pe h;obtain⟨A,n,rfl,-,-,-⟩:=h;obtain⟨q,hq⟩:=Pi (repF tr l);rw[hq];have HR:=Pe hq;clear hq;go_enter func238,ntmps238;go_wp2_with fail;go_loop [5] (fun i=>∃k:Nat,i=.int .i64 k/\k<=l.length/\Hid (∀(j:Nat) f,j<k->l[j]?=some f->f.1≠tr)) (fun i=>l.length - (intOf i).toNat);case atStart=>exact⟨0,rfl,Nat.zero_le _,Pe (fun j f hj=>absurd hj (Nat.not_lt_zero _))⟩
 case round =>
  obtain⟨k,rfl,hk,hall⟩:=hrel;by_cases hlt:k<l.length
  ·obtain⟨⟨t,a,b,v⟩,hf⟩:=Jah hlt
   obtain⟨c,o,rfl,hc,m0,m1,m2,m3⟩:=four_at H.out hf;have gk:(k:Int)<(l.length:Int):=Ka;by_cases ht:t=tr
   ·have g:=Jag ht
    have R:=Pe (J9n (t:=tr) hf ht);clear hall hf hc ht;exact Xs
   ·have g:=Jaa ht
    have N:Hid (∀(j:Nat) f,j<k+1->l[j]?=some f->f.1≠tr):=by
     intro j z hj hz;by_cases hjk:j<k
     ·exact hall.out j z hjk hz
     ·obtain rfl:j=k:=Ka
      rw[hf] at hz;obtain rfl:=Pp hz;exact ht
    clear hall hf hc ht;go_wp2_with fail;go_round;case rel=>exact⟨k+1,Kj,Ka,N⟩
    case measure=>exact Q7
  ·have R:=Pe (Qc8 (t:=tr) (l:=l) (fun j f hj=>hall.out j f Qx hj))
   have d:decide (k<l.length)=false:=Kg;clear hall hlt;exact Xs
open Go.RowKit Go.Maps Go.WideMaps
def Ix64(x:Int):Prop:=-9223372036854775808<=x/\x<=9223372036854775807
theorem Jzm:Keyed prog 3:=int_keyed underlying3
theorem Qdl(a:Int)(h:Ix64 a):keyOf prog 3 (.int .i64 a)=some (.int .i64 a):=keyOf_int_mk underlying3 (WalkArith.wf_i64 h)
theorem pbool_inv{z:Dm×List MemPlace}(h:plainElem prog 4 v=some z):∃x,v=.bool x/\z=(.lit (.bool x),[]):=by
 unfold plainElem at h;rw[underlying4] at h;cases v <;> simp at h
 exact⟨_,rfl,h.symm⟩
theorem below_no(hb:Po w w'):w.grownBy w' none:=⟨hb.os,hb.tape,hb.output,hb.size,fun k hk _=>hb.block k hk⟩
def MapN(w:World)(b:Nat)(ls:List Int):Prop:=∃D:Dm,w.ownsMap prog 3 (plainElem prog 4) b ls.length D/\IsMap D/\(∀x,has D (.int .i64 x)=decide (x∈ls))/\∀x z,x∈ls->D.atKey (.int .i64 x) z=.lit (.bool true)
theorem MapN.made(w:World):MapN (w.alloc (.map #[] 0)) w.heap.size []:=⟨.map [],World.ownsMap_made _ _ _ _,isMap_empty,fun x=>Qw,fun x z h=>Qv⟩
theorem MapN.lt(h:MapN w b ls):b<w.heap.size:=by
 obtain⟨D,h1,_⟩:=h;exact h1.lt
theorem MapN.kept{row:Option Nat}(h:MapN w b ls)(hg:w.grownBy w' row)(hne:some b≠row):MapN w' b ls:=by
 obtain⟨D,h1,h2⟩:=h;exact⟨D,h1.kept hg hne,h2⟩
theorem MapN.below(h:MapN w b ls)(hb:Po w w'):MapN w' b ls:=h.kept (below_no hb) Ke
theorem MapN.look(h:MapN w b ls)(x:Int)(hx:Ix64 x):(Instr.lookup 204 (.map (some b)) (.int .i64 x) false).run prog w=.ok (.bool (decide (x∈ls))) w:=by
 obtain⟨D,h1,h2,h3,h4⟩:=h;obtain⟨v,ps,hrun,hv⟩:=h1.lookup Jzm underlying204 (Jgc w) (plainElem_bool underlying4 false) (Qdl x hx);obtain⟨c,rfl,hc⟩:=pbool_inv hv;have hc:=congrArg Prod.fst hc;rw[hrun];have:c=decide (x∈ls):=by
  by_cases hm:x∈ls
  ·rw[h4 _ _ hm] at hc
   exact K9
  ·rw[atKey_of_not_has (by rw[h3];exact Pj hm)] at hc
   exact K9
 rw[this]
theorem MapN.update(h:MapN w b ls)(x:Int)(hx:Ix64 x)(hl:ls.length<1099511627776):
  ∃w',(Instr.mapUpdate 204 (.map (some b)) (.int .i64 x) (.bool true)).run prog w=.ok () w'/\MapN w' b (ls++[x])/\w.grownBy w' (some b):=by
 obtain⟨D,h1,h2,h3,h4⟩:=h;obtain⟨w',hrun,g1,g2⟩:=h1.update Jzm underlying204 Kr (Qdl x hx) (plainElem_bool underlying4 true);refine⟨w',hrun,⟨_,Qu,h2.put _ _,fun y=>?_,fun y z hi=>?_⟩,g2⟩
 ·by_cases hy:y=x
  ·subst hy
   exact Qh
  ·rw[has_put_other (by simpa using hy),h3]
   simp[hy]
 ·by_cases hy:y=x
  ·subst hy
   exact Qt
  ·rw[atKey_put_other (by simpa using hy)]
   exact h4 y z (by simpa [hy] using hi)
theorem J95:laidOutB prog=true:=Kl
theorem J71:(122:TypeId)<prog.types.size:=of_decide_eq_true Kl
theorem J96:(match prog.underlying 122 with | some (.array _ _) | some (.struct _)=>true | _=>false)=true:=Kl
theorem Jtm:prog.cellsOf 122=3:=Kl
theorem int_cells:prog.cellsOf 3=1:=Kl
theorem Qdm:prog.keyType 122=true:=Kl
theorem Jzn:Keyed prog 122:=Keyed.of_law (deep_law_laid J95 (m:=3) Ka J71 Kl J96)
theorem J4f:∃m,prog.types.size=m+1:=by
 cases h:prog.types.size with
 | zero=>exact absurd (h ▸ J71:(_:Nat)<0) (Nat.not_lt_zero _)
 | succ m=>exact⟨m,rfl⟩
def Gu64(p:Gt):Prop:=Ix64 p.1/\Ix64 p.2.1/\Ix64 p.2.2
abbrev guV(p:Gt):Value:=.agg #[.int .i64 p.1,.int .i64 p.2.1,.int .i64 p.2.2]
def kg(p:Gt):List UInt8:=keyBytes [.int .i64 p.1,.int .i64 p.2.1,.int .i64 p.2.2]
theorem Jtn(p:Gt)(h:Gu64 p):keyOf prog 122 (guV p)=some (.string (kg p)):=by
 have w1:=WalkArith.wf_i64 h.1;have w2:=WalkArith.wf_i64 h.2.1;have w3:=WalkArith.wf_i64 h.2.2;have hu:=underlying122;have hi:=underlying3;obtain⟨m,hm⟩:=J4f;unfold keyOf;simp only[hu];rw[if_pos (by simp[Qdm,Value.formed,hu,Jtm]),hm];unfold Program.keyLits;simp only[hu,Value.cells];rw[if_pos ⟨by rw[Jtm];rfl,Ke⟩];simp[int_cells,Program.keyLits,hi,w1,w2,w3,kg]
theorem J72{p q:Gt}(hp:Gu64 p)(hq:Gu64 q)(h:kg p=kg q):p=q:=by
 have h1:=Jtn p hp;have h2:=Jtn q hq;rw[<-h] at h2;have:=Jzn.inj h1 h2;simp at this;exact Prod.ext this.1 (Prod.ext this.2.1 this.2.2)
def MapU(w:World)(b:Nat)(ls:List Gt):Prop:=(∀p∈ls,Gu64 p)/\∃D:Dm,w.ownsMap prog 122 (plainElem prog 4) b ls.length D/\IsMap D/\(∀p,Gu64 p->has D (.string (kg p))=decide (p∈ls))/\∀p z,p∈ls->D.atKey (.string (kg p)) z=.lit (.bool true)
theorem MapU.made(w:World):MapU (w.alloc (.map #[] 0)) w.heap.size []:=⟨fun p hp=>absurd hp Ke,.map [],World.ownsMap_made _ _ _ _,isMap_empty,fun x _=>Qw,fun x z h=>Qv⟩
theorem MapU.lt{ls:List Gt}(h:MapU w b ls):b<w.heap.size:=by
 obtain⟨_,D,h1,_⟩:=h;exact h1.lt
theorem MapU.below{ls:List Gt}(h:MapU w b ls)(hb:Po w w'):MapU w' b ls:=by
 exact Yi
theorem MapU.look{ls:List Gt}(h:MapU w b ls)(p:Gt)(hp:Gu64 p):
  (Instr.lookup 208 (.map (some b)) (guV p) false).run prog w=.ok (.bool (decide (p∈ls))) w:=by
 obtain⟨h0,D,h1,h2,h3,h4⟩:=h;obtain⟨v,ps,hrun,hv⟩:=h1.lookup Jzn underlying208 (Jgc w) (plainElem_bool underlying4 false) (Jtn p hp);obtain⟨c,rfl,hc⟩:=pbool_inv hv;have hc:=congrArg Prod.fst hc;rw[hrun];have:c=decide (p∈ls):=by
  by_cases hm:p∈ls
  ·rw[h4 _ _ hm] at hc
   exact K9
  ·rw[atKey_of_not_has Jg] at hc
   exact K9
 rw[this]
theorem MapU.update{ls:List Gt}(h:MapU w b ls)(p:Gt)(hp:Gu64 p)(hl:ls.length<1099511627776):
  ∃w',(Instr.mapUpdate 208 (.map (some b)) (guV p) (.bool true)).run prog w=.ok () w'/\MapU w' b (ls++[p])/\w.grownBy w' (some b):=by
 obtain⟨h0,D,h1,h2,h3,h4⟩:=h;obtain⟨w',hrun,g1,g2⟩:=h1.update Jzn underlying208 Kr (Jtn p hp) (plainElem_bool underlying4 true);refine⟨w',hrun,⟨fun q hq=>?_,_,Qu,h2.put _ _,fun q hq=>?_,fun q z hi=>?_⟩,g2⟩
 ·rcases List.mem_append.1 hq with hq | hq
  ·exact h0 q hq
  ·exact Jf
 ·by_cases hx:q=p
  ·subst hx
   exact Qh
  ·rw[has_put_other (fun e=>hx (J72 hq hp Jd)),h3 q hq]
   simp[hx]
 ·by_cases hx:q=p
  ·subst hx
   exact Qt
  ·have hq:q∈ls:=Qr
   rw[atKey_put_other (fun e=>hx (J72 (h0 q hq) hp Jd))];exact h4 q z hq
def Qdn:Value->Nat
 | .slice _ n _=>n
 | _=>0
theorem Jzo{w1:World}(h:w.alloc (.cells #[.int .i64 x] 3 (0,0))=w1):OwnI w1 w.heap.size (.slice (some ⟨w.heap.size,0,none⟩) 1 1) [x]:=by
 rw[<-h];exact World.ownsRow_lit w #[.int .i64 x] 1 Ph Kr rfl
theorem Jzp{base:Nat}(h:OwnI w base v l)(hm:MapN w b ls):v.ownBlock=none\/v.ownBlock≠some b:=by
 obtain⟨D,⟨es,clock,hb,-⟩,-⟩:=hm;rcases h.2 with⟨rfl,-⟩ | ⟨g,cap,cur,rfl,-,hg,-⟩
 ·exact .inl rfl
 ·refine .inr fun e=>?_
  obtain rfl:g=b:=Pp e;rw[hb] at hg;cases hg
def Th64(l:List Th):Prop:=∀x∈l,Ix64 x.1/\Ix64 x.2
theorem Th64.nx{l:List Th}(h:Th64 l){t y:Int}(hn:nxT t l=some y):Ix64 y:=(h _ (Jy6 hn)).2
theorem Th64.take{l:List Th}(h:Th64 l)(k:Nat):Th64 (l.take k):=fun x hx=>h x (List.mem_of_mem_take hx)
theorem Jto{t y:Int}{l:List Th}(h:nxT t l=some y):nxV t l=y/\nxB t l=true:=by unfold nxV nxB;rw[h];exact⟨rfl,rfl⟩
theorem J73{t:Int}{l:List Th}(h:nxT t l=none):nxB t l=false:=by unfold nxB;rw[h];rfl
theorem Jvl(vl:Value)(l:List Th)(hl:l.length<=1000000)(hs:Th64 l)(t:Int)(ht:Ix64 t)(w:World)(h:LstH w vl l):
  Calls prog 200 #[vl,.int .i64 t] w fun e w'=>∃u,e=.returned u/\OwnI w' w.heap.size u (chT l t)/\Po w w':=by
 obtain⟨w1,hw1⟩:=Pi (w.alloc (.cells #[.int .i64 t] 3 (0,0)));have b1:Po w w1:=Zp;have z1:w.heap.size<w1.heap.size:=by rw[<-hw1];simp
 have b2:Po w1 (w1.alloc (.map #[] 0)):=(Below.refl _ _).alloc Ph _;obtain⟨w3,hrun,M3,g3⟩:=(MapN.made w1).update t ht Kd;have O3:Hid (OwnI w3 w.heap.size (.slice (some ⟨w.heap.size,0,none⟩) 1 1) [t]):=((Jzo hw1).below b2).kept g3 (.inr (fun e=>by have:=Pp e;simp at this;omega));have B3:Hid (Po w w3):=(b1.trans (b2.mono b1.size)).grown g3 (Nat.le_trans b1.size b2.size) (fun j hj=>by cases hj;exact b1.size);have MM:Hid (MapN w3 w1.heap.size [t]):=M3;have H:=Pe h;have Z1:=Pe z1;have HS:=Pe hs;have C3:=Pe (Jzl vl l hl t w3 (h.below B3.out));have hmm:=@run_makeMap prog;obtain⟨A,cn,rfl,-,-,-⟩:=h;obtain⟨q,hq⟩:=Pi (chT l t);rw[hq];have ST:Hid (ChS l q [t] t l.length):=by rw[<-hq];exact ChS.start l t
 clear hq b1 b2 z1 M3 g3 hs;go_enter func200,ntmps200;go_wp2_with fail;go_step3;go_wp2_with fail;go_step3;go_wp2_with fail;refine C3.out.mono ?_;rintro e w4 ⟨rfl,b4⟩;have O4:=Pe (OwnI.below O3.out b4);have M4:=Pe (MM.out.below b4);have B4:Hid (Po w w4):=B3.out.trans (b4.mono B3.out.size);clear b4 C3 O3 MM B3 hrun hmm;generalize hx0:nxV t l=x0;generalize hy0:nxB t l=y0;have HX:=Pe hx0;have HY:=Pe hy0;clear hx0 hy0;go_wp2_with fail;go_loopw [5,7,8] (fun v x o wr=>∃(out:List Int) (t:Int) (n:Nat) (y:Int) (r:Bool),x=.int .i64 y/\o=.bool r/\Hid (ChS l q out t n)/\Hid (nxV t l=y)/\Hid (nxB t l=r)/\Hid (OwnI wr w.heap.size v out)/\Hid (MapN wr w1.heap.size out)/\Hid (Po w wr)) (fun v _ _ _=>l.length+2 - Qdn v);case atStart=>exact⟨[t],t,l.length,x0,y0,rfl,rfl,ST,HX,HY,O4,M4,B4⟩
 case round =>
  clear ST HX HY O4 M4 B4;obtain⟨out,t,n,y,r,rfl,rfl,HC,HX,HY,HO,HM,HB⟩:=hrel;obtain⟨A',c',rfl⟩:=Jc4 HO.out;have hle:=HC.out.le;cases hn:nxT t l with
  | none =>
   obtain rfl:false=r:=(J73 hn).symm.trans HY.out;have R:=Pe (HC.out.stop hn);clear hn HX HY HM HC;go_wp2_with fail;rw[Exit.noGoto_ret];exact Xr
  | some z =>
   obtain rfl:true=r:=(Jto hn).2.symm.trans HY.out;obtain rfl:z=y:=(Jto hn).1.symm.trans HX.out;have zx:=HS.out.nx hn;have lk:=HM.out.look z zx;by_cases hz:z∈out
   ·rw[Pk hz] at lk
    have R:=Pe (HC.out.used hn hz);clear hn HX HY HM HC hz;go_wp2_with fail;rw[Exit.noGoto_ret];exact Xr
   ·rw[Pj hz] at lk
    have HC2:=Pe (HC.out.step hn hz);have hlt:out.length+1<=l.length+1:=Yc;obtain⟨w5,hrun,m5,g5⟩:=HM.out.update z zx Ka;have O5:=Pe (HO.out.kept g5 (Jzp HO.out HM.out));have B5:Hid (Po w w5):=HB.out.grown g5 HB.out.size (fun j hj=>by cases hj;exact Nat.le_of_lt Z1.out);obtain⟨w6,hw6⟩:=Pi (w5.alloc (.cells #[.int .i64 z] 3 (0,0)));have b6:Po w5 w6:=by rw[<-hw6];exact(Below.refl _ _).alloc Ph _
    have h6:w6.heap[w5.heap.size]?=some (.cells #[.int .i64 z] 3 (0,0)):=by rw[<-hw6];exact heap_alloc_new _ _
    have O6:Hid (OwnI w6 w.heap.size (.slice A' out.length c') out):=OwnI.below O5.out b6;have M6:=Pe (m5.below b6);have B6:Hid (Po w w6):=B5.out.trans (b6.mono B5.out.size);clear hn HX HY HM HC hz HO HB O5 B5 m5 g5 b6 zx;go_wp2_with (at_builtin;refine Jsu _ rfl (.tmp 32) (.tmp 34) rfl w.heap.size (.slice A' out.length c') out z rfl O6.out w5.heap.size _ h6 rfl rfl B6.out.size Ka ?_;intro v7 w7 o7 g7 wh7;clear wh7;refine Hid.out ?_);have M7:=Pe (M6.out.kept g7 (by rcases Jzp O6.out M6.out with h | h;rw[h];simp;exact fun e=>h e.symm));have B7:Hid (Po w w7):=B6.out.grown g7 B6.out.size (fun j hj=>(World.ownsRow.lt O6.out j hj).1);have O7:=Pe o7;obtain⟨A7,c7,e7⟩:=Jc4 o7;rw[Pq,List.length_singleton] at e7;subst e7;have C7:=Pe (Jzl (.slice A l.length cn) l hl z w7 (H.out.below B7.out));clear o7 g7 M6 O6 B6 h6 lk hrun hw6;refine Pe ?_;go_wp2_with fail;refine C7.out.mono ?_;rintro e w8 ⟨rfl,b8⟩;have O8:=Pe (OwnI.below O7.out b8);have M8:=Pe (M7.out.below b8);have B8:Hid (Po w w8):=B7.out.trans (b8.mono B7.out.size);clear b8 C7 O7 M7 B7;generalize hx8:nxV z l=x8;generalize hy8:nxB z l=y8;have HX:=Pe hx8;have HY:=Pe hy8;clear hx8 hy8;go_wp2_with fail;go_roundw;case rel=>exact⟨_,z,n - 1,x8,y8,rfl,rfl,HC2,HX,HY,O8,M8,B8⟩
    case measure=>simp only[Qdn];first | exact hmeas | (simp;omega) | omega
theorem Jkt(vl:Value)(l:List Th)(hl:l.length<=900000)(t:Int)(w:World)(h:LstH w vl l):
  Calls prog 240 #[vl,.int .i64 t] w fun e w'=>∃u,e=.returned u/\OwnI w' w.heap.size u (chT l t)/\Po w w':=by
 obtain⟨w1,hw1⟩:=Pi (w.alloc (.cells #[.int .i64 t] 3 (0,0)));have B1:Hid (Po w w1):=Zp;have O1:=Pe (Jzo hw1);have H:=Pe h;obtain⟨A,cn,rfl,-,-,-⟩:=h;obtain⟨q,hq⟩:=Pi (chT l t);rw[hq];have ST:Hid (ChS l q [t] t l.length):=by rw[<-hq];exact ChS.start l t
 clear hq;go_enter func240,ntmps240;go_wp2_with fail;go_loopw [5,12] (fun v i wr=>∃(out:List Int) (t:Int) (n k:Nat),i=.int .i64 k/\k+n=l.length/\Hid (ChS l q out t n)/\Hid (OwnI wr w.heap.size v out)/\Hid (Po w wr)) (fun _ i _=>l.length - (intOf i).toNat);case atStart=>exact⟨[t],t,l.length,0,rfl,Ka,ST,O1,B1⟩
 case round =>
  clear ST O1 B1 hw1;obtain⟨out,t,n,k,rfl,hk,HC,HO,HB⟩:=hrel;obtain⟨A',c',rfl⟩:=Jc4 HO.out;have hle:=HC.out.le;have hpos:=HC.out.pos;by_cases hlt:k<l.length
  ·have gk:(k:Int)<(l.length:Int):=Ka
   have HK:=Pe hk;have hla:=HC.out.last;obtain⟨c,hc⟩:=Pi (out.length - 1);rw[hc] at hla;obtain⟨g,o,rfl,hg,m0⟩:=int_cell (OwnI.lst HO.out) hla;have e1:(out.length:Int) - 1=(c:Int):=Ka;have cn':(c:Int)<(out.length:Int):=Ka;have cle:c<=1000001:=Ka;have wk:IntKind.i64.wrap (c:Int)=(c:Int):=IntWalk.i64_in _ Ka;have C1:=Pe (J91 (.slice A l.length cn) l Ka t wr (H.out.below HB.out));clear hla hc hg hk;cases hn:nxT t l with
   | none =>
    have R:=Pe (HC.out.stop hn);rw[J73 hn] at C1;generalize nxV t l=x0 at C1;clear hn HC;go_wp2_with fail;refine Pf C1.out ?_;clear C1;go_wp2_with fail;exact Xr
   | some z =>
    rw[(Jto hn).1,(Jto hn).2] at C1;have D1:=Pe (Jl9 _ out Ka z wr (OwnI.lst HO.out));by_cases hz:z∈out
    ·have R:=Pe (HC.out.used hn hz)
     rw[Pk hz] at D1;clear hn HC hz;go_wp2_with fail;refine Pf C1.out ?_;clear C1;go_wp2_with fail;refine Pf D1.out ?_;clear D1;go_wp2_with fail;exact Xr
    ·rw[Pj hz] at D1
     have HC2:=Pe (HC.out.step hn hz);have hn1:=HC.out.room hn hz;have hlo:out.length+1<=l.length+1:=Yc;obtain⟨w6,hw6⟩:=Pi (wr.alloc (.cells #[.int .i64 z] 3 (0,0)));have b6:Po wr w6:=by rw[<-hw6];exact(Below.refl _ _).alloc Ph _
     have h6:w6.heap[wr.heap.size]?=some (.cells #[.int .i64 z] 3 (0,0)):=by rw[<-hw6];exact heap_alloc_new _ _
     have O6:Hid (OwnI w6 w.heap.size (.slice (some ⟨g,o,none⟩) out.length c') out):=OwnI.below HO.out b6;have B6:Hid (Po w w6):=HB.out.trans (b6.mono HB.out.size);clear hn HC hz HO HB b6;go_wp2_with fail;refine Pf C1.out ?_;clear C1;go_wp2_with fail;refine Pf D1.out ?_;clear D1;go_wp2_with (at_builtin;refine Jsu _ rfl (.tmp 32) (.tmp 34) rfl w.heap.size (.slice (some ⟨g,o,none⟩) out.length c') out z rfl O6.out wr.heap.size _ h6 rfl rfl B6.out.size Ka ?_;intro v7 w7 o7 g7 wh7;clear wh7;refine Hid.out ?_);have B7:Hid (Po w w7):=B6.out.grown g7 B6.out.size (fun j hj=>(World.ownsRow.lt O6.out j hj).1);have O7:=Pe o7;clear o7 g7 O6 B6 h6 hw6 m0;refine Pe ?_;go_wp2_with fail;go_roundw;case rel=>exact⟨_,z,n - 1,k+1,Kj,by have:=HK.out;omega,HC2,O7,B7⟩
     case measure=>exact Q7
  ·have d:decide (k<l.length)=false:=Kg
   obtain rfl:n=0:=Ka;have R:=Pe HC.out.full;clear hlt HC;go_wp2_with fail;exact Xr
abbrev prFn(k:Nat):Value:=.func (.func 270) #[] #[.pointer (some ⟨k,0,none⟩),.pointer (some ⟨k+1,0,none⟩)]
theorem Jtp(A B:Option Addr)(n c m d:Nat)(w:World):Calls prog 197 #[.slice A n c,.slice B m d] w fun e w'=>e=.returned (prFn w.heap.size)/\w'.cell? ⟨w.heap.size,0,none⟩=some (.slice A n c)/\w'.cell? ⟨w.heap.size+1,0,none⟩=some (.slice B m d)/\Po w w'/\w.heap.size+1<w'.heap.size:=by
 obtain⟨w7,hw7,z7,ra,rb,b7⟩:=Jd0 w (.cells #[.slice A n c] 27 (0,0)) (.cells #[.slice B m d] 28 (0,0));have RA:=Pe ra;have RB:=Pe rb;have B7:=Pe b7;have Z7:=Pe z7;clear ra rb b7 z7;go_enter func197,ntmps197;go_wp2_with fail;go_ret;exact⟨rfl,by rw[cell_of_row _ _ 0 _ _ _ RA.out];rfl,by rw[cell_of_row _ _ 0 _ _ _ RB.out];rfl,B7.out,by rw[Z7.out];omega⟩
theorem Jow:∀args W,(callFunc 270 args).run prog W=.ok (.enter 270 args) W:=Jcg func270 Kl Kl
theorem Jzq(k:Nat)(vt vf:Value)(ts:List Tp)(f:List Fq)(hf:f.length<=5000)(a b:Int)(w:World)(m0:w.cell? ⟨k,0,none⟩=some vt)(m1:w.cell? ⟨k+1,0,none⟩=some vf)(ht:Jcs w vt ts)(hq:LstF w vf f):Pc 270 #[.int .i64 a,.int .i64 b,.pointer (some ⟨k,0,none⟩),.pointer (some ⟨k+1,0,none⟩)] w (.int .i64 (prE ts.length f a b)):=by
 have F1:=Pe (Jtc vf f hf a w hq);have HQ:=Pe hq;have M1:=Pe m1;obtain⟨⟨A,n,rfl,-,-,-⟩,-⟩:=ht;obtain⟨B,m,rfl,-,-,-⟩:=id hq;clear hq;by_cases h1:¬(0<=a/\a<(ts.length:Int))
 ·have R:=Pe (pr_a (f:=f) (b:=b) h1).symm
  have X:=Pe (fun W=>Jq5 a (ts.length:Int) h1 W);clear h1 F1;go_enter func270,ntmps270;go_wp2_with fail;refine Pf (X.out _) ?_;exact Yb
 have h1:=Pu h1;have X:=Pe (fun W=>Jma a (ts.length:Int) h1 W);by_cases h2:¬(0<=b/\b<(ts.length:Int))
 ·have R:=Pe (pr_b (f:=f) (a:=a) h2).symm
  have Y:=Pe (fun W=>Jq5 b (ts.length:Int) h2 W);clear h1 h2 F1;go_enter func270,ntmps270;go_wp2_with fail;refine Pf (X.out _) ?_;go_wp2_with fail;refine Pf (Y.out _) ?_;exact Yb
 have h2:=Pu h2;have Y:=Pe (fun W=>Jma b (ts.length:Int) h2 W);by_cases h3:a=b
 ·have R:=Pe (J4c (n:=ts.length) (f:=f) h3).symm
  have g:=Jag h3;clear h1 h2 h3 F1;go_enter func270,ntmps270;go_wp2_with fail;refine Pf (X.out _) ?_;go_wp2_with fail;refine Pf (Y.out _) ?_;exact Yb
 have g:=Jaa h3;cases h4:repF a f with
 | true =>
  rw[h4] at F1;have R:=Pe (J4d h1 h2 h3 h4).symm;clear h1 h2 h3 h4;go_enter func270,ntmps270;go_wp2_with fail;refine Pf (X.out _) ?_;go_wp2_with fail;refine Pf (Y.out _) ?_;go_wp2_with fail;refine F1.out.mono ?_;rintro e w1 ⟨rfl,b1⟩;go_wp2_with fail;go_ret;exact⟨Jad R.out,b1⟩
 | false =>
  rw[h4] at F1;have F2:=Pe (fun W (hW:Po w W)=>Jtc (.slice B f.length m) f hf b W (HQ.out.below hW));cases h5:repF b f with
  | true =>
   rw[h5] at F2;have R:=Pe (J4e h1 h2 h3 h5).symm;clear h1 h2 h3 h4 h5;go_enter func270,ntmps270;go_wp2_with fail;refine Pf (X.out _) ?_;go_wp2_with fail;refine Pf (Y.out _) ?_;go_wp2_with fail;refine F1.out.mono ?_;rintro e w1 ⟨rfl,b1⟩;have K2:=Pe (F2.out w1 b1);have m1:=(b1.cell (p:=⟨k+1,0,none⟩) (World.block_lt_of_cell? _ _ M1.out)).trans M1.out;have B1:=Pe b1;clear F1 F2 b1;go_wp2_with fail;refine K2.out.mono ?_;exact Xx
  | false =>
   rw[h5] at F2;have R:=Pe (J9y h1 h2 h3 h4 h5).symm;clear h1 h2 h3 h4 h5;go_enter func270,ntmps270;go_wp2_with fail;refine Pf (X.out _) ?_;go_wp2_with fail;refine Pf (Y.out _) ?_;go_wp2_with fail;refine F1.out.mono ?_;rintro e w1 ⟨rfl,b1⟩;have K2:=Pe (F2.out w1 b1);have m1:=(b1.cell (p:=⟨k+1,0,none⟩) (World.block_lt_of_cell? _ _ M1.out)).trans M1.out;have B1:=Pe b1;clear F1 F2 b1;go_wp2_with fail;refine K2.out.mono ?_;exact Xx
theorem Jzr(s:ByteArray)(r c:Int)(f:Bool)(v:Value)(l:List Cl)(s':ByteArray)(r' c':Int)(f':Bool)(v':Value)(l':List Cl)(hl:l.length<=1000000)(w:World)(h:LstC w v l)(h':LstC w v' l'):
  Pc 198 #[.agg #[.string s,.int .i64 r,.int .i64 c,.bool f,v],.agg #[.string s',.int .i64 r',.int .i64 c',.bool f',v']] w (.int .i64 (psE (c,l) (c',l'))):=by
 obtain⟨w7,hw7,z7,ra,rb,b7⟩:=Jd0 w (boxT s r c f v) (boxT s' r' c' f' v');obtain⟨-,-,p2,-,p4⟩:=Jfr ra;obtain⟨-,-,q2,-,q4⟩:=Jfr rb;have B7:=Pe b7;have H:=Pe (h.below b7);have H':=Pe (h'.below b7);obtain⟨A,n,rfl,-,-,-⟩:=h;obtain⟨A',n',rfl,-,-,-⟩:=h';clear b7 ra rb z7;by_cases hc:¬c=c'
 ·have g:=Jaf hc
  have R:=Pe (Jot (a:=(c,l)) (b:=(c',l')) hc).symm;clear hc;exact Xw
 have hc:c=c':=Pu hc;have g:=Jap hc;by_cases h0:l.length=0
 ·have g0:((l.length:Int)==0)=true:=Jag Ka
  have g0':(l.length==0)=true:=by rw[h0];rfl
  have R:=Pe (Ji1 (a:=(c,l)) (b:=(c',l')) hc h0).symm;clear hc h0;exact Xw
 have g0:((l.length:Int)==0)=false:=Jaa Ka;have g0':(l.length==0)=false:=Qf;by_cases h1:l'.length=0
 ·have g1:((l'.length:Int)==0)=true:=Jag Ka
  have g1':(l'.length==0)=true:=by rw[h1];rfl
  have R:=Pe (Jy8 (a:=(c,l)) (b:=(c',l')) hc h1).symm;clear hc h0 h1;exact Xw
 have g1:((l'.length:Int)==0)=false:=Jaa Ka;have g1':(l'.length==0)=false:=by rw[beq_eq_false_iff_ne];exact h1
 obtain⟨⟨y,ya,yd,yo,yu⟩,hy⟩:=Jah (l:=l') (k:=0) Ka;obtain⟨⟨x,xa,xd,xo,xu⟩,hx⟩:=Jah (l:=l) (k:=l.length - 1) Ka;have HX:=Pe hx;have HY:=Pe hy;obtain⟨k,hk⟩:=Pi (l.length - 1);rw[hk] at hx;obtain⟨b,o,rfl,-,m0,m1,m2,m3,m4⟩:=Ja6 H.out hx;obtain⟨b',o',rfl,-,t0,t1,t2,t3,t4⟩:=Ja6 H'.out hy;rw[Nat.zero_mul,Nat.add_zero] at t0 t1 t2 t3 t4;have e1:(l.length:Int) - 1=(k:Int):=Ka;have kle:k<=1000000:=Ka;have kn:(k:Int)<(l.length:Int):=Ka;have wk:IntKind.i64.wrap (k:Int)=(k:Int):=IntWalk.i64_in _ Ka;have gn:(0:Int)<(l'.length:Int):=Ka;have gn':0<l'.length:=Ka;have HC:=Pe hc;clear hx hy hk h0 h1 hc;go_enter func198,ntmps198;go_wp2_with fail;go_region_held3 (fun W=>W.cell? ⟨w.heap.size,4,none⟩=some (.slice (some ⟨b,o,none⟩) l.length n)/\W.cell? ⟨w.heap.size+1,4,none⟩=some (.slice (some ⟨b',o',none⟩) l'.length n')/\W.cell? ⟨b,o+k*5,none⟩=some (.int .i64 x)/\W.cell? ⟨b,o+k*5+1,none⟩=some (.int .i64 xa)/\W.cell? ⟨b,o+k*5+2,none⟩=some (.int .i64 xd)/\W.cell? ⟨b,o+k*5+3,none⟩=some (.bool xo)/\W.cell? ⟨b,o+k*5+4,none⟩=some (.bool xu)/\W.cell? ⟨b',o',none⟩=some (.int .i64 y)/\W.cell? ⟨b',o'+1,none⟩=some (.int .i64 ya)/\W.cell? ⟨b',o'+2,none⟩=some (.int .i64 yd)/\W.cell? ⟨b',o'+3,none⟩=some (.bool yo)/\W.cell? ⟨b',o'+4,none⟩=some (.bool yu)) (go_keep) (first | fail)
 ·obtain⟨w9,hw9,z9,rx,ry,b9⟩:=Jd0 w7 (boxC x xa xd xo xu) (boxC y ya yd yo yu)
  rw[hw9];have B9:Hid (Po w w9.drew):=B7.out.trans (b9.drew.mono B7.out.size);obtain⟨u0,u1,-,-,-⟩:=Jst (w:=w9.drew) rx;obtain⟨v0,-,v2,-,-⟩:=Jst (w:=w9.drew) ry;clear hw9 z9 rx ry b9 p2 p4 q2 q4 m0 m1 m2 m3 m4 t0 t1 t2 t3 t4 B7;generalize w9.drew=w8 at *;by_cases e0:¬x=y
  ·have d0:=Jaf e0
   exact X8
  have e0:=Pu e0;have d0:=Jap e0;by_cases e1:yd<xa
  ·have R:=Pe (Jhe (a:=(c,l)) (b:=(c',l')) HC.out HX.out HY.out e0 e1).symm
   clear e0 HX HY;exact Xq
  exact Xv
 ·obtain⟨w9,hw9,z9,ry,rx,b9⟩:=Jd0 w7 (boxC y ya yd yo yu) (boxC x xa xd xo xu)
  rw[hw9];have B9:Hid (Po w w9.drew):=B7.out.trans (b9.drew.mono B7.out.size);obtain⟨u0,u1,-,-,-⟩:=Jst (w:=w9.drew) rx;obtain⟨v0,-,v2,-,-⟩:=Jst (w:=w9.drew) ry;clear hw9 z9 rx ry b9 p2 p4 q2 q4 m0 m1 m2 m3 m4 t0 t1 t2 t3 t4 B7;generalize w9.drew=w8 at *;by_cases e0:¬x=y
  ·have d0:=Jaf e0
   exact X8
  have e0:=Pu e0;have d0:=Jap e0;by_cases e1:yd<xa
  ·have R:=Pe (Jhe (a:=(c,l)) (b:=(c',l')) HC.out HX.out HY.out e0 e1).symm
   clear e0 HX HY;exact Xq
  exact Xv
def tcT(x:Tp):Tc:=(x.2.2.1,x.2.2.2.2.2)
theorem Jox{ts:List Tp}{i:Nat}{s:List UInt8}{r c:Int}{f:Bool}{cl:List Cl}(h:ts[i]?=some (s,r,c,f,v,cl)):tcA (ts.map tcT) (i:Int)=(c,cl):=Qdf rfl (by rw[List.getElem?_map,h];rfl)
theorem J97:(prog.info? 120).map (fun i=>(i.zero,i.size,i.bytes))=some (some (.agg #[.int .i64 0,.int .i64 0]),2,16):=Kl
theorem J98:∀w,(Go.sizeOf 120).run prog w=.ok 2 w:=fun w=>by
 obtain⟨i,hi,_,hsz,_⟩:=info_parts J97;simp[sizeOf,typeInfo,hi,hsz]
theorem Jtq:prog.elem 29=120:=by simp[Program.elem,underlying29]
theorem Jzs:prog.underlying 29=some (.slice (prog.elem 29)):=by rw[Jtq];exact underlying29
theorem Jzt{vl:Value}{l:List Th}(h:LstH w vl l)(j:Nat)(hj:j<=l.length)(_:l.length<=9223372036854775807)(x:Int)(hx:x=j):∃u,(∀W,(Instr.slice 29 vl none (some (.int .i64 x)) none).run prog W=.ok u W)/\LstH w u (l.take j):=by
 subst hx;have H:=h;obtain⟨A,c,rfl,hc,-,-⟩:=h;refine⟨sliced A 0 j c 2,fun W=>?_,?_⟩
 ·rw[run_slice_h W 29 A l.length c Jzs .i64 j Ka Ka,Jtq,J98]
  rfl
 ·have:=LstG.part hh_len H 0 j c (Nat.zero_le _) hj Ka Ph
  exact Zj
theorem Jq6{f:FuncId}{args:Array Value}(h:Calls prog f args W fun e w'=>∃u,e=.returned u/\OwnI w' W.heap.size u l/\Po W w')(hb:Po w W):Calls prog f args W fun e w'=>∃u,e=.returned u/\LstI w' u l/\Po w w' :=
 h.mono fun _ _ ⟨u,h1,h2,h3⟩=>⟨u,h1,OwnI.lst h2,hb.trans (h3.mono hb.size)⟩
theorem Jq7{f:FuncId}{args:Array Value}{x:Value}(h:Pc f args W x)(hb:Po w W):Calls prog f args W fun e w'=>e=.returned x/\Po w w' :=
 h.mono fun _ _ ⟨h1,h3⟩=>⟨h1,hb.trans (h3.mono hb.size)⟩
theorem J4g{l:List Th}{b:Int}(h:l[k]?=some (a,b)):(l.take (k+1)).map Prod.fst=(l.take k).map Prod.fst++[a]:=by rw[Jbx l k _ h,List.map_append];rfl
theorem J4h{l:List Th}{b:Int}(h:l[k]?=some (a,b)):(l.take (k+1)).map Prod.snd=(l.take k).map Prod.snd++[b]:=by rw[Jbx l k _ h,List.map_append];rfl
theorem Jtr{g e:Nat}{ms:List Int}(hW:Po w W)(hb:g≠e)(h1:MapN w g ls)(h2:MapN w e ms)(a b:Int)(ha:Ix64 a)(hb':Ix64 b)(n1:ls.length<1000000)(n2:ms.length<1000000):
  ∃wa wb,(Instr.mapUpdate 204 (.map (some g)) (.int .i64 a) (.bool true)).run prog W=.ok () wa/\(Instr.mapUpdate 204 (.map (some e)) (.int .i64 b) (.bool true)).run prog wa=.ok () wb /\
   MapN wb g (ls++[a])/\MapN wb e (ms++[b])/\w.heap.size<=wa.heap.size/\wa.heap.size<=wb.heap.size/\(∀k,k<w.heap.size->k≠g->wa.heap[k]?=w.heap[k]?)/\(∀base,base<=w.heap.size->base<=g->base<=e->Below base w wb):=by
 obtain⟨wa,r1,m1,g1⟩:=(h1.below hW).update a ha Ka;obtain⟨wb,r2,m2,g2⟩:=((h2.below hW).kept g1 (fun h=>hb (Pp h).symm)).update b hb' Ka;have sz:=hW.size;refine⟨wa,wb,r1,r2,m1.kept g2 (fun h=>hb (Pp h)),m2,Nat.le_trans sz g1.size,g2.size,fun k hk hne=>(g1.block k (Ps hk sz) (fun h=>hne (Pp h))).trans (hW.block k hk),fun base hba hg he=>?_⟩;exact((hW.mono hba).grown g1 Ka (fun j hj=>by cases hj;exact hg)).grown g2 (by have:=g1.size;omega) (fun j hj=>by cases hj;exact he)
def fzV(q:Int):Int:=if q=-1 then 0 else q
def fzB(q:Int):Bool:=decide (q≠-1)
theorem J74(h:q=(k:Int)):Ending.returned (.tuple #[.int .i64 (k:Int),.bool true])=.returned (.tuple #[.int .i64 (fzV q),.bool (fzB q)]):=by
 have h1:q≠-1:=Ka;unfold fzV fzB;rw[if_neg h1,Pk h1,h]
theorem Jzu(h:q=-1):Ending.returned (.tuple #[.int .i64 0,.bool false])=.returned (.tuple #[.int .i64 (fzV q),.bool (fzB q)]):=by
 unfold fzV fzB;rw[if_pos h,Pj X7]
theorem J4i:fzV (-1)=0/\fzB (-1)=false:=⟨rfl,rfl⟩
theorem Jts(h:q=(k:Int)):fzV q=(k:Int)/\fzB q=true:=by
 have h1:q≠-1:=Ka;unfold fzV fzB;rw[if_neg h1];exact⟨h,Pk h1⟩
theorem Jh2{q:Int×Int×Bool}{y:Int}{z:Bool}(h:q=(x,y,z)):Ending.returned (.tuple #[.int .i64 x,.int .i64 y,.bool z])=.returned (.tuple #[.int .i64 q.1,.int .i64 q.2.1,.bool q.2.2]):=Qc
theorem J99(vl:Value)(l:List Cl)(hl:l.length<=1000000)(st:Int)(w:World)(h:LstC w vl l):Pc 274 #[vl,.int .i64 st] w (.tuple #[.int .i64 (fzV (alF st 0 l)),.bool (fzB (alF st 0 l))]):=by
 have H:=Pe h;obtain⟨A,n,rfl,-,-,-⟩:=h;obtain⟨q,hq⟩:=Pi (alF st 0 l);rw[hq];have HR:=Pe hq;clear hq;go_enter func274,ntmps274;go_wp2_with fail;go_loopw [10] (fun i wr=>∃k:Nat,i=.int .i64 k/\k<=l.length/\Hid (q=alF st k l)/\Hid (Po w wr)) (fun i _=>l.length - (intOf i).toNat);case atStart=>exact⟨0,rfl,Nat.zero_le _,Pe HR.out.symm,Pe Pg⟩
 case round =>
  obtain⟨k,rfl,hk,hz,HB⟩:=hrel;by_cases hlt:k<l.length
  ·obtain⟨⟨s,a,d,b,u⟩,hf⟩:=Jah hlt
   obtain⟨c,o,rfl,hc,m0,m1,m2,m3,m4⟩:=Ja6 (H.out.below HB.out) hf;obtain⟨w7,hw7⟩:=Pi (wr.alloc (boxC s a d b u));obtain⟨b7,p0,p1,p2,p3,p4,s7⟩:=Jki hw7;have gk:(k:Int)<(l.length:Int):=Ka;have B7:Hid (Po w w7):=HB.out.trans (b7.mono HB.out.size);clear b7 s7 HB;by_cases k0:k=0
   ·subst k0
    have N:Hid (q=alF st (0+1) l):=Pe (Jzb hz.out);rw[Nat.zero_mul,Nat.add_zero] at m0 m1 m2 m3 m4;clear hz hf hc;go_wp2_with fail;go_roundw;case rel=>exact⟨0+1,Kj,Ka,N,B7⟩
    case measure=>exact Q7
   have gp':0<k:=Ka;have gp:(0:Int)<(k:Int):=Ka;by_cases hs:¬s=st
   ·have g:=Jaa hs
    have N:=Pe (Jl7 hz.out gp' hf (Jtg (st:=st) (x:=(s,a,d,b,u)) hs));clear hz hf hc hs;go_wp2_with fail;go_roundw;case rel=>exact⟨k+1,Kj,Ka,N,B7⟩
    case measure=>exact Q7
   have hs:=Pu hs;have g:=Jag hs;cases u with
   | false =>
    have N:=Pe (Jl7 hz.out gp' hf (Jth (st:=st) (x:=(s,a,d,b,false)) rfl));obtain⟨f4,e4⟩:=box_last hw7;clear hz hf hc hs;go_wp2_with fail;go_roundw;case rel=>exact⟨k+1,Kj,Ka,N,B7⟩
    case measure=>exact Q7
   | true =>
    have R:=Pe (J7v hz.out gp' hf (Jy9 (st:=st) (x:=(s,a,d,b,true)) hs rfl));clear hz hf hc hs HR;go_wp2_with fail;go_ret2;exact⟨J74 R.out,B7.out⟩
  ·have R:=Pe (J7w hz.out Ka)
   have dd:decide (k<l.length)=false:=Kg;exact Yh
theorem Qaa(vl:Value)(l:List Cl)(hl:l.length<=1000000)(st:Int)(w:World)(h:LstC w vl l):Pc 275 #[vl,.int .i64 st] w (.tuple #[.int .i64 (fzV (bdF st 0 l)),.bool (fzB (bdF st 0 l))]):=by
 have H:=Pe h;obtain⟨A,n,rfl,-,-,-⟩:=h;obtain⟨q,hq⟩:=Pi (bdF st 0 l);rw[hq];have HR:=Pe hq;clear hq;go_enter func275,ntmps275;go_wp2_with fail;go_loopw [10] (fun i wr=>∃k:Nat,i=.int .i64 k/\k<=l.length/\Hid (q=bdF st k l)/\Hid (Po w wr)) (fun i _=>l.length - (intOf i).toNat);case atStart=>exact⟨0,rfl,Nat.zero_le _,Pe HR.out.symm,Pe Pg⟩
 case round =>
  obtain⟨k,rfl,hk,hz,HB⟩:=hrel;by_cases hlt:k<l.length
  ·obtain⟨⟨s,a,d,b,u⟩,hf⟩:=Jah hlt
   obtain⟨c,o,rfl,hc,m0,m1,m2,m3,m4⟩:=Ja6 (H.out.below HB.out) hf;obtain⟨w7,hw7⟩:=Pi (wr.alloc (boxC s a d b u));obtain⟨b7,p0,p1,p2,p3,p4,s7⟩:=Jki hw7;have gk:(k:Int)<(l.length:Int):=Ka;have B7:Hid (Po w w7):=HB.out.trans (b7.mono HB.out.size);clear b7 s7 HB;obtain⟨m,hm⟩:=Pi (l.length - 1);have e1:(l.length:Int) - 1=(m:Int):=Ka;have mle:m<=1000000:=Ka;have wm:IntKind.i64.wrap (m:Int)=(m:Int):=IntWalk.i64_in _ Ka;by_cases km:¬k<m
   ·have d1:decide (k<m)=false:=by rw[decide_eq_false_iff_not];exact km
    have d2:decide ((k:Int)<(m:Int))=false:=Q8;have N:Hid (q=bdF st (k+1) l):=Pe ((Jtk hz.out Ka).trans (Jtk (st:=st) (k:=k+1) rfl Ka).symm);clear hz hf hc hm km;go_wp2_with fail;go_roundw;case rel=>exact⟨k+1,Kj,Ka,N,B7⟩
    case measure=>exact Q7
   have km:=Pu km;have gm:(k:Int)<(m:Int):=Ka;have hkm:k<l.length - 1:=Ka;clear hm;by_cases hs:¬s=st
   ·have g:=Jaa hs
    have N:=Pe (Jl8 hz.out hf hkm (Jti (st:=st) (x:=(s,a,d,b,u)) hs));clear hz hf hc hs hkm;go_wp2_with fail;go_roundw;case rel=>exact⟨k+1,Kj,Ka,N,B7⟩
    case measure=>exact Q7
   have hs:=Pu hs;have g:=Jag hs;cases b with
   | false =>
    have N:=Pe (Jl8 hz.out hf hkm (Jtj (st:=st) (x:=(s,a,d,false,u)) rfl));clear hz hf hc hs hkm;go_wp2_with fail;go_roundw;case rel=>exact⟨k+1,Kj,Ka,N,B7⟩
    case measure=>exact Q7
   | true =>
    have R:=Pe (J7x hz.out hf hkm (Jza (st:=st) (x:=(s,a,d,true,u)) hs rfl));clear hz hf hc hs hkm HR;go_wp2_with fail;go_ret2;exact⟨J74 R.out,B7.out⟩
  ·have R:=Pe ((fun h1 h2=>Jtk h1 (Nat.le_trans (Nat.sub_le _ _) h2)) hz.out Ka)
   have dd:decide (k<l.length)=false:=Kg;exact Yh
theorem Qab(va vb:Value)(a b:List Cl)(ha:a.length<=1000000)(hb:b.length<=1000000)(st:Int)(w:World)(h1:LstC w va a)(h2:LstC w vb b):Pc 202 #[va,vb,.int .i64 st] w (.tuple #[.int .i64 ((meT st a b).1),.int .i64 ((meT st a b).2.1),.bool ((meT st a b).2.2)]):=by
 have H1:=Pe h1;have H2:=Pe h2;obtain⟨A,n,rfl,-,-,-⟩:=h1;obtain⟨B,m,rfl,-,-,-⟩:=h2;have C1:=Pe (J99 (.slice A a.length n) a ha st w H1.out);have C2:=Pe (fun W (hW:Po w W)=>Qaa (.slice B b.length m) b hb st W (H2.out.below hW));obtain⟨q,hq⟩:=Pi (meT st a b);rw[hq];have HQ:=Pe hq;clear hq;by_cases n1:alF st 0 a=-1
 ·have R:Hid (q=(0,0,false)):=HQ.out.symm.trans (Jzc n1)
  rw[n1,J4i.1,J4i.2] at C1;generalize fzV (bdF st 0 b)=x2 at C2;generalize fzB (bdF st 0 b)=y2 at C2;clear n1 HQ;go_enter func202,ntmps202;go_wp2_with fail;refine C1.out.mono ?_;rintro e w1 ⟨rfl,b1⟩;have B1:Hid (Po w w1):=b1;have K2:=Pe (C2.out w1 b1);clear b1 C1 C2;go_wp2_with fail;refine K2.out.mono ?_;rintro e w2 ⟨rfl,b2⟩;have B2:Hid (Po w w2):=B1.out.trans (b2.mono B1.out.size);clear b2 K2 B1;go_wp2_with fail;go_quiet (fail);have B3:Hid (Po w (w2.drewN nq)):=Jab B2.out nq;generalize w2.drewN nq=w3 at B3 |-;go_wp2_with fail;go_ret3;exact Yg
 rcases al_is st a with e | ⟨i,⟨xs,xa,xd,xb,xu⟩,i1,-,ix,-⟩
 ·exact absurd e n1
 rw[(Jts i1).1,(Jts i1).2] at C1;by_cases n2:bdF st 0 b=-1
 ·have R:Hid (q=(0,0,false)):=HQ.out.symm.trans (Qde n2)
  rw[n2,J4i.1,J4i.2] at C2;clear n1 n2 HQ i1 ix;go_enter func202,ntmps202;go_wp2_with fail;refine C1.out.mono ?_;rintro e w1 ⟨rfl,b1⟩;have B1:Hid (Po w w1):=b1;have K2:=Pe (C2.out w1 b1);clear b1 C1 C2;go_wp2_with fail;refine K2.out.mono ?_;rintro e w2 ⟨rfl,b2⟩;have B2:Hid (Po w w2):=B1.out.trans (b2.mono B1.out.size);clear b2 K2 B1;go_wp2_with fail;go_quiet (fail);have B3:Hid (Po w (w2.drewN nq)):=Jab B2.out nq;generalize w2.drewN nq=w3 at B3 |-;go_wp2_with fail;go_ret3;exact Yg
 rcases bd_is st b with e | ⟨k,⟨ys,ya,yd,yb,yu⟩,k1,-,kx,-⟩
 ·exact absurd e n2
 rw[(Jts k1).1,(Jts k1).2] at C2;have IX:=Pe ix;have KX:=Pe kx;have gi:(i:Int)<(a.length:Int):=by have:=(Pm ix).1;omega
 have gk:(k:Int)<(b.length:Int):=by have:=(Pm kx).1;omega
 by_cases lt:yd<xa
 ·have R:Hid (q=(0,0,false)):=HQ.out.symm.trans (Jzd i1 k1 ix kx lt)
  clear n1 n2 HQ i1 k1 ix kx;go_enter func202,ntmps202;go_wp2_with fail;refine C1.out.mono ?_;rintro e w1 ⟨rfl,b1⟩;have B1:Hid (Po w w1):=b1;have K2:=Pe (C2.out w1 b1);clear b1 C1 C2;go_wp2_with fail;refine K2.out.mono ?_;rintro e w2 ⟨rfl,b2⟩;have B2:Hid (Po w w2):=B1.out.trans (b2.mono B1.out.size);clear b2 K2 B1;obtain⟨c,o,rfl,-,p0,p1,p2,p3,p4⟩:=Ja6 (H1.out.below B2.out) IX.out;obtain⟨c',o',rfl,-,q0,q1,q2,q3,q4⟩:=Ja6 (H2.out.below B2.out) KX.out;go_wp2_with fail;go_quiet (fail);have B3:Hid (Po w (w2.drewN nq)):=Jab B2.out nq;generalize w2.drewN nq=w3 at B3 |-;go_wp2_with fail;go_ret3;exact Yg
 have nl:decide (yd<xa)=false:=Pj lt;have R:Hid (q=((i:Int),(k:Int),true)):=HQ.out.symm.trans (J7y i1 k1 ix kx lt);clear n1 n2 HQ i1 k1 ix kx lt;go_enter func202,ntmps202;go_wp2_with fail;refine C1.out.mono ?_;rintro e w1 ⟨rfl,b1⟩;have B1:Hid (Po w w1):=b1;have K2:=Pe (C2.out w1 b1);clear b1 C1 C2;go_wp2_with fail;refine K2.out.mono ?_;rintro e w2 ⟨rfl,b2⟩;have B2:Hid (Po w w2):=B1.out.trans (b2.mono B1.out.size);clear b2 K2 B1;obtain⟨c,o,rfl,-,p0,p1,p2,p3,p4⟩:=Ja6 (H1.out.below B2.out) IX.out;obtain⟨c',o',rfl,-,q0,q1,q2,q3,q4⟩:=Ja6 (H2.out.below B2.out) KX.out;go_wp2_with fail;go_quiet (fail);have B3:Hid (Po w (w2.drewN nq)):=Jab B2.out nq;generalize w2.drewN nq=w3 at B3 |-;go_wp2_with fail;go_ret3;exact Yg
theorem Qac(va vb:Value)(a b:List Cl)(ha:a.length<=1000000)(hb:b.length<=1000000)(st:Int)(w:World)(h1:LstC w va a)(h2:LstC w vb b):Pc 241 #[va,vb,.int .i64 st] w (.tuple #[.int .i64 ((meT st a b).1),.int .i64 ((meT st a b).2.1),.bool ((meT st a b).2.2)]):=by
 have H1:=Pe h1;have H2:=Pe h2;obtain⟨A,n,rfl,-,-,-⟩:=h1;obtain⟨B,m,rfl,-,-,-⟩:=h2;obtain⟨q,hq⟩:=Pi (meT st a b);rw[hq];have HQ:=Pe hq;obtain⟨qa,hqa⟩:=Pi (alF st 0 a);have HA:=Pe hqa;obtain⟨qb,hqb⟩:=Pi (bdF st 0 b);have HS:Hid (qb=bdF st 0 b):=hqb.symm;clear hq hqa hqb;go_enter func241,ntmps241;go_wp2_with fail;go_loop [9] (fun i=>∃k:Nat,i=.int .i64 k/\1<=k/\k<=a.length+1/\Hid (qa=alF st k a)) (fun i=>a.length+1 - (intOf i).toNat);case atStart=>exact⟨1,rfl,Nat.le_refl _,Ka,Pe (Jzb HA.out.symm)⟩
 case round =>
  obtain⟨i,rfl,hi1,hi2,hz⟩:=hrel;by_cases hlt:i<a.length
  ·obtain⟨⟨xs,xa,xd,xb,xu⟩,hx⟩:=Jah hlt
   obtain⟨c,o,rfl,-,p0,p1,p2,p3,p4⟩:=Ja6 H1.out hx;have gi:(i:Int)<(a.length:Int):=Ka;by_cases hs:¬xs=st
   ·have g:=Jaf hs
    have N:=Pe (Jl7 hz.out hi1 hx (Jtg (st:=st) (x:=(xs,xa,xd,xb,xu)) hs));clear hz hx hs;go_wp2_with fail;go_round;case rel=>exact⟨i+1,Kj,Ka,Ka,N⟩
    case measure=>exact Q7
   have hs:=Pu hs;have g:=Jap hs;cases xu with
   | false =>
    have N:=Pe (Jl7 hz.out hi1 hx (Jth (st:=st) (x:=(xs,xa,xd,xb,false)) rfl));clear hz hx hs;go_wp2_with fail;go_round;case rel=>exact⟨i+1,Kj,Ka,Ka,N⟩
    case measure=>exact Q7
   | true =>
    have I1:Hid (alF st 0 a=(i:Int)):=HA.out.trans (J7v hz.out hi1 hx (Jy9 (st:=st) (x:=(xs,xa,xd,xb,true)) hs rfl));have IX:=Pe hx;clear hz hx hs;go_wp2_with fail;go_loop [10] (fun j=>∃k:Nat,j=.int .i64 k/\k<=b.length/\Hid (qb=bdF st k b)) (fun j=>b.length - (intOf j).toNat);case atStart=>exact⟨0,rfl,Nat.zero_le _,HS⟩
    case round =>
     obtain⟨k,rfl,hk,hz⟩:=hrel;by_cases hkt:k+1<b.length
     ·obtain⟨⟨ys,ya,yd,yb,yu⟩,hy⟩:=Jah (l:=b) (k:=k) Ka
      obtain⟨c',o',rfl,-,q0,q1,q2,q3,q4⟩:=Ja6 H2.out hy;have gk:(k:Int)+1<(b.length:Int):=Ka;have gk':(k:Int)<(b.length:Int):=Ka;by_cases hs2:¬ys=st
      ·have g2:=Jaa hs2
       have N:=Pe (Jl8 hz.out hy Ka (Jti (st:=st) (x:=(ys,ya,yd,yb,yu)) hs2));clear hz hy hs2;go_wp2_with fail;go_round;case rel=>exact⟨k+1,Kj,Ka,N⟩
       case measure=>exact Q7
      have hs2:=Pu hs2;have g2:=Jag hs2;cases yb with
      | false =>
       have N:=Pe (Jl8 hz.out hy Ka (Jtj (st:=st) (x:=(ys,ya,yd,false,yu)) rfl));clear hz hy hs2;go_wp2_with fail;go_round;case rel=>exact⟨k+1,Kj,Ka,N⟩
       case measure=>exact Q7
      | true =>
       have K1:bdF st 0 b=(k:Int):=HS.out.symm.trans (J7x hz.out hy Ka (Jza (st:=st) (x:=(ys,ya,yd,true,yu)) hs2 rfl));by_cases lt:yd<xa
       ·have R:Hid (q=(0,0,false)):=HQ.out.symm.trans (Jzd I1.out K1 IX.out hy lt)
        clear hz hy hs2 K1;go_wp2_with fail;go_quiet (fail);go_wp2_with fail;go_ret3;exact⟨Jh2 R.out,Jab Pg _⟩
       ·have R:Hid (q=((i:Int),(k:Int),true)):=HQ.out.symm.trans (J7y I1.out K1 IX.out hy lt)
        have nl:decide (yd<xa)=false:=Pj lt;clear hz hy hs2 K1 lt;go_wp2_with fail;go_quiet (fail);go_wp2_with fail;go_ret3;exact⟨Jh2 R.out,Jab Pg _⟩
     ·have dd:decide ((k:Int)+1<(b.length:Int))=false:=Q8
      have d2:decide (k+1<b.length)=false:=by rw[decide_eq_false_iff_not];exact hkt
      have R:Hid (q=(0,0,false)):=HQ.out.symm.trans (Qde (HS.out.symm.trans (Jtk hz.out Ka)));clear hz hkt;go_wp2_with fail;go_ret3;exact⟨Jh2 R.out,Pg⟩
  ·have R:Hid (q=(0,0,false)):=HQ.out.symm.trans (Jzc (HA.out.trans (J7w hz.out Ka)))
   have dd:decide (i<a.length)=false:=Kg;clear hz hlt;go_wp2_with fail;go_ret3;exact⟨Jh2 R.out,Pg⟩
def Gus64(l:List Gt):Prop:=∀x∈l,Gu64 x
theorem J75(a b s a' b' s':Int)(q:Bool)(h:decide ((a,b,s)=(a',b',s'))=q)(W:World):(binOp BinOp.eql 122 (.agg #[.int .i64 a,.int .i64 b,.int .i64 s]) (.agg #[.int .i64 a',.int .i64 b',.int .i64 s'])).run prog W=.ok (.bool q) W:=by
 subst h;by_cases h1:a=a'
 ·by_cases h2:b=b'
  ·by_cases h3:s=s'
   ·subst h1 h2 h3
    go_simp
   ·subst h1 h2
    have:(s==s')=false:=Jaa h3;go_simp
  ·subst h1
   have:(b==b')=false:=Jaa h2;go_simp
 ·have:(a==a')=false:=Jaa h1
  go_simp
theorem kchku_any(vl:Value)(l:List Gt)(hl:l.length<=1000000)(hs:Gus64 l)(vt:Value)(ts:List Tp)(hts:∀x∈ts,x.2.2.2.2.2.length<=1000000)(vf:Value)(f:List Fq)(hf:f.length<=5000)(st:Int)(w:World)(h1:LstU w vl l)(h2:Jcs w vt ts)(h3:LstF w vf f):
  Pc 111 #[vl,vt,vf,.int .i64 st] w (.tuple #[.int .i64 ((chkU (ts.map tcT) f st l).1),.int .i64 ((chkU (ts.map tcT) f st l).2)]):=by
 have H1:=Pe h1;have H2:=Pe h2;have H3:=Pe h3;have HS:=Pe hs;have HTS:=Pe hts;have hlen:(ts.map tcT).length=ts.length:=List.length_map ..;obtain⟨A,n,rfl,-,-,-⟩:=h1;obtain⟨⟨B,m,rfl,-,-,-⟩,-⟩:=h2;obtain⟨D,r,rfl,-,-,-⟩:=h3;clear hs hts;by_cases hm:128<l.length
 ·have R:=Pe (Jov (ts:=ts.map tcT) (f:=f) (st:=st) hm)
  have g:(128:Int)<(l.length:Int):=Ka;generalize chkU (ts.map tcT) f st l=q at R |-;clear hm hlen;go_enter func111,ntmps111;exact Vc
 have g:decide ((128:Int)<(l.length:Int))=false:=Q8;have ST:=Pe (Jks (ts:=ts.map tcT) (f:=f) (st:=st) (l:=l) hm);have hm':l.length<=128:=Ka;have hmm:=@run_makeMap prog;obtain⟨q,hq⟩:=Pi (chkU (ts.map tcT) f st l);rw[hq];rw[hq] at ST;have C1:=Pe (Jtp B D ts.length m f.length r w);have HLEN:=Pe hlen;clear hm hq hlen;go_enter func111,ntmps111;go_wp2_with fail;refine C1.out.mono ?_;rintro e w1 ⟨rfl,m0,m1,b1,z1⟩;have M0:=Pe m0;have M1:=Pe m1;have B1:=Pe b1;have Z1:=Pe z1;obtain⟨w2,hw2⟩:=Pi (w1.alloc (.map #[] 0));have N0:Hid (MapU w2 w1.heap.size ((l.take 0).map idG)):=by
  show MapU _ _ []
  rw[<-hw2];exact MapU.made w1
 have B2:Hid (Po w1 w2):=by rw[<-hw2];exact(Below.refl _ _).alloc Ph _
 clear m0 m1 b1 z1 C1;go_wp2_with fail;go_loopw [27] (fun i wr=>∃k:Nat,i=.int .i64 k/\k<=l.length/\Hid (q=fbF (guE (ts.map tcT) f st) idG ((l.take k).map idG) k (l.drop k))/\Hid (MapU wr w1.heap.size ((l.take k).map idG))/\Hid (Po w1 wr)) (fun i _=>l.length - (intOf i).toNat);case atStart=>exact⟨0,rfl,Nat.zero_le _,ST,N0,B2⟩
 case round =>
  clear g ST hmm N0 B2 hw2;obtain⟨k,rfl,hk,hz,HL,HB⟩:=hrel;have BW:Hid (Po w wr):=B1.out.trans (HB.out.mono B1.out.size);by_cases hlt:k<l.length
  ·obtain⟨⟨a,b,s⟩,hx⟩:=Jah hlt
   have hab:=HS.out _ (List.mem_iff_getElem?.2 ⟨_,hx⟩);obtain⟨c,o,rfl,hc,r0,r1,r2⟩:=three_gg (H1.out.below BW.out) hx;obtain⟨w7,hw7⟩:=Pi (wr.alloc (boxU a b s));obtain⟨b7,p0,p1,p2,s7,-⟩:=J7z hw7;have gk:(k:Int)<(l.length:Int):=Ka;have B7:Hid (Po w1 w7):=HB.out.trans (b7.mono HB.out.size);have W7:Hid (Po w w7):=BW.out.trans (b7.mono BW.out.size);have L7:=Pe (HL.out.below b7);have SL:=Pe HL.out.lt;have x0:=(B7.out.cell (p:=⟨w.heap.size,0,none⟩) (World.block_lt_of_cell? _ _ M0.out)).trans M0.out;have x1:=(B7.out.cell (p:=⟨w.heap.size+1,0,none⟩) (World.block_lt_of_cell? _ _ M1.out)).trans M1.out;have PR:=Pe (Jzq w.heap.size (.slice B ts.length m) (.slice D f.length r) ts f hf a b w7 x0 x1 (H2.out.below W7.out) (H3.out.below W7.out));have S7:=Pe s7;have ce:=Jow;clear b7 HL s7 x0 x1 hc HB BW;by_cases n0:¬(0<=s/\s<st)
   ·have R:=Pe (Jal hz.out hx (Jq3 (ts:=ts.map tcT) (f:=f) (st:=st) (seen:=(l.take k).map idG) (x:=(a,b,s)) n0) Kd)
    have X:=Pe (fun W=>Jq5 s st n0 W);clear hz hx n0 hab PR;go_wp2_with fail;refine Pf (X.out _) ?_;go_wp2_with fail;go_ret2;exact⟨ret_chk Va Va,W7.out⟩
   have n0:=Pu n0;have X:=Pe (fun W=>Jma s st n0 W);have N0:=Pe n0;by_cases e1:prE ts.length f a b≠0
   ·have R:=Pe (Jal hz.out hx ((Jq4 (ts:=ts.map tcT) (f:=f) (st:=st) (seen:=(l.take k).map idG) (x:=(a,b,s)) n0 (by rw[HLEN.out];exact e1)).trans (by rw[HLEN.out])) e1)
    have ne:=Jaf e1;have R2:Hid (q=((k:Int),prE ts.length f a b)):=R.out;generalize prE ts.length f a b=z at PR R2 ne;clear hz hx e1 n0 hab R;go_wp2_with fail;refine Pf (X.out _) ?_;go_wp2_with fail;refine PR.out.mono ?_;rintro e w8 ⟨rfl,b8⟩;have W8:Hid (Po w w8):=W7.out.trans (b8.mono W7.out.size);clear b8 PR;go_wp2_with fail;go_ret2;exact⟨ret_chk Xu Xu,W8.out⟩
   have e1:=Pu e1;obtain⟨ga,gb,-,-,-⟩:=Jze e1;obtain⟨i,rfl⟩:∃i:Nat,a=(i:Int):=⟨a.toNat,Ka⟩;obtain⟨j,rfl⟩:∃j:Nat,b=(j:Int):=⟨b.toNat,Ka⟩;obtain⟨⟨xi,xr,xc,xf,xv,xl⟩,tx⟩:=Jah (l:=ts) (k:=i) Ka;obtain⟨⟨yi,yr,yc,yf,yv,yl⟩,ty⟩:=Jah (l:=ts) (k:=j) Ka;obtain⟨xn,hxn⟩:=Pi (str xi);obtain⟨yn,hyn⟩:=Pi (str yi);have hxl:xl.length<=1000000:=HTS.out _ (List.mem_iff_getElem?.2 ⟨_,tx⟩);have hyl:yl.length<=1000000:=HTS.out _ (List.mem_iff_getElem?.2 ⟨_,ty⟩);have AX:=Pe (Jox tx);have AY:=Pe (Jox ty);have gi:(i:Int)<(ts.length:Int):=ga.2;have gj:(j:Int)<(ts.length:Int):=gb.2;have ile:(i:Int)<=9223372036854775807:=hab.1.2;have jle:(j:Int)<=9223372036854775807:=hab.2.1.2;have GU:=Pe hab;have TX:=Pe tx;have TY:=Pe ty;have XN:=Pe hxn;have YN:=Pe hyn;have E1:Hid (prE (ts.map tcT).length f (i:Int) (j:Int)=0):=by rw[HLEN.out];exact e1
   rw[e1] at PR;have HX:=Pe hx;clear e1 ga gb hab tx ty hxn hyn hx n0;go_wp2_with fail;refine Pf (X.out _) ?_;go_wp2_with fail;refine PR.out.mono ?_;rintro e w8 ⟨rfl,b8⟩;have B8:Hid (Po w1 w8):=B7.out.trans (b8.mono B7.out.size);have W8:Hid (Po w w8):=W7.out.trans (b8.mono W7.out.size);have L8:=Pe (L7.out.below b8);have T8:=Pe (H2.out.below W8.out);have p0:=(b8.cell (p:=⟨wr.heap.size,0,none⟩) S7.out).trans p0;have p1:=(b8.cell (p:=⟨wr.heap.size,1,none⟩) S7.out).trans p1;have p2:=(b8.cell (p:=⟨wr.heap.size,2,none⟩) S7.out).trans p2;have S8:Hid (wr.heap.size<w8.heap.size):=Ps S7.out b8.size;clear b8 PR L7 B7 W7 S7 r0 r1 r2 hw7 X;obtain⟨bx,ox,Bx,mx,ex,rfl,hbx,-,-,-,-,x4,lx,-,-⟩:=Ja7 T8.out TX.out XN.out;obtain⟨by_,oy,By,my,ey,rfl,hby,-,-,-,-,y4,ly,-,-⟩:=Ja7 T8.out TY.out YN.out;subst ex;cases ey;have HBX:=Pe hbx;have KC:=Pe (fun W (hW:Po w8 W)=>Jq7 (Qab (.slice Bx xl.length mx) (.slice By yl.length my) xl yl hxl hyl s W (lx.below hW) (ly.below hW)) hW);clear hbx hby lx ly ce;have A1:(meT s (tcA (ts.map tcT) (i:Int)).2 (tcA (ts.map tcT) (j:Int)).2).2.2=(meT s xl yl).2.2:=by rw[AX.out,AY.out]
   have A2:=Pe A1;clear A1;generalize (meT s xl yl).1=u1 at KC;generalize (meT s xl yl).2.1=u2 at KC;generalize (meT s xl yl).2.2=u3 at KC A2;cases u3 with
   | false =>
    have R:=Pe (Jal hz.out HX.out (Jzi (seen:=(l.take k).map idG) (x:=((i:Int),(j:Int),s)) N0.out E1.out A2.out) Kd);clear hz;go_wp2_with fail;go_region_held3 (fun W=>W.cell? ⟨wr.heap.size,0,none⟩=some (.int .i64 (i:Int))/\W.cell? ⟨wr.heap.size,1,none⟩=some (.int .i64 (j:Int))/\W.cell? ⟨wr.heap.size,2,none⟩=some (.int .i64 s)/\W.cell? ⟨bx,ox+i*5+4,none⟩=some (.slice Bx xl.length mx)/\W.cell? ⟨bx,ox+j*5+4,none⟩=some (.slice By yl.length my)) (first | assumption | (exact⟨Kn,Kn,Kn,Kn,Kn⟩)) (first
     | (go_at_call 202;with_reducible refine(KC.out _ Km).mono ?_;rintro e w9 ⟨rfl,b9⟩;have z0:=(b9.cell (p:=⟨wr.heap.size,0,none⟩) S8.out).trans p0;have z1:=(b9.cell (p:=⟨wr.heap.size,1,none⟩) S8.out).trans p1;have z2:=(b9.cell (p:=⟨wr.heap.size,2,none⟩) S8.out).trans p2;have z3:=(b9.cell (p:=⟨bx,ox+i*5+4,none⟩) HBX.out).trans x4;have z4:=(b9.cell (p:=⟨bx,ox+j*5+4,none⟩) HBX.out).trans y4))
    have W9:Hid (Po w w9):=W8.out.trans (b9.mono W8.out.size);clear b9 KC z0 z1 z2 z3 z4;exact Xp
   | true =>
    go_wp2_with fail;go_region_held3 (fun W=>W.cell? ⟨wr.heap.size,0,none⟩=some (.int .i64 (i:Int))/\W.cell? ⟨wr.heap.size,1,none⟩=some (.int .i64 (j:Int))/\W.cell? ⟨wr.heap.size,2,none⟩=some (.int .i64 s)/\W.cell? ⟨bx,ox+i*5+4,none⟩=some (.slice Bx xl.length mx)/\W.cell? ⟨bx,ox+j*5+4,none⟩=some (.slice By yl.length my)) (first | assumption | (exact⟨Kn,Kn,Kn,Kn,Kn⟩)) (first
     | (go_at_call 202;with_reducible refine(KC.out _ Km).mono ?_;rintro e w9 ⟨rfl,b9⟩;have z0:=(b9.cell (p:=⟨wr.heap.size,0,none⟩) S8.out).trans p0;have z1:=(b9.cell (p:=⟨wr.heap.size,1,none⟩) S8.out).trans p1;have z2:=(b9.cell (p:=⟨wr.heap.size,2,none⟩) S8.out).trans p2;have z3:=(b9.cell (p:=⟨bx,ox+i*5+4,none⟩) HBX.out).trans x4;have z4:=(b9.cell (p:=⟨bx,ox+j*5+4,none⟩) HBX.out).trans y4))
    have B9:Hid (Po w1 w9):=B8.out.trans (b9.mono B8.out.size);have W9:Hid (Po w w9):=W8.out.trans (b9.mono W8.out.size);have L9:=Pe (L8.out.below b9);clear b9 KC z3 z4 p0 p1 p2 x4 y4 T8 L8 B8 W8;have lk:=L9.out.look ((i:Int),(j:Int),s) GU.out;by_cases d1:((i:Int),(j:Int),s)∈(l.take k).map idG
    ·have R:=Pe (Jal hz.out HX.out (Jtl (seen:=(l.take k).map idG) (x:=((i:Int),(j:Int),s)) N0.out E1.out A2.out d1) Kd)
     rw[Pk d1] at lk;clear hz d1;exact Xp
    rw[Pj d1] at lk;have N:=Pe (Jcd hz.out HX.out (Qdh (seen:=(l.take k).map idG) (x:=((i:Int),(j:Int),s)) N0.out E1.out A2.out d1));obtain⟨wv,hrun,mv,gv⟩:=L9.out.update ((i:Int),(j:Int),s) GU.out Jp;have MV:Hid (MapU wv w1.heap.size ((l.take (k+1)).map idG)):=by show MapU _ _ _;rw[Jeq (key:=idG) HX.out];exact mv
    have BV:Hid (Po w1 wv):=B9.out.grown gv B9.out.size (fun y hy=>by cases hy;exact Nat.le_refl _);clear hz d1 mv gv L9 B9;go_wp2_with fail;go_roundw;case rel=>exact⟨k+1,Kj,Ka,N,MV,BV⟩
    case measure=>exact Q7
  ·have R:=Pe (Jce hz.out Ka)
   have d:decide (k<l.length)=false:=Kg;clear hz hlt HL;go_wp2_with fail;go_ret2;exact⟨ret_chk Va Va,BW.out⟩
theorem kchkh_any(vl:Value)(l:List Th)(hl:l.length<=1000000)(hs:Th64 l)(vt:Value)(ts:List Tp)(hts:∀x∈ts,x.2.2.2.2.2.length<=1000000)(vf:Value)(f:List Fq)(hf:f.length<=5000)(w:World)(h1:LstH w vl l)(h2:Jcs w vt ts)(h3:LstF w vf f):
  Pc 109 #[vl,vt,vf] w (.tuple #[.int .i64 ((chkH (ts.map tcT) f l).1),.int .i64 ((chkH (ts.map tcT) f l).2)]):=by
 have H1:=Pe h1;have H2:=Pe h2;have H3:=Pe h3;have HS:=Pe hs;have HTS:=Pe hts;have hlen:(ts.map tcT).length=ts.length:=List.length_map ..;obtain⟨A,n,rfl,-,-,-⟩:=h1;obtain⟨⟨B,m,rfl,-,-,-⟩,-⟩:=h2;obtain⟨D,r,rfl,-,-,-⟩:=h3;clear hs hts;by_cases hm:128<l.length
 ·have R:=Pe (Jou (ts:=ts.map tcT) (f:=f) hm)
  have g:(128:Int)<(l.length:Int):=Ka;generalize chkH (ts.map tcT) f l=q at R |-;clear hm hlen;go_enter func109,ntmps109;exact Vc
 have g:decide ((128:Int)<(l.length:Int))=false:=Q8;have ST:=Pe (Jkr (ts:=ts.map tcT) (f:=f) (l:=l) hm);have hm':l.length<=128:=Ka;have hmm:=@run_makeMap prog;obtain⟨q,hq⟩:=Pi (chkH (ts.map tcT) f l);rw[hq];rw[hq] at ST;have C1:=Pe (Jtp B D ts.length m f.length r w);have HLEN:=Pe hlen;clear hm hq hlen;go_enter func109,ntmps109;go_wp2_with fail;refine C1.out.mono ?_;rintro e w1 ⟨rfl,m0,m1,b1,z1⟩;have M0:=Pe m0;have M1:=Pe m1;have B1:=Pe b1;have Z1:=Pe z1;obtain⟨w2,hw2⟩:=Pi (w1.alloc (.map #[] 0));obtain⟨w3,hw3⟩:=Pi (w2.alloc (.map #[] 0));have z2:w1.heap.size<w2.heap.size:=by rw[<-hw2];simp
 have b3:Po w2 w3:=by rw[<-hw3];exact(Below.refl _ _).alloc Ph _
 have b2:Po w1 w2:=by rw[<-hw2];exact(Below.refl _ _).alloc Ph _
 have N0:Hid (MapN w3 w1.heap.size ((l.take 0).map Prod.fst)):=by
  show MapN _ _ []
  exact MapN.below (by rw[<-hw2];exact MapN.made w1) b3
 have N1:Hid (MapN w3 w2.heap.size ((l.take 0).map Prod.snd)):=by
  show MapN _ _ []
  rw[<-hw3];exact MapN.made w2
 have B3:Hid (Po w1 w3):=b2.trans (b3.mono b2.size);have Z2:=Pe z2;clear m0 m1 b1 z1 z2 b2 b3 C1;go_wp2_with fail;go_loopw [25] (fun i wr=>∃k:Nat,i=.int .i64 k/\k<=l.length/\Hid (q=fbF (thE (ts.map tcT) f) idP ((l.take k).map idP) k (l.drop k))/\Hid (MapN wr w1.heap.size ((l.take k).map Prod.fst))/\Hid (MapN wr w2.heap.size ((l.take k).map Prod.snd))/\Hid (Po w1 wr)) (fun i _=>l.length - (intOf i).toNat);case atStart=>exact⟨0,rfl,Nat.zero_le _,ST,N0,N1,B3⟩
 case round =>
  clear g ST hmm N0 N1 B3 hw2 hw3;obtain⟨k,rfl,hk,hz,HL,HE,HB⟩:=hrel;have BW:Hid (Po w wr):=B1.out.trans (HB.out.mono B1.out.size);by_cases hlt:k<l.length
  ·obtain⟨⟨a,b⟩,hx⟩:=Jah hlt
   have hab:=HS.out _ (List.mem_iff_getElem?.2 ⟨_,hx⟩);obtain⟨c,o,rfl,hc,r0,r1⟩:=two_hh (H1.out.below BW.out) hx;obtain⟨w7,hw7⟩:=Pi (wr.alloc (boxH a b));obtain⟨b7,p0,p1,s7,-⟩:=Jzj hw7;have gk:(k:Int)<(l.length:Int):=Ka;have B7:Hid (Po w1 w7):=HB.out.trans (b7.mono HB.out.size);have W7:Hid (Po w w7):=BW.out.trans (b7.mono BW.out.size);have L7:=Pe (HL.out.below b7);have E7:=Pe (HE.out.below b7);have x0:=(B7.out.cell (p:=⟨w.heap.size,0,none⟩) (World.block_lt_of_cell? _ _ M0.out)).trans M0.out;have x1:=(B7.out.cell (p:=⟨w.heap.size+1,0,none⟩) (World.block_lt_of_cell? _ _ M1.out)).trans M1.out;have PR:=Pe (Jzq w.heap.size (.slice B ts.length m) (.slice D f.length r) ts f hf a b w7 x0 x1 (H2.out.below W7.out) (H3.out.below W7.out));have S7:=Pe s7;have ce:=Jow;have TP:=Pe (Jzf (ts:=ts.map tcT) (f:=f) (seen:=(l.take k).map idP) (x:=(a,b)));rw[HLEN.out] at TP;have SB:=Pe HE.out.lt;have SL:=Pe HL.out.lt;clear b7 HL HE s7 x0 x1 hc HB BW;by_cases e1:prE ts.length f a b≠0
   ·have R:=Pe (Jal hz.out hx (TP.out e1) e1)
    have ne:=Jaf e1;generalize prE ts.length f a b=z at PR R ne;clear hz hx e1 TP hab;go_wp2_with fail;refine PR.out.mono ?_;rintro e w8 ⟨rfl,b8⟩;have W8:Hid (Po w w8):=W7.out.trans (b8.mono W7.out.size);clear b8 PR;go_wp2_with fail;go_ret2;exact⟨ret_chk Va Va,W8.out⟩
   have e1:=Pu e1;obtain⟨ga,gb,-,-,-⟩:=Jze e1;obtain⟨i,rfl⟩:∃i:Nat,a=(i:Int):=⟨a.toNat,Ka⟩;obtain⟨j,rfl⟩:∃j:Nat,b=(j:Int):=⟨b.toNat,Ka⟩;have HI:=hab.1;have JX:=Pe hab.2;have IX:=Pe hab.1;obtain⟨⟨xi,xr,xc,xf,xv,xl⟩,tx⟩:=Jah (l:=ts) (k:=i) Ka;obtain⟨⟨yi,yr,yc,yf,yv,yl⟩,ty⟩:=Jah (l:=ts) (k:=j) Ka;obtain⟨xn,hxn⟩:=Pi (str xi);obtain⟨yn,hyn⟩:=Pi (str yi);have gi:(i:Int)<(ts.length:Int):=ga.2;have gj:(j:Int)<(ts.length:Int):=gb.2;have ile:(i:Int)<=9223372036854775807:=hab.1.2;have jle:(j:Int)<=9223372036854775807:=hab.2.2;have hxl:xl.length<=1000000:=HTS.out _ (List.mem_iff_getElem?.2 ⟨_,tx⟩);have TX:=Pe tx;have TY:=Pe ty;have XN:=Pe hxn;have YN:=Pe hyn;have AX:=Pe (Jox tx);have AY:=Pe (Jox ty);have E1:Hid (prE (ts.map tcT).length f (i:Int) (j:Int)=0):=by rw[HLEN.out];exact e1
   rw[e1] at PR;have HX:=Pe hx;clear TP e1 ga gb HI hab tx ty hxn hyn hx;go_wp2_with fail;refine PR.out.mono ?_;rintro e w8 ⟨rfl,b8⟩;have B8:Hid (Po w1 w8):=B7.out.trans (b8.mono B7.out.size);have W8:Hid (Po w w8):=W7.out.trans (b8.mono W7.out.size);have L8:=Pe (L7.out.below b8);have E8:=Pe (E7.out.below b8);have T8:=Pe (H2.out.below W8.out);have p0:=(b8.cell (p:=⟨wr.heap.size,0,none⟩) S7.out).trans p0;have p1:=(b8.cell (p:=⟨wr.heap.size,1,none⟩) S7.out).trans p1;have S8:Hid (wr.heap.size<w8.heap.size):=Ps S7.out b8.size;clear b8 PR L7 E7 B7 W7 S7 r0 r1 hw7;obtain⟨bx,ox,Bx,mx,ex,rfl,hbx,x0,x1,x2,x3,x4,lx,-,-⟩:=Ja7 T8.out TX.out XN.out;obtain⟨by_,oy,By,my,ey,rfl,hby,y0,y1,y2,y3,y4,ly,-,-⟩:=Ja7 T8.out TY.out YN.out;subst ex;cases ey;have HBX:=Pe hbx;have KC:=Pe (fun W (hW:Po w8 W)=>Jq7 (Jzr xn xr xc xf (.slice Bx xl.length mx) xl yn yr yc yf (.slice By yl.length my) yl hxl W (lx.below hW) (ly.below hW)) hW);clear hbx hby lx ly ce;have THP:=Pe (Jzg (ts:=ts.map tcT) (f:=f) (seen:=(l.take k).map idP) (x:=((i:Int),(j:Int))) E1.out);rw[show tcA (ts.map tcT) (((i:Int),(j:Int)):Th).1=(xc,xl) from AX.out,show tcA (ts.map tcT) (((i:Int),(j:Int)):Th).2=(yc,yl) from AY.out] at THP;by_cases e2:psE (xc,xl) (yc,yl)≠0
   ·have R:=Pe (Jal hz.out HX.out (THP.out e2) e2)
    have ne:=Jaf e2;generalize psE (xc,xl) (yc,yl)=z at KC R ne;clear hz e2 THP;go_wp2_with fail;go_region_held3 (fun W=>W.cell? ⟨wr.heap.size,0,none⟩=some (.int .i64 (i:Int))/\W.cell? ⟨wr.heap.size,1,none⟩=some (.int .i64 (j:Int))/\W.cell? ⟨bx,ox+i*5,none⟩=some (.string xn)/\W.cell? ⟨bx,ox+i*5+1,none⟩=some (.int .i64 xr)/\W.cell? ⟨bx,ox+i*5+2,none⟩=some (.int .i64 xc)/\W.cell? ⟨bx,ox+i*5+3,none⟩=some (.bool xf)/\W.cell? ⟨bx,ox+i*5+4,none⟩=some (.slice Bx xl.length mx)/\W.cell? ⟨bx,ox+j*5,none⟩=some (.string yn)/\W.cell? ⟨bx,ox+j*5+1,none⟩=some (.int .i64 yr)/\W.cell? ⟨bx,ox+j*5+2,none⟩=some (.int .i64 yc)/\W.cell? ⟨bx,ox+j*5+3,none⟩=some (.bool yf)/\W.cell? ⟨bx,ox+j*5+4,none⟩=some (.slice By yl.length my)) (first | assumption | (exact⟨Kn,Kn,Kn,Kn,Kn,Kn,Kn,Kn,Kn,Kn,Kn,Kn⟩)) (first
     | (go_at_call 198;with_reducible refine(KC.out _ Km).mono ?_;rintro e w9 ⟨rfl,b9⟩;have z0:=(b9.cell (p:=⟨wr.heap.size,0,none⟩) S8.out).trans p0;have z1:=(b9.cell (p:=⟨wr.heap.size,1,none⟩) S8.out).trans p1;have z2:=(b9.cell (p:=⟨bx,ox+i*5,none⟩) HBX.out).trans x0;have z3:=(b9.cell (p:=⟨bx,ox+i*5+1,none⟩) HBX.out).trans x1;have z4:=(b9.cell (p:=⟨bx,ox+i*5+2,none⟩) HBX.out).trans x2;have z5:=(b9.cell (p:=⟨bx,ox+i*5+3,none⟩) HBX.out).trans x3;have z6:=(b9.cell (p:=⟨bx,ox+i*5+4,none⟩) HBX.out).trans x4;have z7:=(b9.cell (p:=⟨bx,ox+j*5,none⟩) HBX.out).trans y0;have z8:=(b9.cell (p:=⟨bx,ox+j*5+1,none⟩) HBX.out).trans y1;have z9:=(b9.cell (p:=⟨bx,ox+j*5+2,none⟩) HBX.out).trans y2;have z10:=(b9.cell (p:=⟨bx,ox+j*5+3,none⟩) HBX.out).trans y3;have z11:=(b9.cell (p:=⟨bx,ox+j*5+4,none⟩) HBX.out).trans y4))
    have W9:Hid (Po w w9):=W8.out.trans (b9.mono W8.out.size);clear b9 KC z0 z1 z2 z3 z4 z5 z6 z7 z8 z9 z10 z11;exact Xp
   have e2:=Pu e2;rw[e2] at KC;have E2:Hid (psE (tcA (ts.map tcT) (i:Int)) (tcA (ts.map tcT) (j:Int))=0):=by rw[AX.out,AY.out];exact e2
   clear THP e2;go_wp2_with fail;go_region_held3 (fun W=>W.cell? ⟨wr.heap.size,0,none⟩=some (.int .i64 (i:Int))/\W.cell? ⟨wr.heap.size,1,none⟩=some (.int .i64 (j:Int))/\W.cell? ⟨bx,ox+i*5,none⟩=some (.string xn)/\W.cell? ⟨bx,ox+i*5+1,none⟩=some (.int .i64 xr)/\W.cell? ⟨bx,ox+i*5+2,none⟩=some (.int .i64 xc)/\W.cell? ⟨bx,ox+i*5+3,none⟩=some (.bool xf)/\W.cell? ⟨bx,ox+i*5+4,none⟩=some (.slice Bx xl.length mx)/\W.cell? ⟨bx,ox+j*5,none⟩=some (.string yn)/\W.cell? ⟨bx,ox+j*5+1,none⟩=some (.int .i64 yr)/\W.cell? ⟨bx,ox+j*5+2,none⟩=some (.int .i64 yc)/\W.cell? ⟨bx,ox+j*5+3,none⟩=some (.bool yf)/\W.cell? ⟨bx,ox+j*5+4,none⟩=some (.slice By yl.length my)) (first | assumption | (exact⟨Kn,Kn,Kn,Kn,Kn,Kn,Kn,Kn,Kn,Kn,Kn,Kn⟩)) (first
    | (go_at_call 198;with_reducible refine(KC.out _ Km).mono ?_;rintro e w9 ⟨rfl,b9⟩;have z0:=(b9.cell (p:=⟨wr.heap.size,0,none⟩) S8.out).trans p0;have z1:=(b9.cell (p:=⟨wr.heap.size,1,none⟩) S8.out).trans p1;have z2:=(b9.cell (p:=⟨bx,ox+i*5,none⟩) HBX.out).trans x0;have z3:=(b9.cell (p:=⟨bx,ox+i*5+1,none⟩) HBX.out).trans x1;have z4:=(b9.cell (p:=⟨bx,ox+i*5+2,none⟩) HBX.out).trans x2;have z5:=(b9.cell (p:=⟨bx,ox+i*5+3,none⟩) HBX.out).trans x3;have z6:=(b9.cell (p:=⟨bx,ox+i*5+4,none⟩) HBX.out).trans x4;have z7:=(b9.cell (p:=⟨bx,ox+j*5,none⟩) HBX.out).trans y0;have z8:=(b9.cell (p:=⟨bx,ox+j*5+1,none⟩) HBX.out).trans y1;have z9:=(b9.cell (p:=⟨bx,ox+j*5+2,none⟩) HBX.out).trans y2;have z10:=(b9.cell (p:=⟨bx,ox+j*5+3,none⟩) HBX.out).trans y3;have z11:=(b9.cell (p:=⟨bx,ox+j*5+4,none⟩) HBX.out).trans y4))
   have B9:Hid (Po w1 w9):=B8.out.trans (b9.mono B8.out.size);have W9:Hid (Po w w9):=W8.out.trans (b9.mono W8.out.size);have L9:=Pe (L8.out.below b9);have E9:=Pe (E8.out.below b9);have S9:Hid (wr.heap.size<w9.heap.size):=Ps S8.out b9.size;have p0:=(b9.cell (p:=⟨wr.heap.size,0,none⟩) S8.out).trans p0;have p1:=(b9.cell (p:=⟨wr.heap.size,1,none⟩) S8.out).trans p1;clear z0 z1 z2 z3 z4 z5 z6 z7 z8 z9 z10 z11 x0 x1 x2 x3 x4 y0 y1 y2 y3 y4 b9 KC T8 L8 E8 B8 W8;have mp:=Jzh (l.take k);have lk1:=L9.out.look (i:Int) IX.out;have lk2:=E9.out.look (j:Int) JX.out;by_cases d1:(i:Int)∈(l.take k).map Prod.fst
   ·have R:=Pe (Jal hz.out HX.out (Jq0 (x:=((i:Int),(j:Int))) E1.out E2.out (by rw[mp];exact d1)) Kd)
    rw[Pk d1] at lk1;clear hz d1 mp;exact Xp
   rw[Pj d1] at lk1;by_cases d2:(j:Int)∈(l.take k).map Prod.snd
   ·have R:=Pe (Jal hz.out HX.out (J9z (x:=((i:Int),(j:Int))) E1.out E2.out (by rw[mp];exact d2)) Kd)
    rw[Pk d2] at lk2;clear hz d1 d2 mp;exact Xp
   rw[Pj d2] at lk2;obtain⟨u,su,lu⟩:=Jzt (H1.out.below W9.out) k hk Ka (k:Int) rfl;have CH:=Pe (fun W (hW:Po w9 W)=>Jq6 (Jvl u (l.take k) J8 (HS.out.take k) (j:Int) JX.out W (lu.below hW)) hW);have cln:=Jy7 (l.take k) (j:Int);have CL:Hid ((chT (l.take k) (j:Int)).length<=1000000):=Nat.le_trans cln J8;have CT:=Pe (fun v W (hv:LstI W v (chT (l.take k) (j:Int)))=>J94 v (chT (l.take k) (j:Int)) CL.out (i:Int) W hv);by_cases d3:(i:Int)∈chT (l.take k) (j:Int)
   ·have R:=Pe (Jal hz.out HX.out (Jq1 (x:=((i:Int),(j:Int))) E1.out E2.out (by rw[mp];exact d1) (by rw[mp];exact d2) (by rw[mp];exact d3)) Kd)
    rw[Pk d3] at CT;generalize chT (l.take k) (j:Int)=cs at CH CT;clear hz d1 d2 d3 mp cln CL lu;go_wp2_with fail;go_region_held3 (fun W=>W.cell? ⟨wr.heap.size,0,none⟩=some (.int .i64 (i:Int))/\W.cell? ⟨wr.heap.size,1,none⟩=some (.int .i64 (j:Int))) (first | assumption | (exact⟨Kn,Kn⟩)) (first
     | (go_at_call 200;with_reducible refine(CH.out _ Km).mono ?_;rintro e wa ⟨ua,rfl,la,ba⟩;have z0:=(ba.cell (p:=⟨wr.heap.size,0,none⟩) S9.out).trans p0;have z1:=(ba.cell (p:=⟨wr.heap.size,1,none⟩) S9.out).trans p1;have LA:=Pe la;have BA:=Pe ba;clear la ba)
     | (go_at_call 199;with_reducible refine Pf (CT.out _ _ Xm) ?_))
    all_goals
     have Wa:Hid (Po w wa):=W9.out.trans (BA.out.mono W9.out.size);clear z0 z1 CH CT LA BA;go_wp2_with fail;go_ret2;exact⟨ret_chk Va Va,Wa.out⟩
   have N:=Pe (Jcd hz.out HX.out (J90 (x:=((i:Int),(j:Int))) E1.out E2.out (by rw[mp];exact d1) (by rw[mp];exact d2) (by rw[mp];exact d3)));rw[Pj d3] at CT;generalize chT (l.take k) (j:Int)=cs at CH CT;have FT:=Pe (J4g HX.out);have SN:=Pe (J4h HX.out);have n1:((l.take k).map Prod.fst).length<1000000:=Jp;have n2:((l.take k).map Prod.snd).length<1000000:=Jp;have NN:=Pe (And.intro n1 n2);clear hz d1 d2 d3 mp cln CL lu n1 n2;go_wp2_with fail;go_region_held3 (fun W=>W.cell? ⟨wr.heap.size,0,none⟩=some (.int .i64 (i:Int))/\W.cell? ⟨wr.heap.size,1,none⟩=some (.int .i64 (j:Int))) (first | assumption | (exact⟨Kn,Kn⟩)) (first
    | (go_at_call 200;with_reducible refine(CH.out _ Km).mono ?_;rintro e wa ⟨ua,rfl,la,ba⟩;have z0:=(ba.cell (p:=⟨wr.heap.size,0,none⟩) S9.out).trans p0;have z1:=(ba.cell (p:=⟨wr.heap.size,1,none⟩) S9.out).trans p1;have LA:=Pe la;have BA:=Pe ba;clear la ba)
    | (go_at_call 199;with_reducible refine Pf (CT.out _ _ Xm) ?_))
   all_goals
    have Ba:Hid (Po w1 wa):=B9.out.trans (BA.out.mono B9.out.size);have La:=Pe (L9.out.below BA.out);have Ea:=Pe (E9.out.below BA.out);have Sa:Hid (wr.heap.size<wa.heap.size):=Ps S9.out BA.out.size;have MNE:w1.heap.size≠w2.heap.size:=by have:=Z2.out;omega
    obtain⟨v1,v2,ra1,ra2,g1,g2,s1,s2,k1,bl1⟩:=Jtr (w:=wa) (W:=wa.drew) (Below.refl _ _).drew MNE La.out Ea.out (i:Int) (j:Int) IX.out JX.out NN.out.1 NN.out.2;obtain⟨u1,u2,rb1,rb2,h1',h2',t1',t2',k2,bl2⟩:=Jtr (w:=wa) (W:=wa.drew) (Below.refl _ _).drew MNE.symm Ea.out La.out (j:Int) (i:Int) JX.out IX.out NN.out.2 NN.out.1;have c0:=(World.cell?_of_block (a:=⟨wr.heap.size,0,none⟩) (k1 wr.heap.size Sa.out (Nat.ne_of_gt SL.out))).trans z0;have c1:=(World.cell?_of_block (a:=⟨wr.heap.size,1,none⟩) (k1 wr.heap.size Sa.out (Nat.ne_of_gt SL.out))).trans z1;have d0:=(World.cell?_of_block (a:=⟨wr.heap.size,0,none⟩) (k2 wr.heap.size Sa.out (Nat.ne_of_gt SB.out))).trans z0;have d1:=(World.cell?_of_block (a:=⟨wr.heap.size,1,none⟩) (k2 wr.heap.size Sa.out (Nat.ne_of_gt SB.out))).trans z1;have lw1:w1.heap.size<=wa.heap.size:=Ba.out.size;have X1:Hid (Po w1 v2):=Ba.out.trans (bl1 _ lw1 Ph (Nat.le_of_lt Z2.out));have X2:Hid (Po w1 u2):=Ba.out.trans (bl2 _ lw1 (Nat.le_of_lt Z2.out) Ph);have G1:Hid (MapN v2 w1.heap.size ((l.take (k+1)).map Prod.fst)):=by show MapN _ _ _;rw[FT.out];exact g1
    have G2:Hid (MapN v2 w2.heap.size ((l.take (k+1)).map Prod.snd)):=by show MapN _ _ _;rw[SN.out];exact g2
    have K2:Hid (MapN u2 w1.heap.size ((l.take (k+1)).map Prod.fst)):=by show MapN _ _ _;rw[FT.out];exact h2'
    have K1:Hid (MapN u2 w2.heap.size ((l.take (k+1)).map Prod.snd)):=by show MapN _ _ _;rw[SN.out];exact h1'
    clear g1 g2 h1' h2' k1 k2 bl1 bl2 s1 s2 t1' t2' La Ea Ba lw1 MNE FT SN p0 p1 su;go_wp2_with fail;go_region;all_goals
     go_wp2_with fail;go_roundw;case rel=>first | exact⟨k+1,Kj,Ka,N,G1,G2,X1⟩ | exact⟨k+1,Kj,Ka,N,K2,K1,X2⟩
     case measure=>exact Q7
  ·have R:=Pe (Jce hz.out Ka)
   have d:decide (k<l.length)=false:=Kg;clear hz hlt HL HE;go_wp2_with fail;go_ret2;exact⟨ret_chk Va Va,BW.out⟩
theorem Qad(vl:Value)(l:List Gt)(hl:l.length<=1000000)(vt:Value)(ts:List Tp)(_:ts.length<=1000000)(hts:∀x∈ts,x.2.2.2.2.2.length<=1000000)(vf:Value)(f:List Fq)(hf:f.length<=5000)(st:Int)(k:Nat)(hk:k<l.length)(a b s:Int)(hx:l[k]?=some (a,b,s))(w:World)(h1:LstU w vl l)(h2:Jcs w vt ts)(h3:LstF w vf f):
  Pc 165 #[vl,.int .i64 (k:Int),vt,vf,.int .i64 st] w (.int .i64 (guE (ts.map tcT) f st (l.take k) (a,b,s))):=by
 have H1:=Pe h1;have H2:=Pe h2;have H3:=Pe h3;have HTS:=Pe hts;have hlen:(ts.map tcT).length=ts.length:=List.length_map ..;obtain⟨c,o,e0,hc,r0,r1,r2⟩:∃c o,(∃n,vl=.slice (some ⟨c,o,none⟩) l.length n)/\c<w.heap.size/\w.cell? ⟨c,o+k*3,none⟩=some (.int .i64 a)/\w.cell? ⟨c,o+k*3+1,none⟩=some (.int .i64 b)/\w.cell? ⟨c,o+k*3+2,none⟩=some (.int .i64 s):=by
  obtain⟨A,n,rfl,-,-,-⟩:=id h1;obtain⟨c,o,rfl,hc,r0,r1,r2⟩:=three_gg h1 hx;exact⟨c,o,⟨n,rfl⟩,hc,r0,r1,r2⟩
 obtain⟨n,rfl⟩:=e0;obtain⟨⟨B,m,rfl,-,-,-⟩,-⟩:=h2;obtain⟨D,r,rfl,-,-,-⟩:=h3;have gk:(k:Int)<(l.length:Int):=Ka;obtain⟨w7,hw7⟩:=Pi (w.alloc (boxU a b s));obtain⟨b7,p0,p1,p2,s7,-⟩:=J7z hw7;have W7:Hid (Po w w7):=b7;have S7:=Pe s7;obtain⟨Q,hQ⟩:=Pi (guE (ts.map tcT) f st (l.take k) (a,b,s));rw[hQ];have HQ:=Pe hQ;have HLEN:=Pe hlen;have GR:Hid (prE ts.length f a b=9->Q=9):=fun h=>HQ.out.symm.trans (Qdg (by rw[HLEN.out];exact h))
 clear b7 hx hts s7 hQ hlen hc;by_cases n1:¬(0<=a/\a<(ts.length:Int))
 ·have R:=Pe (GR.out (pr_a n1))
  have X:=Pe (fun W=>Ji2 a (ts.length:Int) n1 W);clear n1 HQ;go_enter func165,ntmps165;go_wp2_with fail;refine Pf (X.out _) ?_;exact Xn
 have n1:=Pu n1;have X:=Pe (fun W=>Jgl a (ts.length:Int) n1 W);by_cases n2:¬(0<=b/\b<(ts.length:Int))
 ·have R:=Pe (GR.out (pr_b n2))
  have Y:=Pe (fun W=>Ji2 b (ts.length:Int) n2 W);clear n1 n2 HQ;go_enter func165,ntmps165;go_wp2_with fail;refine Pf (X.out _) ?_;go_wp2_with fail;refine Pf (Y.out _) ?_;exact Xn
 have n2:=Pu n2;have Y:=Pe (fun W=>Jgl b (ts.length:Int) n2 W);by_cases n3:a=b
 ·have R:=Pe (GR.out (J4c n3))
  have g3:=Jag n3;clear n1 n2 n3 HQ GR;go_enter func165,ntmps165;go_wp2_with fail;refine Pf (X.out _) ?_;go_wp2_with fail;refine Pf (Y.out _) ?_;exact Xn
 have g3:=Jaa n3;by_cases n0:¬(0<=s/\s<st)
 ·have R:Hid (Q=9):=HQ.out.symm.trans (Jq3 n0)
  have Z:=Pe (fun W=>Ji2 s st n0 W);clear n1 n2 n3 n0 HQ;go_enter func165,ntmps165;go_wp2_with fail;refine Pf (X.out _) ?_;go_wp2_with fail;refine Pf (Y.out _) ?_;go_wp2_with fail;refine Pf (Z.out _) ?_;exact Xn
 have n0:=Pu n0;have Z:=Pe (fun W=>Jgl s st n0 W);have F1:=Pe (Jii (.slice D f.length r) f hf a w7 (H3.out.below W7.out));have F2:=Pe (Jii (.slice D f.length r) f hf b w7 (H3.out.below W7.out));have GP:Hid (prE ts.length f a b=17->Q=17):=fun h=>HQ.out.symm.trans ((Jq4 n0 (by rw[HLEN.out,h];decide)).trans (by rw[HLEN.out];exact h))
 have N0:=Pe n0;cases n4:repF a f with
 | true =>
  rw[n4] at F1;have R:=Pe (GP.out (J4d n1 n2 n3 n4));clear n0 n1 n2 n3 n4 HQ F2 GR GP;go_enter func165,ntmps165;go_wp2_with fail;refine Pf (X.out _) ?_;go_wp2_with fail;refine Pf (Y.out _) ?_;go_wp2_with fail;refine Pf (Z.out _) ?_;go_wp2_with fail;refine Pf F1.out ?_;exact Xn
 | false =>
 rw[n4] at F1;cases n5:repF b f with
 | true =>
  rw[n5] at F2;have R:=Pe (GP.out (J4e n1 n2 n3 n5));clear n0 n1 n2 n3 n4 n5 HQ GR GP;go_enter func165,ntmps165;go_wp2_with fail;refine Pf (X.out _) ?_;go_wp2_with fail;refine Pf (Y.out _) ?_;go_wp2_with fail;refine Pf (Z.out _) ?_;go_wp2_with fail;refine Pf F1.out ?_;go_wp2_with fail;refine Pf F2.out ?_;exact Xn
 | false =>
 rw[n5] at F2;have E1:Hid (prE (ts.map tcT).length f a b=0):=by rw[HLEN.out];exact J9y n1 n2 n3 n4 n5
 obtain⟨i,rfl⟩:∃i:Nat,a=(i:Int):=⟨a.toNat,Ka⟩;obtain⟨j,rfl⟩:∃j:Nat,b=(j:Int):=⟨b.toNat,Ka⟩;obtain⟨⟨xi,xr,xc,xf,xv,xl⟩,tx⟩:=Jah (l:=ts) (k:=i) Ka;obtain⟨⟨yi,yr,yc,yf,yv,yl⟩,ty⟩:=Jah (l:=ts) (k:=j) Ka;obtain⟨xn,hxn⟩:=Pi (str xi);obtain⟨yn,hyn⟩:=Pi (str yi);have hxl:xl.length<=1000000:=HTS.out _ (List.mem_iff_getElem?.2 ⟨_,tx⟩);have hyl:yl.length<=1000000:=HTS.out _ (List.mem_iff_getElem?.2 ⟨_,ty⟩);have AX:=Pe (Jox tx);have AY:=Pe (Jox ty);have gi:(i:Int)<(ts.length:Int):=n1.2;have gj:(j:Int)<(ts.length:Int):=n2.2;have TX:=Pe tx;have TY:=Pe ty;have XN:=Pe hxn;have YN:=Pe hyn;have T8:=Pe (H2.out.below W7.out);obtain⟨bx,ox,Bx,mx,ex,rfl,hbx,-,-,-,-,x4,lx,-,-⟩:=Ja7 T8.out TX.out XN.out;obtain⟨by_,oy,By,my,ey,rfl,hby,-,-,-,-,y4,ly,-,-⟩:=Ja7 T8.out TY.out YN.out;subst ex;cases ey;have HBX:=Pe hbx;have KC:=Pe (fun W (hW:Po w7 W)=>Jq7 (Qac (.slice Bx xl.length mx) (.slice By yl.length my) xl yl hxl hyl s W (lx.below hW) (ly.below hW)) hW);have A1:(meT s (tcA (ts.map tcT) (i:Int)).2 (tcA (ts.map tcT) (j:Int)).2).2.2=(meT s xl yl).2.2:=by rw[AX.out,AY.out]
 have A2:=Pe A1;clear A1 hbx hby lx ly n0 n1 n2 n3 n4 n5 tx ty hxn hyn GR GP;generalize (meT s xl yl).1=u1 at KC;generalize (meT s xl yl).2.1=u2 at KC;generalize (meT s xl yl).2.2=u3 at KC A2;go_enter func165,ntmps165;go_wp2_with fail;refine Pf (X.out _) ?_;go_wp2_with fail;refine Pf (Y.out _) ?_;go_wp2_with fail;refine Pf (Z.out _) ?_;go_wp2_with fail;refine Pf F1.out ?_;go_wp2_with fail;refine Pf F2.out ?_;clear F1 F2 X Y Z hw7;cases u3 with
 | false =>
  have R:Hid (Q=19):=HQ.out.symm.trans (Jzi N0.out E1.out A2.out);go_wp2_with fail;go_region_held3 (fun W=>W.cell? ⟨w.heap.size,0,none⟩=some (.int .i64 (i:Int))/\W.cell? ⟨w.heap.size,1,none⟩=some (.int .i64 (j:Int))/\W.cell? ⟨w.heap.size,2,none⟩=some (.int .i64 s)/\W.cell? ⟨bx,ox+i*5+4,none⟩=some (.slice Bx xl.length mx)/\W.cell? ⟨bx,ox+j*5+4,none⟩=some (.slice By yl.length my)) (first | assumption | (exact⟨Kn,Kn,Kn,Kn,Kn⟩)) (first
   | (go_at_call 241;with_reducible refine(KC.out _ Km).mono ?_;rintro e w9 ⟨rfl,b9⟩;have z0:=(b9.cell (p:=⟨w.heap.size,0,none⟩) S7.out).trans p0;have z1:=(b9.cell (p:=⟨w.heap.size,1,none⟩) S7.out).trans p1;have z2:=(b9.cell (p:=⟨w.heap.size,2,none⟩) S7.out).trans p2;have z3:=(b9.cell (p:=⟨bx,ox+i*5+4,none⟩) HBX.out).trans x4;have z4:=(b9.cell (p:=⟨bx,ox+j*5+4,none⟩) HBX.out).trans y4))
  have W9:Hid (Po w w9):=W7.out.trans (b9.mono W7.out.size);clear b9 KC z0 z1 z2 z3 z4;go_wp2_with fail;go_ret;exact⟨Jad Va,W9.out⟩
 | true =>
  go_wp2_with fail;go_region_held3 (fun W=>W.cell? ⟨w.heap.size,0,none⟩=some (.int .i64 (i:Int))/\W.cell? ⟨w.heap.size,1,none⟩=some (.int .i64 (j:Int))/\W.cell? ⟨w.heap.size,2,none⟩=some (.int .i64 s)/\W.cell? ⟨bx,ox+i*5+4,none⟩=some (.slice Bx xl.length mx)/\W.cell? ⟨bx,ox+j*5+4,none⟩=some (.slice By yl.length my)) (first | assumption | (exact⟨Kn,Kn,Kn,Kn,Kn⟩)) (first
   | (go_at_call 241;with_reducible refine(KC.out _ Km).mono ?_;rintro e w9 ⟨rfl,b9⟩;have z0:=(b9.cell (p:=⟨w.heap.size,0,none⟩) S7.out).trans p0;have z1:=(b9.cell (p:=⟨w.heap.size,1,none⟩) S7.out).trans p1;have z2:=(b9.cell (p:=⟨w.heap.size,2,none⟩) S7.out).trans p2;have z3:=(b9.cell (p:=⟨bx,ox+i*5+4,none⟩) HBX.out).trans x4;have z4:=(b9.cell (p:=⟨bx,ox+j*5+4,none⟩) HBX.out).trans y4))
  have W9:Hid (Po w w9):=W7.out.trans (b9.mono W7.out.size);have S9:Hid (w.heap.size<w9.heap.size):=Ps S7.out b9.size;clear b9 KC z3 z4 p0 p1 p2 x4 y4 T8 W7 S7 r0 r1 r2;go_wp2_with fail;go_loopw [15] (fun x wr=>∃d:Nat,x=.int .i64 d/\d<=k/\Hid (∀(y:Nat) z,y<d->l[y]?=some z->z≠((i:Int),(j:Int),s))/\Hid (∃n,wr=w9.drewN n)) (fun x _=>k - (intOf x).toNat);case atStart=>exact⟨0,rfl,Nat.zero_le _,Pe (fun y z hy=>absurd hy (Nat.not_lt_zero _)),Pe ⟨0,rfl⟩⟩
  case round =>
   obtain⟨d,rfl,hd,hall,hn⟩:=hrel;by_cases hlt:d<k
   ·obtain⟨⟨da,db,ds⟩,hdx⟩:=Jah (l:=l) (k:=d) Ka
    have hbw:=Jar hn.out;obtain⟨c',o',e',-,s0,s1,s2⟩:=three_gg (H1.out.below (W9.out.trans (hbw.mono W9.out.size))) hdx;cases e';have p0:=(hbw.cell (p:=⟨w.heap.size,0,none⟩) S9.out).trans z0;have p1:=(hbw.cell (p:=⟨w.heap.size,1,none⟩) S9.out).trans z1;have p2:=(hbw.cell (p:=⟨w.heap.size,2,none⟩) S9.out).trans z2;have gd:(d:Int)<(l.length:Int):=Ka;have gdk:(d:Int)<(k:Int):=Ka;by_cases n8:(da,db,ds)=((i:Int),(j:Int),s)
    ·have EQ:=J75 da db ds (i:Int) (j:Int) s true (Pk n8)
     have R:Hid (Q=6):=HQ.out.symm.trans (Jtl N0.out E1.out A2.out (by
      have:=Jdk (key:=idG) hlt hdx n8;rw[Jq2] at this;exact this))
     clear n8 hall hdx hbw;go_wp2_with fail;go_quiet (fail);go_wp2_with fail;go_ret;exact⟨Jad Va,W9.out.trans ((Jar (Jb4 hn nq).out).mono W9.out.size)⟩
    have EQ:=J75 da db ds (i:Int) (j:Int) s false (Pj n8);have N:Hid (∀(y:Nat) z,y<d+1->l[y]?=some z->z≠((i:Int),(j:Int),s)):=by
     intro y z hy hz;by_cases hyd:y<d
     ·exact hall.out y z hyd hz
     ·obtain rfl:y=d:=Ka
      rw[hdx] at hz;obtain rfl:=Pp hz;exact n8
    clear n8 hall hdx hbw;go_wp2_with fail;go_quiet (fail);go_wp2_with fail;go_roundw;case rel=>exact⟨d+1,Kj,Ka,N,Jb4 hn nq⟩
    case measure=>exact Q7
   ·obtain rfl:d=k:=Ka
    have dd:decide (d<d)=false:=Ke;have A3:((i:Int),(j:Int),s) ∉ l.take d:=by
     have:=Jcy (key:=idG) (l:=l) (k:=d) (fun y z hy hz=>hall.out y z hy hz);rw[Jq2] at this;exact this
    have WR:Hid (Po w wr):=W9.out.trans ((Jar hn.out).mono W9.out.size);have R:Hid (Q=0):=HQ.out.symm.trans (Qdh N0.out E1.out A2.out A3);clear hall hlt A3;go_wp2_with fail;go_ret;exact⟨Jad Va,WR.out⟩
theorem rchku_any(vl:Value)(l:List Gt)(hl:l.length<=1000000)(vt:Value)(ts:List Tp)(htl:ts.length<=1000000)(hts:∀x∈ts,x.2.2.2.2.2.length<=1000000)(vf:Value)(f:List Fq)(hf:f.length<=5000)(st:Int)(w:World)(h1:LstU w vl l)(h2:Jcs w vt ts)(h3:LstF w vf f):
  Pc 75 #[vl,vt,vf,.int .i64 st] w (.tuple #[.int .i64 ((chkU (ts.map tcT) f st l).1),.int .i64 ((chkU (ts.map tcT) f st l).2)]):=by
 have H1:=Pe h1;have H2:=Pe h2;have H3:=Pe h3;have HTS:=Pe hts;obtain⟨A,n,rfl,-,-,-⟩:=h1;clear h2 h3 hts;by_cases hm:128<l.length
 ·have R:=Pe (Jov (ts:=ts.map tcT) (f:=f) (st:=st) hm)
  have g:(128:Int)<(l.length:Int):=Ka;generalize chkU (ts.map tcT) f st l=q at R |-;clear hm;go_enter func75,ntmps75;exact Vc
 have g:decide ((128:Int)<(l.length:Int))=false:=Q8;have ST:=Pe (Jks (ts:=ts.map tcT) (f:=f) (st:=st) (l:=l) hm);obtain⟨q,hq⟩:=Pi (chkU (ts.map tcT) f st l);rw[hq];rw[hq] at ST;clear hm hq;go_enter func75,ntmps75;go_wp2_with fail;go_loopw [10] (fun i wr=>∃k:Nat,i=.int .i64 k/\k<=l.length/\Hid (q=fbF (guE (ts.map tcT) f st) idG ((l.take k).map idG) k (l.drop k))/\Hid (Po w wr)) (fun i _=>l.length - (intOf i).toNat);case atStart=>exact⟨0,rfl,Nat.zero_le _,ST,Pe Pg⟩
 case round =>
  clear g ST;obtain⟨k,rfl,hk,hz,HB⟩:=hrel;by_cases hlt:k<l.length
  ·obtain⟨⟨a,b,s⟩,hx⟩:=Jah hlt
   have gk:(k:Int)<(l.length:Int):=Ka;have C:=Pe (Qad (.slice A l.length n) l hl vt ts htl HTS.out vf f hf st k hlt a b s hx wr (H1.out.below HB.out) (H2.out.below HB.out) (H3.out.below HB.out));have BE:guE (ts.map tcT) f st ((l.take k).map idG) (a,b,s)=guE (ts.map tcT) f st (l.take k) (a,b,s):=by rw[Jq2]
   by_cases he:guE (ts.map tcT) f st (l.take k) (a,b,s)=0
   ·have N:=Pe (Jcd hz.out hx (BE.trans he))
    rw[he] at C;clear hz hx he BE;go_wp2_with fail;refine C.out.mono ?_;rintro e w1 ⟨rfl,b1⟩;have B1:Hid (Po w w1):=HB.out.trans (b1.mono HB.out.size);clear b1 C HB;go_wp2_with fail;go_roundw;case rel=>exact⟨k+1,Kj,Ka,N,B1⟩
    case measure=>exact Q7
   ·have R:=Pe (Jal hz.out hx BE he)
    have ne:=Jaf he;generalize guE (ts.map tcT) f st (l.take k) (a,b,s)=z at C R ne;clear hz hx he BE;go_wp2_with fail;refine C.out.mono ?_;exact X5
  ·have R:=Pe (Jce hz.out Ka)
   have d:decide (k<l.length)=false:=Kg;clear hz hlt;exact V7
theorem rone_any(vl:Value)(l:List Th)(hl:l.length<=900000)(vt:Value)(ts:List Tp)(_:ts.length<=1000000)(hts:∀x∈ts,x.2.2.2.2.2.length<=1000000)(vf:Value)(f:List Fq)(hf:f.length<=5000)(k:Nat)(hk:k<l.length)(a b:Int)(hx:l[k]?=some (a,b))(w:World)(h1:LstH w vl l)(h2:Jcs w vt ts)(h3:LstF w vf f):
  Pc 164 #[vl,.int .i64 (k:Int),vt,vf] w (.int .i64 (thE (ts.map tcT) f (l.take k) (a,b))):=by
 have H1:=Pe h1;have H2:=Pe h2;have H3:=Pe h3;have HTS:=Pe hts;have hlen:(ts.map tcT).length=ts.length:=List.length_map ..;obtain⟨c,o,e0,hc,r0,r1⟩:∃c o,(∃n,vl=.slice (some ⟨c,o,none⟩) l.length n)/\c<w.heap.size/\w.cell? ⟨c,o+k*2,none⟩=some (.int .i64 a)/\w.cell? ⟨c,o+k*2+1,none⟩=some (.int .i64 b):=by
  obtain⟨A,n,rfl,-,-,-⟩:=id h1;obtain⟨c,o,rfl,hc,r0,r1⟩:=two_hh h1 hx;exact⟨c,o,⟨n,rfl⟩,hc,r0,r1⟩
 obtain⟨n,rfl⟩:=e0;obtain⟨⟨B,m,rfl,-,-,-⟩,-⟩:=h2;obtain⟨D,r,rfl,-,-,-⟩:=h3;have gk:(k:Int)<(l.length:Int):=Ka;obtain⟨w7,hw7⟩:=Pi (w.alloc (boxH a b));obtain⟨b7,p0,p1,s7,-⟩:=Jzj hw7;have W7:Hid (Po w w7):=b7;have HX:=Pe hx;have S7:=Pe s7;obtain⟨Q,hQ⟩:=Pi (thE (ts.map tcT) f (l.take k) (a,b));rw[hQ];have HQ:=Pe hQ;have TP:=Pe (Jzf (ts:=ts.map tcT) (f:=f) (seen:=l.take k) (x:=(a,b)));have HLEN:=Pe hlen;rw[hlen] at TP;clear b7 hx hts s7 hQ hlen hc;by_cases n1:¬(0<=a/\a<(ts.length:Int))
 ·have R:Hid (Q=9):=HQ.out.symm.trans ((TP.out (by rw[pr_a n1];decide)).trans (pr_a n1))
  have X:=Pe (fun W=>Ji2 a (ts.length:Int) n1 W);clear n1 TP HQ;go_enter func164,ntmps164;go_wp2_with fail;refine Pf (X.out _) ?_;exact Xn
 have n1:=Pu n1;have X:=Pe (fun W=>Jgl a (ts.length:Int) n1 W);by_cases n2:¬(0<=b/\b<(ts.length:Int))
 ·have R:Hid (Q=9):=HQ.out.symm.trans ((TP.out (by rw[pr_b n2];decide)).trans (pr_b n2))
  have Y:=Pe (fun W=>Ji2 b (ts.length:Int) n2 W);clear n1 n2 TP HQ;go_enter func164,ntmps164;go_wp2_with fail;refine Pf (X.out _) ?_;go_wp2_with fail;refine Pf (Y.out _) ?_;exact Xn
 have n2:=Pu n2;have Y:=Pe (fun W=>Jgl b (ts.length:Int) n2 W);by_cases n3:a=b
 ·have R:Hid (Q=9):=HQ.out.symm.trans ((TP.out (by rw[show((a,b):Th).1=((a,b):Th).2 from n3,J4c rfl];decide)).trans (J4c n3))
  have g3:=Jag n3;clear n1 n2 n3 TP HQ;go_enter func164,ntmps164;go_wp2_with fail;refine Pf (X.out _) ?_;go_wp2_with fail;refine Pf (Y.out _) ?_;exact Xn
 have g3:=Jaa n3;have F1:=Pe (Jii (.slice D f.length r) f hf a w7 (H3.out.below W7.out));have F2:=Pe (Jii (.slice D f.length r) f hf b w7 (H3.out.below W7.out));cases n4:repF a f with
 | true =>
  rw[n4] at F1;have R:Hid (Q=17):=HQ.out.symm.trans ((TP.out (by rw[J4d n1 n2 n3 n4];decide)).trans (J4d n1 n2 n3 n4));clear n1 n2 n3 n4 TP HQ F2;go_enter func164,ntmps164;go_wp2_with fail;refine Pf (X.out _) ?_;go_wp2_with fail;refine Pf (Y.out _) ?_;go_wp2_with fail;refine Pf F1.out ?_;exact Xn
 | false =>
 rw[n4] at F1;cases n5:repF b f with
 | true =>
  rw[n5] at F2;have R:Hid (Q=17):=HQ.out.symm.trans ((TP.out (by rw[J4e n1 n2 n3 n5];decide)).trans (J4e n1 n2 n3 n5));clear n1 n2 n3 n4 n5 TP HQ;go_enter func164,ntmps164;go_wp2_with fail;refine Pf (X.out _) ?_;go_wp2_with fail;refine Pf (Y.out _) ?_;go_wp2_with fail;refine Pf F1.out ?_;go_wp2_with fail;refine Pf F2.out ?_;exact Xn
 | false =>
 rw[n5] at F2;have E1:Hid (prE (ts.map tcT).length f a b=0):=by rw[HLEN.out];exact J9y n1 n2 n3 n4 n5
 obtain⟨i,rfl⟩:∃i:Nat,a=(i:Int):=⟨a.toNat,Ka⟩;obtain⟨j,rfl⟩:∃j:Nat,b=(j:Int):=⟨b.toNat,Ka⟩;have gi:(i:Int)<(ts.length:Int):=n1.2;have gj:(j:Int)<(ts.length:Int):=n2.2;obtain⟨⟨xi,xr,xc,xf,xv,xl⟩,tx⟩:=Jah (l:=ts) (k:=i) Ka;obtain⟨⟨yi,yr,yc,yf,yv,yl⟩,ty⟩:=Jah (l:=ts) (k:=j) Ka;obtain⟨xn,hxn⟩:=Pi (str xi);obtain⟨yn,hyn⟩:=Pi (str yi);have hxl:xl.length<=1000000:=HTS.out _ (List.mem_iff_getElem?.2 ⟨_,tx⟩);obtain⟨bx,ox,Bx,mx,ex,rfl,hbx,x0,x1,x2,x3,x4,lx,-,-⟩:=Ja7 (H2.out.below W7.out) tx hxn;obtain⟨by_,oy,By,my,ey,rfl,hby,y0,y1,y2,y3,y4,ly,-,-⟩:=Ja7 (H2.out.below W7.out) ty hyn;subst ex;cases ey;have LX:=Pe lx;have LY:=Pe ly;have AX:=Pe (Jox tx);have AY:=Pe (Jox ty);have THP:=Pe (Jzg (ts:=ts.map tcT) (f:=f) (seen:=l.take k) (x:=((i:Int),(j:Int))) E1.out);rw[show tcA (ts.map tcT) (((i:Int),(j:Int)):Th).1=(xc,xl) from AX.out,show tcA (ts.map tcT) (((i:Int),(j:Int)):Th).2=(yc,yl) from AY.out] at THP;have ND:=Pe n3;clear n1 n2 n3 n4 n5 TP tx ty hxn hyn hbx hby lx ly;go_enter func164,ntmps164;go_wp2_with fail;refine Pf (X.out _) ?_;go_wp2_with fail;refine Pf (Y.out _) ?_;go_wp2_with fail;refine Pf F1.out ?_;go_wp2_with fail;refine Pf F2.out ?_;clear F1 F2 X Y hw7;go_wp2_with fail;go_region_held3 (fun W=>W.cell? ⟨w.heap.size,0,none⟩=some (.int .i64 (i:Int))/\W.cell? ⟨w.heap.size,1,none⟩=some (.int .i64 (j:Int))/\W.cell? ⟨bx,ox+i*5,none⟩=some (.string xn)/\W.cell? ⟨bx,ox+i*5+1,none⟩=some (.int .i64 xr)/\W.cell? ⟨bx,ox+i*5+2,none⟩=some (.int .i64 xc)/\W.cell? ⟨bx,ox+i*5+3,none⟩=some (.bool xf)/\W.cell? ⟨bx,ox+i*5+4,none⟩=some (.slice Bx xl.length mx)/\W.cell? ⟨bx,ox+j*5,none⟩=some (.string yn)/\W.cell? ⟨bx,ox+j*5+1,none⟩=some (.int .i64 yr)/\W.cell? ⟨bx,ox+j*5+2,none⟩=some (.int .i64 yc)/\W.cell? ⟨bx,ox+j*5+3,none⟩=some (.bool yf)/\W.cell? ⟨bx,ox+j*5+4,none⟩=some (.slice By yl.length my)) (go_keep) (first | fail)
 ·obtain⟨w9,hw9,z9,rx,ry,b9⟩:=Jd0 w7 (boxT xn xr xc xf (.slice Bx xl.length mx)) (boxT yn yr yc yf (.slice By yl.length my))
  rw[hw9];have b9':=b9.drew;obtain⟨-,-,u2,-,u4⟩:=Jfr (w:=w9.drew) rx;obtain⟨-,-,v2,-,v4⟩:=Jfr (w:=w9.drew) ry;have p0:=(b9'.cell (p:=⟨w.heap.size,0,none⟩) S7.out).trans p0;have p1:=(b9'.cell (p:=⟨w.heap.size,1,none⟩) S7.out).trans p1;have W9:Hid (Po w w9.drew):=W7.out.trans (b9'.mono W7.out.size);have L9:=Pe (LX.out.below b9');have M9:=Pe (LY.out.below b9');have Z9:Hid (w.heap.size<w9.drew.heap.size/\w7.heap.size+1<w9.drew.heap.size):=by
   exact Ya
  clear hw9 z9 rx ry b9 b9' x0 x1 x2 x3 x4 y0 y1 y2 y3 y4 LX LY W7 S7 r0 r1;generalize w9.drew=w8 at *;by_cases hcal:¬xc=yc
  ·have d0:=Jaf hcal
   exact Xt
  have hcal:=Pu hcal;have d0:=Jap hcal;have HCAL:=Pe hcal;clear hcal;by_cases hx0:xl.length=0
  ·have e1:(xl.length:Int) - 1=-1:=Ka
   have R:Hid (Q=13):=HQ.out.symm.trans ((THP.out (by rw[Ji1 HCAL.out hx0];decide)).trans (Ji1 HCAL.out hx0));clear hx0 HQ THP;go_wp2_with fail;go_quiet (fail);exact Xk
  obtain⟨t,ht⟩:=Pi (xl.length - 1);have e1:(xl.length:Int) - 1=(t:Int):=Ka;have tle:t<=1000000:=Ka;have tn:(t:Int)<(xl.length:Int):=Ka;have wk:IntKind.i64.wrap (t:Int)=(t:Int):=IntWalk.i64_in _ Ka;have tp:decide ((t:Int)<0)=false:=Pj Ka;by_cases hy0:yl.length=0
  ·have g1:((yl.length:Int)==0)=true:=Jag Ka
   have g1':(yl.length==0)=true:=by rw[hy0];rfl
   have R:Hid (Q=13):=HQ.out.symm.trans ((THP.out (by rw[Jy8 HCAL.out hy0];decide)).trans (Jy8 HCAL.out hy0));clear hx0 hy0 HQ THP ht;go_wp2_with fail;go_quiet (fail);exact Xk
  have g1:((yl.length:Int)==0)=false:=Jaa Ka;have g1':(yl.length==0)=false:=by rw[beq_eq_false_iff_ne];exact hy0
  have gn:(0:Int)<(yl.length:Int):=Ka;have gn':0<yl.length:=Ka;obtain⟨⟨qs,qa,qd,qo,qu⟩,hyq⟩:=Jah (l:=yl) (k:=0) Ka;obtain⟨⟨ps,pa,pd,po,pu⟩,hxp⟩:=Jah (l:=xl) (k:=xl.length - 1) Ka;have XP:=Pe hxp;have YQ:=Pe hyq;rw[ht] at hxp;obtain⟨bp,op,rfl,hbp,m0,m1,m2,m3,m4⟩:=Ja6 L9.out hxp;obtain⟨bq,oq,rfl,hbq,t0,t1,t2,t3,t4⟩:=Ja6 M9.out hyq;rw[Nat.zero_mul,Nat.add_zero] at t0 t1 t2 t3 t4;clear hxp hyq hx0 hy0 ht m3 m4 t3 t4 m2 t1 hbp hbq L9 M9;by_cases n6:¬ps=qs
  ·have g6:=Jaf n6
   have R:Hid (Q=13):=HQ.out.symm.trans ((THP.out (by rw[Jhd HCAL.out XP.out YQ.out n6];decide)).trans (Jhd HCAL.out XP.out YQ.out n6));clear n6 HQ THP XP YQ;go_wp2_with fail;go_quiet (fail);exact Xk
  have n6:=Pu n6;have g6:=Jap n6;have N6:=Pe n6;clear n6;by_cases n7:qd<pa
  ·have R:Hid (Q=10):=HQ.out.symm.trans ((THP.out Yf).trans (Jhe HCAL.out XP.out YQ.out N6.out n7))
   clear HQ THP XP YQ;go_wp2_with fail;go_quiet (fail);generalize nq=na;go_wp2_with fail;go_quiet (fail);exact X6
  have g7:decide (qd<pa)=false:=Pj n7;have E2:Hid (psE (tcA (ts.map tcT) (i:Int)) (tcA (ts.map tcT) (j:Int))=0):=X9;clear n7 THP XP YQ;go_wp2_with fail;go_quiet (fail);generalize nq=na;go_wp2_with fail;go_quiet (fail);have B4:Po w8 ((w8.drewN na).drewN nq):=Jab (Jab Pg na) nq;generalize (w8.drewN na).drewN nq=w4 at B4 |-;have W4:Hid (Po w w4):=W9.out.trans (B4.mono W9.out.size);have p0:=(B4.cell (p:=⟨w.heap.size,0,none⟩) Z9.out.1).trans p0;have p1:=(B4.cell (p:=⟨w.heap.size,1,none⟩) Z9.out.1).trans p1;have Z4:Hid (w.heap.size<w4.heap.size):=Ps Z9.out.1 B4.size;clear u2 u4 v2 v4 m0 m1 t0 t2 d0 g1 g1' gn gn' g6 g7 e1 tle tn wk tp B4 W9 Z9 N6 HCAL;go_wp2_with fail;go_loopw [13] (fun x wr=>∃d:Nat,x=.int .i64 d/\d<=k/\Hid (∀(y:Nat) z,y<d->l[y]?=some z->z.1≠(i:Int)/\z.2≠(j:Int))/\Hid (∃n,wr=w4.drewN n)) (fun x _=>k - (intOf x).toNat);case atStart=>exact⟨0,rfl,Nat.zero_le _,Pe (fun y z hy=>absurd hy (Nat.not_lt_zero _)),Pe ⟨0,rfl⟩⟩
  case round =>
   obtain⟨d,rfl,hd,hall,hn⟩:=hrel;by_cases hlt:d<k
   ·obtain⟨⟨da,db⟩,hdx⟩:=Jah (l:=l) (k:=d) Ka
    have hbw:=Jar hn.out;obtain⟨c',o',e',-,s0,s1⟩:=two_hh (H1.out.below (W4.out.trans (hbw.mono W4.out.size))) hdx;cases e';have p0:=(hbw.cell (p:=⟨w.heap.size,0,none⟩) Z4.out).trans p0;have p1:=(hbw.cell (p:=⟨w.heap.size,1,none⟩) Z4.out).trans p1;have gd:(d:Int)<(l.length:Int):=Ka;have gdk:(d:Int)<(k:Int):=Ka;by_cases n8:da=(i:Int)
    ·have g8:=Jag n8
     have R:Hid (Q=6):=HQ.out.symm.trans (Jq0 E1.out E2.out (Jdk (key:=Prod.fst) hlt hdx n8));clear n8 hall hdx hbw;go_wp2_with fail;go_quiet (fail);exact Xo
    have g8:=Jaa n8;by_cases n9:db=(j:Int)
    ·have g9:=Jag n9
     have R:Hid (Q=6):=HQ.out.symm.trans (J9z E1.out E2.out (Jdk (key:=Prod.snd) hlt hdx n9));clear n8 n9 hall hdx hbw;go_wp2_with fail;go_quiet (fail);exact Xo
    have g9:=Jaa n9;have N:Hid (∀(y:Nat) z,y<d+1->l[y]?=some z->z.1≠(i:Int)/\z.2≠(j:Int)):=by
     intro y z hy hz;by_cases hyd:y<d
     ·exact hall.out y z hyd hz
     ·obtain rfl:y=d:=Ka
      rw[hdx] at hz;obtain rfl:=Pp hz;exact⟨n8,n9⟩
    clear n8 n9 hall hdx hbw;go_wp2_with fail;go_quiet (fail);go_wp2_with fail;go_roundw;case rel=>exact⟨d+1,Kj,Ka,N,Jb4 hn nq⟩
    case measure=>exact Q7
   ·obtain rfl:d=k:=Ka
    have dd:decide (d<d)=false:=Ke;have A1:(i:Int) ∉ (l.take d).map Prod.fst:=Jcy (key:=Prod.fst) (fun y z hy hz=>(hall.out y z hy hz).1);have A2:(j:Int) ∉ (l.take d).map Prod.snd:=Jcy (key:=Prod.snd) (fun y z hy hz=>(hall.out y z hy hz).2);have hbw:=Jar hn.out;have WR:Hid (Po w wr):=W4.out.trans (hbw.mono W4.out.size);have p0:=(hbw.cell (p:=⟨w.heap.size,0,none⟩) Z4.out).trans p0;have p1:=(hbw.cell (p:=⟨w.heap.size,1,none⟩) Z4.out).trans p1;have ZR:Hid (w.heap.size<wr.heap.size):=Ps Z4.out hbw.size;obtain⟨u,su,lu⟩:=Jzt (H1.out.below WR.out) d Ka Ka (d:Int) rfl;have CH:=Pe (fun W (hW:Po wr W)=>Jq6 (Jkt u (l.take d) J8 (j:Int) W (lu.below hW)) hW);have cln:=Jy7 (l.take d) (j:Int);have CL:Hid ((chT (l.take d) (j:Int)).length<=1000000):=Nat.le_trans cln J8;have CT:=Pe (fun v W (hv:LstI W v (chT (l.take d) (j:Int)))=>Jl9 v (chT (l.take d) (j:Int)) CL.out (i:Int) W hv);by_cases d3:(i:Int)∈chT (l.take d) (j:Int)
    ·have R:Hid (Q=19):=HQ.out.symm.trans (Jq1 E1.out E2.out A1 A2 d3)
     rw[Pk d3] at CT;generalize chT (l.take d) (j:Int)=cs at CH CT;clear d3 cln CL lu A1 A2 hall hn hbw;go_wp2_with fail;go_region_held3 (fun W=>W.cell? ⟨w.heap.size,0,none⟩=some (.int .i64 (i:Int))/\W.cell? ⟨w.heap.size,1,none⟩=some (.int .i64 (j:Int))) (first | assumption | (exact⟨Kn,Kn⟩)) (first
      | (go_at_call 240;with_reducible refine(CH.out _ Km).mono ?_;rintro e wa ⟨ua,rfl,la,ba⟩;have z0:=(ba.cell (p:=⟨w.heap.size,0,none⟩) ZR.out).trans p0;have z1:=(ba.cell (p:=⟨w.heap.size,1,none⟩) ZR.out).trans p1;have LA:=Pe la;have BA:=Pe ba;clear la ba)
      | (go_at_call 239;with_reducible refine Pf (CT.out _ _ Xm) ?_))
     all_goals
      exact Xl
    have R:Hid (Q=0):=HQ.out.symm.trans (J90 E1.out E2.out A1 A2 d3);rw[Pj d3] at CT;generalize chT (l.take d) (j:Int)=cs at CH CT;clear d3 cln CL lu A1 A2 hall hn hbw;go_wp2_with fail;go_region_held3 (fun W=>W.cell? ⟨w.heap.size,0,none⟩=some (.int .i64 (i:Int))/\W.cell? ⟨w.heap.size,1,none⟩=some (.int .i64 (j:Int))) (first | assumption | (exact⟨Kn,Kn⟩)) (first
     | (go_at_call 240;with_reducible refine(CH.out _ Km).mono ?_;rintro e wa ⟨ua,rfl,la,ba⟩;have z0:=(ba.cell (p:=⟨w.heap.size,0,none⟩) ZR.out).trans p0;have z1:=(ba.cell (p:=⟨w.heap.size,1,none⟩) ZR.out).trans p1;have LA:=Pe la;have BA:=Pe ba;clear la ba)
     | (go_at_call 239;with_reducible refine Pf (CT.out _ _ Xm) ?_))
    all_goals
     exact Xl
 ·obtain⟨w9,hw9,z9,ry,rx,b9⟩:=Jd0 w7 (boxT yn yr yc yf (.slice By yl.length my)) (boxT xn xr xc xf (.slice Bx xl.length mx))
  rw[hw9];have b9':=b9.drew;obtain⟨-,-,u2,-,u4⟩:=Jfr (w:=w9.drew) rx;obtain⟨-,-,v2,-,v4⟩:=Jfr (w:=w9.drew) ry;have p0:=(b9'.cell (p:=⟨w.heap.size,0,none⟩) S7.out).trans p0;have p1:=(b9'.cell (p:=⟨w.heap.size,1,none⟩) S7.out).trans p1;have W9:Hid (Po w w9.drew):=W7.out.trans (b9'.mono W7.out.size);have L9:=Pe (LX.out.below b9');have M9:=Pe (LY.out.below b9');have Z9:Hid (w.heap.size<w9.drew.heap.size/\w7.heap.size+1<w9.drew.heap.size):=by
   exact Ya
  clear hw9 z9 rx ry b9 b9' x0 x1 x2 x3 x4 y0 y1 y2 y3 y4 LX LY W7 S7 r0 r1;generalize w9.drew=w8 at *;by_cases hcal:¬xc=yc
  ·have d0:=Jaf hcal
   exact Xt
  have hcal:=Pu hcal;have d0:=Jap hcal;have HCAL:=Pe hcal;clear hcal;by_cases hx0:xl.length=0
  ·have e1:(xl.length:Int) - 1=-1:=Ka
   have R:Hid (Q=13):=HQ.out.symm.trans ((THP.out (by rw[Ji1 HCAL.out hx0];decide)).trans (Ji1 HCAL.out hx0));clear hx0 HQ THP;go_wp2_with fail;go_quiet (fail);exact Xk
  obtain⟨t,ht⟩:=Pi (xl.length - 1);have e1:(xl.length:Int) - 1=(t:Int):=Ka;have tle:t<=1000000:=Ka;have tn:(t:Int)<(xl.length:Int):=Ka;have wk:IntKind.i64.wrap (t:Int)=(t:Int):=IntWalk.i64_in _ Ka;have tp:decide ((t:Int)<0)=false:=Pj Ka;by_cases hy0:yl.length=0
  ·have g1:((yl.length:Int)==0)=true:=Jag Ka
   have g1':(yl.length==0)=true:=by rw[hy0];rfl
   have R:Hid (Q=13):=HQ.out.symm.trans ((THP.out (by rw[Jy8 HCAL.out hy0];decide)).trans (Jy8 HCAL.out hy0));clear hx0 hy0 HQ THP ht;go_wp2_with fail;go_quiet (fail);exact Xk
  have g1:((yl.length:Int)==0)=false:=Jaa Ka;have g1':(yl.length==0)=false:=by rw[beq_eq_false_iff_ne];exact hy0
  have gn:(0:Int)<(yl.length:Int):=Ka;have gn':0<yl.length:=Ka;obtain⟨⟨qs,qa,qd,qo,qu⟩,hyq⟩:=Jah (l:=yl) (k:=0) Ka;obtain⟨⟨ps,pa,pd,po,pu⟩,hxp⟩:=Jah (l:=xl) (k:=xl.length - 1) Ka;have XP:=Pe hxp;have YQ:=Pe hyq;rw[ht] at hxp;obtain⟨bp,op,rfl,hbp,m0,m1,m2,m3,m4⟩:=Ja6 L9.out hxp;obtain⟨bq,oq,rfl,hbq,t0,t1,t2,t3,t4⟩:=Ja6 M9.out hyq;rw[Nat.zero_mul,Nat.add_zero] at t0 t1 t2 t3 t4;clear hxp hyq hx0 hy0 ht m3 m4 t3 t4 m2 t1 hbp hbq L9 M9;by_cases n6:¬ps=qs
  ·have g6:=Jaf n6
   have R:Hid (Q=13):=HQ.out.symm.trans ((THP.out (by rw[Jhd HCAL.out XP.out YQ.out n6];decide)).trans (Jhd HCAL.out XP.out YQ.out n6));clear n6 HQ THP XP YQ;go_wp2_with fail;go_quiet (fail);exact Xk
  have n6:=Pu n6;have g6:=Jap n6;have N6:=Pe n6;clear n6;by_cases n7:qd<pa
  ·have R:Hid (Q=10):=HQ.out.symm.trans ((THP.out Yf).trans (Jhe HCAL.out XP.out YQ.out N6.out n7))
   clear HQ THP XP YQ;go_wp2_with fail;go_quiet (fail);generalize nq=na;go_wp2_with fail;go_quiet (fail);exact X6
  have g7:decide (qd<pa)=false:=Pj n7;have E2:Hid (psE (tcA (ts.map tcT) (i:Int)) (tcA (ts.map tcT) (j:Int))=0):=X9;clear n7 THP XP YQ;go_wp2_with fail;go_quiet (fail);generalize nq=na;go_wp2_with fail;go_quiet (fail);have B4:Po w8 ((w8.drewN na).drewN nq):=Jab (Jab Pg na) nq;generalize (w8.drewN na).drewN nq=w4 at B4 |-;have W4:Hid (Po w w4):=W9.out.trans (B4.mono W9.out.size);have p0:=(B4.cell (p:=⟨w.heap.size,0,none⟩) Z9.out.1).trans p0;have p1:=(B4.cell (p:=⟨w.heap.size,1,none⟩) Z9.out.1).trans p1;have Z4:Hid (w.heap.size<w4.heap.size):=Ps Z9.out.1 B4.size;clear u2 u4 v2 v4 m0 m1 t0 t2 d0 g1 g1' gn gn' g6 g7 e1 tle tn wk tp B4 W9 Z9 N6 HCAL;go_wp2_with fail;go_loopw [13] (fun x wr=>∃d:Nat,x=.int .i64 d/\d<=k/\Hid (∀(y:Nat) z,y<d->l[y]?=some z->z.1≠(i:Int)/\z.2≠(j:Int))/\Hid (∃n,wr=w4.drewN n)) (fun x _=>k - (intOf x).toNat);case atStart=>exact⟨0,rfl,Nat.zero_le _,Pe (fun y z hy=>absurd hy (Nat.not_lt_zero _)),Pe ⟨0,rfl⟩⟩
  case round =>
   obtain⟨d,rfl,hd,hall,hn⟩:=hrel;by_cases hlt:d<k
   ·obtain⟨⟨da,db⟩,hdx⟩:=Jah (l:=l) (k:=d) Ka
    have hbw:=Jar hn.out;obtain⟨c',o',e',-,s0,s1⟩:=two_hh (H1.out.below (W4.out.trans (hbw.mono W4.out.size))) hdx;cases e';have p0:=(hbw.cell (p:=⟨w.heap.size,0,none⟩) Z4.out).trans p0;have p1:=(hbw.cell (p:=⟨w.heap.size,1,none⟩) Z4.out).trans p1;have gd:(d:Int)<(l.length:Int):=Ka;have gdk:(d:Int)<(k:Int):=Ka;by_cases n8:da=(i:Int)
    ·have g8:=Jag n8
     have R:Hid (Q=6):=HQ.out.symm.trans (Jq0 E1.out E2.out (Jdk (key:=Prod.fst) hlt hdx n8));clear n8 hall hdx hbw;go_wp2_with fail;go_quiet (fail);exact Xo
    have g8:=Jaa n8;by_cases n9:db=(j:Int)
    ·have g9:=Jag n9
     have R:Hid (Q=6):=HQ.out.symm.trans (J9z E1.out E2.out (Jdk (key:=Prod.snd) hlt hdx n9));clear n8 n9 hall hdx hbw;go_wp2_with fail;go_quiet (fail);exact Xo
    have g9:=Jaa n9;have N:Hid (∀(y:Nat) z,y<d+1->l[y]?=some z->z.1≠(i:Int)/\z.2≠(j:Int)):=by
     intro y z hy hz;by_cases hyd:y<d
     ·exact hall.out y z hyd hz
     ·obtain rfl:y=d:=Ka
      rw[hdx] at hz;obtain rfl:=Pp hz;exact⟨n8,n9⟩
    clear n8 n9 hall hdx hbw;go_wp2_with fail;go_quiet (fail);go_wp2_with fail;go_roundw;case rel=>exact⟨d+1,Kj,Ka,N,Jb4 hn nq⟩
    case measure=>exact Q7
   ·obtain rfl:d=k:=Ka
    have dd:decide (d<d)=false:=Ke;have A1:(i:Int) ∉ (l.take d).map Prod.fst:=Jcy (key:=Prod.fst) (fun y z hy hz=>(hall.out y z hy hz).1);have A2:(j:Int) ∉ (l.take d).map Prod.snd:=Jcy (key:=Prod.snd) (fun y z hy hz=>(hall.out y z hy hz).2);have hbw:=Jar hn.out;have WR:Hid (Po w wr):=W4.out.trans (hbw.mono W4.out.size);have p0:=(hbw.cell (p:=⟨w.heap.size,0,none⟩) Z4.out).trans p0;have p1:=(hbw.cell (p:=⟨w.heap.size,1,none⟩) Z4.out).trans p1;have ZR:Hid (w.heap.size<wr.heap.size):=Ps Z4.out hbw.size;obtain⟨u,su,lu⟩:=Jzt (H1.out.below WR.out) d Ka Ka (d:Int) rfl;have CH:=Pe (fun W (hW:Po wr W)=>Jq6 (Jkt u (l.take d) J8 (j:Int) W (lu.below hW)) hW);have cln:=Jy7 (l.take d) (j:Int);have CL:Hid ((chT (l.take d) (j:Int)).length<=1000000):=Nat.le_trans cln J8;have CT:=Pe (fun v W (hv:LstI W v (chT (l.take d) (j:Int)))=>Jl9 v (chT (l.take d) (j:Int)) CL.out (i:Int) W hv);by_cases d3:(i:Int)∈chT (l.take d) (j:Int)
    ·have R:Hid (Q=19):=HQ.out.symm.trans (Jq1 E1.out E2.out A1 A2 d3)
     rw[Pk d3] at CT;generalize chT (l.take d) (j:Int)=cs at CH CT;clear d3 cln CL lu A1 A2 hall hn hbw;go_wp2_with fail;go_region_held3 (fun W=>W.cell? ⟨w.heap.size,0,none⟩=some (.int .i64 (i:Int))/\W.cell? ⟨w.heap.size,1,none⟩=some (.int .i64 (j:Int))) (first | assumption | (exact⟨Kn,Kn⟩)) (first
      | (go_at_call 240;with_reducible refine(CH.out _ Km).mono ?_;rintro e wa ⟨ua,rfl,la,ba⟩;have z0:=(ba.cell (p:=⟨w.heap.size,0,none⟩) ZR.out).trans p0;have z1:=(ba.cell (p:=⟨w.heap.size,1,none⟩) ZR.out).trans p1;have LA:=Pe la;have BA:=Pe ba;clear la ba)
      | (go_at_call 239;with_reducible refine Pf (CT.out _ _ Xm) ?_))
     all_goals
      exact Xl
    have R:Hid (Q=0):=HQ.out.symm.trans (J90 E1.out E2.out A1 A2 d3);rw[Pj d3] at CT;generalize chT (l.take d) (j:Int)=cs at CH CT;clear d3 cln CL lu A1 A2 hall hn hbw;go_wp2_with fail;go_region_held3 (fun W=>W.cell? ⟨w.heap.size,0,none⟩=some (.int .i64 (i:Int))/\W.cell? ⟨w.heap.size,1,none⟩=some (.int .i64 (j:Int))) (first | assumption | (exact⟨Kn,Kn⟩)) (first
     | (go_at_call 240;with_reducible refine(CH.out _ Km).mono ?_;rintro e wa ⟨ua,rfl,la,ba⟩;have z0:=(ba.cell (p:=⟨w.heap.size,0,none⟩) ZR.out).trans p0;have z1:=(ba.cell (p:=⟨w.heap.size,1,none⟩) ZR.out).trans p1;have LA:=Pe la;have BA:=Pe ba;clear la ba)
     | (go_at_call 239;with_reducible refine Pf (CT.out _ _ Xm) ?_))
    all_goals
     exact Xl
theorem rchkh_any(vl:Value)(l:List Th)(hl:l.length<=900000)(vt:Value)(ts:List Tp)(htl:ts.length<=1000000)(hts:∀x∈ts,x.2.2.2.2.2.length<=1000000)(vf:Value)(f:List Fq)(hf:f.length<=5000)(w:World)(h1:LstH w vl l)(h2:Jcs w vt ts)(h3:LstF w vf f):
  Pc 74 #[vl,vt,vf] w (.tuple #[.int .i64 ((chkH (ts.map tcT) f l).1),.int .i64 ((chkH (ts.map tcT) f l).2)]):=by
 have H1:=Pe h1;have H2:=Pe h2;have H3:=Pe h3;have HTS:=Pe hts;obtain⟨A,n,rfl,-,-,-⟩:=h1;clear h2 h3 hts;by_cases hm:128<l.length
 ·have R:=Pe (Jou (ts:=ts.map tcT) (f:=f) hm)
  have g:(128:Int)<(l.length:Int):=Ka;generalize chkH (ts.map tcT) f l=q at R |-;clear hm;go_enter func74,ntmps74;exact Vc
 have g:decide ((128:Int)<(l.length:Int))=false:=Q8;have ST:=Pe (Jkr (ts:=ts.map tcT) (f:=f) (l:=l) hm);obtain⟨q,hq⟩:=Pi (chkH (ts.map tcT) f l);rw[hq];rw[hq] at ST;clear hm hq;go_enter func74,ntmps74;go_wp2_with fail;go_loopw [8] (fun i wr=>∃k:Nat,i=.int .i64 k/\k<=l.length/\Hid (q=fbF (thE (ts.map tcT) f) idP ((l.take k).map idP) k (l.drop k))/\Hid (Po w wr)) (fun i _=>l.length - (intOf i).toNat);case atStart=>exact⟨0,rfl,Nat.zero_le _,ST,Pe Pg⟩
 case round =>
  clear g ST;obtain⟨k,rfl,hk,hz,HB⟩:=hrel;by_cases hlt:k<l.length
  ·obtain⟨⟨a,b⟩,hx⟩:=Jah hlt
   have gk:(k:Int)<(l.length:Int):=Ka;have C:=Pe (rone_any (.slice A l.length n) l hl vt ts htl HTS.out vf f hf k hlt a b hx wr (H1.out.below HB.out) (H2.out.below HB.out) (H3.out.below HB.out));have BE:thE (ts.map tcT) f ((l.take k).map idP) (a,b)=thE (ts.map tcT) f (l.take k) (a,b):=by rw[Jzh]
   by_cases he:thE (ts.map tcT) f (l.take k) (a,b)=0
   ·have N:=Pe (Jcd hz.out hx (BE.trans he))
    rw[he] at C;clear hz hx he BE;go_wp2_with fail;refine C.out.mono ?_;rintro e w1 ⟨rfl,b1⟩;have B1:Hid (Po w w1):=HB.out.trans (b1.mono HB.out.size);clear b1 C HB;go_wp2_with fail;go_roundw;case rel=>exact⟨k+1,Kj,Ka,N,B1⟩
    case measure=>exact Q7
   ·have R:=Pe (Jal hz.out hx BE he)
    have ne:=Jaf he;generalize thE (ts.map tcT) f (l.take k) (a,b)=z at C R ne;clear hz hx he BE;go_wp2_with fail;refine C.out.mono ?_;exact X5
  ·have R:=Pe (Jce hz.out Ka)
   have d:decide (k<l.length)=false:=Kg;clear hz hlt;exact V7
open Go.RowKit Go.ChangeShapes Go.WideShapes Go.Deep
theorem trod_thr{H:Type}{enc:TypeId×Value->H}{cs:List Value}{x:DataW H×List MemPlace}(h:DataW.trod enc prog W 0 (fun _=>true) true n 120 cs=some x):∃a:Th,(Ix64 a.1/\Ix64 a.2)/\cs=hh a:=by
 obtain⟨y0,y1,n,_,hl,h0,h1⟩:=trod_struct2 underlying120 h;rw[show prog.cellsOf 120=2 by kernel_rfl] at hl;match cs,hl with
 | [c0,c1],_ =>
  simp only[show prog.cellsOf 3=1 by kernel_rfl] at h0 h1;obtain⟨a,e0,_,w0⟩:=DataW.trod_int underlying3 h0;obtain⟨b,e1,_,w1⟩:=DataW.trod_int underlying3 h1;simp at e0 e1;subst e0 e1;exact⟨(a,b),⟨⟨Jb0 w0,Jbz w0⟩,Jb0 w1,Jbz w1⟩,rfl⟩
theorem trod_gua{H:Type}{enc:TypeId×Value->H}{cs:List Value}{x:DataW H×List MemPlace}(h:DataW.trod enc prog W 0 (fun _=>true) true n 122 cs=some x):∃a:Gt,Gu64 a/\cs=gg a:=by
 obtain⟨y0,y1,y2,n,_,hl,h0,h1,h2⟩:=trod_struct3 underlying122 h;rw[show prog.cellsOf 122=3 by kernel_rfl] at hl;match cs,hl with
 | [c0,c1,c2],_ =>
  simp only[show prog.cellsOf 3=1 by kernel_rfl] at h0 h1 h2;obtain⟨a,e0,_,w0⟩:=DataW.trod_int underlying3 h0;obtain⟨b,e1,_,w1⟩:=DataW.trod_int underlying3 h1;obtain⟨c,e2,_,w2⟩:=DataW.trod_int underlying3 h2;simp at e0 e1 e2;subst e0 e1 e2;exact⟨(a,b,c),⟨⟨Jb0 w0,Jbz w0⟩,⟨Jb0 w1,Jbz w1⟩,Jb0 w2,Jbz w2⟩,rfl⟩
end S19
end Go.Proofs.YtpifdbphmnifdaaGreatDoor
