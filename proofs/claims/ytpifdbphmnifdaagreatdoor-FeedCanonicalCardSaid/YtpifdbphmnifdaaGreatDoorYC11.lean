/-
  Facts. Condition: each theorem's own.
-/
import Derived.Test.YtpifdbphmnifdaaGreatDoorYC10
set_option maxRecDepth 100000
set_option maxHeartbeats 8000000
section
variable {p:Prop}
theorem Yy (h:p:=by go_ret;exact⟨rfl,rfl⟩):p:=h
theorem Yz (h:p:=by first | assumption | (apply Below.drew;assumption)):p:=h
theorem Y0 (h:p:=by rintro e w4 ⟨rfl,b4⟩;go_wp2_with fail;go_ret2;exact⟨rfl,(b1.trans (b2.mono b1.size)).trans ((b3.trans (b4.mono b3.size)).mono (Nat.le_trans b1.size b2.size))⟩):p:=h
theorem Y1 (h:p:=by rintro e w1 ⟨rfl,b1⟩;go_wp2_with fail;go_ret2;exact⟨rfl,b1⟩):p:=h
theorem Y2 (h:p:=by go_ret2;exact V4):p:=h
theorem Y3 (h:p:=by go_ret;exact⟨rfl,Ja6 _ _ _⟩):p:=h
theorem Y5 (h:p:=by rw [beq_iff_eq];omega):p:=h
theorem Y6 (h:p:=by have h2:(s.data.toList.take pos).length≤6:=Nat.le_trans (List.length_take_le _ _) Kd;exact Pr h1 (Nat.pow_le_pow_right Kl h2)):p:=h
theorem Y8 (h:p:=by go_wp2_with fail;go_ret2;exact⟨rfl,Kn⟩):p:=h
theorem Y9 (h:p:=by exact absurd (congrArg Prod.fst h1) Kj):p:=h
theorem Wb (h:p:=by rw [if_pos hk,beq_iff_eq];exact⟨fun h=>by rw [h];rfl,fun h=>UInt8.toNat_inj.1 h⟩):p:=h
theorem Wc (h:p:=by have:=(h.ln p hp j hj).2;omega):p:=h
theorem Wd (h:p:=by rw [hc];rfl):p:=h
theorem We (h:p:=by rw [List.isSuffixOf_iff_suffix];exact List.suffix_append _ _):p:=h
end
open Go.Proofs.Tryz
namespace Go.Proofs.YtpifdbphmnifdaaGreatDoor
section
open Go
def lenP (T:Tt):Nat→Nat
 | 0=>T.st.length
 | 1=>T.ro.length
 | 2=>T.ca.length
 | 3=>T.ex.length
 | 4=>T.tr.length
 | 5=>T.fr.length
 | 6=>T.th.length
 | 7=>T.gu.length
 | 8=>T.pa.length
 | 9=>T.pr.length
 | _=>0
theorem Jtl (c:Cl):∀l:List Tp,(addC c l).length=l.length
 | []=>rfl
 | [_]=>rfl
 | x::y::r=>by show (addC c (y::r)).length+1=_;rw [Jtl c (y::r)];rfl
theorem J99 {α:Type} {l:List α} (h:l.length=3):∃a b c,l=[a,b,c]:=by
 match l,h with
 | [a,b,c],_=>exact⟨a,b,c,rfl⟩
theorem four {α:Type} {l:List α} (h:l.length=4):∃a b c d,l=[a,b,c,d]:=by
 match l,h with
 | [a,b,c,d],_=>exact⟨a,b,c,d,rfl⟩
theorem five {α:Type} {l:List α} (h:l.length=5):∃a b c d e,l=[a,b,c,d,e]:=by
 match l,h with
 | [a,b,c,d,e],_=>exact⟨a,b,c,d,e,rfl⟩
theorem Qaa {α:Type} {l:List α} (h:l.length=7):∃a b c d e f g,l=[a,b,c,d,e,f,g]:=by
 match l,h with
 | [a,b,c,d,e,f,g],_=>exact⟨a,b,c,d,e,f,g,rfl⟩
theorem Jqs (F:Fm) (T:Tt) (k:Nat) (hk:k<12) (f:List Bs) (hf:f.length=cnts.getD k 0):(∀p,p<10→lenP (addR F T k f).2 p=lenP T p+(if p=k then 1 else 0))∧(k≠11→(addR F T k f).2.di=T.di∧(addR F T k f).2.wi=T.wi∧(addR F T k f).2.cp=T.cp):=by
 have P:∀{U:Tt} (k:Nat),lenP U 0=lenP T 0+(if 0=k then 1 else 0)→lenP U 1=lenP T 1+(if 1=k then 1 else 0)→lenP U 2=lenP T 2+(if 2=k then 1 else 0)→lenP U 3=lenP T 3+(if 3=k then 1 else 0)→lenP U 4=lenP T 4+(if 4=k then 1 else 0)→lenP U 5=lenP T 5+(if 5=k then 1 else 0)→lenP U 6=lenP T 6+(if 6=k then 1 else 0)→lenP U 7=lenP T 7+(if 7=k then 1 else 0)→lenP U 8=lenP T 8+(if 8=k then 1 else 0)→lenP U 9=lenP T 9+(if 9=k then 1 else 0)→∀p,p<10→lenP U p=lenP T p+(if p=k then 1 else 0):=by
  intro U k h0 h1 h2 h3 h4 h5 h6 h7 h8 h9 p hp;match p,hp with
  | 0,_=>exact h0
  | 1,_=>exact h1
  | 2,_=>exact h2
  | 3,_=>exact h3
  | 4,_=>exact h4
  | 5,_=>exact h5
  | 6,_=>exact h6
  | 7,_=>exact h7
  | 8,_=>exact h8
  | 9,_=>exact h9
  | n+10,h=>omega
 match k,hk with
 | 0,_=>obtain⟨a,b,c,d,e,rfl⟩:=five hf;exact⟨P 0 (List.length_append) rfl rfl rfl rfl rfl rfl rfl rfl rfl,fun _=>⟨rfl,rfl,rfl⟩⟩
 | 1,_=>obtain⟨a,b,c,d,rfl⟩:=four hf;exact⟨P 1 rfl (List.length_append) rfl rfl rfl rfl rfl rfl rfl rfl,fun _=>⟨rfl,rfl,rfl⟩⟩
 | 2,_=>obtain⟨a,b,c,d,e,rfl⟩:=five hf;exact⟨P 2 rfl rfl (List.length_append) rfl rfl rfl rfl rfl rfl rfl,fun _=>⟨rfl,rfl,rfl⟩⟩
 | 3,_=>obtain⟨a,b,c,d,rfl⟩:=four hf;exact⟨P 3 rfl rfl rfl (List.length_append) rfl rfl rfl rfl rfl rfl,fun _=>⟨rfl,rfl,rfl⟩⟩
 | 4,_=>obtain⟨a,b,c,d,e,rfl⟩:=five hf;exact⟨P 4 rfl rfl rfl rfl (List.length_append) rfl rfl rfl rfl rfl,fun _=>⟨rfl,rfl,rfl⟩⟩
 | 5,_=>obtain⟨a,b,c,d,e,rfl⟩:=five hf;exact⟨P 5 rfl rfl rfl rfl rfl (List.length_append) rfl rfl rfl rfl,fun _=>⟨rfl,rfl,rfl⟩⟩
 | 6,_=>obtain⟨a,b,c,rfl⟩:=J99 hf;exact⟨P 6 rfl rfl rfl rfl rfl rfl (List.length_append) rfl rfl rfl,fun _=>⟨rfl,rfl,rfl⟩⟩
 | 7,_=>obtain⟨a,b,c,d,rfl⟩:=four hf;exact⟨P 7 rfl rfl rfl rfl rfl rfl rfl (List.length_append) rfl rfl,fun _=>⟨rfl,rfl,rfl⟩⟩
 | 8,_=>obtain⟨a,b,c,d,e,rfl⟩:=five hf;exact⟨P 8 rfl rfl rfl rfl rfl rfl rfl rfl (List.length_append) rfl,fun _=>⟨rfl,rfl,rfl⟩⟩
 | 9,_=>obtain⟨a,b,c,d,e,f,g,rfl⟩:=Qaa hf;exact⟨P 9 rfl rfl rfl rfl rfl rfl rfl rfl rfl (List.length_append),fun _=>⟨rfl,rfl,rfl⟩⟩
 | 10,_=>obtain⟨a,b,c,d,e,rfl⟩:=five hf;exact⟨P 10 rfl rfl rfl rfl (Jtl _ _) rfl rfl rfl rfl rfl,fun _=>⟨rfl,rfl,rfl⟩⟩
 | 11,_=>obtain⟨a,b,c,d,rfl⟩:=four hf;exact⟨P 11 rfl rfl rfl rfl rfl rfl rfl rfl rfl rfl,fun h=>absurd rfl h⟩
 | n+12,h=>omega
def Okl (ls:List Bs) (j:Int):Prop:=1≤j∧∃x,ls[(j - 1).toNat]?=some x∧ign x=false
structure Inv (ls:List Bs) (r:Rd) (n:Int):Prop where
 ln:∀p,p<10→∀j∈r.ln.getD p [],Okl ls j∧j<n
 fa:r.fa=0∨(Okl ls r.fa∧r.fa<n)
 no:r.fa=0→r.T.di=0∧r.T.wi=0∧r.T.cp=0
 ten:r.ln.length=10
 len:∀p,p<10→(r.ln.getD p []).length=lenP r.T p
theorem Inv.start (ls:List Bs):Inv ls R0 1:=by
 refine⟨fun p hp j hj=>?_,.inl rfl,fun _=>⟨rfl,rfl,rfl⟩,rfl,fun p hp=>?_⟩
 ·match p,hp with
  | 0,_ | 1,_ | 2,_ | 3,_ | 4,_ | 5,_ | 6,_ | 7,_ | 8,_ | 9,_=>cases hj
  | n+10,h=>omega
 ·match p,hp with
  | 0,_ | 1,_ | 2,_ | 3,_ | 4,_ | 5,_ | 6,_ | 7,_ | 8,_ | 9,_=>rfl
  | n+10,h=>omega
theorem Jhf (s:Bs):kind s≤12:=List.findIdx_le_length
theorem Jtm (l:List (List Int)) (k p:Nat) (n:Int) (hk:k<l.length):(l.modify k (·++[n])).getD p []=if p=k then l.getD p []++[n] else l.getD p []:=by
 rw [List.getD_eq_getElem?_getD,List.getElem?_modify,List.getD_eq_getElem?_getD];by_cases e:k=p
 ·subst e
  rw [if_pos rfl,List.getElem?_eq_getElem hk];simp
 ·rw [if_neg (fun h=>e h.symm)]
  cases l[p]? <;> simp [e]
theorem Inv.on {F:Fm} {ls:List Bs} {r:Rd} {n:Int} (h:Inv ls r n) (hn:1≤n) {x:Bs} (hx:ls[(n - 1).toNat]?=some x) {r':Rd} (h1:oneR F r x n=(0,r')):Inv ls r' (n+1):=by
 unfold oneR at h1;by_cases hi:ign x=true
 ·rw [if_pos hi] at h1
  have e:r=r':=by simpa using h1
  subst e;exact⟨fun p hp j hj=>⟨(h.ln p hp j hj).1,Wc⟩,h.fa.imp id fun q=>⟨q.1,by have:=q.2;omega⟩,h.no,h.ten,h.len⟩
 rw [if_neg hi] at h1;have hok:Okl ls n:=⟨hn,x,hx,by simpa using hi⟩;split at h1
 ·next hs=>exact absurd (congrArg Prod.fst h1) hs
 have kl:=Jhf ((splR x).1.headD []);unfold rcd at h1;simp only at h1;generalize kind ((splR x).1.headD [])=k at h1 kl;generalize (splR x).1=f at h1;split at h1
 ·exact Y9
 next h12 =>
 split at h1
 ·exact Y9
 next hl =>
 split at h1
 ·exact Y9
 split at h1
 ·exact Y9
 next h11 =>
 obtain⟨a0,a1⟩:=Jqs F r.T k Kd f (Ps hl);have e:=(congrArg Prod.snd h1).symm;simp only at e;subst e;have hln:∀p,(if k<10 then r.ln.modify k (·++[n]) else r.ln).getD p []=if p=k∧k<10 then r.ln.getD p []++[n] else r.ln.getD p []:=by
  intro p;by_cases hk:k<10
  ·rw [if_pos hk,Jtm _ _ _ _ (by rw [h.ten];exact hk)]
   by_cases e:p=k
   ·rw [if_pos e,if_pos ⟨e,hk⟩]
   ·rw [if_neg e,if_neg (fun q=>e q.1)]
  ·rw [if_neg hk,if_neg (fun q=>hk q.2)]
 refine⟨fun p hp j hj=>?_,?_,fun h0=>?_,?_,fun p hp=>?_⟩
 ·rw [hln] at hj
  split at hj
  ·rcases List.mem_append.1 hj with hj | hj
   ·exact⟨(h.ln p hp j hj).1,Wc⟩
   ·have e:j=n:=Xg
    subst e;exact⟨hok,Kd⟩
  ·exact⟨(h.ln p hp j hj).1,Wc⟩
 ·show (if k=11 then n else r.fa)=0∨(Okl ls (if k=11 then n else r.fa)∧(if k=11 then n else r.fa)<n+1)
  by_cases e:k=11
  ·rw [if_pos e];exact .inr ⟨hok,Kd⟩
  ·rw [if_neg e];exact h.fa.imp id fun q=>⟨q.1,by have:=q.2;omega⟩
 ·by_cases e:k=11
  ·have h0:(if k=11 then n else r.fa)=0:=h0
   rw [if_pos e] at h0;omega
  ·have h0:(if k=11 then n else r.fa)=0:=h0
   rw [if_neg e] at h0;obtain⟨b0,b1,b2⟩:=a1 e;obtain⟨c0,c1,c2⟩:=h.no h0;exact⟨b0.trans c0,b1.trans c1,b2.trans c2⟩
 ·show (if k<10 then r.ln.modify k (·++[n]) else r.ln).length=10
  split
  ·rw [List.length_modify];exact h.ten
  ·exact h.ten
 ·show ((if k<10 then r.ln.modify k (·++[n]) else r.ln).getD p []).length=lenP (addR F r.T k f).2 p
  rw [hln,a0 p hp];by_cases e:p=k
  ·rw [if_pos ⟨e,Kd⟩,if_pos e,Pp,h.len p hp];rfl
  ·rw [if_neg (fun q=>e q.1),if_neg e,h.len p hp];rfl
theorem J7o {κ α:Type} {bad:List κ→α→Int} {key:α→κ}:∀(l:List α) (seen:List κ) (k:Nat),(fbF bad key seen k l).2≠0→(k:Int)≤(fbF bad key seen k l).1∧(fbF bad key seen k l).1<k+l.length
 | [],_,_,h=>absurd rfl h
 | x::l,seen,k,h=>by
  unfold fbF at h ⊢;by_cases hb:bad seen x=0
  ·rw [if_pos hb] at h ⊢
   obtain⟨h1,h2⟩:=J7o l _ _ h;exact Vn
  ·rw [if_neg hb]
   exact Vn
theorem Jd9 {κ α:Type} {bad:List κ→α→Int} {key:α→κ} {l:List α} {N:Nat} (h:(if N<l.length then ((0,5):Int×Int) else fbF bad key [] 0 l).2≠0):0≤(if N<l.length then ((0,5):Int×Int) else fbF bad key [] 0 l).1∧(if N<l.length then ((0,5):Int×Int) else fbF bad key [] 0 l).1<l.length:=by
 by_cases hn:N<l.length
 ·rw [if_pos hn]
  exact⟨Kl,by show (0:Int)<_;omega⟩
 ·rw [if_neg hn] at h ⊢
  have:=J7o l [] 0 h;simpa using this
theorem J32 (T:Tt) (p:Nat) (h:(Jaq T p).2≠0):(0≤(Jaq T p).1∧(Jaq T p).1<lenP T p)∨(p=9∧(Jaq T p).1=-1∧¬(T.di=0∧T.wi=0∧T.cp=0)):=by
 match p,h with
 | 0,h =>
  left
  have e:Jaq T 0=if 64<T.st.length then ((0,5):Int×Int) else fbF S13.badS (fun x=>x.1) [] 0 T.st:=by
   show S13.chkT T.st=_
   unfold S13.chkT;rw [Jma]
  rw [e] at h ⊢;exact Jd9 h
 | 1,h=>exact .inl (Jd9 h)
 | 2,h=>exact .inl (Jd9 h)
 | 3,h=>exact .inl (Jd9 h)
 | 4,h=>exact .inl (Jd9 h)
 | 5,h=>exact .inl (Jd9 h)
 | 6,h=>exact .inl (Jd9 h)
 | 7,h=>exact .inl (Jd9 h)
 | 8,h=>exact .inl (Jd9 h)
 | 9,h =>
  have e:Jaq T 9=S21.chkPd T.di T.wi T.cp T.pr:=rfl;rw [e] at h ⊢;unfold S21.chkPd at h ⊢;by_cases hf:S21.okFa T.di T.wi T.cp
  ·rw [if_neg (fun k=>k hf)] at h ⊢
   exact .inl (Jd9 h)
  ·rw [if_pos hf]
   exact .inr ⟨rfl,rfl,fun k=>hf (by rw [k.1,k.2.1,k.2.2];decide)⟩
 | n+10,h=>exact absurd rfl h
theorem J7p {P:Nat→Int×Int}:∀(n k:Nat),(ttF P k n).2.2≠0→∃p,k≤p∧p<k+n∧ttF P k n=((p:Int),(P p).1,(P p).2)∧(P p).2≠0
 | 0,_,h=>absurd rfl h
 | n+1,k,h=>by
  by_cases hp:(P k).2=0
  ·rw [Jl7 hp] at h ⊢
   obtain⟨p,h1,h2,h3,h4⟩:=J7p n (k+1) h;exact⟨p,Kd,Kd,h3,h4⟩
  ·exact⟨k,Nat.le_refl _,Kd,Jl6 hp,hp⟩
theorem Jtn (F:Fm) (x:Bs) (l:List Bs) (n:Int) (r:Rd):goR F (x::l) n r=if (oneR F r x n).1≠0 then (n,(oneR F r x n).1,(oneR F r x n).2) else goR F l (n+1) (oneR F r x n).2:=rfl
def noV (x:Tp):List UInt8×Int×Int×Bool×List Cl:=(x.1,x.2.1,x.2.2.1,x.2.2.2.1,x.2.2.2.2.2)
structure CopT (T U:Tt):Prop where
 st:U.st=T.st
 ro:U.ro=T.ro
 ca:U.ca=T.ca
 ex:U.ex=T.ex
 tr:U.tr.map noV=T.tr.map noV
 fr:U.fr=T.fr
 th:U.th=T.th
 gu:U.gu=T.gu
 pa:U.pa=T.pa
 pr:U.pr=T.pr
 di:U.di=T.di
 wi:U.wi=T.wi
 cp:U.cp=T.cp
theorem Qab {x y:Tp} (h:noV x=noV y):eTr x y=true:=by
 obtain⟨a,b,c,d,v,l⟩:=x;obtain⟨a',b',c',d',v',l'⟩:=y;simp only [noV,Prod.mk.injEq] at h;obtain⟨rfl,rfl,rfl,rfl,rfl⟩:=h;unfold eTr;rw [Pk ⟨rfl,rfl,rfl,rfl⟩];exact Jcr J95
theorem Jto {l m:List Tp} (h:l.map noV=m.map noV):eqB eTr l m=true:=by
 have hl:l.length=m.length:=by have:=congrArg List.length h;simpa using this
 refine Jdu hl (fun j x y _ hx hy=>Qab ?_);have h1:(l.map noV)[j]?=some (noV x):=by rw [List.getElem?_map,hx];rfl
 have h2:(m.map noV)[j]?=some (noV y):=by rw [List.getElem?_map,hy];rfl
 rw [h,h2] at h1;exact (Po h1).symm
theorem Qac {l m:List Tp} (h:l.map noV=m.map noV):l.map clT=m.map clT:=by
 have e:clT=(fun z:List UInt8×Int×Int×Bool×List Cl=>z.2.2.2.2) ∘ noV:=rfl;rw [e,←List.map_map,←List.map_map,h]
theorem CopT.eq {T U:Tt} (h:CopT T U):eqT U T=true:=by
 have ht:=Jto h.tr;have r:=Jtk T;unfold eqT at r ⊢;unfold hdT tlT at r ⊢;rw [h.st,h.ro,h.ca,h.ex,h.fr,h.th,h.gu,h.pa,h.pr,h.di,h.wi,h.cp,ht];rw [Jto rfl] at r;exact r
theorem Jzo {κ α β:Type} {bad:List κ→α→Int} {key:α→κ} {bad':List κ→β→Int} {key':β→κ} {f:α→β} (h1:∀seen x,bad' seen (f x)=bad seen x) (h2:∀x,key' (f x)=key x):∀(l:List α) (seen:List κ) (k:Nat),fbF bad' key' seen k (l.map f)=fbF bad key seen k l
 | [],_,_=>rfl
 | x::l,seen,k=>by
  rw [List.map_cons];unfold fbF;rw [h1,h2,Jzo h1 h2 l]
def badV (st ro ca:Int) (seen:List Bs) (x:Bs×Int×Int×Bool×List Cl):Int:=if Jaj x.1=false then 12 else if x.1∈seen then 6 else if S17.rkT ro ca x.2.1 x.2.2.1 then (chkC st 0 172800 x.2.2.2.2).2 else 9
theorem chkV (st ro ca:Int) (l:List Tp):S17.chkT st ro ca l=if 256<(l.map noV).length then (0,5) else fbF (badV st ro ca) (fun x=>x.1) [] 0 (l.map noV):=by
 unfold S17.chkT;rw [Pq,Jzo (bad:=S17.badT st ro ca) (key:=S17.idT) (bad':=badV st ro ca) (key':=fun x=>x.1) (f:=noV) (fun _ _=>rfl) (fun _=>rfl)]
theorem J7q {l m:List Tp} (h:l.map noV=m.map noV):l.map S19.tcT=m.map S19.tcT:=by
 have e:S19.tcT=(fun z:Bs×Int×Int×Bool×List Cl=>(z.2.2.1,z.2.2.2.2)) ∘ noV:=rfl;rw [e,←List.map_map,←List.map_map,h]
theorem CopT.part {T U:Tt} (h:CopT T U):Jaq U=Jaq T:=by
 funext j
 match j with
 | 0=>show S13.chkT U.st=_;rw [h.st];rfl
 | 1=>show chkR U.ro=_;rw [h.ro];rfl
 | 2=>show S14.chkC U.ca=_;rw [h.ca];rfl
 | 3=>show S14.chkX U.ca.length U.ex=_;rw [h.ca,h.ex];rfl
 | 4=>show S17.chkT U.st.length U.ro.length U.ca.length U.tr=S17.chkT T.st.length T.ro.length T.ca.length T.tr;rw [h.st,h.ro,h.ca,chkV,chkV,h.tr]
 | 5=>show chkF (U.tr.map clT) U.fr=_;rw [Qac h.tr,h.fr];rfl
 | 6=>show S19.chkH (U.tr.map S19.tcT) U.fr U.th=_;rw [J7q h.tr,h.fr,h.th];rfl
 | 7=>show S19.chkU (U.tr.map S19.tcT) U.fr U.st.length U.gu=_;rw [J7q h.tr,h.fr,h.st,h.gu];rfl
 | 8=>show S20.chkP U.st.length U.pa=_;rw [h.st,h.pa];rfl
 | 9=>show S21.chkPd U.di U.wi U.cp U.pr=_;rw [h.di,h.wi,h.cp,h.pr];rfl
 | n+10=>rfl
theorem CopT.ttC {T U:Tt} (h:CopT T U):Go.Proofs.YtpifdbphmnifdaaGreatDoor.ttC U=Go.Proofs.YtpifdbphmnifdaaGreatDoor.ttC T:=by unfold Go.Proofs.YtpifdbphmnifdaaGreatDoor.ttC;rw [h.part]
def bTrV (F:Fm) (T:Tt) (x:Bs×Int×Int×Bool×List Cl):List (List Bs):=[wTr,x.1,atI (Jb1 T) x.2.1,atI (Jba T) x.2.2.1,flgT x.2.2.2.1]::x.2.2.2.2.map (rCc F T)
theorem J33 (F:Fm) (T:Tt) (l:List Tp):l.flatMap (bTr F T)=(l.map noV).flatMap (bTrV F T):=by rw [List.flatMap_map];rfl
theorem Qad {T U:Tt} (h:CopT T U):Jav U=Jav T:=by
 unfold Jav;have e:(fun x:Tp=>x.1)=(fun z:Bs×Int×Int×Bool×List Cl=>z.1) ∘ noV:=rfl;rw [e,←List.map_map,←List.map_map,h.tr]
theorem CopT.rows {T U:Tt} (F:Fm) (h:CopT T U):Go.Proofs.YtpifdbphmnifdaaGreatDoor.rows F U=Go.Proofs.YtpifdbphmnifdaaGreatDoor.rows F T:=by
 have i0:Jaw U=Jaw T:=by unfold Jaw;rw [h.st]
 have i1:Jb1 U=Jb1 T:=by unfold Jb1;rw [h.ro]
 have i2:Jba U=Jba T:=by unfold Jba;rw [h.ca]
 have i3:=Qad h;have c0:rEx F U=rEx F T:=by funext x;unfold rEx;rw [i2]
 have c1:rCc F U=rCc F T:=by funext x;unfold rCc;rw [i0]
 have c2:bTrV F U=bTrV F T:=by funext x;unfold bTrV;rw [i1,i2,c1]
 have c3:rFr F U=rFr F T:=by funext x;unfold rFr;rw [i3]
 have c4:rTh U=rTh T:=by funext x;unfold rTh;rw [i3]
 have c5:rGu U=rGu T:=by funext x;unfold rGu;rw [i3,i0]
 have c6:rPa F U=rPa F T:=by funext x;unfold rPa;rw [i0]
 have c7:rFa F U=rFa F T:=by unfold rFa;rw [h.di,h.wi,h.cp]
 unfold Go.Proofs.YtpifdbphmnifdaaGreatDoor.rows;rw [J33,J33,h.tr,c0,c2,c3,c4,c5,c6,c7,h.st,h.ro,h.ca,h.ex,h.fr,h.th,h.gu,h.pa,h.pr]
theorem CopT.feedF {T U:Tt} (F:Fm) (h:CopT T U):Go.Proofs.YtpifdbphmnifdaaGreatDoor.feedF F U=Go.Proofs.YtpifdbphmnifdaaGreatDoor.feedF F T:=by unfold Go.Proofs.YtpifdbphmnifdaaGreatDoor.feedF Jez;rw [h.ttC,h.rows F]
theorem Qdk {k k':Nat→Bool} (h0:k 0=k' 0) (h1:k 1=k' 1) (h2:k 2=k' 2) (h3:k 3=k' 3) (h4:k 4=k' 4) (h5:k 5=k' 5) (h6:k 6=k' 6):wkT k=wkT k':=by unfold wkT;rw [h0,h1,h2,h3,h4,h5,h6]
theorem J34 (F:Fm) (T:Tt):rows F (nrm T)=rows F T:=by
 have i2:Jba (nrm T)=Jba T:=Yu;have i3:Jav (nrm T)=Jav T:=Ys;have c0:rEx F (nrm T)=rEx F T:=by funext x;unfold rEx;rw [i2]
 have c2:bTrV F (nrm T)=bTrV F T:=by funext x;unfold bTrV;rw [i2];rfl
 have c3:rFr F (nrm T)=rFr F T:=by funext x;unfold rFr;rw [i3]
 have c4:rTh (nrm T)=rTh T:=by funext x;unfold rTh;rw [i3]
 have c5:rGu (nrm T)=rGu T:=by funext x;unfold rGu;rw [i3];rfl
 have c6:rPa F (nrm T)=rPa F T:=rfl;have ca:(nrm T).ca.map (rCa F)=T.ca.map (rCa F):=by
  show (T.ca.map nCa).map (rCa F)=_
  rw [List.map_map];refine List.map_congr_left fun x _=>?_
  obtain⟨w0,w1,w2,w3,w4,w5,w6⟩:=Qdj x.2.1;show [wCa,x.1,wkT (fun i=>decide ((wkT x.2.1)[i]?=some 49)),_,_]=_
  have:wkT (fun i=>decide ((wkT x.2.1)[i]?=some 49))=wkT x.2.1:=Qdk w0 w1 w2 w3 w4 w5 w6;rw [this];rfl
 have tr:(nrm T).tr.map noV=T.tr.map noV:=by show (T.tr.map nTr).map noV=_;rw [List.map_map];rfl
 unfold rows;rw [J33,J33,tr,c0,c2,c3,c4,c5,c6,ca];rfl
theorem Jzp (F:Fm) (T:Tt):feedF F (nrm T)=feedF F T:=by unfold feedF Jez;rw [Jzn,J34]
theorem Qdl {s:Bs} (h:s≠[]) (h10:s[s.length - 1]?=some 10) (hl:s.length≤65536):linR s=((cutL s).1,0)∧Jay (cutL s).1=s∧∀l∈(cutL s).1,∀b∈l,b≠10:=by
 have e:s=s.dropLast++[10]:=by
  have h1:s.getLast?=some 10:=by rw [List.getLast?_eq_getElem?];exact h10
  have h2:=List.dropLast_concat_getLast h;rw [List.getLast?_eq_some_getLast h] at h1;rw [Po h1] at h2;exact h2.symm
 have h2:(cutL s).2=[]:=by rw [e,Jge]
 refine⟨?_,?_,?_⟩
 ·unfold linR
  rw [if_neg Kd,if_neg h,if_pos h10]
 ·have:=Jom s.length s rfl
  rw [h2,List.append_nil] at this;exact this
 ·have key:∀(n:Nat) (l:Bs),l.length=n→(∀x∈(cutL l).1,∀b∈x,b≠10)∧∀b∈(cutL l).2,b≠10:=by
   intro n;induction n with
   | zero =>
    intro l hl;have:l=[]:=List.eq_nil_of_length_eq_zero hl;subst this;exact⟨fun x hx=>by simp [Jti] at hx,fun b hb=>by simp [Jti] at hb⟩
   | succ n ih =>
    intro l hl;have hne:l≠[]:=fun e=>by rw [e] at hl;cases hl
    have e2:=List.dropLast_concat_getLast hne;generalize l.getLast hne=c at e2;have hd:l.dropLast.length=n:=by rw [List.length_dropLast];omega
    generalize l.dropLast=d at e2 hd;subst e2;obtain⟨i1,i2⟩:=ih d hd;by_cases hc:c=10
    ·subst hc
     rw [Jge];refine⟨fun x hx=>?_,fun b hb=>by cases hb⟩;rcases List.mem_append.1 hx with hx | hx
     ·exact i1 x hx
     ·have:x=(cutL d).2:=Qq
      subst this;exact i2
    ·rw [Jol d c hc]
     refine⟨i1,fun b hb=>?_⟩;rcases List.mem_append.1 hb with hb | hb
     ·exact i2 b hb
     ·have:b=c:=Zf
      subst this;exact hc
  exact (key s.length s rfl).1
def okAt (i:Nat) (c:UInt8):Bool:=if i=2∨i=5 then c==58 else dig c
def Jb0 (l:List UInt8):Bool:=decide (l.length=8)&&l.zipIdx.all fun x=>okAt x.2 x.1
theorem Jhg (l:List UInt8) (h:Jb0 l=true):l.length=8∧∀(k:Nat) c,l[k]?=some c→okAt k c=true:=by
 unfold Jb0 at h;simp only [Bool.and_eq_true,decide_eq_true_eq,List.all_eq_true] at h;exact⟨h.1,fun k c hk=>h.2 (c,k) (List.mem_zipIdx_iff_getElem?.2 hk)⟩
theorem Jzq (l:List UInt8) (h8:l.length=8) (h:∀(k:Nat) c,l[k]?=some c→okAt k c=true):Jb0 l=true:=by
 unfold Jb0;simp only [Bool.and_eq_true,decide_eq_true_eq,List.all_eq_true];exact⟨h8,fun x hx=>h x.2 x.1 (List.mem_zipIdx_iff_getElem?.1 hx)⟩
theorem Jk1 (k:Nat) (c:UInt8) (hk:k=2∨k=5):okAt k c=true↔c.toNat=58:=by
 unfold okAt;exact Wb
theorem Jhh (k:Nat) (c:UInt8) (hk:¬(k=2∨k=5)):okAt k c=true↔48≤c.toNat∧c.toNat≤57:=by
 unfold okAt;rw [if_neg hk,Jcj]
def posD (l:List UInt8):Bool:=!l.isEmpty&&!(l[0]?==some 48)&&digs l
def Jbu (l:List UInt8):Bool:=decide (l.length=2)&&digs l&&decide (valN l<60)
def Jdc (l:List UInt8):Bool:=posD l&&decide (l.length≤2)&&decide (valN l<60)
theorem Jc6 (l:List UInt8):posD l=true↔l≠[]∧l[0]?≠some 48∧digs l=true:=by
 unfold posD;simp [and_assoc]
theorem Jc3 (l:List UInt8):Jbu l=true↔l.length=2∧digs l=true∧valN l<60:=by
 unfold Jbu;simp [and_assoc]
theorem Jc4 (l:List UInt8):Jdc l=true↔posD l=true∧l.length≤2∧valN l<60:=by
 unfold Jdc;simp [and_assoc]
def Jee (c:UInt8) (l:List UInt8):List UInt8:=l.takeWhile (· != c)
def after (c:UInt8) (l:List UInt8):List UInt8:=(l.dropWhile (· != c)).drop 1
theorem Jgg (c:UInt8) (post:List UInt8):∀pre:List UInt8,c ∉ pre→Jee c (pre++c::post)=pre∧after c (pre++c::post)=post
 | [],_=>by simp [Jee,after]
 | b::l,h=>by
  have hb:(b != c)=true:=by rw [bne_iff_ne];rintro rfl;exact h Kj
  have ih:=Jgg c post l (fun hx=>h (by simp [hx]));unfold Jee after at *;simp [hb,ih]
theorem Jmb (c:UInt8) (l:List UInt8) (h:c∈l):∃pre post,l=pre++c::post∧c ∉ pre∧Jee c l=pre∧after c l=post:=by
 obtain⟨pre,post,rfl,hn⟩:=List.eq_append_cons_of_mem h;exact⟨pre,post,rfl,hn,Jgg c post pre hn⟩
def Jfo (H T:List UInt8):Int×Int :=
 if 109∈T∧Jbu (Jee 109 T)=true∧Jbu (after 109 T)=true∧posD H=true then
  if 2<H.length then (0,2) else ((valN H:Int)*3600+(valN (Jee 109 T):Int)*60+(valN (after 109 T):Int),0)
 else (0,3)
def Jdk (M S:List UInt8):Int×Int :=
 if Jdc M=true∧Jbu S=true then ((valN M:Int)*60+(valN S:Int),0) else (0,3)
def Je0 (r:List UInt8):Int×Int :=
 if 104∈r then Jfo (Jee 104 r) (after 104 r)
 else if 109∈r then Jdk (Jee 109 r) (after 109 r)
 else if r=[48] then (0,0)
 else if Jdc r=true then ((valN r:Int),0) else (0,3)
def durR (l:List UInt8):Int×Int:=if List.isSuffixOf [115] l=true then Je0 l.dropLast else (0,3)
def Jdl (t:Int):List UInt8:=two (t / 3600)++[58]++two (t % 3600 / 60)++[58]++two (t % 60)
def Jb5 (n:Int):List UInt8 :=
 if 3600≤n then dec (n / 3600)++[104]++two (n % 3600 / 60)++[109]++two (n % 60)++[115]
 else if 60≤n then dec (n % 3600 / 60)++[109]++two (n % 60)++[115]
 else dec (n % 60)++[115]
def Ji8 (h m s:Int):Prop:=0≤h∧h≤48∧0≤m∧m<60∧0≤s∧s<60∧h*3600+m*60+s≤172800
instance (h m s:Int):Decidable (Ji8 h m s):=by unfold Ji8;infer_instance
def Joq (l:List UInt8):Int×Int :=
 if Jb0 l=true then
  if Ji8 (Jbt l 0) (Jbt l 3) (Jbt l 6) then ((Jbt l 0:Int)*3600+(Jbt l 3:Int)*60+(Jbt l 6:Int),0) else (0,10)
 else (0,3)
theorem Jvb (t:Int) (h0:0≤t) (h1:t≤172800):Jbt (Jdl t) 0=(t / 3600).toNat∧Jbt (Jdl t) 3=(t % 3600 / 60).toNat∧Jbt (Jdl t) 6=(t % 60).toNat :=
 ⟨Jdq (t / 3600) Kd,Jdq (t % 3600 / 60) Kd,Jdq (t % 60) Kd⟩
theorem Jzr (t:Int) (h0:0≤t) (h1:t≤172800):Jb0 (Jdl t)=true:=by
 refine Jzq _ rfl fun k c hk=>?_
 have hd:∀y:Nat,y<10→dig (UInt8.ofNat (48+y))=true:=fun y hy=>Jda y hy
 match k,hk with
 | 0,hk=>obtain rfl:=Po hk;exact hd _ Kd
 | 1,hk=>obtain rfl:=Po hk;exact hd _ Kd
 | 2,hk=>obtain rfl:=Po hk;rfl
 | 3,hk=>obtain rfl:=Po hk;exact hd _ Kd
 | 4,hk=>obtain rfl:=Po hk;exact hd _ Kd
 | 5,hk=>obtain rfl:=Po hk;rfl
 | 6,hk=>obtain rfl:=Po hk;exact hd _ Kd
 | 7,hk=>obtain rfl:=Po hk;exact hd _ Kd
 | k+8,hk=>cases hk
theorem Jvc (t:Int) (h0:0≤t) (h1:t≤172800):Joq (Jdl t)=(t,0):=by
 obtain⟨e0,e3,e6⟩:=Jvb t h0 h1;unfold Joq;rw [if_pos (Jzr t h0 h1),e0,e3,e6,if_pos (by unfold Ji8;omega)];congr 1;omega
theorem Jtp (x:Nat) (h0:1≤x) (h:x<10):UInt8.ofNat (48+x)≠48:=by
 intro he;have:=congrArg UInt8.toNat he;rw [ofNat_toNat x h] at this;have h48:(48:UInt8).toNat=48:=rfl;omega
theorem Jqt (x:Int) (h0:1≤x) (h1:x<100):posD (dec x)=true:=by
 rw [Jc6];refine⟨?_,?_,Jh1 x Kd h1⟩
 ·by_cases h:x<10
  ·rw [Jg0 x h];simp
  ·rw [Jf0 x Kd h1];simp [two]
 ·by_cases h:x<10
  ·rw [Jg0 x h]
   intro he;exact Jtp x.toNat Kd Kd (Po he)
  ·rw [Jf0 x Kd h1]
   intro he;exact Jtp (x.toNat / 10) Kd Kd (Po he)
theorem Ji9 (c:UInt8) (l:List UInt8) (h:digs l=true) (hc:dig c=false):c ∉ l:=by
 intro hm;unfold digs at h;rw [List.all_eq_true] at h;rw [h c hm] at hc;cases hc
theorem Jja (x:Int) (h1:x<60):Jbu (two x)=true:=by
 rw [Jc3];refine⟨rfl,Jfz x Kd,?_⟩;rw [Jdq x Kd];omega
theorem suf (r:List UInt8):durR (r++[115])=Je0 r:=by
 unfold durR;rw [if_pos We];simp
theorem Qdm (H M S:List UInt8) (hH:digs H=true) (hM:digs M=true):Je0 (H++104::(M++109::S))=if Jbu M=true∧Jbu S=true∧posD H=true then (if 2<H.length then (0,2) else ((valN H:Int)*3600+(valN M:Int)*60+(valN S:Int),0)) else (0,3):=by
 obtain⟨e1,e2⟩:=Jgg 104 (M++109::S) H (Ji9 104 H hH Kl);obtain⟨e3,e4⟩:=Jgg 109 S M (Ji9 109 M hM Kl);unfold Je0 Jfo;rw [if_pos Kj,e1,e2,e3,e4];simp
theorem Qdn (M S:List UInt8) (hM:digs M=true) (hS:digs S=true):Je0 (M++109::S)=Jdk M S:=by
 obtain⟨e1,e2⟩:=Jgg 109 S M (Ji9 109 M hM Kl);have hn:(104:UInt8) ∉ M++109::S:=by
  have h1:=Ji9 104 M hM Kl;have h2:=Ji9 104 S hS Kl;simp [h1,h2]
 unfold Je0;rw [if_neg hn,if_pos Kj,e1,e2]
theorem Qdo (r:List UInt8) (hr:digs r=true) (h0:r≠[48]):Je0 r=if Jdc r=true then ((valN r:Int),0) else (0,3):=by
 unfold Je0;rw [if_neg (Ji9 104 r hr Kl),if_neg (Ji9 109 r hr Kl),if_neg h0]
theorem Jzs (n:Int) (h0:0≤n) (h1:n≤359999):durR (Jb5 n)=(n,0):=by
 by_cases hh:3600≤n
 ·have e:Jb5 n=(dec (n / 3600)++104::(two (n % 3600 / 60)++109::two (n % 60)))++[115]:=by
   unfold Jb5;rw [if_pos hh];simp
  rw [e,suf,Qdm _ _ _ (Jh1 _ Kd Kd) (Jfz _ Kd),if_pos ⟨Jja _ Kd,Jja _ Kd,Jqt _ Kd Kd⟩,
   if_neg (by have:=Jg1 (n / 3600) Kd;omega),Jim _ Kd Kd,Jdq _ Kd,Jdq _ Kd]
  congr 1
  omega
 ·by_cases hm:60≤n
  ·have e:Jb5 n=(dec (n % 3600 / 60)++109::two (n % 60))++[115]:=by
    unfold Jb5;rw [if_neg hh,if_pos hm];simp
   rw [e,suf,Qdn _ _ (Jh1 _ Kd Kd) (Jfz _ Kd)];unfold Jdk;rw [if_pos ⟨(Jc4 _).2 ⟨Jqt _ Kd Kd,Jg1 _ Kd,by rw [Jim _ Kd Kd];omega⟩,Jja _ Kd⟩,Jim _ Kd Kd,Jdq _ Kd];congr 1;omega
  ·have e:Jb5 n=dec (n % 60)++[115]:=by
    unfold Jb5;rw [if_neg hh,if_neg hm]
   rw [e,suf];by_cases hz:n=0
   ·subst hz
    rw [Jg0 _ Kd];decide
   ·have hp:=Jqt (n % 60) Kd Kd
    rw [Qdo _ (Jh1 _ Kd Kd) (fun he=>((Jc6 _).1 hp).2.1 (by rw [he];rfl)),
     if_pos ((Jc4 _).2 ⟨hp,Jg1 _ Kd,by rw [Jim _ Kd Kd];omega⟩),Jim _ Kd Kd]
    congr 1
    omega
theorem Jor (l:List UInt8) (h:List.isSuffixOf [115] l=true):∃r,l=r++[115]∧l.dropLast=r:=by
 rw [List.isSuffixOf_iff_suffix] at h;obtain⟨r,rfl⟩:=h;exact⟨r,rfl,Kj⟩
open Go.RowKit
theorem Jos (t:Int) (h0:0≤t) (h1:t≤172800) (w:World) :
  Pb 344 #[.int .i64 t] w (.bool true):=by
 go_enter func344,ntmps344;go_wp2;exact Yy
theorem J35 (t:Int) (h:t<0∨172800<t) (w:World) :
  Pb 344 #[.int .i64 t] w (.bool false):=by
 rcases h with h | h
 ·go_enter func344,ntmps344
  go_wp2
  exact Yy
 ·have h0:0≤t:=Kd
  have hd:decide (t≤172800)=false:=Ke;go_enter func344,ntmps344;go_wp2;exact Yy
theorem Jfd (t:Int) (h0:0≤t) (h1:t≤359999) (w:World) :
  Pb 302 #[.int .i64 t] w (.tuple #[.int .i64 (t / 3600),.int .i64 (t % 3600 / 60),.int .i64 (t % 60)]):=by
 go_enter func302,ntmps302;go_wp2;go_ret3
 exact V4
theorem Jer (h m s:Int) (h0:0≤h) (h1:h≤99) (m0:0≤m) (m1:m≤99) (s0:0≤s) (s1:s≤99) (w:World) :
  Pb 354 #[.int .i64 h,.int .i64 m,.int .i64 s] w (.int .i64 (h*3600+m*60+s)):=by
 go_enter func354,ntmps354;go_wp2;exact Yy
theorem Jdd (n:Int) (h0:0≤n) (h1:n<60) (w:World) :
  Pb 353 #[.int .i64 n] w (.bool true):=by
 go_enter func353,ntmps353;go_wp2;exact Yy
theorem Jes (n:Int) (h:n<0∨60≤n) (w:World) :
  Pb 353 #[.int .i64 n] w (.bool false):=by
 rcases h with h | h
 ·go_enter func353,ntmps353
  go_wp2
  exact Yy
 ·have h0:0≤n:=Kd
  have hd:decide (n<60)=false:=Ke;go_enter func353,ntmps353;go_wp2;exact Yy
theorem Jzt (t:Int) (h0:0≤t) (h1:t≤172800) (w:World) :
  Pb 299 #[.int .i64 t] w (.tuple #[.int .i64 (t / 3600),.int .i64 (t % 3600 / 60),.int .i64 (t % 60),.bool true]):=by
 go_enter func299,ntmps299;go_wp2_with (first | (go_at_call 344;refine Pf (Jos _ Kd Kd _) ?_) | (go_at_call 302;refine Pf (Jfd _ Kd Kd _) ?_));refine bodyPost_ret (Jhs rfl _ _ _) rfl ?_;exact V4
theorem J36 (h m s:Int) (hp:Ji8 h m s) (w:World) :
  Pb 321 #[.int .i64 h,.int .i64 m,.int .i64 s] w (.tuple #[.int .i64 (h*3600+m*60+s),.bool true]):=by
 obtain⟨h0,h1,m0,m1,s0,s1,ht⟩:=hp;go_enter func321,ntmps321;go_wp2_with (first | (go_at_call 353;refine Pf (Jdd _ Kd Kd _) ?_) | (go_at_call 354;refine Pf (Jer _ _ _ Kd Kd Kd Kd Kd Kd _) ?_) | (go_at_call 344;refine Pf (Jos _ Kd Kd _) ?_));exact Y2
theorem Qae (h m s:Int) (hp:¬Ji8 h m s) (w:World) :
  Pb 321 #[.int .i64 h,.int .i64 m,.int .i64 s] w (.tuple #[.int .i64 0,.bool false]):=by
 unfold Ji8 at hp;by_cases h0:h<0
 ·go_enter func321,ntmps321
  exact V8
 by_cases h1:48<h
 ·go_enter func321,ntmps321
  exact V8
 by_cases hm:m<0∨60≤m
 ·go_enter func321,ntmps321
  go_wp2_with (go_at_call 353;refine Pf (Jes _ Kd _) ?_)
  exact Y2
 by_cases hs:s<0∨60≤s
 ·go_enter func321,ntmps321
  go_wp2_with (first | (go_at_call 353;refine Pf (Jdd _ Kd Kd _) ?_) | (go_at_call 353;refine Pf (Jes _ Kd _) ?_))
  exact Y2
 ·go_enter func321,ntmps321
  go_wp2_with (first | (go_at_call 353;refine Pf (Jdd _ Kd Kd _) ?_) | (go_at_call 354;refine Pf (Jer _ _ _ Kd Kd Kd Kd Kd Kd _) ?_) | (go_at_call 344;refine Pf (J35 _ Kd _) ?_))
  exact Y2
theorem join_flat (xs:List (List UInt8)):Lib.join xs []=xs.flatten:=by
 simp [Lib.join,List.intercalate];induction xs with
 | nil=>rfl
 | cons a t ih=>cases t <;> simp_all [List.intersperse]
theorem Jvd (bk c:Nat) (xs:List ByteArray) (w:World) (hcells:∀(j:Nat) x,xs[j]?=some x→w.cell? ⟨bk,0+j,none⟩=some (.string x)) (hbk:bk<w.heap.size)
  (hN:xs.length≤100) (hcap:xs.length≤c) (hlen:(xs.map (·.data.toList)).flatten.length≤1000) :
  Pc 300 #[.slice (some ⟨bk,0,none⟩) xs.length c] w (.string (str (xs.map (·.data.toList)).flatten)):=by
 have hj:=Tryz.strings_Join bk 0 c xs ⟨#[]⟩ w hcells hbk Kd hcap (by show (Lib.join _ []).length≤_;rw [join_flat];omega);have he:Lib.join (xs.map (·.data.toList)) (⟨#[]⟩:ByteArray).data.toList=(xs.map (·.data.toList)).flatten:=join_flat _;rw [he] at hj;have H:=Pe hj;clear hj he hcells hlen;go_enter func300,ntmps300;go_wp2_with (go_at_call 133;refine H.out.mono ?_;rintro e w' ⟨rfl,hb⟩);go_ret;exact⟨rfl,hb⟩
theorem Jgh (x:Int) (h0:0≤x) (h1:x<100) (w:World) :
  Pb 297 #[.int .i64 x] w (.string (str (dec x))):=by
 obtain⟨n,rfl⟩:∃n:Nat,x=n:=⟨x.toNat,Kd⟩;exact (Tryz.strconv_Itoa_small n Kd w).mono fun _ _ ⟨he,hw⟩=>⟨he,hw.symm⟩
theorem Jmc (xs:List (List UInt8)) (hN:xs.length≤100) (hlen:xs.flatten.length≤1000) (w:World) :
  Calls prog 300 #[.slice (some ⟨w.heap.size,0,none⟩) xs.length xs.length] (w.alloc (.cells (xs.map fun l=>Value.string (str l)).toArray 9)) fun e w'=>e=.returned (.string (str xs.flatten))∧Pn w w':=by
 have hm:(xs.map str).map (·.data.toList)=xs:=Jw;have h:=Jvd w.heap.size xs.length (xs.map str) (w.alloc (.cells (xs.map fun l=>Value.string (str l)).toArray 9)) (by
  intro j x hx;simp only [List.getElem?_map,Option.map_eq_some_iff] at hx;obtain⟨l,hl,rfl⟩:=hx;rw [Nat.zero_add,World.cell?_alloc_new];simp [hl]) Kj (by simpa using hN) Kj (by rw [hm];exact hlen)
 rw [hm,Pq] at h;exact h.mono fun e w' ⟨he,hb⟩=>⟨he,((Below.refl _ _).alloc Ph _).trans (hb.mono Kj)⟩
theorem Jzu (a b:List UInt8) (ha:a.length≤100) (hb:b.length≤100) (w:World) :
  Calls prog 300 #[.slice (some ⟨w.heap.size,0,none⟩) 2 2] (w.alloc (.cells #[.string (str a),.string (str b)] 9)) fun e w'=>e=.returned (.string (str (a++b)))∧Pn w w':=by
 have h:=Jmc [a,b] Kj Ke w;exact h.mono fun e w' ⟨he,hb⟩=>⟨by rw [he];simp,hb⟩
theorem Qaf (a b c d:List UInt8) (ha:a.length≤100) (hb:b.length≤100) (hc:c.length≤100) (hd:d.length≤100) (w:World) :
  Calls prog 300 #[.slice (some ⟨w.heap.size,0,none⟩) 4 4] (w.alloc (.cells #[.string (str a),.string (str b),.string (str c),.string (str d)] 9)) fun e w'=>e=.returned (.string (str (a++b++c++d)))∧Pn w w':=by
 have h:=Jmc [a,b,c,d] Kj Ke w;exact h.mono fun e w' ⟨he,hb⟩=>⟨by rw [he];simp,hb⟩
theorem Qag (a b c d f:List UInt8) (ha:a.length≤100) (hb:b.length≤100) (hc:c.length≤100) (hd:d.length≤100) (hf:f.length≤100) (w:World) :
  Calls prog 300 #[.slice (some ⟨w.heap.size,0,none⟩) 5 5] (w.alloc (.cells #[.string (str a),.string (str b),.string (str c),.string (str d),.string (str f)] 9)) fun e w'=>e=.returned (.string (str (a++b++c++d++f)))∧Pn w w':=by
 have h:=Jmc [a,b,c,d,f] Kj Ke w;exact h.mono fun e w' ⟨he,hb⟩=>⟨by rw [he];simp,hb⟩
theorem Qah (a b c d f g:List UInt8) (ha:a.length≤100) (hb:b.length≤100) (hc:c.length≤100) (hd:d.length≤100) (hf:f.length≤100) (hg:g.length≤100) (w:World) :
  Calls prog 300 #[.slice (some ⟨w.heap.size,0,none⟩) 6 6] (w.alloc (.cells #[.string (str a),.string (str b),.string (str c),.string (str d),.string (str f),.string (str g)] 9)) fun e w'=>e=.returned (.string (str (a++b++c++d++f++g)))∧Pn w w':=by
 have h:=Jmc [a,b,c,d,f,g] Kj Ke w;exact h.mono fun e w' ⟨he,hb⟩=>⟨by rw [he];simp,hb⟩
theorem Jb9 (x:Int) (h0:0≤x) (h1:x<100) (w:World) :
  Pc 301 #[.int .i64 x] w (.string (str (two x))):=by
 have l1:=Jin (x / 10) Kd;have l2:=Jin (x % 10) Kd;go_enter func301,ntmps301;go_wp2_with (first | (go_at_call 297;refine Pf (Jgh _ Kd Kd _) ?_) | (go_at_call 300;refine (Jzu _ _ Kd Kd _).mono ?_;rintro e w' ⟨rfl,hb⟩));go_ret;exact⟨by rw [←Jwk x h0 h1];rfl,hb⟩
theorem Jve (t:Int) (h0:0≤t) (h1:t≤172800) (w:World) :
  Pc 223 #[.int .i64 t] w (.tuple #[.string (str (Jdl t)),.int .i64 0]):=by
 go_enter func223,ntmps223;go_wp2_with (go_at_call 299;refine Pf (Jzt _ h0 h1 _) ?_);go_wp2_with fail;refine (Jb9 (t / 3600) Kd Kd _).mono ?_;rintro e w1 ⟨rfl,b1⟩;go_wp2_with fail;refine (Jb9 (t % 3600 / 60) Kd Kd _).mono ?_;rintro e w2 ⟨rfl,b2⟩;go_wp2_with fail;refine (Jb9 (t % 60) Kd Kd _).mono ?_;rintro e w3 ⟨rfl,b3⟩;go_wp2_with fail;refine (Qag _ _ _ _ _ (Jj2 _) Kl (Jj2 _) Kl (Jj2 _) _).mono ?_;exact Y0
theorem J37 (n:Int) (h0:3600≤n) (h1:n≤359999) (w:World) :
  Pc 224 #[.int .i64 n] w (.tuple #[.string (str (Jb5 n)),.int .i64 0]):=by
 have hp:0<n / 3600:=Kd;have hz:0≤n:=Kd;go_enter func224,ntmps224;go_wp2_with fail;refine (Jfd n hz h1 _).mono ?_;rintro e w0 ⟨rfl,rfl⟩;go_wp2_with fail;refine (Jgh (n / 3600) Kd Kd _).mono ?_;rintro e w0 ⟨rfl,rfl⟩;go_wp2_with fail;refine (Jb9 (n % 3600 / 60) Kd Kd _).mono ?_;rintro e w1 ⟨rfl,b1⟩;go_wp2_with fail;refine (Jb9 (n % 60) Kd Kd _).mono ?_;rintro e w2 ⟨rfl,b2⟩;go_wp2_with fail;refine (Qah _ _ _ _ _ _ (Jwj _ Kd) Kl (Jj2 _) Kl (Jj2 _) Kl _).mono ?_;rintro e w3 ⟨rfl,b3⟩;go_wp2_with fail;go_ret2;exact⟨Jlj (by unfold Jb5;rw [if_pos h0];simp),b1.trans ((b2.trans (b3.mono b2.size)).mono b1.size)⟩
theorem J38 (n:Int) (h0:60≤n) (h1:n<3600) (w:World) :
  Pc 224 #[.int .i64 n] w (.tuple #[.string (str (Jb5 n)),.int .i64 0]):=by
 have hp:¬0<n / 3600:=Kd;have hp2:0<n % 3600 / 60:=Kd;have hz:0≤n:=Kd;have hz1:n≤359999:=Kd;go_enter func224,ntmps224;go_wp2_with fail;refine (Jfd n hz hz1 _).mono ?_;rintro e w0 ⟨rfl,rfl⟩;go_wp2_with fail;refine (Jgh (n % 3600 / 60) Kd Kd _).mono ?_;rintro e w0 ⟨rfl,rfl⟩;go_wp2_with fail;refine (Jb9 (n % 60) Kd Kd _).mono ?_;rintro e w2 ⟨rfl,b2⟩;go_wp2_with fail;refine (Qaf _ _ _ _ (Jwj _ Kd) Kl (Jj2 _) Kl _).mono ?_;rintro e w3 ⟨rfl,b3⟩;go_wp2_with fail;go_ret2;exact⟨Jlj (by unfold Jb5;rw [if_neg Kd,if_pos h0];simp),b2.trans (b3.mono b2.size)⟩
theorem J39 (n:Int) (h0:0≤n) (h1:n<60) (w:World) :
  Pc 224 #[.int .i64 n] w (.tuple #[.string (str (Jb5 n)),.int .i64 0]):=by
 have hp:¬0<n / 3600:=Kd;have hp2:¬0<n % 3600 / 60:=Kd;have hz1:n≤359999:=Kd;go_enter func224,ntmps224;go_wp2_with fail;refine (Jfd n h0 hz1 _).mono ?_;rintro e w0 ⟨rfl,rfl⟩;go_wp2_with fail;refine (Jgh (n % 60) Kd Kd _).mono ?_;rintro e w0 ⟨rfl,rfl⟩;go_wp2_with fail;refine (Jzu _ _ (Jwj _ Kd) Kl _).mono ?_;rintro e w3 ⟨rfl,b3⟩;go_wp2_with fail;go_ret2;exact⟨Jlj (by unfold Jb5;rw [if_neg Kd,if_neg Kd]),b3⟩
theorem Jvf (n:Int) (h0:0≤n) (h1:n≤359999) (w:World) :
  Pc 224 #[.int .i64 n] w (.tuple #[.string (str (Jb5 n)),.int .i64 0]):=by
 by_cases hh:3600≤n
 ·exact J37 n hh h1 w
 ·by_cases hm:60≤n
  ·exact J38 n hm Kd w
  ·exact J39 n h0 Kd w
theorem Jet (r:Int) (h0:48≤r) (h1:r≤57) (w:World) :
  Pb 352 #[.int .i32 r] w (.bool true):=by
 go_enter func352,ntmps352;go_wp2;exact Yy
theorem Jhi (r:Int) (h:r<48∨57<r) (w:World) :
  Pb 352 #[.int .i32 r] w (.bool false):=by
 rcases h with h | h
 ·go_enter func352,ntmps352
  go_wp2
  exact Yy
 ·have h0:48≤r:=Kd
  have hd:decide (r≤57)=false:=Ke;go_enter func352,ntmps352;go_wp2;exact Yy
theorem allDigits_yes (s:ByteArray) (hd:digs s.data.toList=true) (w:World) :
  Pc 370 #[.string s] w (.bool true):=by
 have HD:=Pe hd;clear hd;go_enter func370,ntmps370;go_wp2;go_loopw [] (fun w'=>∃pos:Nat,w'=w.iter s pos) (fun w'=>s.size - w'.iterPos w.heap.size)
 case atStart=>exact⟨0,rfl⟩
 case round =>
  obtain⟨pos,rfl⟩:=hrel;by_cases hp:pos<s.size
  ·have hc:=Jlh s pos hp HD.out
   have hnx:∀ty,(Instr.next (.pointer (some ⟨w.heap.size,0,none⟩)) true ty).run prog (w.iter s pos)=_:=fun ty=>run_next_ascii w s pos ty hp Kd
   go_wp2_with (go_at_call 352;refine Pf (Jet _ Kd Kd _) ?_)
   go_roundw
   case rel=>exact⟨pos+1,rfl⟩
   case measure=>exact Ke
  ·have hnx:∀ty,(Instr.next (.pointer (some ⟨w.heap.size,0,none⟩)) true ty).run prog (w.iter s pos)=_:=fun ty=>run_next_end w s pos ty hp
   go_wp2
   exact Y3
theorem allDigits_no (s:ByteArray) (hd:digs s.data.toList=false) (w:World) :
  Pc 370 #[.string s] w (.bool false):=by
 have HD:=Pe hd;clear hd;go_enter func370,ntmps370;go_wp2;go_loopw [] (fun w'=>∃pos:Nat,w'=w.iter s pos∧Hid (digs (s.data.toList.take pos)=true)) (fun w'=>s.size - w'.iterPos w.heap.size)
 case atStart=>exact⟨0,rfl,Pe rfl⟩
 case round =>
  obtain⟨pos,rfl,ht⟩:=hrel;by_cases hp:pos<s.size
  ·by_cases hc:48≤s[pos].toNat∧s[pos].toNat≤57
   ·have hst:=Pe (Jm7 s pos hp ht.out hc)
    have hnx:∀ty,(Instr.next (.pointer (some ⟨w.heap.size,0,none⟩)) true ty).run prog (w.iter s pos)=_:=fun ty=>run_next_ascii w s pos ty hp Kd
    go_wp2_with (go_at_call 352;refine Pf (Jet _ Kd Kd _) ?_)
    go_roundw
    case rel=>exact⟨pos+1,rfl,hst⟩
    case measure=>exact Ke
   ·by_cases ha:s[pos].toNat<128
    ·have hnx:∀ty,(Instr.next (.pointer (some ⟨w.heap.size,0,none⟩)) true ty).run prog (w.iter s pos)=_:=fun ty=>run_next_ascii w s pos ty hp ha
     go_wp2_with (go_at_call 352;refine Pf (Jhi _ Kd _) ?_)
     exact Y3
    ·have hh:=(decode_high s pos hp Kd).1
     have hnx:∀ty,(Instr.next (.pointer (some ⟨w.heap.size,0,none⟩)) true ty).run prog (w.iter s pos)=_:=fun ty=>run_next_any w s pos ty hp
     go_wp2_with (go_at_call 352;refine Pf (Jhi _ Kd _) ?_)
     exact Y3
  ·have hf:=Jhr s pos hp ht.out
   rw [HD.out] at hf;cases hf
theorem Jot (s:ByteArray) (hd:digs s.data.toList=true) (hl:s.size≤6) (w:World) :
  Pc 322 #[.string s] w (.int .i64 (valN s.data.toList)):=by
 have HD:=Pe hd;clear hd;go_enter func322,ntmps322;go_wp2;go_loopw [3] (fun n w'=>∃pos:Nat,w'=w.iter s pos∧n=.int .i64 (valN (s.data.toList.take pos))∧pos≤s.size) (fun _ w'=>s.size - w'.iterPos w.heap.size)
 case atStart=>exact⟨0,rfl,rfl,Nat.zero_le _⟩
 case round =>
  obtain⟨pos,rfl,rfl,hle⟩:=hrel;by_cases hp:pos<s.size
  ·have hc:=Jlh s pos hp HD.out
   have hv:valN (s.data.toList.take pos)<1000000:=by
    have h1:=Jlg _ (Jm6 _ pos HD.out);exact Y6
   have hs:=Pe (Jil (s.data.toList.take pos) s[pos]);have ht:=Pe (Jfy s pos hp);have hnx:∀ty,(Instr.next (.pointer (some ⟨w.heap.size,0,none⟩)) true ty).run prog (w.iter s pos)=_:=fun ty=>run_next_ascii w s pos ty hp Kd
   go_wp2
   go_roundw
   case rel=>exact⟨pos+1,rfl,by rw [ht.out,hs.out];go_num,Kd⟩
   case measure=>exact Ke
  ·have hnx:∀ty,(Instr.next (.pointer (some ⟨w.heap.size,0,none⟩)) true ty).run prog (w.iter s pos)=_:=fun ty=>run_next_end w s pos ty hp
   have he:=Pe (List.take_of_length_le (l:=s.data.toList) (i:=pos) (by simpa using hp));go_wp2;go_ret;exact⟨by rw [he.out];rfl,Ja6 _ _ _⟩
theorem Jqu (s:ByteArray) (h8:s.size≠8) (w:World) :
  Pc 320 #[.string s] w (.bool false):=by
 have h:((s.size:Int)==8)=false:=Vs;have h':((s.size:Int) != 8)=true:=by rw [bne,h];rfl
 go_enter func320,ntmps320;go_wp2;all_goals go_ret
 all_goals exact⟨rfl,Pg⟩
theorem Jgi (s:ByteArray) (pos:Nat) (hp:pos<s.size) (ho:okAt pos s[pos]=true):s[pos].toNat<128∧(pos=2∨pos=5→s[pos].toNat=58)∧(¬(pos=2∨pos=5)→48≤s[pos].toNat∧s[pos].toNat≤57):=by
 by_cases hk:pos=2∨pos=5
 ·have:=(Jk1 pos _ hk).1 ho
  exact⟨Kd,fun _=>this,fun h=>absurd hk h⟩
 ·have:=(Jhh pos _ hk).1 ho
  exact⟨Kd,fun h=>absurd h hk,fun _=>this⟩
theorem Jjb (s:ByteArray) (hf:Jb0 s.data.toList=true) (w:World) :
  Pc 320 #[.string s] w (.bool true):=by
 have h8:s.size=8:=(Jhg _ hf).1;have HD:=Pe (Jhg _ hf).2;clear hf;have h:((s.size:Int)==8)=true:=Y5;have h':((s.size:Int) != 8)=false:=by rw [bne,h];rfl
 have H8:=Pe h8;clear h8;go_enter func320,ntmps320;go_wp2;go_loopw [] (fun w'=>∃pos:Nat,w'=w.iter s pos) (fun w'=>s.size - w'.iterPos w.heap.size)
 case atStart=>exact⟨0,rfl⟩
 case round =>
  clear h h';obtain⟨pos,rfl⟩:=hrel;by_cases hp:pos<s.size
  ·obtain⟨ha,hc,hd⟩:=Jgi s pos hp (HD.out pos _ (Jd8 s pos hp))
   have hnx:∀ty,(Instr.next (.pointer (some ⟨w.heap.size,0,none⟩)) true ty).run prog (w.iter s pos)=_:=fun ty=>run_next_ascii w s pos ty hp ha
   by_cases h2:pos=2
   ·have hc:=hc (Or.inl h2)
    have b2:((pos:Int)==2)=true:=Y5;have b3:(((s[pos].toNat:Nat):Int) != 58)=false:=Wd;have HH:=Pe (And.intro h2 hc);clear h2 hc hd;go_wp2;go_roundw
    case rel=>exact⟨pos+1,rfl⟩
    case measure=>exact Ke
   ·by_cases h5:pos=5
    ·have hc:=hc (Or.inr h5)
     have b2:((pos:Int)==2)=false:=Jaa Kd;have b5:((pos:Int)==5)=true:=Y5;have b3:(((s[pos].toNat:Nat):Int) != 58)=false:=Wd;have HH:=Pe (And.intro h5 hc);clear h2 h5 hc hd;go_wp2;go_roundw
     case rel=>exact⟨pos+1,rfl⟩
     case measure=>exact Ke
    ·have hd:=hd Kd
     have b2:((pos:Int)==2)=false:=Jaa Kd;have b5:((pos:Int)==5)=false:=Jaa Kd;clear hc;go_wp2_with (go_at_call 352;refine Pf (Jet _ Kd Kd _) ?_);go_roundw
     case rel=>exact⟨pos+1,rfl⟩
     case measure=>exact Ke
  ·have hnx:∀ty,(Instr.next (.pointer (some ⟨w.heap.size,0,none⟩)) true ty).run prog (w.iter s pos)=_:=fun ty=>run_next_end w s pos ty hp
   go_wp2
   exact Y3
theorem J4a (s:ByteArray) (pos:Nat) (hp:pos<s.size) (hx:okAt pos s[pos]=false) :
  (pos=2∨pos=5→(Utf8.decode s pos).1≠58)∧(¬(pos=2∨pos=5)→(Utf8.decode s pos).1<48∨57<(Utf8.decode s pos).1):=by
 by_cases ha:s[pos].toNat<128
 ·rw [decode_ascii s pos hp ha]
  refine⟨fun hk he=>?_,fun hk=>?_⟩
  ·rw [(Jk1 pos _ hk).2 he] at hx;cases hx
  ·by_cases hd:48≤s[pos].toNat∧s[pos].toNat≤57
   ·rw [(Jhh pos _ hk).2 hd] at hx;cases hx
   ·show s[pos].toNat<48∨57<s[pos].toNat
    omega
 ·have:=(decode_high s pos hp Kd).1
  exact⟨fun _=>Kd,fun _=>Kd⟩
theorem Jvg (s:ByteArray) (hf:Jb0 s.data.toList=false) (w:World) :
  Pc 320 #[.string s] w (.bool false):=by
 by_cases h8:s.size≠8
 ·exact Jqu s h8 w
 have h8:s.size=8:=Kd;have HD:=Pe hf;clear hf;have h:((s.size:Int)==8)=true:=Y5;have h':((s.size:Int) != 8)=false:=by rw [bne,h];rfl
 have H8:=Pe h8;clear h8;go_enter func320,ntmps320;go_wp2;go_loopw [] (fun w'=>∃pos:Nat,w'=w.iter s pos∧Hid (∀k c,k<pos→s.data.toList[k]?=some c→okAt k c=true)) (fun w'=>s.size - w'.iterPos w.heap.size)
 case atStart=>exact⟨0,rfl,Pe (fun k c hk=>absurd hk (Nat.not_lt_zero _))⟩
 case round =>
  clear h h';obtain⟨pos,rfl,ht⟩:=hrel;by_cases hp:pos<s.size
  ·cases hx:okAt pos s[pos] with
   | true =>
    obtain⟨ha,hc,hd⟩:=Jgi s pos hp hx;have hst:Hid (∀k c,k<pos+1→s.data.toList[k]?=some c→okAt k c=true):=by
     intro k c hk hl;by_cases hkp:k<pos
     ·exact ht.out k c hkp hl
     ·obtain rfl:k=pos:=Kd
      rw [Jd8 s k hp] at hl;cases hl;exact hx
    clear hx;have hnx:∀ty,(Instr.next (.pointer (some ⟨w.heap.size,0,none⟩)) true ty).run prog (w.iter s pos)=_:=fun ty=>run_next_ascii w s pos ty hp ha
    by_cases h2:pos=2
    ·have hc:=hc (Or.inl h2)
     have b2:((pos:Int)==2)=true:=Y5;have b3:(((s[pos].toNat:Nat):Int) != 58)=false:=Wd;have HH:=Pe (And.intro h2 hc);clear h2 hc hd;go_wp2;go_roundw
     case rel=>exact⟨pos+1,rfl,hst⟩
     case measure=>exact Ke
    ·by_cases h5:pos=5
     ·have hc:=hc (Or.inr h5)
      have b2:((pos:Int)==2)=false:=Jaa Kd;have b5:((pos:Int)==5)=true:=Y5;have b3:(((s[pos].toNat:Nat):Int) != 58)=false:=Wd;have HH:=Pe (And.intro h5 hc);clear h2 h5 hc hd;go_wp2;go_roundw
      case rel=>exact⟨pos+1,rfl,hst⟩
      case measure=>exact Ke
     ·have hd:=hd Kd
      have b2:((pos:Int)==2)=false:=Jaa Kd;have b5:((pos:Int)==5)=false:=Jaa Kd;clear hc;go_wp2_with (go_at_call 352;refine Pf (Jet _ Kd Kd _) ?_);go_roundw
      case rel=>exact⟨pos+1,rfl,hst⟩
      case measure=>exact Ke
   | false =>
    obtain⟨hc,hd⟩:=J4a s pos hp hx;clear hx;have hnx:∀ty,(Instr.next (.pointer (some ⟨w.heap.size,0,none⟩)) true ty).run prog (w.iter s pos)=_:=fun ty=>run_next_any w s pos ty hp
    by_cases h2:pos=2
    ·have hc:=hc (Or.inl h2)
     have b2:((pos:Int)==2)=true:=Y5;have b3:((((Utf8.decode s pos).1:Nat):Int) != 58)=true:=Jaf Kd;have HH:=Pe (And.intro h2 hc);clear h2 hc hd;go_wp2;exact Y3
    ·by_cases h5:pos=5
     ·have hc:=hc (Or.inr h5)
      have b2:((pos:Int)==2)=false:=Jaa Kd;have b5:((pos:Int)==5)=true:=Y5;have b3:((((Utf8.decode s pos).1:Nat):Int) != 58)=true:=Jaf Kd;have HH:=Pe (And.intro h5 hc);clear h2 h5 hc hd;go_wp2;exact Y3
     ·have hd:=hd Kd
      have b2:((pos:Int)==2)=false:=Jaa Kd;have b5:((pos:Int)==5)=false:=Jaa Kd;clear hc;go_wp2_with (go_at_call 352;refine Pf (Jhi _ Kd _) ?_);exact Y3
  ·have hfm:=Jzq s.data.toList H8.out (fun k c hl=>ht.out k c (by have:=(Pl hl).1;have h9:k<s.size:=this;omega) hl)
   rw [HD.out] at hfm;cases hfm
theorem Jzv (s:ByteArray) (hf:Jb0 s.data.toList=true) (a:Nat) (ha:a=0∨a=3∨a=6):digs ((s.data.toList.drop a).take 2)=true:=by
 obtain⟨h8,h⟩:=Jhg _ hf;unfold digs;rw [List.all_eq_true];intro x hx;obtain⟨i,hi⟩:=List.mem_iff_getElem?.1 hx;have hi2:i<2:=by
  have:=(Pl hi).1;exact Qy
 rw [List.getElem?_take_of_lt hi2,List.getElem?_drop] at hi;exact (Jcj _).2 ((Jhh _ _ Kd).1 (h _ _ hi))
theorem J4b (s:ByteArray) (a:Nat) (b:Nat) (hb:b=a+2) (hd:digs ((s.data.toList.drop a).take 2)=true) (hs:a+2≤s.size) (w:World) :
  Pc 322 #[.string (s.extract a b)] w (.int .i64 (Jbt s.data.toList a)):=by
 subst hb;have he:(s.extract a (a+2)).data.toList=(s.data.toList.drop a).take 2:=by rw [Lib.extract_data];congr 1;omega
 have h:=Jot (s.extract a (a+2)) (by rw [he];exact hd) Ke w;rw [he] at h;exact h
theorem Jk2 (s:ByteArray) (hf:Jb0 s.data.toList=true) (a b:Nat) (hb:b=a+2) (ha:a=0∨a=3∨a=6) (w:World) :
  Calls prog 322 #[.string (s.extract a b)] w fun e w'=>e=.returned (.int .i64 (Jbt s.data.toList a))∧Pn w w' :=
 J4b s a b hb (Jzv s hf a ha) (by have:s.size=8:=(Jhg _ hf).1;omega) w
theorem Jzw (s:ByteArray) (hf:Jb0 s.data.toList=true) (hp:Ji8 (Jbt s.data.toList 0) (Jbt s.data.toList 3) (Jbt s.data.toList 6)) (w:World) :
  Pc 254 #[.string s] w (.tuple #[.int .i64 ((Jbt s.data.toList 0:Int)*3600+(Jbt s.data.toList 3:Int)*60+(Jbt s.data.toList 6:Int)),.int .i64 0]):=by
 have h8:s.size=8:=(Jhg _ hf).1;have HF:=Pe hf;have HP:=Pe hp;clear hf hp;have g2:2≤s.size:=Kd;have g5:5≤s.size:=Kd;have g8:8≤s.size:=Kd;have i2:(2:Int)≤(s.size:Int):=Kd;have i5:(5:Int)≤(s.size:Int):=Kd;have i8:(8:Int)≤(s.size:Int):=Kd;clear h8;go_enter func254,ntmps254;go_wp2_with fail;refine (Jjb s HF.out _).mono ?_;rintro e w1 ⟨rfl,b1⟩;go_wp2_with fail;go_region_held3 (fun _=>True) (exact trivial) (first | (go_at_call 322;refine (rel (W:=w) (Jk2 s HF.out _ _ Kd Kd _) Yz).mono ?_;rintro e wa ⟨rfl,ba⟩) | (go_at_call 321;refine (J36 _ _ _ HP.out _).mono ?_;rintro e wd ⟨rfl,rfl⟩));exact Y8
theorem Jvh (s:ByteArray) (hf:Jb0 s.data.toList=true) (hp:¬Ji8 (Jbt s.data.toList 0) (Jbt s.data.toList 3) (Jbt s.data.toList 6)) (w:World) :
  Pc 254 #[.string s] w (.tuple #[.int .i64 0,.int .i64 10]):=by
 have h8:s.size=8:=(Jhg _ hf).1;have HF:=Pe hf;have HP:=Pe hp;clear hf hp;have g2:2≤s.size:=Kd;have g5:5≤s.size:=Kd;have g8:8≤s.size:=Kd;have i2:(2:Int)≤(s.size:Int):=Kd;have i5:(5:Int)≤(s.size:Int):=Kd;have i8:(8:Int)≤(s.size:Int):=Kd;clear h8;go_enter func254,ntmps254;go_wp2_with fail;refine (Jjb s HF.out _).mono ?_;rintro e w1 ⟨rfl,b1⟩;go_wp2_with fail;go_region_held3 (fun _=>True) (exact trivial) (first | (go_at_call 322;refine (rel (W:=w) (Jk2 s HF.out _ _ Kd Kd _) Yz).mono ?_;rintro e wa ⟨rfl,ba⟩) | (go_at_call 321;refine (Qae _ _ _ HP.out _).mono ?_;rintro e wd ⟨rfl,rfl⟩));exact Y8
theorem Jou (s:ByteArray) (hf:Jb0 s.data.toList=false) (w:World) :
  Pc 254 #[.string s] w (.tuple #[.int .i64 0,.int .i64 3]):=by
 have HF:=Pe hf;clear hf;go_enter func254,ntmps254;go_wp2_with fail;refine (Jvg s HF.out _).mono ?_;exact Y1
end
end Go.Proofs.YtpifdbphmnifdaaGreatDoor
