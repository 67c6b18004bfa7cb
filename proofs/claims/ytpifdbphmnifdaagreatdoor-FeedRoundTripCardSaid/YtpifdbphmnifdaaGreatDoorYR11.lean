/-
  Facts of the proof. Condition: each theorem's own.
-/
import Derived.Test.YtpifdbphmnifdaaGreatDoorYR10
set_option maxRecDepth 100000
set_option maxHeartbeats 8000000
open Go.Proofs.Tryz
namespace Go.Proofs.YtpifdbphmnifdaaGreatDoor
section
open Go
theorem Jwt {κ α:Type} {bad:List κ→α→Int} {key:α→κ} {l:List α} (h:(fbF bad key [] 0 l).2=0) {j:Nat} {x:α} (hx:l[j]?=some x):bad ((l.take j).map key) x=0:=by
 have:=Jvp l [] 0 h j x hx;rwa [List.nil_append] at this
theorem Jdd {κ α:Type} {bad:List κ→α→Int} {key:α→κ} {l:List α} (h:(fbF bad key [] 0 l).2=0) {x:α} (hx:x∈l):∃seen,bad seen x=0:=by
 obtain⟨j,hj⟩:=List.mem_iff_getElem?.1 hx;exact⟨_,Jwt h hj⟩
theorem Jhk {κ α:Type} {bad:List κ→α→Int} {key:α→κ} {l:List α} (h:(fbF bad key [] 0 l).2=0) (hb:∀seen x,bad seen x=0→key x ∉ seen):(l.map key).Nodup:=by
 refine List.pairwise_iff_getElem.2 fun i j hi hj hij e=>?_
 simp only [List.length_map] at hi hj;have h1:=hb _ _ (Jwt h (List.getElem?_eq_getElem hj));simp only [List.getElem_map] at e;apply h1
 rw [←e];exact List.mem_map.2 ⟨l[i],List.mem_take_iff_getElem.2 ⟨i,by omega,rfl⟩,rfl⟩
theorem Jwu {κ α:Type} {bad:List κ→α→Int} {key:α→κ} {f:α→α} (h1:∀seen x,bad seen (f x)=bad seen x) (h2:∀x,key (f x)=key x):∀(l:List α) (seen:List κ) (k:Nat),fbF bad key seen k (l.map f)=fbF bad key seen k l
 | [],_,_=>rfl
 | x::l,seen,k=>by
  rw [List.map_cons];unfold fbF;rw [h1,h2,Jwu h1 h2 l]
theorem Jkh:∀(l:List S13.St) (seen:List Bs) (k:Nat),S13.chkF seen k l=fbF S13.badS (fun x=>x.1) seen k l
 | [],_,_=>rfl
 | x::l,seen,k=>by
  unfold S13.chkF fbF;rw [Jkh l]
theorem J4s {st lo hi:Int} {c:Cl}:∀(l:List Cl) (p:Option Cl) (k:Nat),(ckF st lo hi p k l).2=0→c∈l→∃q,badC st lo hi q c=0
 | [],_,_,_,h=>by cases h
 | x::l,p,k,hz,h=>by
  unfold ckF at hz;by_cases hb:badC st lo hi p x=0
  ·rw [if_pos hb] at hz
   rcases List.mem_cons.1 h with rfl | hm
   ·exact⟨p,hb⟩
   ·exact J4s l _ _ hz hm
  ·rw [if_neg hb] at hz
   exact absurd hz hb
theorem J1h {st lo hi:Int} {p:Option Cl} {x:Cl} (h:badC st lo hi p x=0):(0≤x.1∧x.1<st)∧lo≤x.2.1∧x.2.1≤x.2.2.1∧x.2.2.1≤hi:=by
 unfold badC at h;split at h
 ·omega
 split at h
 ·omega
 split at h
 ·omega
 ·omega
theorem Jwv {T:Tt} (h:(ttC T).2.2=0):Val T:=by
 have hp:=(Jwm T).1 h;have h0:(S13.chkT T.st).2=0:=hp 0 (by omega);have h1:(chkR T.ro).2=0:=hp 1 (by omega);have h2:(S14.chkC T.ca).2=0:=hp 2 (by omega);have h3:(S14.chkX T.ca.length T.ex).2=0:=hp 3 (by omega);have h4:(S17.chkT T.st.length T.ro.length T.ca.length T.tr).2=0:=hp 4 (by omega);have h5:(chkF (T.tr.map clT) T.fr).2=0:=hp 5 (by omega);have h6:(S19.chkH (T.tr.map S19.tcT) T.fr T.th).2=0:=hp 6 (by omega);have h7:(S19.chkU (T.tr.map S19.tcT) T.fr T.st.length T.gu).2=0:=hp 7 (by omega);have h8:(S20.chkP T.st.length T.pa).2=0:=hp 8 (by omega);have h9:(S21.chkPd T.di T.wi T.cp T.pr).2=0:=hp 9 (by omega);unfold S13.chkT at h0;unfold chkR at h1;unfold S14.chkC at h2;unfold S14.chkX at h3;unfold S17.chkT at h4;unfold S19.chkH at h6;unfold S19.chkU at h7;unfold S20.chkP S20.vldP at h8;unfold S21.chkPd at h9;split at h0
 ·simp at h0
 split at h1
 ·simp at h1
 split at h2
 ·simp at h2
 split at h3
 ·simp at h3
 split at h4
 ·simp at h4
 split at h6
 ·simp at h6
 split at h7
 ·simp at h7
 split at h8
 ·simp at h8
 split at h9
 ·simp at h9
 split at h9
 ·simp at h9
 rw [Jkh] at h0;next hfa _ =>
 have hfa:=Decidable.not_not.1 hfa;refine⟨fun x hx=>?_,?_,fun x hx=>?_,?_,fun x hx=>?_,?_,fun x hx=>?_,fun x hx=>?_,?_,fun x hx c hc=>?_,fun x hx=>?_,fun x hx=>?_,fun x hx=>?_,fun x hx=>?_,fun x hx=>?_,?_⟩
 ·obtain⟨s,hb⟩:=Jdd h0 hx
  unfold S13.badS at hb;split at hb
  ·simp at hb
  split at hb
  ·simp at hb
  split at hb
  ·simp at hb
  ·next hf=>unfold S13.farS at hf;omega
 ·refine Jhk h0 fun s x hb=>?_
  unfold S13.badS at hb;split at hb
  ·simp at hb
  split at hb
  ·simp at hb
  ·next hf=>exact hf
 ·obtain⟨s,hb⟩:=Jdd h1 hx
  unfold badR at hb;split at hb
  ·simp at hb
  split at hb
  ·simp at hb
  split at hb
  ·next hf=>exact hf
  ·simp at hb
 ·refine Jhk (key:=idR) h1 fun s x hb=>?_
  unfold badR at hb;split at hb
  ·simp at hb
  split at hb
  ·simp at hb
  ·next hf=>exact hf
 ·obtain⟨s,hb⟩:=Jdd h2 hx
  unfold S14.badC at hb;split at hb
  ·simp at hb
  split at hb
  ·simp at hb
  split at hb
  ·next hf=>exact⟨hf.1,hf.2.1⟩
  ·simp at hb
 ·refine Jhk (key:=S14.idC) h2 fun s x hb=>?_
  unfold S14.badC at hb;split at hb
  ·simp at hb
  split at hb
  ·simp at hb
  ·next hf=>exact hf
 ·obtain⟨s,hb⟩:=Jdd h3 hx
  unfold S14.badX at hb;split at hb
  ·simp at hb
  next hr =>
  split at hb
  ·simp at hb
  next hd =>
  exact⟨by omega,Decidable.not_not.1 hd⟩
 ·obtain⟨s,hb⟩:=Jdd h4 hx
  unfold S17.badT at hb;split at hb
  ·simp at hb
  split at hb
  ·simp at hb
  split at hb
  ·next hr=>exact hr
  ·simp at hb
 ·refine Jhk (key:=S17.idT) h4 fun s x hb=>?_
  unfold S17.badT at hb;split at hb
  ·simp at hb
  split at hb
  ·simp at hb
  ·next hf=>exact hf
 ·obtain⟨s,hb⟩:=Jdd h4 hx
  unfold S17.badT at hb;split at hb
  ·simp at hb
  split at hb
  ·simp at hb
  split at hb
  ·unfold chkC at hb
   split at hb
   ·simp at hb
   ·obtain⟨q,hq⟩:=J4s _ _ _ hb hc
    obtain⟨c0,c1,c2,c3⟩:=J1h hq;exact⟨c0,⟨c1,by omega⟩,by omega,c3⟩
  ·simp at hb
 ·obtain⟨j,hj⟩:=List.mem_iff_getElem?.1 hx
  obtain⟨g0,g1,-⟩:=Jvn (J0q h5 j x hj);obtain⟨t,a,b,e⟩:=x;rw [List.length_map] at g0;obtain⟨s0,s1,s2,s3,s4⟩:=Jgm.1 g1;exact⟨g0,⟨s0,Int.le_trans (Int.le_of_lt s1) s2⟩,⟨Int.le_trans s0 (Int.le_of_lt s1),s2⟩,Int.le_trans (by decide) s3,s4⟩
 ·obtain⟨s,hb⟩:=Jdd h6 hx
  unfold S19.thE at hb;split at hb
  ·next hf=>exact absurd hb hf
  next hf =>
  have hf:=Decidable.not_not.1 hf;unfold S19.prE at hf;rw [List.length_map] at hf;split at hf
  ·simp at hf
  ·omega
 ·obtain⟨s,hb⟩:=Jdd h7 hx
  unfold S19.guE at hb;split at hb
  ·simp at hb
  next hs =>
  split at hb
  ·next hf=>exact absurd hb hf
  next hf =>
  have hf:=Decidable.not_not.1 hf;unfold S19.prE at hf;rw [List.length_map] at hf;split at hf
  ·simp at hf
  ·omega
 ·obtain⟨s,hb⟩:=Jdd h8 hx
  unfold S20.badP at hb;split at hb
  ·simp at hb
  split at hb
  ·simp at hb
  ·omega
 ·obtain⟨s,hb⟩:=Jdd h9 hx
  unfold S21.badPd at hb;split at hb
  ·simp at hb
  split at hb
  ·simp at hb
  split at hb
  ·next hf=>obtain⟨k0,k1,k2,k3,k4⟩:=hf;exact⟨k0,by omega,by omega,k3,by omega,by omega⟩
  ·simp at hb
 ·exact hfa
theorem J1i (T:Tt):Ja0 (nrm T)=Ja0 T:=by
 funext j
 match j with
 | 0=>rfl
 | 1=>rfl
 | 2 =>
  show S14.chkC (T.ca.map nCa)=S14.chkC T.ca
  unfold S14.chkC;rw [List.length_map,Jwu (f:=nCa) (fun _ _=>rfl) (fun _=>rfl)]
 | 3=>show S14.chkX (T.ca.map nCa).length T.ex=_;rw [List.length_map];rfl
 | 4 =>
  show S17.chkT T.st.length T.ro.length (T.ca.map nCa).length (T.tr.map nTr)=S17.chkT T.st.length T.ro.length T.ca.length T.tr
  unfold S17.chkT;rw [List.length_map,List.length_map,Jwu (f:=nTr) (fun _ _=>rfl) (fun _=>rfl)]
 | 5=>show chkF ((T.tr.map nTr).map clT) T.fr=_;rw [List.map_map];rfl
 | 6=>show S19.chkH ((T.tr.map nTr).map S19.tcT) T.fr T.th=_;rw [List.map_map];rfl
 | 7=>show S19.chkU ((T.tr.map nTr).map S19.tcT) T.fr T.st.length T.gu=_;rw [List.map_map];rfl
 | 8=>rfl
 | 9=>rfl
 | n+10=>rfl
theorem J7l (T:Tt):ttC (nrm T)=ttC T:=by unfold ttC;rw [J1i]
theorem wk_at (k:Nat→Bool):decide ((wkT k)[0]?=some 49)=k 0∧decide ((wkT k)[1]?=some 49)=k 1∧decide ((wkT k)[2]?=some 49)=k 2∧decide ((wkT k)[3]?=some 49)=k 3∧decide ((wkT k)[4]?=some 49)=k 4∧decide ((wkT k)[5]?=some 49)=k 5∧decide ((wkT k)[6]?=some 49)=k 6:=by
 unfold wkT;refine⟨?_,?_,?_,?_,?_,?_,?_⟩
 ·cases k 0 <;> rfl
 ·cases k 1 <;> rfl
 ·cases k 2 <;> rfl
 ·cases k 3 <;> rfl
 ·cases k 4 <;> rfl
 ·cases k 5 <;> rfl
 ·cases k 6 <;> rfl
theorem J7m (T:Tt):eqT T (nrm T)=true:=by
 have hc:eqB eCa T.ca (nrm T).ca=true:=by
  refine Jdm (by simp [nrm]) (fun j x y _ hx hy=>?_);have e:y=nCa x:=by
   simp only [nrm,List.getElem?_map,hx,Option.map_some,Option.some.injEq] at hy;exact hy.symm
  subst e;obtain⟨w0,w1,w2,w3,w4,w5,w6⟩:=wk_at x.2.1;exact decide_eq_true ⟨rfl,⟨w0.symm,w1.symm,w2.symm,w3.symm,w4.symm,w5.symm,w6.symm⟩,rfl,rfl⟩
 have ht:eqB eTr T.tr (nrm T).tr=true:=by
  refine Jdm (by simp [nrm]) (fun j x y _ hx hy=>?_);have e:y=nTr x:=by
   simp only [nrm,List.getElem?_map,hx,Option.map_some,Option.some.injEq] at hy;exact hy.symm
  subst e;exact J7k x
 have r:=J1g T;unfold eqT hdT tlT at r ⊢;rw [hc,ht];rw [Jco Qau,Jco J7k] at r;exact r
theorem Jh8:∀(l:List Bs) (b:UInt8),b∈Jam l→b≠10
 | [],b,h=>by cases h
 | x::l,b,h=>by
  have hq:∀b∈Jag x,b≠10:=fun b hb e=>by
   have:=List.all_eq_true.1 (Jwr x) b hb;subst e;simp [ctl] at this
  cases l with
  | nil=>exact hq b h
  | cons y l =>
   have e:Jam (x::y::l)=Jag x++44::Jam (y::l):=rfl;rw [e,List.mem_append,List.mem_cons] at h;rcases h with h | h | h
   ·exact hq b h
   ·subst h;decide
   ·exact Jh8 (y::l) b h
theorem Jg6 {ls:List Bs} {x:Bs} (h:x∈ls):x.length≤(Jaw ls).length:=by
 induction ls with
 | nil=>cases h
 | cons y l ih =>
  have e:Jaw (y::l)=y++[10]++Jaw l:=rfl;rw [e,List.length_append,List.length_append];rcases List.mem_cons.1 h with rfl | h
  ·omega
  ·have:=ih h;omega
theorem J1j {ls:List Bs} (h:∀l∈ls,∀b∈l,b≠10) (hl:(Jaw ls).length≤65536):linR (Jaw ls)=(ls,0):=by
 unfold linR;rw [if_neg (by omega)];by_cases h0:ls=[]
 ·subst h0;rfl
 ·have he:=J1d ls h0
  rw [List.getLast?_eq_getElem?] at he;rw [if_neg (fun e=>by rw [e] at he;cases he),if_pos he,Jsh ls h]
theorem J7n {F:Fm} (ok:FmOk F) {T:Tt} (h:(ttC T).2.2=0) (hl:(Je1 F T).length≤65536):Jea F (Je1 F T)=(nrm T,0,0):=by
 have hlen:∀f∈rows F T,(Jam f).length≤65536:=fun f hf=>Nat.le_trans (Jg6 (List.mem_map_of_mem hf)) hl
 obtain⟨r,g,e⟩:=g_all ok (Jwv h) hlen;have e1:linR (Je1 F T)=((rows F T).map Jam,0):=J1j (fun l hl b hb=>by
  obtain⟨f,-,rfl⟩:=List.mem_map.1 hl;exact Jh8 f b hb) hl
 have g:goR F ((rows F T).map Jam) 1 R0=(0,0,r):=g;unfold Jea;rw [e1,if_neg (by simp)];simp only [g,e];rw [if_neg (by simp),J7l,if_neg (by rw [h];simp)]
def lenP (T:Tt):Nat→Nat
 | 0=>T.st.length
 | 1=>T.ro.length
 | 2=>T.ca.length
 | 3=>T.ex.length
 | 4=>T.tr.length
 | 5=>T.fr.length
 | 6=>T.th.length
 | 7=>T.gu.length
 | 8=>T.pa.length
 | 9=>T.pr.length
 | _=>0
theorem Jqi (c:Cl):∀l:List Tp,(addC c l).length=l.length
 | []=>rfl
 | [_]=>rfl
 | x::y::r=>by show (addC c (y::r)).length+1=_;rw [Jqi c (y::r)];rfl
theorem J7o {α:Type} {l:List α} (h:l.length=3):∃a b c,l=[a,b,c]:=by
 match l,h with
 | [a,b,c],_=>exact⟨a,b,c,rfl⟩
theorem four {α:Type} {l:List α} (h:l.length=4):∃a b c d,l=[a,b,c,d]:=by
 match l,h with
 | [a,b,c,d],_=>exact⟨a,b,c,d,rfl⟩
theorem five {α:Type} {l:List α} (h:l.length=5):∃a b c d e,l=[a,b,c,d,e]:=by
 match l,h with
 | [a,b,c,d,e],_=>exact⟨a,b,c,d,e,rfl⟩
theorem J7p {α:Type} {l:List α} (h:l.length=7):∃a b c d e f g,l=[a,b,c,d,e,f,g]:=by
 match l,h with
 | [a,b,c,d,e,f,g],_=>exact⟨a,b,c,d,e,f,g,rfl⟩
theorem Job (F:Fm) (T:Tt) (k:Nat) (hk:k<12) (f:List Bs) (hf:f.length=cnts.getD k 0):(∀p,p<10→lenP (addR F T k f).2 p=lenP T p+(if p=k then 1 else 0))∧(k≠11→(addR F T k f).2.di=T.di∧(addR F T k f).2.wi=T.wi∧(addR F T k f).2.cp=T.cp):=by
 have P:∀{U:Tt} (k:Nat),lenP U 0=lenP T 0+(if 0=k then 1 else 0)→lenP U 1=lenP T 1+(if 1=k then 1 else 0)→lenP U 2=lenP T 2+(if 2=k then 1 else 0)→lenP U 3=lenP T 3+(if 3=k then 1 else 0)→lenP U 4=lenP T 4+(if 4=k then 1 else 0)→lenP U 5=lenP T 5+(if 5=k then 1 else 0)→lenP U 6=lenP T 6+(if 6=k then 1 else 0)→lenP U 7=lenP T 7+(if 7=k then 1 else 0)→lenP U 8=lenP T 8+(if 8=k then 1 else 0)→lenP U 9=lenP T 9+(if 9=k then 1 else 0)→∀p,p<10→lenP U p=lenP T p+(if p=k then 1 else 0):=by
  intro U k h0 h1 h2 h3 h4 h5 h6 h7 h8 h9 p hp;match p,hp with
  | 0,_=>exact h0
  | 1,_=>exact h1
  | 2,_=>exact h2
  | 3,_=>exact h3
  | 4,_=>exact h4
  | 5,_=>exact h5
  | 6,_=>exact h6
  | 7,_=>exact h7
  | 8,_=>exact h8
  | 9,_=>exact h9
  | n+10,h=>omega
 match k,hk with
 | 0,_=>obtain⟨a,b,c,d,e,rfl⟩:=five hf;exact⟨P 0 (List.length_append) rfl rfl rfl rfl rfl rfl rfl rfl rfl,fun _=>⟨rfl,rfl,rfl⟩⟩
 | 1,_=>obtain⟨a,b,c,d,rfl⟩:=four hf;exact⟨P 1 rfl (List.length_append) rfl rfl rfl rfl rfl rfl rfl rfl,fun _=>⟨rfl,rfl,rfl⟩⟩
 | 2,_=>obtain⟨a,b,c,d,e,rfl⟩:=five hf;exact⟨P 2 rfl rfl (List.length_append) rfl rfl rfl rfl rfl rfl rfl,fun _=>⟨rfl,rfl,rfl⟩⟩
 | 3,_=>obtain⟨a,b,c,d,rfl⟩:=four hf;exact⟨P 3 rfl rfl rfl (List.length_append) rfl rfl rfl rfl rfl rfl,fun _=>⟨rfl,rfl,rfl⟩⟩
 | 4,_=>obtain⟨a,b,c,d,e,rfl⟩:=five hf;exact⟨P 4 rfl rfl rfl rfl (List.length_append) rfl rfl rfl rfl rfl,fun _=>⟨rfl,rfl,rfl⟩⟩
 | 5,_=>obtain⟨a,b,c,d,e,rfl⟩:=five hf;exact⟨P 5 rfl rfl rfl rfl rfl (List.length_append) rfl rfl rfl rfl,fun _=>⟨rfl,rfl,rfl⟩⟩
 | 6,_=>obtain⟨a,b,c,rfl⟩:=J7o hf;exact⟨P 6 rfl rfl rfl rfl rfl rfl (List.length_append) rfl rfl rfl,fun _=>⟨rfl,rfl,rfl⟩⟩
 | 7,_=>obtain⟨a,b,c,d,rfl⟩:=four hf;exact⟨P 7 rfl rfl rfl rfl rfl rfl rfl (List.length_append) rfl rfl,fun _=>⟨rfl,rfl,rfl⟩⟩
 | 8,_=>obtain⟨a,b,c,d,e,rfl⟩:=five hf;exact⟨P 8 rfl rfl rfl rfl rfl rfl rfl rfl (List.length_append) rfl,fun _=>⟨rfl,rfl,rfl⟩⟩
 | 9,_=>obtain⟨a,b,c,d,e,f,g,rfl⟩:=J7p hf;exact⟨P 9 rfl rfl rfl rfl rfl rfl rfl rfl rfl (List.length_append),fun _=>⟨rfl,rfl,rfl⟩⟩
 | 10,_=>obtain⟨a,b,c,d,e,rfl⟩:=five hf;exact⟨P 10 rfl rfl rfl rfl (Jqi _ _) rfl rfl rfl rfl rfl,fun _=>⟨rfl,rfl,rfl⟩⟩
 | 11,_=>obtain⟨a,b,c,d,rfl⟩:=four hf;exact⟨P 11 rfl rfl rfl rfl rfl rfl rfl rfl rfl rfl,fun h=>absurd rfl h⟩
 | n+12,h=>omega
def Okl (ls:List Bs) (j:Int):Prop:=1≤j∧∃x,ls[(j - 1).toNat]?=some x∧ign x=false
structure Inv (ls:List Bs) (r:Rd) (n:Int):Prop where
 ln:∀p,p<10→∀j∈r.ln.getD p [],Okl ls j∧j<n
 fa:r.fa=0∨(Okl ls r.fa∧r.fa<n)
 no:r.fa=0→r.T.di=0∧r.T.wi=0∧r.T.cp=0
 ten:r.ln.length=10
 len:∀p,p<10→(r.ln.getD p []).length=lenP r.T p
theorem Inv.start (ls:List Bs):Inv ls R0 1:=by
 refine⟨fun p hp j hj=>?_,.inl rfl,fun _=>⟨rfl,rfl,rfl⟩,rfl,fun p hp=>?_⟩
 ·match p,hp with
  | 0,_ | 1,_ | 2,_ | 3,_ | 4,_ | 5,_ | 6,_ | 7,_ | 8,_ | 9,_=>cases hj
  | n+10,h=>omega
 ·match p,hp with
  | 0,_ | 1,_ | 2,_ | 3,_ | 4,_ | 5,_ | 6,_ | 7,_ | 8,_ | 9,_=>rfl
  | n+10,h=>omega
theorem Jgp (s:Bs):kind s≤12:=List.findIdx_le_length
theorem Jqj (l:List (List Int)) (k p:Nat) (n:Int) (hk:k<l.length):(l.modify k (·++[n])).getD p []=if p=k then l.getD p []++[n] else l.getD p []:=by
 rw [List.getD_eq_getElem?_getD,List.getElem?_modify,List.getD_eq_getElem?_getD];by_cases e:k=p
 ·subst e
  rw [if_pos rfl,List.getElem?_eq_getElem hk];simp
 ·rw [if_neg (fun h=>e h.symm)]
  cases l[p]? <;> simp [e]
theorem Inv.on {F:Fm} {ls:List Bs} {r:Rd} {n:Int} (h:Inv ls r n) (hn:1≤n) {x:Bs} (hx:ls[(n - 1).toNat]?=some x) {r':Rd} (h1:oneR F r x n=(0,r')):Inv ls r' (n+1):=by
 unfold oneR at h1;by_cases hi:ign x=true
 ·rw [if_pos hi] at h1
  have e:r=r':=by simpa using h1
  subst e;exact⟨fun p hp j hj=>⟨(h.ln p hp j hj).1,by have:=(h.ln p hp j hj).2;omega⟩,h.fa.imp id fun q=>⟨q.1,by have:=q.2;omega⟩,h.no,h.ten,h.len⟩
 rw [if_neg hi] at h1;have hok:Okl ls n:=⟨hn,x,hx,by simpa using hi⟩;split at h1
 ·next hs=>exact absurd (congrArg Prod.fst h1) hs
 have kl:=Jgp ((splR x).1.headD []);unfold rcd at h1;simp only at h1;generalize kind ((splR x).1.headD [])=k at h1 kl;generalize (splR x).1=f at h1;split at h1
 ·exact absurd (congrArg Prod.fst h1) (by simp)
 next h12 =>
 split at h1
 ·exact absurd (congrArg Prod.fst h1) (by simp)
 next hl =>
 split at h1
 ·exact absurd (congrArg Prod.fst h1) (by simp)
 split at h1
 ·exact absurd (congrArg Prod.fst h1) (by simp)
 next h11 =>
 obtain⟨a0,a1⟩:=Job F r.T k (by omega) f (Decidable.not_not.1 hl);have e:=(congrArg Prod.snd h1).symm;simp only at e;subst e;have hln:∀p,(if k<10 then r.ln.modify k (·++[n]) else r.ln).getD p []=if p=k∧k<10 then r.ln.getD p []++[n] else r.ln.getD p []:=by
  intro p;by_cases hk:k<10
  ·rw [if_pos hk,Jqj _ _ _ _ (by rw [h.ten];exact hk)]
   by_cases e:p=k
   ·rw [if_pos e,if_pos ⟨e,hk⟩]
   ·rw [if_neg e,if_neg (fun q=>e q.1)]
  ·rw [if_neg hk,if_neg (fun q=>hk q.2)]
 refine⟨fun p hp j hj=>?_,?_,fun h0=>?_,?_,fun p hp=>?_⟩
 ·rw [hln] at hj
  split at hj
  ·rcases List.mem_append.1 hj with hj | hj
   ·exact⟨(h.ln p hp j hj).1,by have:=(h.ln p hp j hj).2;omega⟩
   ·have e:j=n:=by simpa using hj
    subst e;exact⟨hok,by omega⟩
  ·exact⟨(h.ln p hp j hj).1,by have:=(h.ln p hp j hj).2;omega⟩
 ·show (if k=11 then n else r.fa)=0∨(Okl ls (if k=11 then n else r.fa)∧(if k=11 then n else r.fa)<n+1)
  by_cases e:k=11
  ·rw [if_pos e];exact .inr ⟨hok,by omega⟩
  ·rw [if_neg e];exact h.fa.imp id fun q=>⟨q.1,by have:=q.2;omega⟩
 ·by_cases e:k=11
  ·have h0:(if k=11 then n else r.fa)=0:=h0
   rw [if_pos e] at h0;omega
  ·have h0:(if k=11 then n else r.fa)=0:=h0
   rw [if_neg e] at h0;obtain⟨b0,b1,b2⟩:=a1 e;obtain⟨c0,c1,c2⟩:=h.no h0;exact⟨b0.trans c0,b1.trans c1,b2.trans c2⟩
 ·show (if k<10 then r.ln.modify k (·++[n]) else r.ln).length=10
  split
  ·rw [List.length_modify];exact h.ten
  ·exact h.ten
 ·show ((if k<10 then r.ln.modify k (·++[n]) else r.ln).getD p []).length=lenP (addR F r.T k f).2 p
  rw [hln,a0 p hp];by_cases e:p=k
  ·rw [if_pos ⟨e,by omega⟩,if_pos e,List.length_append,h.len p hp];rfl
  ·rw [if_neg (fun q=>e q.1),if_neg e,h.len p hp];rfl
theorem J4t {κ α:Type} {bad:List κ→α→Int} {key:α→κ}:∀(l:List α) (seen:List κ) (k:Nat),(fbF bad key seen k l).2≠0→(k:Int)≤(fbF bad key seen k l).1∧(fbF bad key seen k l).1<k+l.length
 | [],_,_,h=>absurd rfl h
 | x::l,seen,k,h=>by
  unfold fbF at h ⊢;by_cases hb:bad seen x=0
  ·rw [if_pos hb] at h ⊢
   obtain⟨h1,h2⟩:=J4t l _ _ h;simp only [List.length_cons];omega
  ·rw [if_neg hb]
   simp only [List.length_cons];omega
theorem Jdr {κ α:Type} {bad:List κ→α→Int} {key:α→κ} {l:List α} {N:Nat} (h:(if N<l.length then ((0,5):Int×Int) else fbF bad key [] 0 l).2≠0):0≤(if N<l.length then ((0,5):Int×Int) else fbF bad key [] 0 l).1∧(if N<l.length then ((0,5):Int×Int) else fbF bad key [] 0 l).1<l.length:=by
 by_cases hn:N<l.length
 ·rw [if_pos hn]
  exact⟨by decide,by show (0:Int)<_;omega⟩
 ·rw [if_neg hn] at h ⊢
  have:=J4t l [] 0 h;simpa using this
theorem J1k (T:Tt) (p:Nat) (h:(Ja0 T p).2≠0):(0≤(Ja0 T p).1∧(Ja0 T p).1<lenP T p)∨(p=9∧(Ja0 T p).1=-1∧¬(T.di=0∧T.wi=0∧T.cp=0)):=by
 match p,h with
 | 0,h =>
  left
  have e:Ja0 T 0=if 64<T.st.length then ((0,5):Int×Int) else fbF S13.badS (fun x=>x.1) [] 0 T.st:=by
   show S13.chkT T.st=_
   unfold S13.chkT;rw [Jkh]
  rw [e] at h ⊢;exact Jdr h
 | 1,h=>exact .inl (Jdr h)
 | 2,h=>exact .inl (Jdr h)
 | 3,h=>exact .inl (Jdr h)
 | 4,h=>exact .inl (Jdr h)
 | 5,h=>exact .inl (Jdr h)
 | 6,h=>exact .inl (Jdr h)
 | 7,h=>exact .inl (Jdr h)
 | 8,h=>exact .inl (Jdr h)
 | 9,h =>
  have e:Ja0 T 9=S21.chkPd T.di T.wi T.cp T.pr:=rfl;rw [e] at h ⊢;unfold S21.chkPd at h ⊢;by_cases hf:S21.okFa T.di T.wi T.cp
  ·rw [if_neg (fun k=>k hf)] at h ⊢
   exact .inl (Jdr h)
  ·rw [if_pos hf]
   exact .inr ⟨rfl,rfl,fun k=>hf (by rw [k.1,k.2.1,k.2.2];decide)⟩
 | n+10,h=>exact absurd rfl h
theorem J4u {P:Nat→Int×Int}:∀(n k:Nat),(ttF P k n).2.2≠0→∃p,k≤p∧p<k+n∧ttF P k n=((p:Int),(P p).1,(P p).2)∧(P p).2≠0
 | 0,_,h=>absurd rfl h
 | n+1,k,h=>by
  by_cases hp:(P k).2=0
  ·rw [Jn6 hp] at h ⊢
   obtain⟨p,h1,h2,h3,h4⟩:=J4u n (k+1) h;exact⟨p,by omega,by omega,h3,h4⟩
  ·exact⟨k,Nat.le_refl _,by omega,Jn5 hp,hp⟩
theorem Jqk (F:Fm) (x:Bs) (l:List Bs) (n:Int) (r:Rd):goR F (x::l) n r=if (oneR F r x n).1≠0 then (n,(oneR F r x n).1,(oneR F r x n).2) else goR F l (n+1) (oneR F r x n).2:=rfl
def noV (x:Tp):List UInt8×Int×Int×Bool×List Cl:=(x.1,x.2.1,x.2.2.1,x.2.2.2.1,x.2.2.2.2.2)
structure CopT (T U:Tt):Prop where
 st:U.st=T.st
 ro:U.ro=T.ro
 ca:U.ca=T.ca
 ex:U.ex=T.ex
 tr:U.tr.map noV=T.tr.map noV
 fr:U.fr=T.fr
 th:U.th=T.th
 gu:U.gu=T.gu
 pa:U.pa=T.pa
 pr:U.pr=T.pr
 di:U.di=T.di
 wi:U.wi=T.wi
 cp:U.cp=T.cp
theorem J7q {l m:List Tp} (h:l.map noV=m.map noV):l.map clT=m.map clT:=by
 have e:clT=(fun z:List UInt8×Int×Int×Bool×List Cl=>z.2.2.2.2) ∘ noV:=rfl;rw [e,←List.map_map,←List.map_map,h]
theorem Jww {κ α β:Type} {bad:List κ→α→Int} {key:α→κ} {bad':List κ→β→Int} {key':β→κ} {f:α→β} (h1:∀seen x,bad' seen (f x)=bad seen x) (h2:∀x,key' (f x)=key x):∀(l:List α) (seen:List κ) (k:Nat),fbF bad' key' seen k (l.map f)=fbF bad key seen k l
 | [],_,_=>rfl
 | x::l,seen,k=>by
  rw [List.map_cons];unfold fbF;rw [h1,h2,Jww h1 h2 l]
def badV (st ro ca:Int) (seen:List Bs) (x:Bs×Int×Int×Bool×List Cl):Int:=if Jaj x.1=false then 12 else if x.1∈seen then 6 else if S17.rkT ro ca x.2.1 x.2.2.1 then (chkC st 0 172800 x.2.2.2.2).2 else 9
theorem chkV (st ro ca:Int) (l:List Tp):S17.chkT st ro ca l=if 256<(l.map noV).length then (0,5) else fbF (badV st ro ca) (fun x=>x.1) [] 0 (l.map noV):=by
 unfold S17.chkT;rw [List.length_map,Jww (bad:=S17.badT st ro ca) (key:=S17.idT) (bad':=badV st ro ca) (key':=fun x=>x.1) (f:=noV) (fun _ _=>rfl) (fun _=>rfl)]
theorem J4v {l m:List Tp} (h:l.map noV=m.map noV):l.map S19.tcT=m.map S19.tcT:=by
 have e:S19.tcT=(fun z:Bs×Int×Int×Bool×List Cl=>(z.2.2.1,z.2.2.2.2)) ∘ noV:=rfl;rw [e,←List.map_map,←List.map_map,h]
theorem CopT.part {T U:Tt} (h:CopT T U):Ja0 U=Ja0 T:=by
 funext j
 match j with
 | 0=>show S13.chkT U.st=_;rw [h.st];rfl
 | 1=>show chkR U.ro=_;rw [h.ro];rfl
 | 2=>show S14.chkC U.ca=_;rw [h.ca];rfl
 | 3=>show S14.chkX U.ca.length U.ex=_;rw [h.ca,h.ex];rfl
 | 4=>show S17.chkT U.st.length U.ro.length U.ca.length U.tr=S17.chkT T.st.length T.ro.length T.ca.length T.tr;rw [h.st,h.ro,h.ca,chkV,chkV,h.tr]
 | 5=>show chkF (U.tr.map clT) U.fr=_;rw [J7q h.tr,h.fr];rfl
 | 6=>show S19.chkH (U.tr.map S19.tcT) U.fr U.th=_;rw [J4v h.tr,h.fr,h.th];rfl
 | 7=>show S19.chkU (U.tr.map S19.tcT) U.fr U.st.length U.gu=_;rw [J4v h.tr,h.fr,h.st,h.gu];rfl
 | 8=>show S20.chkP U.st.length U.pa=_;rw [h.st,h.pa];rfl
 | 9=>show S21.chkPd U.di U.wi U.cp U.pr=_;rw [h.di,h.wi,h.cp,h.pr];rfl
 | n+10=>rfl
theorem CopT.ttC {T U:Tt} (h:CopT T U):Go.Proofs.YtpifdbphmnifdaaGreatDoor.ttC U=Go.Proofs.YtpifdbphmnifdaaGreatDoor.ttC T:=by unfold Go.Proofs.YtpifdbphmnifdaaGreatDoor.ttC;rw [h.part]
def bTrV (F:Fm) (T:Tt) (x:Bs×Int×Int×Bool×List Cl):List (List Bs):=[wTr,x.1,atI (Jbu T) x.2.1,atI (Ja7 T) x.2.2.1,flgT x.2.2.2.1]::x.2.2.2.2.map (rCc F T)
theorem Qaw (F:Fm) (T:Tt) (l:List Tp):l.flatMap (bTr F T)=(l.map noV).flatMap (bTrV F T):=by rw [List.flatMap_map];rfl
theorem J7r {T U:Tt} (h:CopT T U):Jar U=Jar T:=by
 unfold Jar;have e:(fun x:Tp=>x.1)=(fun z:Bs×Int×Int×Bool×List Cl=>z.1) ∘ noV:=rfl;rw [e,←List.map_map,←List.map_map,h.tr]
theorem CopT.rows {T U:Tt} (F:Fm) (h:CopT T U):Go.Proofs.YtpifdbphmnifdaaGreatDoor.rows F U=Go.Proofs.YtpifdbphmnifdaaGreatDoor.rows F T:=by
 have i0:Jat U=Jat T:=by unfold Jat;rw [h.st]
 have i1:Jbu U=Jbu T:=by unfold Jbu;rw [h.ro]
 have i2:Ja7 U=Ja7 T:=by unfold Ja7;rw [h.ca]
 have i3:=J7r h;have c0:rEx F U=rEx F T:=by funext x;unfold rEx;rw [i2]
 have c1:rCc F U=rCc F T:=by funext x;unfold rCc;rw [i0]
 have c2:bTrV F U=bTrV F T:=by funext x;unfold bTrV;rw [i1,i2,c1]
 have c3:rFr F U=rFr F T:=by funext x;unfold rFr;rw [i3]
 have c4:rTh U=rTh T:=by funext x;unfold rTh;rw [i3]
 have c5:rGu U=rGu T:=by funext x;unfold rGu;rw [i3,i0]
 have c6:rPa F U=rPa F T:=by funext x;unfold rPa;rw [i0]
 have c7:rFa F U=rFa F T:=by unfold rFa;rw [h.di,h.wi,h.cp]
 unfold Go.Proofs.YtpifdbphmnifdaaGreatDoor.rows;rw [Qaw,Qaw,h.tr,c0,c2,c3,c4,c5,c6,c7,h.st,h.ro,h.ca,h.ex,h.fr,h.th,h.gu,h.pa,h.pr]
theorem CopT.feedF {T U:Tt} (F:Fm) (h:CopT T U):Go.Proofs.YtpifdbphmnifdaaGreatDoor.feedF F U=Go.Proofs.YtpifdbphmnifdaaGreatDoor.feedF F T:=by unfold Go.Proofs.YtpifdbphmnifdaaGreatDoor.feedF Je1;rw [h.ttC,h.rows F]
theorem Qax {s:Bs} (h:s≠[]) (h10:s[s.length - 1]?=some 10) (hl:s.length≤65536):linR s=((cutL s).1,0)∧Jaw (cutL s).1=s∧∀l∈(cutL s).1,∀b∈l,b≠10:=by
 have e:s=s.dropLast++[10]:=by
  have h1:s.getLast?=some 10:=by rw [List.getLast?_eq_getElem?];exact h10
  have h2:=List.dropLast_concat_getLast h;rw [List.getLast?_eq_some_getLast h] at h1;rw [Option.some.inj h1] at h2;exact h2.symm
 have h2:(cutL s).2=[]:=by rw [e,Jfs]
 refine⟨?_,?_,?_⟩
 ·unfold linR
  rw [if_neg (by omega),if_neg h,if_pos h10]
 ·have:=Jl9 s.length s rfl
  rw [h2,List.append_nil] at this;exact this
 ·have key:∀(n:Nat) (l:Bs),l.length=n→(∀x∈(cutL l).1,∀b∈x,b≠10)∧∀b∈(cutL l).2,b≠10:=by
   intro n;induction n with
   | zero =>
    intro l hl;have:l=[]:=List.eq_nil_of_length_eq_zero hl;subst this;exact⟨fun x hx=>by simp [Jqg] at hx,fun b hb=>by simp [Jqg] at hb⟩
   | succ n ih =>
    intro l hl;have hne:l≠[]:=fun e=>by rw [e] at hl;cases hl
    have e2:=List.dropLast_concat_getLast hne;generalize l.getLast hne=c at e2;have hd:l.dropLast.length=n:=by rw [List.length_dropLast];omega
    generalize l.dropLast=d at e2 hd;subst e2;obtain⟨i1,i2⟩:=ih d hd;by_cases hc:c=10
    ·subst hc
     rw [Jfs];refine⟨fun x hx=>?_,fun b hb=>by cases hb⟩;rcases List.mem_append.1 hx with hx | hx
     ·exact i1 x hx
     ·have:x=(cutL d).2:=by simpa using hx
      subst this;exact i2
    ·rw [Jl8 d c hc]
     refine⟨i1,fun b hb=>?_⟩;rcases List.mem_append.1 hb with hb | hb
     ·exact i2 b hb
     ·have:b=c:=by simpa using hb
      subst this;exact hc
  exact (key s.length s rfl).1
def okAt (i:Nat) (c:UInt8):Bool:=if i=2∨i=5 then c==58 else dig c
def Jbt (l:List UInt8):Bool:=decide (l.length=8)&&l.zipIdx.all fun x=>okAt x.2 x.1
theorem Jgq (l:List UInt8) (h:Jbt l=true):l.length=8∧∀(k:Nat) c,l[k]?=some c→okAt k c=true:=by
 unfold Jbt at h;simp only [Bool.and_eq_true,decide_eq_true_eq,List.all_eq_true] at h;exact⟨h.1,fun k c hk=>h.2 (c,k) (List.mem_zipIdx_iff_getElem?.2 hk)⟩
theorem Jwx (l:List UInt8) (h8:l.length=8) (h:∀(k:Nat) c,l[k]?=some c→okAt k c=true):Jbt l=true:=by
 unfold Jbt;simp only [Bool.and_eq_true,decide_eq_true_eq,List.all_eq_true];exact⟨h8,fun x hx=>h x.2 x.1 (List.mem_zipIdx_iff_getElem?.1 hx)⟩
theorem Jjk (k:Nat) (c:UInt8) (hk:k=2∨k=5):okAt k c=true↔c.toNat=58:=by
 unfold okAt;rw [if_pos hk,beq_iff_eq];exact⟨fun h=>by rw [h];rfl,fun h=>UInt8.toNat_inj.1 h⟩
theorem Jgr (k:Nat) (c:UInt8) (hk:¬(k=2∨k=5)):okAt k c=true↔48≤c.toNat∧c.toNat≤57:=by
 unfold okAt;rw [if_neg hk,Jcb]
def posD (l:List UInt8):Bool:=!l.isEmpty&&!(l[0]?==some 48)&&digs l
def Jbo (l:List UInt8):Bool:=decide (l.length=2)&&digs l&&decide (valN l<60)
def Jcx (l:List UInt8):Bool:=posD l&&decide (l.length≤2)&&decide (valN l<60)
theorem Jcs (l:List UInt8):posD l=true↔l≠[]∧l[0]?≠some 48∧digs l=true:=by
 unfold posD;simp [and_assoc]
theorem Jcp (l:List UInt8):Jbo l=true↔l.length=2∧digs l=true∧valN l<60:=by
 unfold Jbo;simp [and_assoc]
theorem Jcq (l:List UInt8):Jcx l=true↔posD l=true∧l.length≤2∧valN l<60:=by
 unfold Jcx;simp [and_assoc]
def Jdw (c:UInt8) (l:List UInt8):List UInt8:=l.takeWhile (· != c)
def after (c:UInt8) (l:List UInt8):List UInt8:=(l.dropWhile (· != c)).drop 1
theorem Jfu (c:UInt8) (post:List UInt8):∀pre:List UInt8,c ∉ pre→Jdw c (pre++c::post)=pre∧after c (pre++c::post)=post
 | [],_=>by simp [Jdw,after]
 | b::l,h=>by
  have hb:(b != c)=true:=by rw [bne_iff_ne];rintro rfl;exact h (by simp)
  have ih:=Jfu c post l (fun hx=>h (by simp [hx]));unfold Jdw after at *;simp [hb,ih]
theorem Jki (c:UInt8) (l:List UInt8) (h:c∈l):∃pre post,l=pre++c::post∧c ∉ pre∧Jdw c l=pre∧after c l=post:=by
 obtain⟨pre,post,rfl,hn⟩:=List.eq_append_cons_of_mem h;exact⟨pre,post,rfl,hn,Jfu c post pre hn⟩
def Je6 (H T:List UInt8):Int×Int :=
 if 109∈T∧Jbo (Jdw 109 T)=true∧Jbo (after 109 T)=true∧posD H=true then
  if 2<H.length then (0,2) else ((valN H:Int)*3600+(valN (Jdw 109 T):Int)*60+(valN (after 109 T):Int),0)
 else (0,3)
def Jc5 (M S:List UInt8):Int×Int :=
 if Jcx M=true∧Jbo S=true then ((valN M:Int)*60+(valN S:Int),0) else (0,3)
def Jej (r:List UInt8):Int×Int :=
 if 104∈r then Je6 (Jdw 104 r) (after 104 r)
 else if 109∈r then Jc5 (Jdw 109 r) (after 109 r)
 else if r=[48] then (0,0)
 else if Jcx r=true then ((valN r:Int),0) else (0,3)
def durR (l:List UInt8):Int×Int:=if List.isSuffixOf [115] l=true then Jej l.dropLast else (0,3)
def Jc6 (t:Int):List UInt8:=two (t / 3600)++[58]++two (t % 3600 / 60)++[58]++two (t % 60)
def Jbw (n:Int):List UInt8 :=
 if 3600≤n then dec (n / 3600)++[104]++two (n % 3600 / 60)++[109]++two (n % 60)++[115]
 else if 60≤n then dec (n % 3600 / 60)++[109]++two (n % 60)++[115]
 else dec (n % 60)++[115]
def Jh9 (h m s:Int):Prop:=0≤h∧h≤48∧0≤m∧m<60∧0≤s∧s<60∧h*3600+m*60+s≤172800
instance (h m s:Int):Decidable (Jh9 h m s):=by unfold Jh9;infer_instance
def Jmd (l:List UInt8):Int×Int :=
 if Jbt l=true then
  if Jh9 (Jbk l 0) (Jbk l 3) (Jbk l 6) then ((Jbk l 0:Int)*3600+(Jbk l 3:Int)*60+(Jbk l 6:Int),0) else (0,10)
 else (0,3)
theorem Jsi (t:Int) (h0:0≤t) (h1:t≤172800):Jbk (Jc6 t) 0=(t / 3600).toNat∧Jbk (Jc6 t) 3=(t % 3600 / 60).toNat∧Jbk (Jc6 t) 6=(t % 60).toNat :=
 ⟨Jc9 (t / 3600) (by omega),Jc9 (t % 3600 / 60) (by omega),Jc9 (t % 60) (by omega)⟩
theorem Jwy (t:Int) (h0:0≤t) (h1:t≤172800):Jbt (Jc6 t)=true:=by
 refine Jwx _ rfl fun k c hk=>?_
 have hd:∀y:Nat,y<10→dig (UInt8.ofNat (48+y))=true:=fun y hy=>Jcw y hy
 match k,hk with
 | 0,hk=>obtain rfl:=Option.some.inj hk;exact hd _ (by omega)
 | 1,hk=>obtain rfl:=Option.some.inj hk;exact hd _ (by omega)
 | 2,hk=>obtain rfl:=Option.some.inj hk;rfl
 | 3,hk=>obtain rfl:=Option.some.inj hk;exact hd _ (by omega)
 | 4,hk=>obtain rfl:=Option.some.inj hk;exact hd _ (by omega)
 | 5,hk=>obtain rfl:=Option.some.inj hk;rfl
 | 6,hk=>obtain rfl:=Option.some.inj hk;exact hd _ (by omega)
 | 7,hk=>obtain rfl:=Option.some.inj hk;exact hd _ (by omega)
 | k+8,hk=>cases hk
theorem Jsj (t:Int) (h0:0≤t) (h1:t≤172800):Jmd (Jc6 t)=(t,0):=by
 obtain⟨e0,e3,e6⟩:=Jsi t h0 h1;unfold Jmd;rw [if_pos (Jwy t h0 h1),e0,e3,e6,if_pos (by unfold Jh9;omega)];congr 1
 omega
theorem Jql (x:Nat) (h0:1≤x) (h:x<10):UInt8.ofNat (48+x)≠48:=by
 intro he;have:=congrArg UInt8.toNat he;rw [ofNat_toNat x h] at this;have h48:(48:UInt8).toNat=48:=rfl;omega
theorem Joc (x:Int) (h0:1≤x) (h1:x<100):posD (dec x)=true:=by
 rw [Jcs];refine⟨?_,?_,Jhc x (by omega) h1⟩
 ·by_cases h:x<10
  ·rw [Jge x h];simp
  ·rw [Jfh x (by omega) h1];simp [two]
 ·by_cases h:x<10
  ·rw [Jge x h]
   intro he;exact Jql x.toNat (by omega) (by omega) (Option.some.inj he)
  ·rw [Jfh x (by omega) h1]
   intro he;exact Jql (x.toNat / 10) (by omega) (by omega) (Option.some.inj he)
theorem Jia (c:UInt8) (l:List UInt8) (h:digs l=true) (hc:dig c=false):c ∉ l:=by
 intro hm;unfold digs at h;rw [List.all_eq_true] at h;rw [h c hm] at hc;cases hc
theorem Jib (x:Int) (h1:x<60):Jbo (two x)=true:=by
 rw [Jcp];refine⟨rfl,Jfg x (by omega),?_⟩;rw [Jc9 x (by omega)];omega
theorem suf (r:List UInt8):durR (r++[115])=Jej r:=by
 unfold durR;rw [if_pos (by rw [List.isSuffixOf_iff_suffix];exact List.suffix_append _ _)];simp
theorem Qay (H M S:List UInt8) (hH:digs H=true) (hM:digs M=true):Jej (H++104::(M++109::S))=if Jbo M=true∧Jbo S=true∧posD H=true then (if 2<H.length then (0,2) else ((valN H:Int)*3600+(valN M:Int)*60+(valN S:Int),0)) else (0,3):=by
 obtain⟨e1,e2⟩:=Jfu 104 (M++109::S) H (Jia 104 H hH (by decide));obtain⟨e3,e4⟩:=Jfu 109 S M (Jia 109 M hM (by decide));unfold Jej Je6;rw [if_pos (by simp),e1,e2,e3,e4];simp
theorem Qaz (M S:List UInt8) (hM:digs M=true) (hS:digs S=true):Jej (M++109::S)=Jc5 M S:=by
 obtain⟨e1,e2⟩:=Jfu 109 S M (Jia 109 M hM (by decide));have hn:(104:UInt8) ∉ M++109::S:=by
  have h1:=Jia 104 M hM (by decide);have h2:=Jia 104 S hS (by decide);simp [h1,h2]
 unfold Jej;rw [if_neg hn,if_pos (by simp),e1,e2]
theorem Qa0 (r:List UInt8) (hr:digs r=true) (h0:r≠[48]):Jej r=if Jcx r=true then ((valN r:Int),0) else (0,3):=by
 unfold Jej;rw [if_neg (Jia 104 r hr (by decide)),if_neg (Jia 109 r hr (by decide)),if_neg h0]
theorem Jwz (n:Int) (h0:0≤n) (h1:n≤359999):durR (Jbw n)=(n,0):=by
 by_cases hh:3600≤n
 ·have e:Jbw n=(dec (n / 3600)++104::(two (n % 3600 / 60)++109::two (n % 60)))++[115]:=by
   unfold Jbw;rw [if_pos hh];simp
  rw [e,suf,Qay _ _ _ (Jhc _ (by omega) (by omega)) (Jfg _ (by omega)),if_pos ⟨Jib _ (by omega),Jib _ (by omega),Joc _ (by omega) (by omega)⟩,
   if_neg (by have:=Jgf (n / 3600) (by omega);omega),Jhv _ (by omega) (by omega),Jc9 _ (by omega),Jc9 _ (by omega)]
  congr 1
  omega
 ·by_cases hm:60≤n
  ·have e:Jbw n=(dec (n % 3600 / 60)++109::two (n % 60))++[115]:=by
    unfold Jbw;rw [if_neg hh,if_pos hm];simp
   rw [e,suf,Qaz _ _ (Jhc _ (by omega) (by omega)) (Jfg _ (by omega))];unfold Jc5;rw [if_pos ⟨(Jcq _).2 ⟨Joc _ (by omega) (by omega),Jgf _ (by omega),by rw [Jhv _ (by omega) (by omega)];omega⟩,Jib _ (by omega)⟩,Jhv _ (by omega) (by omega),Jc9 _ (by omega)];congr 1
   omega
  ·have e:Jbw n=dec (n % 60)++[115]:=by
    unfold Jbw;rw [if_neg hh,if_neg hm]
   rw [e,suf];by_cases hz:n=0
   ·subst hz
    rw [Jge _ (by omega)];decide
   ·have hp:=Joc (n % 60) (by omega) (by omega)
    rw [Qa0 _ (Jhc _ (by omega) (by omega)) (fun he=>((Jcs _).1 hp).2.1 (by rw [he];rfl)),
     if_pos ((Jcq _).2 ⟨hp,Jgf _ (by omega),by rw [Jhv _ (by omega) (by omega)];omega⟩),Jhv _ (by omega) (by omega)]
    congr 1
    omega
theorem Jme (l:List UInt8) (h:List.isSuffixOf [115] l=true):∃r,l=r++[115]∧l.dropLast=r:=by
 rw [List.isSuffixOf_iff_suffix] at h;obtain⟨r,rfl⟩:=h;exact⟨r,rfl,by simp⟩
open Go.RowKit
theorem Jmf (t:Int) (h0:0≤t) (h1:t≤172800) (w:World) :
  Calls prog 344 #[.int .i64 t] w fun e w'=>e=.returned (.bool true)∧w=w':=by
 go_enter func344,ntmps344
 go_wp2
 go_ret;exact⟨rfl,rfl⟩
theorem J1l (t:Int) (h:t<0∨172800<t) (w:World) :
  Calls prog 344 #[.int .i64 t] w fun e w'=>e=.returned (.bool false)∧w=w':=by
 rcases h with h | h
 ·go_enter func344,ntmps344
  go_wp2
  go_ret;exact⟨rfl,rfl⟩
 ·have h0:0≤t:=by omega
  have hd:decide (t≤172800)=false:=by simp;omega
  go_enter func344,ntmps344
  go_wp2
  go_ret;exact⟨rfl,rfl⟩
theorem Jew (t:Int) (h0:0≤t) (h1:t≤359999) (w:World) :
  Calls prog 302 #[.int .i64 t] w fun e w'=>e=.returned (.tuple #[.int .i64 (t / 3600),.int .i64 (t % 3600 / 60),.int .i64 (t % 60)])∧w=w':=by
 go_enter func302,ntmps302
 go_wp2
 go_ret3
 exact⟨rfl,rfl⟩
theorem Jeb (h m s:Int) (h0:0≤h) (h1:h≤99) (m0:0≤m) (m1:m≤99) (s0:0≤s) (s1:s≤99) (w:World) :
  Calls prog 354 #[.int .i64 h,.int .i64 m,.int .i64 s] w fun e w'=>e=.returned (.int .i64 (h*3600+m*60+s))∧w=w':=by
 go_enter func354,ntmps354
 go_wp2
 go_ret;exact⟨rfl,rfl⟩
theorem Jcy (n:Int) (h0:0≤n) (h1:n<60) (w:World) :
  Calls prog 353 #[.int .i64 n] w fun e w'=>e=.returned (.bool true)∧w=w':=by
 go_enter func353,ntmps353
 go_wp2
 go_ret;exact⟨rfl,rfl⟩
theorem Jec (n:Int) (h:n<0∨60≤n) (w:World) :
  Calls prog 353 #[.int .i64 n] w fun e w'=>e=.returned (.bool false)∧w=w':=by
 rcases h with h | h
 ·go_enter func353,ntmps353
  go_wp2
  go_ret;exact⟨rfl,rfl⟩
 ·have h0:0≤n:=by omega
  have hd:decide (n<60)=false:=by simp;omega
  go_enter func353,ntmps353
  go_wp2
  go_ret;exact⟨rfl,rfl⟩
theorem Jw0 (t:Int) (h0:0≤t) (h1:t≤172800) (w:World) :
  Calls prog 299 #[.int .i64 t] w fun e w'=>e=.returned (.tuple #[.int .i64 (t / 3600),.int .i64 (t % 3600 / 60),.int .i64 (t % 60),.bool true])∧w=w':=by
 go_enter func299,ntmps299
 go_wp2_with (first | (go_at_call 344;refine (Jmf _ (by omega) (by omega) _).mono ?_;rintro e w' ⟨rfl,rfl⟩) | (go_at_call 302;refine (Jew _ (by omega) (by omega) _).mono ?_;rintro e w' ⟨rfl,rfl⟩))
 refine bodyPost_ret (Jg3 rfl _ _ _) rfl ?_;exact⟨rfl,rfl⟩
theorem J1m (h m s:Int) (hp:Jh9 h m s) (w:World) :
  Calls prog 321 #[.int .i64 h,.int .i64 m,.int .i64 s] w fun e w'=>e=.returned (.tuple #[.int .i64 (h*3600+m*60+s),.bool true])∧w=w':=by
 obtain⟨h0,h1,m0,m1,s0,s1,ht⟩:=hp;go_enter func321,ntmps321
 go_wp2_with (first | (go_at_call 353;refine (Jcy _ (by omega) (by omega) _).mono ?_;rintro e w' ⟨rfl,rfl⟩) | (go_at_call 354;refine (Jeb _ _ _ (by omega) (by omega) (by omega) (by omega) (by omega) (by omega) _).mono ?_;rintro e w' ⟨rfl,rfl⟩) | (go_at_call 344;refine (Jmf _ (by omega) (by omega) _).mono ?_;rintro e w' ⟨rfl,rfl⟩))
 go_ret2;exact⟨rfl,rfl⟩
theorem J7s (h m s:Int) (hp:¬Jh9 h m s) (w:World) :
  Calls prog 321 #[.int .i64 h,.int .i64 m,.int .i64 s] w fun e w'=>e=.returned (.tuple #[.int .i64 0,.bool false])∧w=w':=by
 unfold Jh9 at hp;by_cases h0:h<0
 ·go_enter func321,ntmps321
  go_wp2_with fail
  go_ret2;exact⟨rfl,rfl⟩
 by_cases h1:48<h
 ·go_enter func321,ntmps321
  go_wp2_with fail
  go_ret2;exact⟨rfl,rfl⟩
 by_cases hm:m<0∨60≤m
 ·go_enter func321,ntmps321
  go_wp2_with (go_at_call 353;refine (Jec _ (by omega) _).mono ?_;rintro e w' ⟨rfl,rfl⟩)
  go_ret2;exact⟨rfl,rfl⟩
 by_cases hs:s<0∨60≤s
 ·go_enter func321,ntmps321
  go_wp2_with (first | (go_at_call 353;refine (Jcy _ (by omega) (by omega) _).mono ?_;rintro e w' ⟨rfl,rfl⟩) | (go_at_call 353;refine (Jec _ (by omega) _).mono ?_;rintro e w' ⟨rfl,rfl⟩))
  go_ret2;exact⟨rfl,rfl⟩
 ·go_enter func321,ntmps321
  go_wp2_with (first | (go_at_call 353;refine (Jcy _ (by omega) (by omega) _).mono ?_;rintro e w' ⟨rfl,rfl⟩) | (go_at_call 354;refine (Jeb _ _ _ (by omega) (by omega) (by omega) (by omega) (by omega) (by omega) _).mono ?_;rintro e w' ⟨rfl,rfl⟩) | (go_at_call 344;refine (J1l _ (by omega) _).mono ?_;rintro e w' ⟨rfl,rfl⟩))
  go_ret2;exact⟨rfl,rfl⟩
theorem join_flat (xs:List (List UInt8)):Lib.join xs []=xs.flatten:=by
 simp [Lib.join,List.intercalate];induction xs with
 | nil=>rfl
 | cons a t ih=>cases t <;> simp_all [List.intersperse]
theorem Jsk (bk c:Nat) (xs:List ByteArray) (w:World) (hcells:∀(j:Nat) x,xs[j]?=some x→w.cell? ⟨bk,0+j,none⟩=some (.string x)) (hbk:bk<w.heap.size)
  (hN:xs.length≤100) (hcap:xs.length≤c) (hlen:(xs.map (·.data.toList)).flatten.length≤1000) :
  Calls prog 300 #[.slice (some ⟨bk,0,none⟩) xs.length c] w fun e w'=>e=.returned (.string (str (xs.map (·.data.toList)).flatten))∧Below w.heap.size w w':=by
 have hj:=Tryz.strings_Join bk 0 c xs ⟨#[]⟩ w hcells hbk (by omega) hcap (by show (Lib.join _ []).length≤_;rw [join_flat];omega);have he:Lib.join (xs.map (·.data.toList)) (⟨#[]⟩:ByteArray).data.toList=(xs.map (·.data.toList)).flatten:=join_flat _;rw [he] at hj;have H:=Lib.hid hj;clear hj he hcells hlen;go_enter func300,ntmps300
 go_wp2_with (go_at_call 133;refine H.out.mono ?_;rintro e w' ⟨rfl,hb⟩)
 go_ret;exact⟨rfl,hb⟩
theorem Jfv (x:Int) (h0:0≤x) (h1:x<100) (w:World) :
  Calls prog 297 #[.int .i64 x] w fun e w'=>e=.returned (.string (str (dec x)))∧w=w':=by
 obtain⟨n,rfl⟩:∃n:Nat,x=n:=⟨x.toNat,by omega⟩;exact (Tryz.strconv_Itoa_small n (by omega) w).mono fun _ _ ⟨he,hw⟩=>⟨he,hw.symm⟩
theorem Jkj (xs:List (List UInt8)) (hN:xs.length≤100) (hlen:xs.flatten.length≤1000) (w:World) :
  Calls prog 300 #[.slice (some ⟨w.heap.size,0,none⟩) xs.length xs.length] (w.alloc (.cells (xs.map fun l=>Value.string (str l)).toArray 9)) fun e w'=>e=.returned (.string (str xs.flatten))∧Below w.heap.size w w':=by
 have hm:(xs.map str).map (·.data.toList)=xs:=by simp [Function.comp_def]
 have h:=Jsk w.heap.size xs.length (xs.map str) (w.alloc (.cells (xs.map fun l=>Value.string (str l)).toArray 9)) (by
  intro j x hx;simp only [List.getElem?_map,Option.map_eq_some_iff] at hx;obtain⟨l,hl,rfl⟩:=hx;rw [Nat.zero_add,World.cell?_alloc_new];simp [hl]) (by simp) (by simpa using hN) (by simp) (by rw [hm];exact hlen)
 rw [hm,List.length_map] at h;exact h.mono fun e w' ⟨he,hb⟩=>⟨he,((Below.refl _ _).alloc (Nat.le_refl _) _).trans (hb.mono (by simp))⟩
theorem Jw1 (a b:List UInt8) (ha:a.length≤100) (hb:b.length≤100) (w:World) :
  Calls prog 300 #[.slice (some ⟨w.heap.size,0,none⟩) 2 2] (w.alloc (.cells #[.string (str a),.string (str b)] 9)) fun e w'=>e=.returned (.string (str (a++b)))∧Below w.heap.size w w':=by
 have h:=Jkj [a,b] (by simp) (by simp;omega) w;exact h.mono fun e w' ⟨he,hb⟩=>⟨by rw [he];simp,hb⟩
theorem J7t (a b c d:List UInt8) (ha:a.length≤100) (hb:b.length≤100) (hc:c.length≤100) (hd:d.length≤100) (w:World) :
  Calls prog 300 #[.slice (some ⟨w.heap.size,0,none⟩) 4 4] (w.alloc (.cells #[.string (str a),.string (str b),.string (str c),.string (str d)] 9)) fun e w'=>e=.returned (.string (str (a++b++c++d)))∧Below w.heap.size w w':=by
 have h:=Jkj [a,b,c,d] (by simp) (by simp;omega) w;exact h.mono fun e w' ⟨he,hb⟩=>⟨by rw [he];simp,hb⟩
theorem J7u (a b c d f:List UInt8) (ha:a.length≤100) (hb:b.length≤100) (hc:c.length≤100) (hd:d.length≤100) (hf:f.length≤100) (w:World) :
  Calls prog 300 #[.slice (some ⟨w.heap.size,0,none⟩) 5 5] (w.alloc (.cells #[.string (str a),.string (str b),.string (str c),.string (str d),.string (str f)] 9)) fun e w'=>e=.returned (.string (str (a++b++c++d++f)))∧Below w.heap.size w w':=by
 have h:=Jkj [a,b,c,d,f] (by simp) (by simp;omega) w;exact h.mono fun e w' ⟨he,hb⟩=>⟨by rw [he];simp,hb⟩
theorem J7v (a b c d f g:List UInt8) (ha:a.length≤100) (hb:b.length≤100) (hc:c.length≤100) (hd:d.length≤100) (hf:f.length≤100) (hg:g.length≤100) (w:World) :
  Calls prog 300 #[.slice (some ⟨w.heap.size,0,none⟩) 6 6] (w.alloc (.cells #[.string (str a),.string (str b),.string (str c),.string (str d),.string (str f),.string (str g)] 9)) fun e w'=>e=.returned (.string (str (a++b++c++d++f++g)))∧Below w.heap.size w w':=by
 have h:=Jkj [a,b,c,d,f,g] (by simp) (by simp;omega) w;exact h.mono fun e w' ⟨he,hb⟩=>⟨by rw [he];simp,hb⟩
theorem Jbz (x:Int) (h0:0≤x) (h1:x<100) (w:World) :
  Calls prog 301 #[.int .i64 x] w fun e w'=>e=.returned (.string (str (two x)))∧Below w.heap.size w w':=by
 have l1:=Jhw (x / 10) (by omega);have l2:=Jhw (x % 10) (by omega);go_enter func301,ntmps301
 go_wp2_with (first | (go_at_call 297;refine (Jfv _ (by omega) (by omega) _).mono ?_;rintro e w' ⟨rfl,rfl⟩) | (go_at_call 300;refine (Jw1 _ _ (by omega) (by omega) _).mono ?_;rintro e w' ⟨rfl,hb⟩))
 go_ret;exact⟨by rw [←Jtu x h0 h1];rfl,hb⟩
theorem Jsl (t:Int) (h0:0≤t) (h1:t≤172800) (w:World) :
  Calls prog 223 #[.int .i64 t] w fun e w'=>e=.returned (.tuple #[.string (str (Jc6 t)),.int .i64 0])∧Below w.heap.size w w':=by
 go_enter func223,ntmps223
 go_wp2_with (go_at_call 299;refine (Jw0 _ h0 h1 _).mono ?_;rintro e w' ⟨rfl,rfl⟩)
 go_wp2_with fail
 refine (Jbz (t / 3600) (by omega) (by omega) _).mono ?_;rintro e w1 ⟨rfl,b1⟩;go_wp2_with fail
 refine (Jbz (t % 3600 / 60) (by omega) (by omega) _).mono ?_;rintro e w2 ⟨rfl,b2⟩;go_wp2_with fail
 refine (Jbz (t % 60) (by omega) (by omega) _).mono ?_;rintro e w3 ⟨rfl,b3⟩;go_wp2_with fail
 refine (J7u _ _ _ _ _ (Ji4 _) (by decide) (Ji4 _) (by decide) (Ji4 _) _).mono ?_;rintro e w4 ⟨rfl,b4⟩;go_wp2_with fail
 go_ret2;exact⟨rfl,(b1.trans (b2.mono b1.size)).trans ((b3.trans (b4.mono b3.size)).mono (Nat.le_trans b1.size b2.size))⟩
theorem J1n (n:Int) (h0:3600≤n) (h1:n≤359999) (w:World) :
  Calls prog 224 #[.int .i64 n] w fun e w'=>e=.returned (.tuple #[.string (str (Jbw n)),.int .i64 0])∧Below w.heap.size w w':=by
 have hp:0<n / 3600:=by omega
 have hz:0≤n:=by omega
 go_enter func224,ntmps224
 go_wp2_with fail
 refine (Jew n hz h1 _).mono ?_;rintro e w0 ⟨rfl,rfl⟩;go_wp2_with fail
 refine (Jfv (n / 3600) (by omega) (by omega) _).mono ?_;rintro e w0 ⟨rfl,rfl⟩;go_wp2_with fail
 refine (Jbz (n % 3600 / 60) (by omega) (by omega) _).mono ?_;rintro e w1 ⟨rfl,b1⟩;go_wp2_with fail
 refine (Jbz (n % 60) (by omega) (by omega) _).mono ?_;rintro e w2 ⟨rfl,b2⟩;go_wp2_with fail
 refine (J7v _ _ _ _ _ _ (Jtt _ (by omega)) (by decide) (Ji4 _) (by decide) (Ji4 _) (by decide) _).mono ?_;rintro e w3 ⟨rfl,b3⟩;go_wp2_with fail
 go_ret2;exact⟨Jj2 (by unfold Jbw;rw [if_pos h0];simp),b1.trans ((b2.trans (b3.mono b2.size)).mono b1.size)⟩
theorem J1o (n:Int) (h0:60≤n) (h1:n<3600) (w:World) :
  Calls prog 224 #[.int .i64 n] w fun e w'=>e=.returned (.tuple #[.string (str (Jbw n)),.int .i64 0])∧Below w.heap.size w w':=by
 have hp:¬0<n / 3600:=by omega
 have hp2:0<n % 3600 / 60:=by omega
 have hz:0≤n:=by omega
 have hz1:n≤359999:=by omega
 go_enter func224,ntmps224
 go_wp2_with fail
 refine (Jew n hz hz1 _).mono ?_;rintro e w0 ⟨rfl,rfl⟩;go_wp2_with fail
 refine (Jfv (n % 3600 / 60) (by omega) (by omega) _).mono ?_;rintro e w0 ⟨rfl,rfl⟩;go_wp2_with fail
 refine (Jbz (n % 60) (by omega) (by omega) _).mono ?_;rintro e w2 ⟨rfl,b2⟩;go_wp2_with fail
 refine (J7t _ _ _ _ (Jtt _ (by omega)) (by decide) (Ji4 _) (by decide) _).mono ?_;rintro e w3 ⟨rfl,b3⟩;go_wp2_with fail
 go_ret2;exact⟨Jj2 (by unfold Jbw;rw [if_neg (by omega),if_pos h0];simp),b2.trans (b3.mono b2.size)⟩
theorem J1p (n:Int) (h0:0≤n) (h1:n<60) (w:World) :
  Calls prog 224 #[.int .i64 n] w fun e w'=>e=.returned (.tuple #[.string (str (Jbw n)),.int .i64 0])∧Below w.heap.size w w':=by
 have hp:¬0<n / 3600:=by omega
 have hp2:¬0<n % 3600 / 60:=by omega
 have hz1:n≤359999:=by omega
 go_enter func224,ntmps224
 go_wp2_with fail
 refine (Jew n h0 hz1 _).mono ?_;rintro e w0 ⟨rfl,rfl⟩;go_wp2_with fail
 refine (Jfv (n % 60) (by omega) (by omega) _).mono ?_;rintro e w0 ⟨rfl,rfl⟩;go_wp2_with fail
 refine (Jw1 _ _ (Jtt _ (by omega)) (by decide) _).mono ?_;rintro e w3 ⟨rfl,b3⟩;go_wp2_with fail
 go_ret2;exact⟨Jj2 (by unfold Jbw;rw [if_neg (by omega),if_neg (by omega)]),b3⟩
theorem Jsm (n:Int) (h0:0≤n) (h1:n≤359999) (w:World) :
  Calls prog 224 #[.int .i64 n] w fun e w'=>e=.returned (.tuple #[.string (str (Jbw n)),.int .i64 0])∧Below w.heap.size w w':=by
 by_cases hh:3600≤n
 ·exact J1n n hh h1 w
 ·by_cases hm:60≤n
  ·exact J1o n hm (by omega) w
  ·exact J1p n h0 (by omega) w
end
end Go.Proofs.YtpifdbphmnifdaaGreatDoor
