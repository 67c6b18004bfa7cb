/-
  Facts. Condition: each theorem's own.
-/
import Derived.Deep.RegionHeld
import Derived.Laws.Tables
import Derived.Test.YtpifdbphmnifdaaGreatDoorYF13
set_option maxRecDepth 100000
set_option maxHeartbeats 8000000
section
variable {p:Prop}
theorem Ub(h:p:=by rw[Jc0,h1];exact hr):p:=h
theorem Uc(h:p:=by simp only[Pq,Pr];omega):p:=h
theorem Ud(h:p:=by rw[cell_of_row _ _ _ _ _ _ h.box];simpa using hv):p:=h
theorem Ue(h:p:=by rw[Jc1];exact hW h1 h2):p:=h
end
open Go.Proofs.Tryz
namespace Go.Proofs.YtpifdbphmnifdaaGreatDoor
section
open Go Go.RowKit
structure Sht (F:Fm):Prop where
 num:∀n,-9223372036854775808<=n->n<=9223372036854775807->(F.numT n).length<=256
 prc:∀n,0<=n->n<=1000000->(F.prcT n).length<=256
 tim:∀n,0<=n->n<=172800->(F.timT n).length<=256
 dur:∀n,0<=n->n<=86400->(F.durT n).length<=256
 day:∀n,0<=n->n<=36524->(F.dayT n).length<=256
 mds:∀n,0<=n->n<=255->(F.mdsT n).length<=256
theorem Jf6:∀(k u:Nat),u<10 ^ (k+1)->(Lib.decDigits u).length<=k+1
 | 0,u,h=>by
  rw[Lib.decDigits,dif_pos Kt];simp
 | k+1,u,h=>by
  rw[Lib.decDigits];split
  ·simp
  ·rw[Pq]
   have:=Jf6 k (u / 10) (by rw[Nat.div_lt_iff_lt_mul Ka,<-Nat.pow_succ];exact h);exact Kb
theorem twoL(x:Int):(two x).length=2:=rfl
theorem J8o:∀x∈nmL,x.length<=16:=Kd
theorem Jeh{l:List Bs}{n:Nat}(h:∀x∈l,x.length<=n)(i:Int):(atI l i).length<=n:=by
 unfold atI;rw[List.getD_eq_getElem?_getD];cases e:l[i.toNat]? with
 | none=>simp
 | some x=>exact h x (List.mem_of_getElem? e)
theorem J1m(n:Nat):∀m,(txF n m).length<=17*m
 | 0=>by unfold txF;simp
 | m+1=>by
  have ih:=J1m n m;have hn:(nmR m).length<=16:=by
   unfold nmR;rw[List.getD_eq_getElem?_getD];cases e:nmL[m]? with
   | none=>simp
   | some x=>exact J8o x (List.mem_of_getElem? e)
  unfold txF;split
  ·unfold catR
   split
   ·omega
   ·rw[Pq,List.length_cons]
    omega
  ·omega
theorem Je0:Sht fmR where
 num:=fun n h0 h1=>by
  show(Lib.itoa n).length<=256
  unfold Lib.itoa;split
  ·have:=Jf6 19 n.natAbs Ka
   rw[List.length_cons];omega
  ·have:=Jf6 19 n.toNat Ka
   omega
 prc:=fun n h0 h1=>by
  show(Lib.decDigits (n.toNat / 100)++46::two _).length<=256
  have:=Jf6 9 (n.toNat / 100) Ka;rw[Pq,List.length_cons,twoL];omega
 tim:=fun n h0 h1=>by
  show(Jfg n).length<=256
  unfold Jfg;simp only[Pq,List.length_cons,List.length_nil,twoL];omega
 dur:=fun n h0 h1=>by
  show(Jb2 n).length<=256
  unfold Jb2;have a:=Jf6 9 (n / 3600).toNat Ka;have b:=Jf6 9 (n % 3600 / 60).toNat Ka;have c:=Jf6 9 (n % 60).toNat Ka;unfold dec;split
  ·simp only[Pq,List.length_cons,List.length_nil,twoL]
   omega
  split
  ·simp only[Pq,List.length_cons,List.length_nil,twoL]
   omega
  ·simp only[Pq,List.length_cons,List.length_nil]
   omega
 day:=fun n h0 h1=>by
  show(S2.dText _ _).length<=256
  unfold S2.dText S2.dateText S2.four;simp only[Pq,List.length_cons,List.length_nil,twoL];omega
 mds:=fun n h0 h1=>by
  show(textR n.toNat).length<=256
  have:=J1m n.toNat 8;unfold textR;split
  ·decide
  ·omega
structure Lim (T:Tt):Prop where
 ist:∀x∈Jbi T,x.length<=32
 iro:∀x∈Jct T,x.length<=32
 ica:∀x∈Jb5 T,x.length<=32
 itr:∀x∈Jbr T,x.length<=32
 ipr:∀x∈T.pr,x.1.length<=32
 st:T.st.length<=64
 ro:T.ro.length<=64
 ca:T.ca.length<=64
 ex:T.ex.length<=256
 tr:T.tr.length<=256
 cc:∀x∈T.tr,(clT x).length<=32
 fr:T.fr.length<=64
 th:T.th.length<=128
 gu:T.gu.length<=128
 pa:T.pa.length<=512
 pr:T.pr.length<=16
theorem Jgz{x:Bs}(h:¬Jak x=false):x.length<=32:=((Jf9 x).1 Kt).1.2
theorem J1n{T:Tt}(h:(ttC T).2.2=0):Lim T:=by
 have hp:=(Jz1 T).1 h;have h0:(S13.chkT T.st).2=0:=hp 0 Ka;have h1:(chkR T.ro).2=0:=hp 1 Ka;have h2:(S14.chkC T.ca).2=0:=hp 2 Ka;have h3:(S14.chkX T.ca.length T.ex).2=0:=hp 3 Ka;have h4:(S17.chkT T.st.length T.ro.length T.ca.length T.tr).2=0:=hp 4 Ka;have h5:(chkF (T.tr.map clT) T.fr).2=0:=hp 5 Ka;have h6:(S19.chkH (T.tr.map S19.tcT) T.fr T.th).2=0:=hp 6 Ka;have h7:(S19.chkU (T.tr.map S19.tcT) T.fr T.st.length T.gu).2=0:=hp 7 Ka;have h8:(S20.chkP T.st.length T.pa).2=0:=hp 8 Ka;have h9:(S21.chkPd T.di T.wi T.cp T.pr).2=0:=hp 9 Ka;unfold S13.chkT at h0;unfold chkR at h1;unfold S14.chkC at h2;unfold S14.chkX at h3;unfold S17.chkT at h4;unfold chkF at h5;unfold S19.chkH at h6;unfold S19.chkU at h7;unfold S20.chkP at h8;unfold S21.chkPd at h9;split at h0
 ·simp at h0
 next l0 =>
 split at h1
 ·simp at h1
 next l1 =>
 split at h2
 ·simp at h2
 next l2 =>
 split at h3
 ·simp at h3
 next l3 =>
 split at h4
 ·simp at h4
 next l4 =>
 split at h5
 ·simp at h5
 next l5 =>
 split at h6
 ·simp at h6
 next l6 =>
 split at h7
 ·simp at h7
 next l7 =>
 split at h8
 ·simp at h8
 next l8 =>
 split at h9
 ·simp at h9
 split at h9
 ·simp at h9
 next l9 =>
 rw[Jmg] at h0;have hcc:∀x∈T.tr,Jak x.1=true/\(clT x).length<=32:=fun x hx=>by
  obtain⟨s,hb⟩:=Jdq h4 hx;unfold S17.badT at hb;split at hb
  ·exact Y0
  next hv =>
  split at hb
  ·exact Y0
  split at hb
  ·unfold chkC at hb
   split at hb
   ·exact Y0
   ·next hc =>
    have:¬(32<x.2.2.2.2.2.length):=fun q=>hc (.inr q)
    exact⟨by simpa using hv,Nat.le_of_not_lt this⟩
  ·exact Y0
 exact {
  ist:=fun y hy=>by
   obtain⟨x,hx,rfl⟩:=List.mem_map.1 hy;obtain⟨s,hb⟩:=Jdq h0 hx;unfold S13.badS at hb;split at hb
   ·exact Y0
   ·next hv=>exact Jgz hv
  iro:=fun y hy=>by
   obtain⟨x,hx,rfl⟩:=List.mem_map.1 hy;obtain⟨s,hb⟩:=Jdq h1 hx;unfold badR at hb;split at hb
   ·exact Y0
   ·next hv=>exact Jgz hv
  ica:=fun y hy=>by
   obtain⟨x,hx,rfl⟩:=List.mem_map.1 hy;obtain⟨s,hb⟩:=Jdq h2 hx;unfold S14.badC at hb;split at hb
   ·exact Y0
   ·next hv=>exact Jgz hv
  itr:=fun y hy=>by
   obtain⟨x,hx,rfl⟩:=List.mem_map.1 hy;exact((Jf9 x.1).1 (hcc x hx).1).1.2
  ipr:=fun x hx=>by
   obtain⟨s,hb⟩:=Jdq h9 hx;unfold S21.badPd at hb;split at hb
   ·exact Y0
   ·next hv=>exact Jgz hv
  st:=Ka
  ro:=Ka
  ca:=Ka
  ex:=Ka
  tr:=Ka
  cc:=fun x hx=>(hcc x hx).2
  fr:=Ka
  th:=Ka
  gu:=Ka
  pa:=Ka
  pr:=by omega }
def Shr(fs:List Bs):Prop:=fs.length<=7/\∀x∈fs,x.length<=256
theorem J8p(x:Bs):(Jaj x).length<=4*x.length+2:=by
 have he:∀c,(esc c).length<=4:=fun c=>by
  unfold esc;split
  ·simp
  split <;> simp
 have hi:(Ja1 x).length<=4*x.length:=by
  unfold Ja1;induction x with
  | nil=>simp
  | cons c x ih =>
   rw[List.flatMap_cons,Pq,List.length_cons];have:=he c;omega
 unfold Jaj;split
 ·omega
 ·rw[List.length_cons,Pq]
  simp only[List.length_cons,List.length_nil];omega
theorem line_le:∀fs:List Bs,(∀x∈fs,x.length<=256)->(Jan fs).length<=1027*fs.length
 | [],_=>by simp[Jan]
 | [x],h=>by
  show(Jaj x).length<=_
  have:=J8p x;have:=h x Ke;simp only[List.length_cons,List.length_nil];omega
 | x::y::l,h=>by
  show(Jaj x++44::Jan (y::l)).length<=_
  have:=J8p x;have:=h x Ke;have ih:=line_le (y::l) (fun z hz=>h z (by simp[hz]));rw[Pq,List.length_cons,List.length_cons];rw[List.length_cons] at ih;rw[List.length_cons];omega
theorem Shr.line{fs:List Bs}(h:Shr fs):(Jan fs).length<=7189:=by
 have:=line_le fs h.2;have:=h.1;omega
theorem Jm8(b:Bool):(flgT b).length<=256:=by cases b <;> decide
theorem Qbh(k:Nat->Bool):(wkT k).length<=256:=by unfold wkT;simp
theorem Qbi(b a:Bool):(prmT b a).length<=256:=by cases b <;> cases a <;> decide
section
variable {F:Fm} {T:Tt} (V:Val T) (L:Lim T) (S:Sht F)
include V L S
theorem J1o{x:S13.St}(hx:x∈T.st):Shr (rSt F x):=by
 obtain⟨h1,h2⟩:=V.st x hx;have a:=L.ist x.1 (List.mem_map.2 ⟨x,hx,rfl⟩);have b:=S.num _ h1.1 h1.2;have c:=S.num _ h2.1 h2.2;have d:=Jm8 x.2.2.1;refine⟨by simp[rSt],fun y hy=>?_⟩;simp only[rSt,List.mem_cons,List.not_mem_nil,or_false] at hy;rcases hy with rfl | rfl | rfl | rfl | rfl
 ·decide
 all_goals omega
theorem J1p{x:S14.Cl}(hx:x∈T.ca):Shr (rCa F x):=by
 obtain⟨h1,h2⟩:=V.ca x hx;have a:=L.ica x.1 (List.mem_map.2 ⟨x,hx,rfl⟩);have b:=S.day _ h1.1 h1.2;have c:=S.day _ h2.1 h2.2;have d:=Qbh x.2.1;refine⟨by simp[rCa],fun y hy=>?_⟩;simp only[rCa,List.mem_cons,List.not_mem_nil,or_false] at hy;rcases hy with rfl | rfl | rfl | rfl | rfl
 ·decide
 all_goals omega
theorem J1q{x:S14.Ex}(hx:x∈T.ex):Shr (rEx F T x):=by
 obtain⟨h1,h2⟩:=V.ex x hx;have a:=Jeh L.ica x.1;have b:=S.day _ h2.1 h2.2;refine⟨by simp[rEx],fun y hy=>?_⟩;simp only[rEx,List.mem_cons,List.not_mem_nil,or_false] at hy;rcases hy with rfl | rfl | rfl | rfl
 ·decide
 ·omega
 ·omega
 ·cases x.2.2 <;> decide
theorem J1r{x:Tp}(hx:x∈T.tr){c:Cl}(hc:c∈clT x):Shr (rCc F T c):=by
 obtain⟨h1,h2,h3⟩:=V.cc x hx c hc;have a:=Jeh L.ist c.1;have b:=S.tim _ h2.1 h2.2;have d:=S.tim _ h3.1 h3.2;have e:=Qbi c.2.2.2.1 c.2.2.2.2;refine⟨by simp[rCc],fun y hy=>?_⟩;simp only[rCc,List.mem_cons,List.not_mem_nil,or_false] at hy;rcases hy with rfl | rfl | rfl | rfl | rfl
 ·decide
 all_goals omega
theorem J1s{x:Fq}(hx:x∈T.fr):Shr (rFr F T x):=by
 obtain⟨h1,h2,h3,h4⟩:=V.fr x hx;have a:=Jeh L.itr x.1;have b:=S.tim _ h2.1 h2.2;have c:=S.tim _ h3.1 h3.2;have d:=S.dur _ h4.1 h4.2;refine⟨by simp[rFr],fun y hy=>?_⟩;simp only[rFr,List.mem_cons,List.not_mem_nil,or_false] at hy;rcases hy with rfl | rfl | rfl | rfl | rfl
 ·decide
 all_goals omega
theorem J1t{x:S20.Fp}(hx:x∈T.pa):Shr (rPa F T x):=by
 obtain⟨h1,h2,h3⟩:=V.pa x hx;have a:=Jeh L.ist x.1;have b:=Jeh L.ist x.2.1;have c:=S.dur _ h3.1 h3.2;have d:=Jm8 x.2.2.2;refine⟨by simp[rPa],fun y hy=>?_⟩;simp only[rPa,List.mem_cons,List.not_mem_nil,or_false] at hy;rcases hy with rfl | rfl | rfl | rfl | rfl
 ·decide
 all_goals omega
theorem Jum{x:S21.Pd}(hx:x∈T.pr):Shr (rPr F x):=by
 obtain⟨h1,h2,h3,h4,h5⟩:=V.pr x hx;have a:=L.ipr x hx;have b:=S.prc _ h1.1 h1.2;have c:=S.num _ h2.1 h2.2;have d:=S.num _ h3.1 h3.2;have e:=S.dur _ h4.1 h4.2;have f:=S.mds _ h5.1 h5.2;refine⟨by simp[rPr],fun y hy=>?_⟩;simp only[rPr,List.mem_cons,List.not_mem_nil,or_false] at hy;rcases hy with rfl | rfl | rfl | rfl | rfl | rfl | rfl
 ·decide
 all_goals omega
theorem J1u{fs:List Bs}(hx:fs∈rFa F T):Shr fs:=by
 obtain⟨h1,h2,h3⟩:=V.fa;have a:=S.prc _ h1.1 h1.2;have b:=S.dur _ h2.1 h2.2;have c:=S.prc _ h3.1 h3.2;have _:=L.st;unfold rFa at hx;split at hx
 ·rw[List.mem_singleton] at hx
  subst hx;refine⟨Ke,fun y hy=>?_⟩;simp only[List.mem_cons,List.not_mem_nil,or_false] at hy;rcases hy with rfl | rfl | rfl | rfl
  ·decide
  all_goals omega
 ·cases hx
end
section
variable {T:Tt} (L:Lim T)
include L
theorem J1v{x:Rt}(hx:x∈T.ro):Shr (rRo x):=by
 have a:=L.iro x.1 (List.mem_map.2 ⟨x,hx,rfl⟩);have b:=Jeh J8o x.2.1;have d:=Jm8 x.2.2;refine⟨by simp[rRo],fun y hy=>?_⟩;simp only[rRo,List.mem_cons,List.not_mem_nil,or_false] at hy;rcases hy with rfl | rfl | rfl | rfl
 ·decide
 all_goals omega
theorem J1w{x:Tp}(hx:x∈T.tr):Shr (rTr T x):=by
 have a:=L.itr x.1 (List.mem_map.2 ⟨x,hx,rfl⟩);have b:=Jeh L.iro x.2.1;have c:=Jeh L.ica x.2.2.1;have d:=Jm8 x.2.2.2.1;refine⟨by simp[rTr],fun y hy=>?_⟩;simp only[rTr,List.mem_cons,List.not_mem_nil,or_false] at hy;rcases hy with rfl | rfl | rfl | rfl | rfl
 ·decide
 all_goals omega
theorem J1x{x:S19.Th}:Shr (rTh T x):=by
 have a:=Jeh L.itr x.1;have b:=Jeh L.itr x.2;refine⟨by simp[rTh],fun y hy=>?_⟩;simp only[rTh,List.mem_cons,List.not_mem_nil,or_false] at hy;rcases hy with rfl | rfl | rfl
 ·decide
 all_goals omega
theorem J1y{x:S19.Gt}:Shr (rGu T x):=by
 have a:=Jeh L.itr x.1;have b:=Jeh L.itr x.2.1;have c:=Jeh L.ist x.2.2;refine⟨by simp[rGu],fun y hy=>?_⟩;simp only[rGu,List.mem_cons,List.not_mem_nil,or_false] at hy;rcases hy with rfl | rfl | rfl | rfl
 ·decide
 all_goals omega
end
variable {i:Nat} {α:Type} {oi:Oper} {listed:Array Bool}
theorem J5q{F:Fm}{T:Tt}(V:Val T)(L:Lim T)(S:Sht F):∀r∈rows F T,Shr r:=by
 intro r hr;unfold rows at hr;simp only[List.mem_append,List.mem_map,List.mem_flatMap] at hr;rcases hr with⟨x,hx,rfl⟩ | ⟨x,hx,rfl⟩ | ⟨x,hx,rfl⟩ | ⟨x,hx,rfl⟩ | ⟨x,hx,hr⟩ | ⟨x,hx,rfl⟩ | ⟨x,hx,rfl⟩ | ⟨x,hx,rfl⟩ | ⟨x,hx,rfl⟩ | hr | ⟨x,hx,rfl⟩
 ·exact J1o V L S hx
 ·exact J1v L hx
 ·exact J1p V L S hx
 ·exact J1q V L S hx
 ·unfold bTr at hr
  rw[List.mem_cons,List.mem_map] at hr;rcases hr with rfl | ⟨c,hc,rfl⟩
  ·exact J1w L hx
  ·exact J1r V L S hx hc
 ·exact J1s V L S hx
 ·exact J1x L
 ·exact J1y L
 ·exact J1t V L S hx
 ·exact J1u V L S hr
 ·exact Jum V L S hx
theorem Jm9{F:Fm}{T:Tt}:∀l:List Tp,(∀x∈l,(clT x).length<=32)->(l.flatMap (bTr F T)).length<=33*l.length
 | [],_=>Ke
 | x::l,h=>by
  rw[List.flatMap_cons,Pq,List.length_cons];have ih:=Jm9 (F:=F) (T:=T) l (fun y hy=>h y (by simp[hy]));have hb:(bTr F T x).length=1+(clT x).length:=by unfold bTr;rw[List.length_cons,Pr];omega
  have:=h x Ke;omega
theorem J5r{F:Fm}{T:Tt}(L:Lim T):(rows F T).length<=20000:=by
 have h1:=Jm9 (F:=F) (T:=T) T.tr L.cc;have h2:(rFa F T).length<=1:=by unfold rFa;split <;> simp
 obtain⟨-,-,-,-,-,a,b,c,d,e,-,g,i,j,k,l⟩:=L;unfold rows;exact Uc
theorem Jp3{F:Fm}{T:Tt}(V:Val T)(L:Lim T)(S:Sht F):(rows F T).length<=20000/\(∀l∈(rows F T).map Jan,l.length<=16384)/\S4.textR ((rows F T).map Jan)=if 65536<(Jf0 F T).length then([],5) else(Jf0 F T,0):=by
 refine⟨J5r L,fun l hl=>?_,?_⟩
 ·obtain⟨r,hr,rfl⟩:=List.mem_map.1 hl
  have:=(J5q V L S r hr).line;omega
 ·unfold S4.textR
  have:((rows F T).map Jan).any S4.fed=false:=by
   rw[List.any_eq_false];intro l hl;obtain⟨r,-,rfl⟩:=List.mem_map.1 hl;unfold S4.fed;rw[decide_eq_true_iff];exact fun hb=>Jo9 r 10 hb rfl
  rw[this];rfl
theorem Jay(w:World)(cs:Array Value)(ls:List Bs)(h:cs.toList=sts ls)(n:Nat)(hn:ls.length=n):Lst (w.alloc (.cells cs 9 (0,0))) (.slice (some ⟨w.heap.size,0,none⟩) n n) ls:=by
 subst hn;refine⟨_,_,rfl,⟨Nat.le_refl _,fun h=>Qi⟩,fun _=>⟨w.heap.size,0,rfl,Ke,fun j x hj=>?_⟩⟩;rw[Nat.zero_add,cell_of_row _ _ _ _ _ _ (heap_alloc_new w _)];rw[<-h] at hj;exact Xi
theorem Jhv{a b c d:Nat}(h:(some ⟨a,b,none⟩:Option Addr)=some ⟨c,d,none⟩):a=c/\b=d:=by
 have:=Pp h;injection this with h1 h2
 exact⟨h1,h2⟩
theorem Jbd{β:Type}{l:List α}{k:Nat}{x:α}(f:α->β)(h:l[k]?=some x)(R:List β):R++(l.take (k+1)).map f=(R++(l.take k).map f)++[f x]:=by
 obtain⟨hl,rfl⟩:=Pm h;rw[List.take_add_one,h,List.map_append,List.append_assoc];rfl
theorem Jp4{β:Type}{l:List α}{k:Nat}{x:α}(f:α->List β)(h:l[k]?=some x)(R:List β):R++(l.take (k+1)).flatMap f=(R++(l.take k).flatMap f)++f x:=by
 rw[List.take_add_one,h,List.flatMap_append,List.append_assoc];simp
theorem Jbh{l:List α}{f:α->Bs}{i:Int}{m:Nat}(hi:i=(m:Int)){x:α}(h:l[m]?=some x):atI (l.map f) i=f x:=by
 subst hi;unfold atI;rw[List.getD_eq_getElem?_getD,Int.toNat_natCast,List.getElem?_map,h];rfl
abbrev Ja8(A0 A1 A2 A3 A4 A5 A6 A7 A8 A9:Option Addr)(n0 n1 n2 n3 n4 n5 n6 n7 n8 n9:Nat)(T:Tt):Obj :=
 .cells #[.slice A0 T.st.length n0,.slice A1 T.ro.length n1,.slice A2 T.ca.length n2,.slice A3 T.ex.length n3,.slice A4 T.tr.length n4,.slice A5 T.fr.length n5,.slice A6 T.th.length n6,.slice A7 T.gu.length n7,.slice A8 T.pa.length n8,.slice A9 T.pr.length n9,.int .i64 T.di,.int .i64 T.wi,.int .i64 T.cp] 36 (0,0)
open Go.RowKit
theorem Jjp{P:Program}{md:Region.Mode}{ops:Array Oper}{Q:Exit->Act->World->Prop}{S S':World->Prop}(h:∀w,S' w->S w):∀(fuel:Nat) (listed:Array Bool) (a:Act) (w:World),wpAnyH P md ops Q S' fuel listed a w->wpAnyH P md ops Q S fuel listed a w
 | 0,_,_,_,H=>H
 | fuel+1,_,_,_,H=>⟨H.1,fun i hi=>wpOp_mono (fun a' w' h'=>⟨h _ h'.1,Jjp h fuel _ a' w' h'.2⟩) (H.2 i hi)⟩
theorem takeH{P:Program}{md:Region.Mode}{ops:Array Oper}{Q:Exit->Act->World->Prop}{S:World->Prop}{v:Value}{fuel:Nat}{a:Act}{w:World}(d:Nat)(hi:ops[i]?=some oi)(hd:oi.dst=some d)
  (hs:Region.noSelect ops=true) (hf:Region.free md ops listed i=true) (hr:(Region.ready md ops listed).contains i=true)
  (hQ:∀c a w,Q (.panic c) (a.put (some d) v) w->Q (.panic c) a w) (hy:YieldsIf P ops S oi v a) (hS:S w)
  (h:wpAnyH P md ops Q S fuel (listed.setIfInBounds i true) (a.put (some d) v) w):wpAnyH P md ops Q S (fuel+1) listed a w :=
 wpAnyH_take hi hs hf hr (by rw[hd];exact hQ) hy hS (by rw[hd];exact h)
theorem oneH{P:Program}{md:Region.Mode}{ops:Array Oper}{Q:Exit->Act->World->Prop}{S:World->Prop}{fuel:Nat}{a:Act}{w:World}(hr:Region.ready md ops listed=[i])(hi:ops[i]?=some oi)(wi:Region.wanted oi (yielded ops a.tmps)=true)
  (h:∀K:Act->World->Prop,Shut (∀a w,S w->(S w->wpAnyH P md ops Q S fuel (listed.setIfInBounds i true) a w)->K a w)->Oper.wp P oi a w K Q):wpAnyH P md ops Q S (fuel+1) listed a w :=
 wpAnyH_ready hr Ke (AllReadyH.cons hi (fun K hK=>by rw[if_pos wi];exact h K hK) AllReadyH.nil)
theorem Jwj{P:Program}{md:Region.Mode}{ops:Array Oper}{Q:Exit->Act->World->Prop}{S:World->Prop}{j:Nat}{oj:Oper}{fuel:Nat}{a:Act}{w:World}(di dj:Nat)
  (hr:Region.ready md ops listed=[i,j]) (hri:Region.ready md ops (listed.setIfInBounds i true)=[j]) (hrj:Region.ready md ops (listed.setIfInBounds j true)=[i]) (hij:i≠j) (hi:ops[i]?=some oi) (hj:ops[j]?=some oj)
  (wi:Region.wanted oi (yielded ops a.tmps)=true) (wj:Region.wanted oj (yielded ops a.tmps)=true) (wi':∀q,Region.wanted oi (yielded ops (a.put (some dj) q).tmps)=true) (wj':∀u,Region.wanted oj (yielded ops (a.put (some di) u).tmps)=true) (hd:di≠dj)
  (R:World->Value->Value->Prop) (Ri Rj:World->Value->Prop)
  (c1:∀K:Act->World->Prop,Shut (∀a' u W',a'=a.put (some di) u->S W'->Ri W' u->K a' W')->Oper.wp P oi a w K Q)
  (c2:∀u W,S W->Ri W u->∀K:Act->World->Prop,Shut (∀a' q W',a'=(a.put (some di) u).put (some dj) q->S W'->R W' u q->K a' W')->Oper.wp P oj (a.put (some di) u) W K Q)
  (c3:∀K:Act->World->Prop,Shut (∀a' q W',a'=a.put (some dj) q->S W'->Rj W' q->K a' W')->Oper.wp P oj a w K Q)
  (c4:∀q W,S W->Rj W q->∀K:Act->World->Prop,Shut (∀a' u W',a'=(a.put (some dj) q).put (some di) u->S W'->R W' u q->K a' W')->Oper.wp P oi (a.put (some dj) q) W K Q)
  (rest:∀u q W,S W->R W u q->wpAnyH P md ops Q S fuel ((listed.setIfInBounds i true).setIfInBounds j true) ((a.put (some di) u).put (some dj) q) W):wpAnyH P md ops Q S (fuel+1+1) listed a w:=by
 refine wpAnyH_ready hr Ke (AllReadyH.cons hi (fun K hK=>?_) (AllReadyH.cons hj (fun K hK=>?_) AllReadyH.nil))
 ·rw[if_pos wi]
  refine c1 K (fun a' u W ha hS hR=>hK.out _ _ hS fun _=>?_);subst ha;refine wpAnyH_ready hri Ke (AllReadyH.cons hj (fun K' hK'=>?_) AllReadyH.nil);rw[if_pos (wj' u)];exact c2 u W hS hR K' (fun a' q W' ha hS' hR'=>hK'.out _ _ hS' fun _=>by rw[ha];exact rest u q W' hS' hR')
 ·rw[if_pos wj]
  refine c3 K (fun a' q W ha hS hR=>hK.out _ _ hS fun _=>?_);subst ha;refine wpAnyH_ready hrj Ke (AllReadyH.cons hi (fun K' hK'=>?_) AllReadyH.nil);rw[if_pos (wi' q)];refine c4 q W hS hR K' (fun a' u W' ha hS' hR'=>hK'.out _ _ hS' fun _=>?_);rw[ha,Act.put_comm a q u (fun d h e=>hd (by cases h;cases e;rfl)),Array.setIfInBounds_comm _ _ (Ne.symm hij)];exact rest u q W' hS' hR'
abbrev Sk:=List Nat×Option Nat×List Nat
def skO(md:Region.Mode)(ops:Array Oper)(o:Oper):Sk:=((o.after.toList.filter (Region.binds md)).map (·.on),o.dst,o.looksAt ops)
def sk(md:Region.Mode)(ops:Array Oper):List Sk:=ops.toList.map (skO md ops)
def Jbn(T:List Sk)(l:List Bool):List Nat:=(List.range T.length).filter fun i=>!l.getD i true&&((T[i]?).map fun t=>t.1.all fun e=>l.getD e false).getD false
def Qeb(x y:Sk):Bool:=(match x.2.1 with | some d=>!y.2.2.contains d&&y.2.1 != some d | none=>true)&&(match y.2.1 with | some d=>!x.2.2.contains d | none=>true)
def Jp5(T:List Sk)(l:List Bool)(i:Nat):Bool :=
 match T[i]? with
 | none=>false
 | some ti=>(List.range T.length).all fun j=>j==i || l.getD j true || match T[j]? with
   | some tj=>tj.1.contains i || Qeb ti tj
   | none=>true
theorem J5s(md:Region.Mode)(ops:Array Oper)(i:Nat):(sk md ops)[i]?=(ops[i]?).map (skO md ops):=by
 unfold sk;rw[List.getElem?_map,Array.getElem?_toList]
theorem J8q(md:Region.Mode)(ops:Array Oper):(sk md ops).length=ops.size:=by unfold sk;rw[Pr,Array.length_toList]
theorem Jjq(l:List Bool)(i:Nat)(b:Bool):l.toArray.getD i b=l.getD i b:=by simp[Array.getD_eq_getD_getElem?,List.getD_eq_getElem?_getD]
theorem Jc0(md:Region.Mode)(ops:Array Oper)(l:List Bool):Region.ready md ops l.toArray=Jbn (sk md ops) l:=by
 unfold Region.ready Jbn;rw[J8q];congr 1;funext i
 rw[J5s,Jjq];congr 1;cases ops[i]? with
 | none=>rfl
 | some o =>
  show(o.after.all fun e=>!Region.binds md e || l.toArray.getD e.on false)=((o.after.toList.filter (Region.binds md)).map (·.on)).all fun e=>l.getD e false
  rw[Bool.eq_iff_iff,Array.all_eq_true_iff_forall_mem,List.all_eq_true];simp only[List.mem_map,List.mem_filter,Array.mem_toList_iff,Bool.or_eq_true,Bool.not_eq_true',Jjq];constructor
  ·rintro h _ ⟨e,⟨he,hb⟩,rfl⟩
   rcases h e he with h1 | h1
   ·rw[hb] at h1;cases h1
   ·exact h1
  ·intro h e he
   cases hb:Region.binds md e with
   | false=>exact .inl rfl
   | true=>exact .inr (h _ ⟨e,⟨he,hb⟩,rfl⟩)
theorem J1z{md:Region.Mode}{ops:Array Oper}{l:List Bool}(h:Jp5 (sk md ops) l i=true):Region.free md ops l.toArray i=true:=by
 unfold Jp5 at h;rw[J5s,J8q] at h;unfold Region.free;cases hi:ops[i]? with
 | none=>rw[hi] at h;exact h
 | some oi =>
  rw[hi] at h;simp only[Option.map_some] at h;simp only;rw[List.all_eq_true] at h |-;intro j hj;have h1:=h j hj;rw[Jjq];rw[J5s] at h1;cases hoj:ops[j]? with
  | none=>simp
  | some oj =>
   rw[hoj] at h1;simp only[Option.map_some] at h1;rw[Bool.or_eq_true] at h1 |-;rcases h1 with h1 | h1
   ·exact .inl h1
   ·right
    simp only;rw[Bool.or_eq_true] at h1 |-;rcases h1 with h1 | h1
    ·left
     unfold skO at h1;rw[List.contains_iff_mem] at h1;obtain⟨e,he,hon⟩:=List.mem_map.1 h1;obtain⟨he1,he2⟩:=List.mem_filter.1 he;rw[Array.any_eq_true'];exact⟨e,Array.mem_toList_iff.1 he1,by rw[he2,hon];simp⟩
    ·right
     exact h1
def Jbl(N m:Nat):List Bool:=(List.range N).map fun j=>m.testBit j
def wpT(P:Program)(md:Region.Mode)(ops:Array Oper)(Q:Exit->Act->World->Prop)(S:World->Prop)(T:List Sk)(fuel:Nat)(l:List Bool)(a:Act)(w:World):Prop:=sk md ops=T->Region.noSelect ops=true->wpAnyH P md ops Q S fuel l.toArray a w
section
variable {P:Program} {md:Region.Mode} {ops:Array Oper} {Q:Exit->Act->World->Prop} {S:World->Prop} {T:List Sk} {fuel:Nat} {l:List Bool} {a:Act} {w:World}
variable {oi:Oper} {i:Nat}
theorem Jbf{id:Nat}(T:List Sk)(N:Nat)(hT:sk .any ops=T)(hsel:Region.noSelect ops=true)(hN:ops.size=N)(hm:P.follows .mixedOrders=true)(l:List Bool)(hl:List.replicate N false=l)(hS:S w.drew)(h:S w.drew->wpT P .any ops Q S T N l a w.drew):(Code.region id ops true).wp P Q a w :=
 wp_region_held_drew hm hS fun h0=>by
  have:=h h0 hT hsel;subst hN;subst hl;rw[List.toArray_replicate] at this;exact this
theorem Jc1(l:List Bool)(i:Nat):l.toArray.setIfInBounds i true=(l.set i true).toArray:=by rw[List.setIfInBounds_toArray]
theorem takeT{v:Value}{a':Act}(d:Nat)(l':List Bool)(hl:l.set i true=l')(hi:ops[i]?=some oi)(hd:oi.dst=some d)(hc:(Jp5 T l i&&(Jbn T l).contains i)=true)
  (hQ:∀c a w,Q (.panic c) (a.put (some d) v) w->Q (.panic c) a w) (hy:YieldsIf P ops S oi v a) (hS:S w) (ha:a.put (some d) v=a')
  (h:wpT P md ops Q S T fuel l' a' w):wpT P md ops Q S T (fuel+1) l a w:=fun h1 h2=>by
 rw[Bool.and_eq_true] at hc;subst ha;subst hl;refine takeH d hi hd h2 (J1z (by rw[h1];exact hc.1)) (by rw[Jc0,h1];exact hc.2) hQ hy hS ?_;rw[Jc1];exact h h1 h2
theorem oneT(l':List Bool)(hl:l.set i true=l')(hr:Jbn T l=[i])(hi:ops[i]?=some oi)(wi:Region.wanted oi (yielded ops a.tmps)=true)
  (h:∀K:Act->World->Prop,Shut (∀a w,S w->(S w->wpT P md ops Q S T fuel l' a w)->K a w)->Oper.wp P oi a w K Q):wpT P md ops Q S T (fuel+1) l a w:=fun h1 h2=>by
 subst hl;refine oneH Ub hi wi fun K hK=>h K fun a w hS hW=>hK.out a w hS fun hS=>?_
 rw[Jc1];exact hW hS h1 h2
theorem twoT{j:Nat}{oj:Oper}(di dj:Nat)(l':List Bool)(hl:(l.set i true).set j true=l')(hr:Jbn T l=[i,j])(hri:Jbn T (l.set i true)=[j])(hrj:Jbn T (l.set j true)=[i])(hij:i≠j)(hi:ops[i]?=some oi)(hj:ops[j]?=some oj)
  (wi:Region.wanted oi (yielded ops a.tmps)=true) (wj:Region.wanted oj (yielded ops a.tmps)=true) (wi':∀q,Region.wanted oi (yielded ops (a.put (some dj) q).tmps)=true) (wj':∀u,Region.wanted oj (yielded ops (a.put (some di) u).tmps)=true) (hd:di≠dj)
  (R:World->Value->Value->Prop) (Ri Rj:World->Value->Prop)
  (c1:∀K:Act->World->Prop,Shut (∀a' u W',a'=a.put (some di) u->S W'->Ri W' u->K a' W')->Oper.wp P oi a w K Q)
  (c2:∀u W,S W->Ri W u->∀K:Act->World->Prop,Shut (∀a' q W',a'=(a.put (some di) u).put (some dj) q->S W'->R W' u q->K a' W')->Oper.wp P oj (a.put (some di) u) W K Q)
  (c3:∀K:Act->World->Prop,Shut (∀a' q W',a'=a.put (some dj) q->S W'->Rj W' q->K a' W')->Oper.wp P oj a w K Q)
  (c4:∀q W,S W->Rj W q->∀K:Act->World->Prop,Shut (∀a' u W',a'=(a.put (some dj) q).put (some di) u->S W'->R W' u q->K a' W')->Oper.wp P oi (a.put (some dj) q) W K Q)
  (rest:∀u q W,S W->R W u q->wpT P md ops Q S T fuel l' ((a.put (some di) u).put (some dj) q) W):wpT P md ops Q S T (fuel+1+1) l a w:=fun h1 h2=>by
 subst hl;refine Jwj di dj Ub (by rw[Jc1,Jc0,h1];exact hri) (by rw[Jc1,Jc0,h1];exact hrj) hij hi hj wi wj wi' wj' hd R Ri Rj c1 c2 c3 c4 fun u q W hS hR=>?_
 rw[Jc1,Jc1];exact rest u q W hS hR h1 h2
theorem J5t{f:FuncId}{vals:Array Value}{K:Act->World->Prop}{R:Value->World->Prop}(d:Nat)(hd:oi.dst=some d)(hrun:(execOp a.eval oi).run P w=.ok (.enter f vals) w)
  (C:Calls P f vals w fun e w'=>∃u,e=.returned u/\R u w') (h:∀u w',R u w'->K (a.put (some d) u) w'):Oper.wp P oi a w K Q:=by
 unfold Oper.wp;rw[hrun,Oper.upon_enter];refine C.mono fun e w' hh=>?_
 obtain⟨u,rfl,hR⟩:=hh;rw[hd];exact h u w' hR
theorem Jjr{v:Value}{w':World}{K:Act->World->Prop}(d:Nat)(hd:oi.dst=some d)(hrun:(execOp a.eval oi).run P w=.ok (.value v) w')(h:K (a.put (some d) v) w'):Oper.wp P oi a w K Q:=by
 unfold Oper.wp;rw[hrun,Oper.upon_value,hd];exact h
theorem Jb7{f:FuncId}{vals:Array Value}{R:Value->World->Prop}(d:Nat)(l':List Bool)(hl:l.set i true=l')(hr:Jbn T l=[i])(hi:ops[i]?=some oi)(hd:oi.dst=some d)(wi:Region.wanted oi (yielded ops a.tmps)=true)
  (hrun:(execOp a.eval oi).run P w=.ok (.enter f vals) w) (C:Calls P f vals w fun e w'=>∃u,e=.returned u/\R u w') (h:∀u w',R u w'->S w'/\wpT P md ops Q S T fuel l' (a.put (some d) u) w'):wpT P md ops Q S T (fuel+1) l a w :=
 oneT l' hl hr hi wi fun _ hK=>J5t d hd hrun C fun u w' hR=>hK.out _ _ (h u w' hR).1 fun _=>(h u w' hR).2
theorem Je1{v:Value}{w':World}{a':Act}(d:Nat)(l':List Bool)(hl:l.set i true=l')(hr:Jbn T l=[i])(hi:ops[i]?=some oi)(hd:oi.dst=some d)(wi:Region.wanted oi (yielded ops a.tmps)=true)
  (hrun:(execOp a.eval oi).run P w=.ok (.value v) w') (hS:S w') (ha:a.put (some d) v=a') (h:wpT P md ops Q S T fuel l' a' w'):wpT P md ops Q S T (fuel+1) l a w :=
 oneT l' hl hr hi wi fun _ hK=>Jjr d hd hrun (hK.out _ _ hS fun _=>by rw[ha];exact h)
theorem Jcl(hr:Jbn T l=[])(h:Q .normal a w):wpT P md ops Q S T fuel l a w:=fun h1 _=>wpAnyH_done Ub h fuel
end
inductive Takes (P:Program) (ops:Array Oper) (S:World->Prop):Act->List (Nat×Nat×Value)->Act->Prop
 | nil {a:Act}:Takes P ops S a [] a
 | cons {a a':Act} {i d:Nat} {v:Value} {r:List (Nat×Nat×Value)} {oi:Oper} (hi:ops[i]?=some oi) (hd:oi.dst=some d) (hy:YieldsIf P ops S oi v a) (h:Takes P ops S (a.put (some d) v) r a'):Takes P ops S a ((i,d,v)::r) a'
theorem Takes.p{P:Program}{ops:Array Oper}{S:World->Prop}{a a':Act}{i d:Nat}{v:Value}{r:List (Nat×Nat×Value)}{oi:Oper}(hi:ops[i]?=some oi)(hd:oi.dst=some d)(hw:Region.wanted oi (yielded ops a.tmps)=true)(hv:∀w,(execOp a.eval oi).run P w=.ok (.value v) w)(h:Takes P ops S (a.put (some d) v) r a'):Takes P ops S a ((i,d,v)::r) a':=.cons hi hd (.inl ⟨hw,fun w _=>hv w⟩) h
theorem Takes.q{P:Program}{ops:Array Oper}{S:World->Prop}{a a':Act}{i d:Nat}{v:Value}{r:List (Nat×Nat×Value)}{oi:Oper}(h:Takes P ops S (a.put (some d) v) r a')(hi:ops[i]?=some oi:=by rfl)(hd:oi.dst=some d:=by rfl)(hw:Region.wanted oi (yielded ops a.tmps)=true:=by rfl)(hv:∀w,(execOp a.eval oi).run P w=.ok (.value v) w:=by intro;kernel_rfl):Takes P ops S a ((i,d,v)::r) a':=.p hi hd hw hv h
def Jp6(T:List Sk):List Bool->List Nat->Bool
 | _,[]=>true
 | l,i::r=>Jp5 T l i&&(Jbn T l).contains i&&Jp6 T (l.set i true) r
def Jwk:List Bool->List Nat->List Bool
 | l,[]=>l
 | l,i::r=>Jwk (l.set i true) r
section
variable {P:Program} {md:Region.Mode} {ops:Array Oper} {Q:Exit->Act->World->Prop} {S:World->Prop} {T:List Sk} {fuel:Nat}
theorem Jbb{L:List (Nat×Nat×Value)}{a a':Act}(hT:Takes P ops S a L a'):∀{l l':List Bool} {w:World} (I:List Nat) (_:L.map (fun x=>x.1)=I) (_:Jwk l I=l') (_:Jp6 T l I=true) (_:∀c a d v w,Q (.panic c) (Act.put a (some d) v) w->Q (.panic c) a w) (_:S w) (_:wpT P md ops Q S T fuel l' a' w),wpT P md ops Q S T (fuel+I.length) l a w:=by
 induction hT with
 | nil =>
  intro l l' w I hI hl hb hQ hS h;subst hI;subst hl;exact h
 | @cons a a' i d v r oi hi hd hy hr ih =>
  intro l l' w I hI hl hb hQ hS h;subst hI;have hb':(Jp5 T l i&&(Jbn T l).contains i)=true/\Jp6 T (l.set i true) (r.map fun x=>x.1)=true:=by
   have e:Jp6 T l (i::r.map fun x=>x.1)=(Jp5 T l i&&(Jbn T l).contains i&&Jp6 T (l.set i true) (r.map fun x=>x.1)):=rfl;simp only[List.map_cons] at hb;rw[e,Bool.and_eq_true] at hb;exact hb
  simp only[List.map_cons] at hl |-;have k:=ih _ rfl hl hb'.2 hQ hS h;rw[List.length_cons,<-Nat.add_assoc];exact takeT d _ rfl hi hd hb'.1 (fun c a w=>hQ c a d v w) hy hS rfl k
end
inductive Runs (P:Program) (ops:Array Oper) (S:World->Prop) (dj:Nat) (v:World->Value) (m:World->World) (L:Value->World->Prop):(World->Prop)->Act->List Nat->Act->(World->Prop)->Prop
 | nil {G:World->Prop} {a:Act} (k:∀W,G W->G (m W)/\L (v W) (m W)) (s:∀W,G W->S W):Runs P ops S dj v m L G a [] a G
 | cons {G G1 G':World->Prop} {a a':Act} {i:Nat} {r:List Nat} {o:Oper} (d:Nat) {f:FuncId} {x:Array Value} (u:Value) (hi:ops[i]?=some o) (hd:o.dst=some d) (hne:dj≠d) (w:∀b:Act,Region.wanted o (yielded ops b.tmps)=true)
   (r0:∀W,(execOp a.eval o).run P W=.ok (.enter f x) W) (r1:∀q W,(execOp (a.put (some dj) q).eval o).run P W=.ok (.enter f x) W)
   (c:∀W,G W->Calls P f x W fun e W'=>e=.returned u/\G1 W'/\∀q,L q W->L q W') (k:∀W,G W->G (m W)/\L (v W) (m W)) (s:∀W,G W->S W)
   (h:Runs P ops S dj v m L G1 (a.put (some d) u) r a' G'):Runs P ops S dj v m L G a (i::r) a' G'
 | step {G G':World->Prop} {a a':Act} {i:Nat} {r:List Nat} {o:Oper} (d:Nat) (u:Value) (hi:ops[i]?=some o) (hd:o.dst=some d) (hne:dj≠d) (w:∀b:Act,Region.wanted o (yielded ops b.tmps)=true)
   (r0:∀W,(execOp a.eval o).run P W=.ok (.value u) W) (r1:∀q W,(execOp (a.put (some dj) q).eval o).run P W=.ok (.value u) W) (k:∀W,G W->G (m W)/\L (v W) (m W)) (s:∀W,G W->S W)
   (h:Runs P ops S dj v m L G (a.put (some d) u) r a' G'):Runs P ops S dj v m L G a (i::r) a' G'
def Jr0(T:List Sk)(j:Nat):List Bool->List Nat->Bool
 | l,[]=>Jbn T l==[j]
 | l,i::r=>(Jbn T l==[i,j])&&(Jbn T (l.set j true)==[i])&&(i != j)&&Jr0 T j (l.set i true) r
section
variable {P:Program} {md:Region.Mode} {ops:Array Oper} {Q:Exit->Act->World->Prop} {S:World->Prop} {T:List Sk} {fuel:Nat}
variable {G G':World->Prop} {a':Act} {I:List Nat}
theorem altT{i j:Nat}{oi oj:Oper}{l:List Bool}{a:Act}{w:World}(hr:Jbn T l=[i,j])(hi:ops[i]?=some oi)(hj:ops[j]?=some oj)(wi:Region.wanted oi (yielded ops a.tmps)=true)(wj:Region.wanted oj (yielded ops a.tmps)=true)
  (Hi:∀K:Act->World->Prop,Shut (∀a w,S w->wpT P md ops Q S T fuel (l.set i true) a w->K a w)->Oper.wp P oi a w K Q)
  (Hj:∀K:Act->World->Prop,Shut (∀a w,S w->wpT P md ops Q S T fuel (l.set j true) a w->K a w)->Oper.wp P oj a w K Q):wpT P md ops Q S T (fuel+1) l a w:=fun h1 h2=>by
 have hrr:Region.ready md ops l.toArray=[i,j]:=Ub;refine wpAnyH_ready hrr Ke (AllReadyH.cons hi (fun K hK=>?_) (AllReadyH.cons hj (fun K hK=>?_) AllReadyH.nil))
 ·rw[if_pos wi]
  exact Hi K (fun a w hS hW=>hK.out _ _ hS fun _=>Ue)
 ·rw[if_pos wj]
  exact Hj K (fun a w hS hW=>hK.out _ _ hS fun _=>Ue)
variable {j dj:Nat} {oj:Oper} {v:World->Value} {m:World->World} {L:Value->World->Prop}
theorem Runs.world{a:Act}(h:Runs P ops S dj v m L G a I a' G'){w:World}(hG:G w):S w:=by
 cases h with
 | nil k s=>exact s _ hG
 | cons d u hi hd hne tw r0 r1 c k s h=>exact s _ hG
 | step d u hi hd hne tw r0 r1 k s h=>exact s _ hG
theorem Jp7{a:Act}(h:Runs P ops S dj v m L G a I a' G'):∀{l:List Bool} {w:World} (q:Value) (_:Jr0 T j l I=true) (_:G w) (_:L q w) (_:∀q W,G' W->L q W->wpT P md ops Q S T fuel ((Jwk l I).set j true) (a'.put (some dj) q) W),wpT P md ops Q S T (fuel+I.length) (l.set j true) (a.put (some dj) q) w:=by
 induction h with
 | nil k s=>intro l w q _ hG hL hr;exact hr q w hG hL
 | @cons G G1 G' a a' i r o d f x u hi hd hne tw r0 r1 c k s hh ih =>
  intro l w q hb hG hL hr;unfold Jr0 at hb;rw[Bool.and_eq_true,Bool.and_eq_true,Bool.and_eq_true] at hb;obtain⟨⟨⟨b0,b1⟩,b2⟩,b3⟩:=hb;rw[List.length_cons,<-Nat.add_assoc];refine oneT _ rfl (eq_of_beq b1) hi (tw _) fun K hK=>?_
  refine J5t (R:=fun u' W'=>u'=u/\G1 W'/\∀q,L q w->L q W') d hd (r1 q w) ((c w hG).mono fun e w' h=>⟨_,h.1,rfl,h.2⟩) fun u' w' hR=>?_
  obtain⟨rfl,hG1,hk⟩:=hR;refine hK.out _ _ (hh.world hG1) fun _=>?_
  rw[Act.put_comm a q u' (fun d' h e=>hne (by cases h;cases e;rfl)),List.set_comm _ _ (Ne.symm (by simpa using b2))];exact ih q b3 hG1 (hk q hL) hr
 | @step G G' a a' i r o d u hi hd hne tw r0 r1 k s hh ih =>
  intro l w q hb hG hL hr;unfold Jr0 at hb;rw[Bool.and_eq_true,Bool.and_eq_true,Bool.and_eq_true] at hb;obtain⟨⟨⟨b0,b1⟩,b2⟩,b3⟩:=hb;rw[List.length_cons,<-Nat.add_assoc];refine oneT _ rfl (eq_of_beq b1) hi (tw _) fun K hK=>Jjr d hd (r1 q w) (hK.out _ _ (s _ hG) fun _=>?_)
  rw[Act.put_comm a q u (fun d' h e=>hne (by cases h;cases e;rfl)),List.set_comm _ _ (Ne.symm (by simpa using b2))];exact ih q b3 hG hL hr
theorem Jjs{a:Act}(h:Runs P ops S dj v m L G a I a' G')(hj:ops[j]?=some oj)(ej:oj.dst=some dj)(tj:∀b:Act,Region.wanted oj (yielded ops b.tmps)=true)(rj:∀(b:Act) (W:World),(execOp b.eval oj).run P W=.ok (.value (v W)) (m W)):
  ∀{l l':List Bool} {w:World} (_:(Jwk l I).set j true=l') (_:Jr0 T j l I=true) (_:G w) (_:∀q W,G' W->L q W->wpT P md ops Q S T fuel l' (a'.put (some dj) q) W),wpT P md ops Q S T (fuel+(I.length+1)) l a w:=by
 induction h with
 | nil k s =>
  intro l l' w hl hb hG hr;refine oneT _ hl (eq_of_beq hb) hj (tj _) fun K hK=>Jjr dj ej (rj _ w) ?_
  exact hK.out _ _ (s _ (k _ hG).1) fun _=>hr _ _ (k _ hG).1 (k _ hG).2
 | @cons G G1 G' a a' i r o d f x u hi hd hne tw r0 r1 c k s hh ih =>
  intro l l' w hl hb hG hr;have hb0:=hb;unfold Jr0 at hb;rw[Bool.and_eq_true,Bool.and_eq_true,Bool.and_eq_true] at hb;obtain⟨⟨⟨b0,b1⟩,b2⟩,b3⟩:=hb;subst hl;have key:wpT P md ops Q S T (fuel+(r.length+1)+1) l a w:=by
   refine altT (eq_of_beq b0) hi hj (tw _) (tj _) (fun K hK=>?_) (fun K hK=>?_)
   ·refine J5t (R:=fun u' W'=>u'=u/\G1 W'/\∀q,L q w->L q W') d hd (r0 w) ((c w hG).mono fun e w' h=>⟨_,h.1,rfl,h.2⟩) fun u' w' hR=>?_
    obtain⟨rfl,hG1,-⟩:=hR;exact hK.out _ _ (hh.world hG1) (ih rfl b3 hG1 hr)
   ·refine Jjr dj ej (rj a w) (hK.out _ _ (s _ (k _ hG).1) ?_)
    exact Jp7 (I:=i::r) (Runs.cons d u hi hd hne tw r0 r1 c k s hh) _ hb0 (k _ hG).1 (k _ hG).2 hr
  exact key
 | @step G G' a a' i r o d u hi hd hne tw r0 r1 k s hh ih =>
  intro l l' w hl hb hG hr;have hb0:=hb;unfold Jr0 at hb;rw[Bool.and_eq_true,Bool.and_eq_true,Bool.and_eq_true] at hb;obtain⟨⟨⟨b0,b1⟩,b2⟩,b3⟩:=hb;subst hl;have key:wpT P md ops Q S T (fuel+(r.length+1)+1) l a w:=by
   refine altT (eq_of_beq b0) hi hj (tw _) (tj _) (fun K hK=>?_) (fun K hK=>?_)
   ·exact Jjr d hd (r0 w) (hK.out _ _ (s _ hG) (ih rfl b3 hG hr))
   ·refine Jjr dj ej (rj a w) (hK.out _ _ (s _ (k _ hG).1) ?_)
    exact Jp7 (I:=i::r) (Runs.step d u hi hd hne tw r0 r1 k s hh) _ hb0 (k _ hG).1 (k _ hG).2 hr
  exact key
end
section
variable {P:Program} {ops:Array Oper} {Q:Exit->Act->World->Prop} {md:Region.Mode} {S:World->Prop} {z:Nat}
def Jlf(P:Program)(md:Region.Mode)(ops:Array Oper)(Q:Exit->Act->World->Prop)(S:World->Prop)(z:Nat):Nat->Array Bool->Act->World->Prop
 | 0,listed,a,w=>Region.ready md ops listed=[]/\Q .normal a w
 | fuel+1,listed,a,w =>
  (Region.ready md ops listed=[]->Q .normal a w) /\
  ∀i∈Region.ready md ops listed,wpOp P ops Q i (fun a' w'=>(i≠z->S w')/\Jlf P md ops Q S z fuel (listed.setIfInBounds i true) a' w') a w
theorem Jlg:∀(fuel:Nat) (listed:Array Bool) (a:Act) (w:World),Jlf P md ops Q S z fuel listed a w->wpAny P md ops Q fuel listed a w
 | 0,_,_,_,h=>h
 | fuel+1,_,_,_,h=>⟨h.1,fun i hi=>wpOp_mono (fun a' w' h'=>Jlg fuel _ a' w' h'.2) (h.2 i hi)⟩
theorem Jp8{i:Nat}{oi oz:Oper}{v:Value}(hi:ops[i]?=some oi)(hsel:∀(j:Nat) (o:Oper) cs b,ops[j]?=some o->o.op≠.select cs b)
  (hQ:∀c a w,Q (.panic c) (a.put oi.dst v) w->Q (.panic c) a w) (hz:ops[z]?=some oz) (hw:∃e∈oz.after,Region.binds md e=true/\e.on=i) (hne:i≠z) :
  ∀(fuel:Nat) (listed:Array Bool) (a:Act) (w:World),
   (∀j oj,ops[j]?=some oj->j≠i->listed.getD j true=false->(∀e∈oj.after,Region.binds md e=true->e.on≠i)->oi.apart ops oj=true) ->
   i∈Region.ready md ops listed->YieldsIf P ops S oi v a->S w ->
   Jlf P md ops Q S z fuel (listed.setIfInBounds i true) (a.put oi.dst v) w->Jlf P md ops Q S z (fuel+1) listed a w:=by
 intro fuel;induction fuel with
 | zero =>
  intro listed a w _ hr hy hS H;refine⟨fun h=>(by rw[h] at hr;cases hr),fun j hj=>?_⟩;by_cases hji:j=i
  ·subst hji;exact hy.wpOp hi hS ⟨fun _=>hS,H⟩
  ·have:=ready_mono hj hji
   rw[H.1] at this;cases this
 | succ fuel ih =>
  intro listed a w hfree hr hy hS H;refine⟨fun h=>(by rw[h] at hr;cases hr),fun j hj=>?_⟩;by_cases hji:j=i
  ·subst hji;exact hy.wpOp hi hS ⟨fun _=>hS,H⟩
  ·have h1:=H.2 j (ready_mono hj hji)
   obtain⟨hjun,oj,hoj,hall⟩:=mem_ready.1 hj;have hnot:∀e∈oj.after,Region.binds md e=true->e.on≠i:=fun e he hb heq=>by
    have h1:=hall e he hb;have h0:=(mem_ready.1 hr).1;rw[heq] at h1;rcases Nat.lt_or_ge i listed.size with h' | h'
    ·simp[h'] at h0 h1;rw[h0] at h1;cases h1
    ·simp[Array.getElem?_eq_none h'] at h1
   have hjz:j≠z:=fun e=>by
    subst e;rw[hz] at hoj;cases hoj;obtain⟨e,he,hb,heq⟩:=hw;exact hnot e he hb heq
   have h2:=wpOp_putIf hoj (hfree j oj hoj hji hjun hnot) (fun cs b=>hsel i oi cs b hi) (fun cs b=>hsel j oj cs b hoj) hQ hy h1;have hfree':∀k ok,ops[k]?=some ok->k≠i->(listed.setIfInBounds j true).getD k true=false ->
     (∀e∈ok.after,Region.binds md e=true->e.on≠i)->oi.apart ops ok=true:=fun k ok hk hki hun hno=>by
    refine hfree k ok hk hki ?_ hno;by_cases hjk:j=k
    ·subst hjk;exact hjun
    ·rw[getD_set_ne true hjk] at hun;exact hun
   refine wpOp_mono (fun a' w' h3=>⟨fun _=>h3.2.1 hjz,ih (listed.setIfInBounds j true) a' w' hfree' (ready_mono hr (Ne.symm hji)) h3.1 (h3.2.1 hjz) ?_⟩) h2;rw[Array.setIfInBounds_comm _ _ hji];exact h3.2.2
theorem Jr1{listed:Array Bool}{a:Act}{w:World}(hr:Region.ready md ops listed=[])(h:Q .normal a w):∀fuel,Jlf P md ops Q S z fuel listed a w
 | 0=>⟨hr,h⟩
 | _+1=>⟨fun _=>h,by rw[hr];simp⟩
end
def wpZ(P:Program)(md:Region.Mode)(ops:Array Oper)(Q:Exit->Act->World->Prop)(S:World->Prop)(z:Nat)(T:List Sk)(fuel:Nat)(l:List Bool)(a:Act)(w:World):Prop:=sk md ops=T->Region.noSelect ops=true->Jlf P md ops Q S z fuel l.toArray a w
section
variable {P:Program} {md:Region.Mode} {ops:Array Oper} {Q:Exit->Act->World->Prop} {S:World->Prop} {z:Nat} {T:List Sk} {fuel:Nat} {l:List Bool} {a:Act} {w:World}
variable {i:Nat} {oi:Oper}
theorem Jei{id:Nat}(T:List Sk)(N z:Nat)(hT:sk .any ops=T)(hsel:Region.noSelect ops=true)(hN:ops.size=N)(hm:P.follows .mixedOrders=true)(l:List Bool)(hl:List.replicate N false=l)(h:wpZ P .any ops Q S z T N l a w.drew):(Code.region id ops true).wp P Q a w :=
 wp_region_any hm (Jlg _ _ _ _ (by
  have:=h hT hsel;subst hN;subst hl;rw[List.toArray_replicate] at this;exact this))
theorem J5u{oz:Oper}(hz:ops[z]?=some oz)(h:(((sk md ops)[z]?).map fun t=>t.1.contains i).getD false=true):∃e∈oz.after,Region.binds md e=true/\e.on=i:=by
 rw[J5s,hz] at h;simp only[Option.map_some,Option.getD_some] at h;unfold skO at h;rw[List.contains_iff_mem] at h;obtain⟨e,he,hon⟩:=List.mem_map.1 h;obtain⟨he1,he2⟩:=List.mem_filter.1 he;exact⟨e,Array.mem_toList_iff.1 he1,he2,hon⟩
theorem takeZ{oz:Oper}{v:Value}{a':Act}(d:Nat)(l':List Bool)(hl:l.set i true=l')(hi:ops[i]?=some oi)(hz:ops[z]?=some oz)(hd:oi.dst=some d)(hc:(Jp5 T l i&&(Jbn T l).contains i&&((T[z]?).map fun t=>t.1.contains i).getD false&&(i != z))=true)
  (hQ:∀c a w,Q (.panic c) (a.put (some d) v) w->Q (.panic c) a w) (hy:YieldsIf P ops S oi v a) (hS:S w) (ha:a.put (some d) v=a')
  (h:wpZ P md ops Q S z T fuel l' a' w):wpZ P md ops Q S z T (fuel+1) l a w:=fun h1 h2=>by
 rw[Bool.and_eq_true,Bool.and_eq_true,Bool.and_eq_true] at hc;subst ha;subst hl;refine Jp8 hi (Region.noSelect_spec h2) (by rw[hd];exact hQ) hz (J5u hz (by rw[h1];exact hc.1.2)) (by simpa using hc.2) fuel l.toArray a w (Region.free_spec hi (J1z (by rw[h1];exact hc.1.1.1))) (by rw[Jc0,h1];exact List.contains_iff_mem.1 hc.1.1.2) hy hS ?_;rw[Jc1,hd];exact h h1 h2
theorem oneZ(l':List Bool)(hl:l.set i true=l')(hr:Jbn T l=[i])(hi:ops[i]?=some oi)(wi:Region.wanted oi (yielded ops a.tmps)=true)
  (h:∀K:Act->World->Prop,Shut (∀a w,(i≠z->S w)->wpZ P md ops Q S z T fuel l' a w->K a w)->Oper.wp P oi a w K Q):wpZ P md ops Q S z T (fuel+1) l a w:=fun h1 h2=>by
 subst hl;have hrr:Region.ready md ops l.toArray=[i]:=Ub;refine⟨fun h0=>(by rw[hrr] at h0;cases h0),fun j hj=>?_⟩;rw[hrr] at hj;have e:j=i:=Xi;subst e;refine wpOp_step hi (fun K' hK=>?_);rw[if_pos wi];exact h K' (fun a w hS hW=>hK a w ⟨hS,Ue⟩)
theorem Qec{f:FuncId}{vals:Array Value}{R:Value->World->Prop}(d:Nat)(l':List Bool)(hl:l.set i true=l')(hr:Jbn T l=[i])(hi:ops[i]?=some oi)(hd:oi.dst=some d)(wi:Region.wanted oi (yielded ops a.tmps)=true)
  (hrun:(execOp a.eval oi).run P w=.ok (.enter f vals) w) (C:Calls P f vals w fun e w'=>∃u,e=.returned u/\R u w') (h:∀u w',R u w'->S w'/\wpZ P md ops Q S z T fuel l' (a.put (some d) u) w'):wpZ P md ops Q S z T (fuel+1) l a w :=
 oneZ l' hl hr hi wi fun _ hK=>J5t d hd hrun C fun u w' hR=>hK.out _ _ (fun _=>(h u w' hR).1) (h u w' hR).2
theorem Jda{v:Value}{w':World}{a':Act}(d:Nat)(l':List Bool)(hl:l.set i true=l')(hr:Jbn T l=[i])(hi:ops[i]?=some oi)(hd:oi.dst=some d)(wi:Region.wanted oi (yielded ops a.tmps)=true)
  (hrun:(execOp a.eval oi).run P w=.ok (.value v) w') (hS:S w') (ha:a.put (some d) v=a') (h:wpZ P md ops Q S z T fuel l' a' w'):wpZ P md ops Q S z T (fuel+1) l a w :=
 oneZ l' hl hr hi wi fun _ hK=>Jjr d hd hrun (hK.out _ _ (fun _=>hS) (by rw[ha];exact h))
theorem Jej{w':World}(l':List Bool)(hl:l.set z true=l')(hr:Jbn T l=[z])(hi:ops[z]?=some oi)(hd:oi.dst=none)(wi:Region.wanted oi (yielded ops a.tmps)=true)
  (hrun:(execOp a.eval oi).run P w=.ok .skip w') (h:wpZ P md ops Q S z T fuel l' a w'):wpZ P md ops Q S z T (fuel+1) l a w :=
 oneZ l' hl hr hi wi fun _ hK=>by
  unfold Oper.wp;rw[hrun,Oper.upon_skip,hd];exact hK.out _ _ (fun k=>absurd rfl k) h
theorem Jhw(hr:Jbn T l=[])(h:Q .normal a w):wpZ P md ops Q S z T fuel l a w:=fun h1 _=>Jr1 Ub h fuel
end
structure Rw where
 T:TypeId
 k:Nat
 v:Value
 n:Nat
 xs:List Value
def Rw.At(base:Nat)(W:World)(r:Rw):Prop:=W.ownsRow base r.T r.k r.v r.n r.xs
section
variable {w0 W W':World} {F:Nat} {T:TypeId} {vs:List Value} {rs:List Rw}
theorem Jr2(h:W.grownBy W' none):Po W W':=⟨h.os,h.tape,h.output,h.size,fun k hk=>h.block k hk Ke⟩
theorem Jbu(h:Po W W')(row:Option Nat):W.grownBy W' row:=⟨h.os,h.tape,h.output,h.size,fun k hk _=>h.block k hk⟩
theorem Jdc{w0 W W':World}{row:Option Nat}(hb:Po w0 W)(h:W.grownBy W' row)(hr:∀g,row=some g->w0.heap.size<=g):Po w0 W' :=
 hb.trans ⟨h.os,h.tape,h.output,h.size,fun k hk=>h.block k (Ps hk hb.size) (fun e=>by have:=hr k e.symm;omega)⟩
theorem Jbs(W:World)(F i:Nat)(u:Value):W.grownBy (W.setCell ⟨F,i,none⟩ u) (some F) :=
 ⟨rfl,rfl,rfl,Ke,fun k _ hne=>RowKit.Below.heap_setCell _ _ _ k (fun e=>hne (by rw[e]))⟩
end
variable {base:Nat}
theorem Jcj{α:Type}{enc:α->List Value}{k:Nat}{T ST:TypeId}{z:Value}{bytes:Nat}(hk:∀a,(enc a).length=k)(k0:0<k)(hu:prog.underlying ST=some (.slice T))(hinfo:(prog.info? T).map (fun i=>(i.zero,i.size,i.bytes))=some (some z,k,bytes))(hz0:z.cells.size=k)(hb64:bytes<=64)
  (w:World) (ty:TypeId) (base:Nat) (v:Value) (l:List α) (m:α) (hone:∀u∈enc m,u.oneCell'=true) (hown:OwnG enc T k w base v l) (b:Nat) (cells:Array Value) (hbk:w.heap[b]?=some (.cells cells T (0,0))) (hc:cells.toList=enc m) (hb:base<=w.heap.size) (hl:l.length+1<=1099511627776) :
  ∃v' w',(Builtin.append_ #[ST,ST] ty #[v,.slice (some ⟨b,0,none⟩) 1 1]).run prog w=.ok v' w'/\OwnG enc T k w' base v' (l++[m])/\w.grownBy w' v.ownBlock/\(∀g,v'.ownBlock=some g->v.ownBlock=some g\/w.heap.size<=g):=by
 obtain⟨i,hi,hz,hsz,hby⟩:=info_parts hinfo;obtain⟨v',w',hr,h2,h3,h4⟩:=Je2 (P:=prog) w base ST ty T i z k bytes hu hi hz hsz hby hz0 k0 v l.length (fl enc l) hown ⟨b,0,none⟩ 1 1 (enc m) (by rw[hk,Nat.one_mul]) (fun j u hu=>by
  have hadd:(⟨b,0,none⟩:Addr).add j=⟨b,j,none⟩:=Ks;rw[hadd,cell_of_row w b j cells _ _ hbk,<-hu,<-hc];simp) hone Kr (Nat.le_trans (Nat.mul_le_mul_left _ hb64) Ka) hb
 refine⟨v',w',hr,?_,h3,fun g hg=>(h4 g hg).imp id (fun e=>Ka)⟩;have e:fl enc (l++[m])=fl enc l++enc m:=by rw[Jno,Jnp]
 unfold OwnG;rw[Pq,e];exact h2
structure Tng where
 own:Option Nat
 A:World->Prop
structure Tng.At (base:Nat) (W:World) (t:Tng):Prop where
 holds:t.A W
 lt:∀g,t.own=some g->base<=g/\g<W.heap.size
 kept:∀W1 W2 row,t.A W1->W1.grownBy W2 row->(t.own=none\/t.own≠row)->t.A W2
def tRow(base:Nat)(r:Rw):Tng:=⟨r.v.ownBlock,fun W=>r.At base W⟩
def tBlk(b:Nat)(P:World->Prop):Tng:=⟨some b,P⟩
theorem tRow.at{W:World}{r:Rw}(h:r.At base W):(tRow base r).At base W:=⟨h,fun g hg=>World.ownsRow.lt h g hg,fun _ _ _ h1 hg hn=>World.ownsRow.kept h1 hg hn⟩
theorem tBlk.at{b:Nat}{P:World->Prop}{W:World}(h:P W)(h0:base<=b)(h1:b<W.heap.size)(hk:∀W1 W2 row,P W1->W1.grownBy W2 row->some b≠row->P W2):(tBlk b P).At base W :=
 ⟨h,fun g hg=>by cases hg;exact⟨h0,h1⟩,fun W1 W2 row q hg hn=>hk W1 W2 row q hg (hn.elim (fun e=>by cases e) id)⟩
theorem Tng.At.on{W W':World}{t:Tng}(h:t.At base W){row:Option Nat}(g:W.grownBy W' row)(hn:t.own=none\/t.own≠row):t.At base W' :=
 ⟨h.kept _ _ _ h.holds g hn,fun k hk=>⟨(h.lt k hk).1,Ps (h.lt k hk).2 g.size⟩,h.kept⟩
def Aprt(a b:Tng):Prop:=∀g,a.own=some g->b.own≠some g
theorem Aprt.symm{a b:Tng}(h:Aprt a b):Aprt b a:=fun g hb ha=>h g ha hb
structure Gst (w0:World) (F:Nat) (T:TypeId) (vs:List Value) (ts:List Tng) (W:World):Prop where
 box:W.heap[F]?=some (.cells vs.toArray T (0,0))
 low:w0.heap.size<=F
 own:∀(i:Nat) (t:Tng),ts[i]?=some t->t.At w0.heap.size W
 off:∀(i:Nat) (t:Tng),ts[i]?=some t->t.own≠some F
 apart:∀(i j:Nat) (a b:Tng),i≠j->ts[i]?=some a->ts[j]?=some b->Aprt a b
 base:Po w0 W
section
variable {w0 W W':World} {F:Nat} {T:TypeId} {vs vs':List Value} {ts:List Tng}
theorem Gst.lt(h:Gst w0 F T vs ts W):F<W.heap.size:=(Pn h.box).1
theorem Gst.cell(h:Gst w0 F T vs ts W){i:Nat}{v:Value}(hv:vs[i]?=some v):W.cell? ⟨F,i,none⟩=some v/\W.frozen? ⟨F,i,none⟩=false :=
 ⟨Ud,frozen_of_row _ _ _ _ _ h.box⟩
theorem Gst.row(h:Gst w0 F T vs ts W){i:Nat}{r:Rw}(hi:ts[i]?=some (tRow w0.heap.size r)):r.At w0.heap.size W:=(h.own i _ hi).holds
theorem Gst.blk(h:Gst w0 F T vs ts W){i b:Nat}{P:World->Prop}(hi:ts[i]?=some (tBlk b P)):P W/\w0.heap.size<=b/\b<W.heap.size/\b≠F :=
 ⟨(h.own i _ hi).holds,((h.own i _ hi).lt b rfl).1,((h.own i _ hi).lt b rfl).2,fun e=>h.off i _ hi (by rw[<-e];rfl)⟩
theorem Gst.on(h:Gst w0 F T vs ts W)(b:Po W W'):Gst w0 F T vs ts W' :=
 ⟨(b.block _ h.lt).trans h.box,h.low,fun i t ht=>(h.own i t ht).on (Jbu b none) (by cases t.own <;> simp),h.off,h.apart,h.base.trans (b.mono h.base.size)⟩
theorem Gst.up(h:Gst w0 F T vs ts W)(g:W.grownBy W' (some F))(hb:W'.heap[F]?=some (.cells vs'.toArray T (0,0))):Gst w0 F T vs' ts W' :=
 ⟨hb,h.low,fun i t ht=>(h.own i t ht).on g (.inr (h.off i t ht)),h.off,h.apart,Jdc h.base g (fun k e=>by cases e;exact h.low)⟩
theorem Gst.put(h:Gst w0 F T vs ts W)(i:Nat)(u:Value):Gst w0 F T (vs.set i u) ts (W.setCell ⟨F,i,none⟩ u) :=
 h.up (Jbs W F i u) (by rw[heap_setCell_same _ _ _ _ _ _ h.box,List.setIfInBounds_toArray])
theorem Gst.turn(h:Gst w0 F T vs ts W){i:Nat}{t t':Tng}(hi:ts[i]?=some t)(g:W.grownBy W' t.own)(ho:t'.At w0.heap.size W')(hw:∀k,t'.own=some k->t.own=some k\/W.heap.size<=k):Gst w0 F T vs (ts.set i t') W':=by
 have keep:∀j a,i≠j->ts[j]?=some a->a.At w0.heap.size W':=fun j a hj ha=>(h.own j a ha).on g (by
  cases hv:a.own with
  | none=>exact .inl rfl
  | some k=>exact .inr (fun e=>h.apart i j t a hj hi ha k (e.symm) hv))
 have new:∀j a k,i≠j->ts[j]?=some a->t'.own=some k->a.own≠some k:=fun j a k hj ha hk e=>by
  rcases hw k hk with hr | hr
  ·exact h.apart i j t a hj hi ha k hr e
  ·have:=((h.own j a ha).lt k e).2
   omega
 refine⟨(g.block F h.lt (fun e=>h.off i t hi e.symm)).trans h.box,h.low,fun j a ha=>?_,fun j a ha e=>?_,fun j m a b hjm ha hb=>?_,Jdc h.base g (fun k e=>((h.own i t hi).lt k e).1)⟩
 ·rw[List.getElem?_set] at ha
  split at ha
  ·next e =>
   split at ha
   ·cases ha;exact ho
   ·cases ha
  ·next e=>exact keep j a e ha
 ·rw[List.getElem?_set] at ha
  split at ha
  ·next e' =>
   split at ha
   ·cases ha
    rcases hw F e with hr | hr
    ·exact h.off i t hi hr
    ·have:=h.lt;omega
   ·cases ha
  ·exact h.off j a ha e
 ·rw[List.getElem?_set] at ha hb
  split at ha
  ·next e =>
   split at ha
   ·cases ha
    rw[if_neg (fun q=>hjm (e.symm.trans q))] at hb;exact fun k hk=>new m b k (fun q=>hjm (e.symm.trans q)) hb hk
   ·cases ha
  ·next e =>
   split at hb
   ·next e2 =>
    split at hb
    ·cases hb
     exact(show Aprt t' a from fun k hk=>new j a k e ha hk).symm
    ·cases hb
   ·exact h.apart j m a b hjm ha hb
theorem Gst.more(h:Gst w0 F T vs ts W){t:Tng}(b:W.grownBy W' none)(ho:t.At w0.heap.size W')(hw:∀k,t.own=some k->W.heap.size<=k):Gst w0 F T vs (ts++[t]) W':=by
 have key:∀(j:Nat) (a:Tng),(ts++[t])[j]?=some a->ts[j]?=some a\/(j=ts.length/\a=t):=by
  intro j a ha;rw[List.getElem?_append] at ha;split at ha
  ·exact .inl ha
  ·next hlt =>
   right
   rw[List.getElem?_singleton] at ha;split at ha
   ·next e=>cases ha;exact⟨Ka,rfl⟩
   ·cases ha
 have bb:Po W W':=Jr2 b;have h':=h.on bb;refine⟨h'.box,h.low,fun j a ha=>?_,fun j a ha e=>?_,fun j m a c hjm ha hc=>?_,h'.base⟩
 ·rcases key j a ha with h1 | ⟨-,rfl⟩
  ·exact h'.own j a h1
  ·exact ho
 ·rcases key j a ha with h1 | ⟨-,rfl⟩
  ·exact h.off j a h1 e
  ·have:=hw F e;have:=h.lt;omega
 ·rcases key j a ha with h1 | ⟨e1,rfl⟩
  ·rcases key m c hc with h2 | ⟨-,rfl⟩
   ·exact h.apart j m a c hjm h1 h2
   ·exact fun k e1 e2=>by have:=hw k e2;have:=((h.own j a h1).lt k e1).2;omega
  ·rcases key m c hc with h2 | ⟨e2,-⟩
   ·exact fun k e1 e2=>by have:=hw k e1;have:=((h.own m c h2).lt k e2).2;omega
   ·omega
end
section
variable {P:Program} {md:Region.Mode} {ops:Array Oper} {Q:Exit->Act->World->Prop} {S:World->Prop} {T:List Sk} {fuel:Nat} {l:List Bool} {a:Act} {w:World} {z:Nat}
variable {oi:Oper}
theorem Jdj{i:Nat}{w':World}(l':List Bool)(hl:l.set i true=l')(hr:Jbn T l=[i])(hi:ops[i]?=some oi)(hd:oi.dst=none)(wi:Region.wanted oi (yielded ops a.tmps)=true)
  (hrun:(execOp a.eval oi).run P w=.ok .skip w') (hS:S w') (h:wpT P md ops Q S T fuel l' a w'):wpT P md ops Q S T (fuel+1) l a w :=
 oneT l' hl hr hi wi fun _ hK=>by
  unfold Oper.wp;rw[hrun,Oper.upon_skip,hd];exact hK.out _ _ hS fun _=>h
theorem Jaz{a:Act}{w:World}(ty:TypeId)(x:Operand)(ho:oi.op=.load ty x)(g:Nat)(hx:a.eval x=.pointer (some ⟨g,0,none⟩))(t:TypeId)(cs:Array Value)(fr:Nat×Nat)(d:TypeDesc)(hg:w.heap[g]?=some (.cells cs t fr))
  (hu:P.underlying ty=some d) (hd:(match d with | .struct _ | .array _ _=>true | _=>false)=true) (hi:(P.info? ty).map (·.size)=some cs.size):(execOp a.eval oi).run P w=.ok (.value (.agg cs)) w:=by
 unfold execOp;simp only[ho,hx,Instr.loadAt,Instr.sureAddr,Sem.run_bind,Sem.run_pure,Result.andThen_ok,run_loadVar_row w g t ty cs fr d hg hu hd hi]
theorem Jat{a:Act}{w:World}(ty:TypeId)(x y:Operand)(ho:oi.op=.store ty x y)(g:Nat)(cells:Array Value)(hx:a.eval x=.pointer (some ⟨g,0,none⟩))(hy:a.eval y=.agg cells)
  (t:TypeId) (old:Array Value) (hg:w.heap[g]?=some (.cells old t (0,0))) (hi:(P.info? ty).map (·.size)=some cells.size) (hold:old.size=cells.size) (h1:cells.all (·.oneCell')=true):(execOp a.eval oi).run P w=.ok .skip (w.setRow g cells):=by
 unfold execOp;simp only[ho,hx,hy,Instr.storeAt,Instr.sureAddr,Sem.run_bind,Sem.run_pure,Result.andThen_ok,run_storeVar_row w g t ty old cells hg hi hold h1]
def Jr3(T:List Sk)(z:Nat):List Bool->List Nat->Bool
 | _,[]=>true
 | l,i::r=>(Jp5 T l i&&(Jbn T l).contains i&&((T[z]?).map fun t=>t.1.contains i).getD false&&(i != z))&&Jr3 T z (l.set i true) r
theorem Jd2{L:List (Nat×Nat×Value)}{a a':Act}{oz:Oper}(hz:ops[z]?=some oz)(hT:Takes P ops S a L a'):∀{l l':List Bool} {w:World} (I:List Nat) (_:L.map (fun x=>x.1)=I) (_:Jwk l I=l') (_:Jr3 T z l I=true) (_:∀c a d v w,Q (.panic c) (Act.put a (some d) v) w->Q (.panic c) a w) (_:S w) (_:wpZ P md ops Q S z T fuel l' a' w),wpZ P md ops Q S z T (fuel+I.length) l a w:=by
 induction hT with
 | nil =>
  intro l l' w I hI hl hb hQ hS h;subst hI;subst hl;exact h
 | @cons a a' i d v r oi hi hd hy hr ih =>
  intro l l' w I hI hl hb hQ hS h;subst hI;simp only[List.map_cons] at hb hl |-;unfold Jr3 at hb;rw[Bool.and_eq_true] at hb;rw[List.length_cons,<-Nat.add_assoc];exact takeZ d _ rfl hi hz hd hb.1 (fun c a w=>hQ c a d v w) hy hS rfl (ih _ rfl hl hb.2 hQ hS h)
theorem skipZ{i:Nat}(d:Nat)(l':List Bool)(hl:l.set i true=l')(hr:Jbn T l=[i])(hi:ops[i]?=some oi)(hd:oi.dst=some d)(wi:Region.wanted oi (yielded ops a.tmps)=false)(hS:S w)(h:wpZ P md ops Q S z T fuel l' (a.put (some d) undef) w):wpZ P md ops Q S z T (fuel+1) l a w:=fun h1 h2=>by
 subst hl;have hrr:Region.ready md ops l.toArray=[i]:=Ub;refine⟨fun h0=>(by rw[hrr] at h0;cases h0),fun j hj=>?_⟩;rw[hrr] at hj;have e:j=i:=Xi;subst e;refine wpOp_step hi (fun K' hK=>?_);rw[if_neg (by simp[wi]),hd];exact hK _ _ ⟨fun _=>hS,by rw[Jc1];exact h h1 h2⟩
def Qbj(T:List Sk):List Bool->List Nat->Bool
 | _,[]=>true
 | l,i::r=>Jbn T l==[i]&&Qbj T (l.set i true) r
theorem Jh7{w:World}{L:List (Nat×Nat×Value)}{a a':Act}(hT:Takes P ops (fun X=>X=w) a L a'):∀{l l':List Bool} (I:List Nat) (_:L.map (fun x=>x.1)=I) (_:Jwk l I=l') (_:Qbj T l I=true) (_:S w) (_:wpZ P md ops Q S z T fuel l' a' w),wpZ P md ops Q S z T (fuel+I.length) l a w:=by
 induction hT with
 | nil =>
  intro l l' I hI hl hb hS h;subst hI;subst hl;exact h
 | @cons a a' i d v r oi hi hd hy hr ih =>
  intro l l' I hI hl hb hS h;subst hI;simp only[List.map_cons] at hb hl |-;unfold Qbj at hb;rw[Bool.and_eq_true] at hb;rw[List.length_cons,<-Nat.add_assoc];rcases hy with⟨hw,hy⟩ | ⟨hw,hy⟩
  ·exact Jda d _ rfl (eq_of_beq hb.1) hi hd hw (hy w rfl) hS rfl (ih _ rfl hl hb.2 hS h)
  ·subst hy
   exact skipZ d _ rfl (eq_of_beq hb.1) hi hd hw hS (ih _ rfl hl hb.2 hS h)
end
theorem Ja9{P:Program}{a:Act}{oi:Oper}{s x:Operand}{ST:TypeId}{v y v':Value}{w w':World}(ho:oi.op=.call { callee:=.builtin .append,args:=#[s,x],argTypes:=#[ST,ST] })(hs:a.eval s=v)(hx:a.eval x=y)(hr:(Builtin.append_ #[ST,ST] oi.type #[v,y]).run P w=.ok v' w'):(execOp a.eval oi).run P w=.ok (.value v') w':=by
 unfold execOp;simp only[ho,resolve,invoke,builtin,Sem.run_bind,Sem.run_pure,Result.andThen_ok,List.map_toArray,List.map_cons,List.map_nil,hs,hx,hr]
theorem Gst.less{w0 W:World}{F:Nat}{T:TypeId}{vs:List Value}{ts:List Tng}{t:Tng}(h:Gst w0 F T vs (ts++[t]) W):Gst w0 F T vs ts W:=by
 have up:∀{i:Nat} {a:Tng},ts[i]?=some a->(ts++[t])[i]?=some a:=fun {i a} ha=>by rw[List.getElem?_append_left (Pm ha).1];exact ha
 exact⟨h.box,h.low,fun i a ha=>h.own i a (up ha),fun i a ha=>h.off i a (up ha),fun i j a b hij ha hb=>h.apart i j a b hij (up ha) (up hb),h.base⟩
def tObj(b:Nat)(o:Obj):Tng:=tBlk b fun W=>W.heap[b]?=some o
theorem tObj.at{base b:Nat}{o:Obj}{W:World}(h:W.heap[b]?=some o)(h0:base<=b):(tObj b o).At base W :=
 tBlk.at h h0 (Pn h).1 fun _ _ _ h1 hg hn=>(hg.block b (Pn h1).1 hn).trans h1
theorem Jek(W:World)(b:Nat)(cs:Array Value):W.grownBy (W.setRow b cs) (some b) :=
 ⟨rfl,rfl,rfl,Ke,fun k _ hne=>setRow_other W b k cs (fun e=>hne (by rw[e]))⟩
theorem Gst.boxed{w0 W w2:World}{F b:Nat}{T t:TypeId}{vs vs':List Value}{ts:List Tng}{old:Array Value}(R:Gst w0 F T vs ts W)(h:Gst w0 F T vs' ts w2)(hb0:W.heap.size<=b)(hb1:w2.heap[b]?=some (.cells old t (0,0)))(cs:Array Value):Gst w0 F T vs' (ts++[tObj b (.cells cs t (0,0))]) (w2.setRow b cs):=by
 have hF:b≠F:=by have:=R.lt;omega
 have key:∀(j:Nat) (a:Tng),(ts++[tObj b (.cells cs t (0,0))])[j]?=some a->ts[j]?=some a\/(j=ts.length/\a=tObj b (.cells cs t (0,0))):=by
  intro j a ha;rw[List.getElem?_append] at ha;split at ha
  ·exact .inl ha
  ·next hlt =>
   right
   rw[List.getElem?_singleton] at ha;split at ha
   ·next e=>cases ha;exact⟨Ka,rfl⟩
   ·cases ha
 have off:∀(j:Nat) (a:Tng),ts[j]?=some a->a.own≠some b:=fun j a ha e=>by have:=((R.own j a ha).lt b e).2;omega
 have gr:=Jek w2 b cs;refine⟨(gr.block F h.lt (fun e=>hF (Pp e).symm)).trans h.box,h.low,fun j a ha=>?_,fun j a ha e=>?_,fun j m a c hjm ha hc=>?_,Jdc h.base gr (fun k e=>by cases e;exact Nat.le_trans R.base.size hb0)⟩
 ·rcases key j a ha with h1 | ⟨-,rfl⟩
  ·exact(h.own j a h1).on gr (.inr (off j a h1))
  ·exact tObj.at (setRow_heap w2 b old cs t (0,0) hb1) (Nat.le_trans R.base.size hb0)
 ·rcases key j a ha with h1 | ⟨-,rfl⟩
  ·exact h.off j a h1 e
  ·exact hF (Pp e)
 ·rcases key j a ha with h1 | ⟨e1,rfl⟩
  ·rcases key m c hc with h2 | ⟨-,rfl⟩
   ·exact h.apart j m a c hjm h1 h2
   ·exact fun k e1 e2=>off j a h1 (by rw[e1,<-e2];rfl)
  ·rcases key m c hc with h2 | ⟨e2,-⟩
   ·exact fun k e1 e2=>off m c h2 (by rw[e2,<-e1];rfl)
   ·omega
theorem Jba{ts:List Tng}{t x:Tng}{i:Nat}(h:ts[i]?=some x):(ts++[t])[i]?=some x:=by rw[List.getElem?_append_left (Pm h).1];exact h
theorem Gst.box_last{w0 W:World}{F b:Nat}{T:TypeId}{vs:List Value}{ts:List Tng}{o:Obj}(h:Gst w0 F T vs (ts++[tObj b o]) W):W.heap[b]?=some o:=(h.blk (i:=ts.length) (b:=b) (P:=fun W=>W.heap[b]?=some o) (by rw[List.getElem?_append_right Ph,Nat.sub_self];rfl)).1
theorem Jco{W:World}{b i:Nat}{cs:List Value}{t:TypeId}{v:Value}(h:W.heap[b]?=some (.cells cs.toArray t (0,0)))(hv:cs[i]?=some v):W.cell? ⟨b,i,none⟩=some v:=by
 rw[cell_of_row _ _ _ _ _ _ h];simpa using hv
abbrev pt(F o:Nat):Value:=.pointer (some ⟨F,o,none⟩)
theorem Jav{P:Program}{a:Act}{oi:Oper}{w:World}(t e:TypeId)(x y:Operand)(ho:oi.op=.indexAddr t x y)(b o n c m K:Nat)(hx:a.eval x=.slice (some ⟨b,o,none⟩) n c)(hy:a.eval y=.int .i64 (m:Int))(hm:m<n)(hT:P.underlying t=some (.slice e))(hs:∀w,(sizeOf e).run P w=.ok K w):
  (execOp a.eval oi).run P w=.ok (.value (.pointer (some ⟨b,o+m*K,none⟩))) w:=by
 have he:P.elem t=e:=Jv;have hr:(Instr.indexAt t (.slice (some ⟨b,o,none⟩) n c) (.int .i64 (m:Int))).run P w=.ok (.pointer (some ⟨b,o+m*K,none⟩)) w:=by
  rw[run_indexAt_slice (P:=P) (w:=w) t ⟨b,o,none⟩ n c .i64 m (by rw[he];exact hT),if_pos Ka,he,hs];simp[Addr.add]
 unfold execOp;simp only[ho,hx,hy,Sem.run_bind,hr,Result.andThen_ok,Sem.run_pure]
end
end Go.Proofs.YtpifdbphmnifdaaGreatDoor
