/-
  Facts. Condition: each theorem's own.
-/
import Derived.Test.YtpifdbphmnifdaaGreatDoorYC22
set_option maxRecDepth 100000
set_option maxHeartbeats 8000000
section
variable {p:Prop}
theorem Gv (h:p:=by obtain⟨y0,y1,y2,y3,y4⟩:=h;dsimp only [pt];go_simp;try with_reducible rfl):p:=h
theorem Gw (h:p:=by rw [cell_of_row _ _ _ _ _ _ (hX.row (i:=1) rfl)];rfl):p:=h
theorem Gx (h:p:=by have h:=HX.out;rw [List.take_of_length_le Kd] at h;exact h):p:=h
theorem Gy (h:p:=by rw [←hw7ds];exact (Below.refl _ _).alloc Ph _):p:=h
theorem Gz (h:p:=by (first | rw [hw7d] | rw [h3,hw7d]);exact SF.out _ _ Xw7d.out):p:=h
theorem G0 (h:p:=by rw [cell_of_row _ _ _ _ _ _ (hX.row (i:=0) rfl)];rfl):p:=h
theorem Waa (h:p:=by rw [←hw7d];exact (Below.refl _ _).drew):p:=h
theorem Wab (h:p:=by rw [←h7];exact heap_alloc_new wr _):p:=h
theorem Wac (h:p:=by rw [←h7];exact (Below.refl _ _).alloc Ph _):p:=h
theorem Wad (h:p:=by obtain⟨y0,y1,y2,y3,y4,y5,y6,y7,y8,y9⟩:=h;dsimp only [pt];go_simp;try with_reducible rfl):p:=h
theorem Wae (h:p:=by rw [Jc9 _ hx];exact HZ2.out):p:=h
theorem Waf (h:p:=by rw [←hw7ds];kernel_rfl):p:=h
theorem Wag (h:p:=by obtain⟨y0,y1,y2,y3⟩:=h;dsimp only [pt];go_simp;try with_reducible rfl):p:=h
theorem Wah (h:p:=by rw [cell_of_row _ _ _ _ _ _ k3];rfl):p:=h
theorem Wai (h:p:=by clear HX;go_wp2_with fail;go_end0;exact⟨rfl,HE.out⟩):p:=h
theorem Waj (h:p:=by simp only [Pp,Pq];omega):p:=h
theorem Wak (h:p:=by rw [List.take_zero,List.map_nil,List.append_nil];exact X0.out):p:=h
theorem Wal (h:p:=by rw [←h3];exact heap_alloc_new W _):p:=h
theorem Wam (h:p:=by rw [←h3];exact (Below.refl _ _).alloc Ph _):p:=h
theorem Wan (h:p:=by rw [h.2];exact Pg):p:=h
theorem Wao (h:p:=by rw [List.take_zero,List.map_nil,List.append_nil];exact X3.out):p:=h
theorem Wap (h:p:=by rw [cell_of_row _ _ _ _ _ _ (X3.out.row (i:=0) rfl)];rfl):p:=h
theorem Waq (h:p:=by rw [List.take_zero,List.map_nil,List.append_nil];exact X2.out):p:=h
theorem War (h:p:=by rw [cell_of_row _ _ _ _ _ _ (X2.out.row (i:=0) rfl)];rfl):p:=h
theorem Was (h:p:=by obtain⟨y0,y1⟩:=h;dsimp only [pt];go_simp;try with_reducible rfl):p:=h
theorem Wat (h:p:=by (first | rw [hw9d] | rw [h3,hw9d]);exact SF.out _ _ Xw9d.out):p:=h
theorem Wau (h:p:=by rw [List.take_zero,List.map_nil,List.append_nil];exact X1.out):p:=h
theorem Wav (h:p:=by rw [cell_of_row _ _ _ _ _ _ (X1.out.row (i:=0) rfl)];rfl):p:=h
theorem Waw (h:p:=by rw [←hnm];rfl):p:=h
theorem Wax (h:p:=by rw [←hw9ds];exact (Below.refl _ _).alloc Ph _):p:=h
end
open Go.Proofs.Tryz
namespace Go.Proofs.YtpifdbphmnifdaaGreatDoor
section
open Go
structure Sht (F:Fm):Prop where
 num:∀n,-9223372036854775808≤n→n≤9223372036854775807→(F.numT n).length≤256
 prc:∀n,0≤n→n≤1000000→(F.prcT n).length≤256
 tim:∀n,0≤n→n≤172800→(F.timT n).length≤256
 dur:∀n,0≤n→n≤86400→(F.durT n).length≤256
 day:∀n,0≤n→n≤36524→(F.dayT n).length≤256
 mds:∀n,0≤n→n≤255→(F.mdsT n).length≤256
theorem Jfw:∀(k u:Nat),u<10 ^ (k+1)→(Lib.decDigits u).length≤k+1
 | 0,u,h=>by
  rw [Lib.decDigits,dif_pos Kt];simp
 | k+1,u,h=>by
  rw [Lib.decDigits];split
  ·simp
  ·rw [Pp]
   have:=Jfw k (u / 10) (by rw [Nat.div_lt_iff_lt_mul Kd,←Nat.pow_succ];exact h);exact Ke
theorem twoL (x:Int):(two x).length=2:=rfl
theorem J70:∀x∈nmL,x.length≤16:=Kl
theorem Jen {l:List Bs} {n:Nat} (h:∀x∈l,x.length≤n) (i:Int):(atI l i).length≤n:=by
 unfold atI;rw [List.getD_eq_getElem?_getD];cases e:l[i.toNat]? with
 | none=>simp
 | some x=>exact h x (List.mem_of_getElem? e)
theorem J18 (n:Nat):∀m,(txF n m).length≤17*m
 | 0=>by unfold txF;simp
 | m+1=>by
  have ih:=J18 n m;have hn:(nmR m).length≤16:=by
   unfold nmR;rw [List.getD_eq_getElem?_getD];cases e:nmL[m]? with
   | none=>simp
   | some x=>exact J70 x (List.mem_of_getElem? e)
  unfold txF;split
  ·unfold catR
   split
   ·omega
   ·rw [Pp,List.length_cons]
    omega
  ·omega
theorem Jjz:Sht fmR where
 num:=fun n h0 h1=>by
  show (Lib.itoa n).length≤256
  unfold Lib.itoa;split
  ·have:=Jfw 19 n.natAbs Kd
   rw [List.length_cons];omega
  ·have:=Jfw 19 n.toNat Kd
   omega
 prc:=fun n h0 h1=>by
  show (Lib.decDigits (n.toNat / 100)++46::two _).length≤256
  have:=Jfw 9 (n.toNat / 100) Kd;rw [Pp,List.length_cons,twoL];omega
 tim:=fun n h0 h1=>by
  show (Jdl n).length≤256
  unfold Jdl;simp only [Pp,List.length_cons,List.length_nil,twoL];omega
 dur:=fun n h0 h1=>by
  show (Jb5 n).length≤256
  unfold Jb5;have a:=Jfw 9 (n / 3600).toNat Kd;have b:=Jfw 9 (n % 3600 / 60).toNat Kd;have c:=Jfw 9 (n % 60).toNat Kd;unfold dec;split
  ·simp only [Pp,List.length_cons,List.length_nil,twoL]
   omega
  split
  ·simp only [Pp,List.length_cons,List.length_nil,twoL]
   omega
  ·simp only [Pp,List.length_cons,List.length_nil]
   omega
 day:=fun n h0 h1=>by
  show (S2.dText _ _).length≤256
  unfold S2.dText S2.dateText S2.four;simp only [Pp,List.length_cons,List.length_nil,twoL];omega
 mds:=fun n h0 h1=>by
  show (textR n.toNat).length≤256
  have:=J18 n.toNat 8;unfold textR;split
  ·decide
  ·omega
structure Lim (T:Tt):Prop where
 ist:∀x∈Jaw T,x.length≤32
 iro:∀x∈Jb1 T,x.length≤32
 ica:∀x∈Jba T,x.length≤32
 itr:∀x∈Jav T,x.length≤32
 ipr:∀x∈T.pr,x.1.length≤32
 st:T.st.length≤64
 ro:T.ro.length≤64
 ca:T.ca.length≤64
 ex:T.ex.length≤256
 tr:T.tr.length≤256
 cc:∀x∈T.tr,(clT x).length≤32
 fr:T.fr.length≤64
 th:T.th.length≤128
 gu:T.gu.length≤128
 pa:T.pa.length≤512
 pr:T.pr.length≤16
theorem Jgz {x:Bs} (h:¬Jaj x=false):x.length≤32:=((Jf1 x).1 Kt).1.2
theorem J71 {T:Tt} (h:(ttC T).2.2=0):Lim T:=by
 have hp:=(Jze T).1 h;have h0:(S13.chkT T.st).2=0:=hp 0 Kd;have h1:(chkR T.ro).2=0:=hp 1 Kd;have h2:(S14.chkC T.ca).2=0:=hp 2 Kd;have h3:(S14.chkX T.ca.length T.ex).2=0:=hp 3 Kd;have h4:(S17.chkT T.st.length T.ro.length T.ca.length T.tr).2=0:=hp 4 Kd;have h5:(chkF (T.tr.map clT) T.fr).2=0:=hp 5 Kd;have h6:(S19.chkH (T.tr.map S19.tcT) T.fr T.th).2=0:=hp 6 Kd;have h7:(S19.chkU (T.tr.map S19.tcT) T.fr T.st.length T.gu).2=0:=hp 7 Kd;have h8:(S20.chkP T.st.length T.pa).2=0:=hp 8 Kd;have h9:(S21.chkPd T.di T.wi T.cp T.pr).2=0:=hp 9 Kd;unfold S13.chkT at h0;unfold chkR at h1;unfold S14.chkC at h2;unfold S14.chkX at h3;unfold S17.chkT at h4;unfold chkF at h5;unfold S19.chkH at h6;unfold S19.chkU at h7;unfold S20.chkP at h8;unfold S21.chkPd at h9;split at h0
 ·simp at h0
 next l0 =>
 split at h1
 ·simp at h1
 next l1 =>
 split at h2
 ·simp at h2
 next l2 =>
 split at h3
 ·simp at h3
 next l3 =>
 split at h4
 ·simp at h4
 next l4 =>
 split at h5
 ·simp at h5
 next l5 =>
 split at h6
 ·simp at h6
 next l6 =>
 split at h7
 ·simp at h7
 next l7 =>
 split at h8
 ·simp at h8
 next l8 =>
 split at h9
 ·simp at h9
 split at h9
 ·simp at h9
 next l9 =>
 rw [Jma] at h0;have hcc:∀x∈T.tr,Jaj x.1=true∧(clT x).length≤32:=fun x hx=>by
  obtain⟨s,hb⟩:=Jdw h4 hx;unfold S17.badT at hb;split at hb
  ·exact Yv
  next hv =>
  split at hb
  ·exact Yv
  split at hb
  ·unfold chkC at hb
   split at hb
   ·exact Yv
   ·next hc =>
    have:¬(32<x.2.2.2.2.2.length):=fun q=>hc (.inr q)
    exact⟨by simpa using hv,Nat.le_of_not_lt this⟩
  ·exact Yv
 exact {
  ist:=fun y hy=>by
   obtain⟨x,hx,rfl⟩:=List.mem_map.1 hy;obtain⟨s,hb⟩:=Jdw h0 hx;unfold S13.badS at hb;split at hb
   ·exact Yv
   ·next hv=>exact Jgz hv
  iro:=fun y hy=>by
   obtain⟨x,hx,rfl⟩:=List.mem_map.1 hy;obtain⟨s,hb⟩:=Jdw h1 hx;unfold badR at hb;split at hb
   ·exact Yv
   ·next hv=>exact Jgz hv
  ica:=fun y hy=>by
   obtain⟨x,hx,rfl⟩:=List.mem_map.1 hy;obtain⟨s,hb⟩:=Jdw h2 hx;unfold S14.badC at hb;split at hb
   ·exact Yv
   ·next hv=>exact Jgz hv
  itr:=fun y hy=>by
   obtain⟨x,hx,rfl⟩:=List.mem_map.1 hy;exact ((Jf1 x.1).1 (hcc x hx).1).1.2
  ipr:=fun x hx=>by
   obtain⟨s,hb⟩:=Jdw h9 hx;unfold S21.badPd at hb;split at hb
   ·exact Yv
   ·next hv=>exact Jgz hv
  st:=Kd
  ro:=Kd
  ca:=Kd
  ex:=Kd
  tr:=Kd
  cc:=fun x hx=>(hcc x hx).2
  fr:=Kd
  th:=Kd
  gu:=Kd
  pa:=Kd
  pr:=by omega }
def Shr (fs:List Bs):Prop:=fs.length≤7∧∀x∈fs,x.length≤256
theorem J72 (x:Bs):(Jam x).length≤4*x.length+2:=by
 have he:∀c,(esc c).length≤4:=fun c=>by
  unfold esc;split
  ·simp
  split <;> simp
 have hi:(Ja9 x).length≤4*x.length:=by
  unfold Ja9;induction x with
  | nil=>simp
  | cons c x ih =>
   rw [List.flatMap_cons,Pp,List.length_cons];have:=he c;omega
 unfold Jam;split
 ·omega
 ·rw [List.length_cons,Pp]
  simp only [List.length_cons,List.length_nil];omega
theorem line_le:∀fs:List Bs,(∀x∈fs,x.length≤256)→(Jas fs).length≤1027*fs.length
 | [],_=>by simp [Jas]
 | [x],h=>by
  show (Jam x).length≤_
  have:=J72 x;have:=h x Kj;simp only [List.length_cons,List.length_nil];omega
 | x::y::l,h=>by
  show (Jam x++44::Jas (y::l)).length≤_
  have:=J72 x;have:=h x Kj;have ih:=line_le (y::l) (fun z hz=>h z (by simp [hz]));rw [Pp,List.length_cons,List.length_cons];rw [List.length_cons] at ih;rw [List.length_cons];omega
theorem Shr.line {fs:List Bs} (h:Shr fs):(Jas fs).length≤7189:=by
 have:=line_le fs h.2;have:=h.1;omega
theorem Jm2 (b:Bool):(flgT b).length≤256:=by cases b <;> decide
theorem Qb0 (k:Nat→Bool):(wkT k).length≤256:=by unfold wkT;simp
theorem Qb1 (b a:Bool):(prmT b a).length≤256:=by cases b <;> cases a <;> decide
section
variable {F:Fm} {T:Tt} (V:Val T) (L:Lim T) (S:Sht F)
include V L S
theorem J73 {x:S13.St} (hx:x∈T.st):Shr (rSt F x):=by
 obtain⟨h1,h2⟩:=V.st x hx;have a:=L.ist x.1 (List.mem_map.2 ⟨x,hx,rfl⟩);have b:=S.num _ h1.1 h1.2;have c:=S.num _ h2.1 h2.2;have d:=Jm2 x.2.2.1;refine⟨by simp [rSt],fun y hy=>?_⟩;simp only [rSt,List.mem_cons,List.not_mem_nil,or_false] at hy;rcases hy with rfl | rfl | rfl | rfl | rfl
 ·decide
 all_goals omega
theorem J74 {x:S14.Cl} (hx:x∈T.ca):Shr (rCa F x):=by
 obtain⟨h1,h2⟩:=V.ca x hx;have a:=L.ica x.1 (List.mem_map.2 ⟨x,hx,rfl⟩);have b:=S.day _ h1.1 h1.2;have c:=S.day _ h2.1 h2.2;have d:=Qb0 x.2.1;refine⟨by simp [rCa],fun y hy=>?_⟩;simp only [rCa,List.mem_cons,List.not_mem_nil,or_false] at hy;rcases hy with rfl | rfl | rfl | rfl | rfl
 ·decide
 all_goals omega
theorem J75 {x:S14.Ex} (hx:x∈T.ex):Shr (rEx F T x):=by
 obtain⟨h1,h2⟩:=V.ex x hx;have a:=Jen L.ica x.1;have b:=S.day _ h2.1 h2.2;refine⟨by simp [rEx],fun y hy=>?_⟩;simp only [rEx,List.mem_cons,List.not_mem_nil,or_false] at hy;rcases hy with rfl | rfl | rfl | rfl
 ·decide
 ·omega
 ·omega
 ·cases x.2.2 <;> decide
theorem J76 {x:Tp} (hx:x∈T.tr) {c:Cl} (hc:c∈clT x):Shr (rCc F T c):=by
 obtain⟨h1,h2,h3⟩:=V.cc x hx c hc;have a:=Jen L.ist c.1;have b:=S.tim _ h2.1 h2.2;have d:=S.tim _ h3.1 h3.2;have e:=Qb1 c.2.2.2.1 c.2.2.2.2;refine⟨by simp [rCc],fun y hy=>?_⟩;simp only [rCc,List.mem_cons,List.not_mem_nil,or_false] at hy;rcases hy with rfl | rfl | rfl | rfl | rfl
 ·decide
 all_goals omega
theorem J77 {x:Fq} (hx:x∈T.fr):Shr (rFr F T x):=by
 obtain⟨h1,h2,h3,h4⟩:=V.fr x hx;have a:=Jen L.itr x.1;have b:=S.tim _ h2.1 h2.2;have c:=S.tim _ h3.1 h3.2;have d:=S.dur _ h4.1 h4.2;refine⟨by simp [rFr],fun y hy=>?_⟩;simp only [rFr,List.mem_cons,List.not_mem_nil,or_false] at hy;rcases hy with rfl | rfl | rfl | rfl | rfl
 ·decide
 all_goals omega
theorem J78 {x:S20.Fp} (hx:x∈T.pa):Shr (rPa F T x):=by
 obtain⟨h1,h2,h3⟩:=V.pa x hx;have a:=Jen L.ist x.1;have b:=Jen L.ist x.2.1;have c:=S.dur _ h3.1 h3.2;have d:=Jm2 x.2.2.2;refine⟨by simp [rPa],fun y hy=>?_⟩;simp only [rPa,List.mem_cons,List.not_mem_nil,or_false] at hy;rcases hy with rfl | rfl | rfl | rfl | rfl
 ·decide
 all_goals omega
theorem J79 {x:S21.Pd} (hx:x∈T.pr):Shr (rPr F x):=by
 obtain⟨h1,h2,h3,h4,h5⟩:=V.pr x hx;have a:=L.ipr x hx;have b:=S.prc _ h1.1 h1.2;have c:=S.num _ h2.1 h2.2;have d:=S.num _ h3.1 h3.2;have e:=S.dur _ h4.1 h4.2;have f:=S.mds _ h5.1 h5.2;refine⟨by simp [rPr],fun y hy=>?_⟩;simp only [rPr,List.mem_cons,List.not_mem_nil,or_false] at hy;rcases hy with rfl | rfl | rfl | rfl | rfl | rfl | rfl
 ·decide
 all_goals omega
theorem J8a {fs:List Bs} (hx:fs∈rFa F T):Shr fs:=by
 obtain⟨h1,h2,h3⟩:=V.fa;have a:=S.prc _ h1.1 h1.2;have b:=S.dur _ h2.1 h2.2;have c:=S.prc _ h3.1 h3.2;have _:=L.st;unfold rFa at hx;split at hx
 ·rw [List.mem_singleton] at hx
  subst hx;refine⟨Kj,fun y hy=>?_⟩;simp only [List.mem_cons,List.not_mem_nil,or_false] at hy;rcases hy with rfl | rfl | rfl | rfl
  ·decide
  all_goals omega
 ·cases hx
end
section
variable {T:Tt} (L:Lim T)
include L
theorem J8b {x:Rt} (hx:x∈T.ro):Shr (rRo x):=by
 have a:=L.iro x.1 (List.mem_map.2 ⟨x,hx,rfl⟩);have b:=Jen J70 x.2.1;have d:=Jm2 x.2.2;refine⟨by simp [rRo],fun y hy=>?_⟩;simp only [rRo,List.mem_cons,List.not_mem_nil,or_false] at hy;rcases hy with rfl | rfl | rfl | rfl
 ·decide
 all_goals omega
theorem J8c {x:Tp} (hx:x∈T.tr):Shr (rTr T x):=by
 have a:=L.itr x.1 (List.mem_map.2 ⟨x,hx,rfl⟩);have b:=Jen L.iro x.2.1;have c:=Jen L.ica x.2.2.1;have d:=Jm2 x.2.2.2.1;refine⟨by simp [rTr],fun y hy=>?_⟩;simp only [rTr,List.mem_cons,List.not_mem_nil,or_false] at hy;rcases hy with rfl | rfl | rfl | rfl | rfl
 ·decide
 all_goals omega
theorem J8d {x:S19.Th}:Shr (rTh T x):=by
 have a:=Jen L.itr x.1;have b:=Jen L.itr x.2;refine⟨by simp [rTh],fun y hy=>?_⟩;simp only [rTh,List.mem_cons,List.not_mem_nil,or_false] at hy;rcases hy with rfl | rfl | rfl
 ·decide
 all_goals omega
theorem J8e {x:S19.Gt}:Shr (rGu T x):=by
 have a:=Jen L.itr x.1;have b:=Jen L.itr x.2.1;have c:=Jen L.ist x.2.2;refine⟨by simp [rGu],fun y hy=>?_⟩;simp only [rGu,List.mem_cons,List.not_mem_nil,or_false] at hy;rcases hy with rfl | rfl | rfl | rfl
 ·decide
 all_goals omega
end
theorem J6b {F:Fm} {T:Tt} (V:Val T) (L:Lim T) (S:Sht F):∀r∈rows F T,Shr r:=by
 intro r hr;unfold rows at hr;simp only [List.mem_append,List.mem_map,List.mem_flatMap] at hr;rcases hr with ⟨x,hx,rfl⟩ | ⟨x,hx,rfl⟩ | ⟨x,hx,rfl⟩ | ⟨x,hx,rfl⟩ | ⟨x,hx,hr⟩ | ⟨x,hx,rfl⟩ | ⟨x,hx,rfl⟩ | ⟨x,hx,rfl⟩ | ⟨x,hx,rfl⟩ | hr | ⟨x,hx,rfl⟩
 ·exact J73 V L S hx
 ·exact J8b L hx
 ·exact J74 V L S hx
 ·exact J75 V L S hx
 ·unfold bTr at hr
  rw [List.mem_cons,List.mem_map] at hr;rcases hr with rfl | ⟨c,hc,rfl⟩
  ·exact J8c L hx
  ·exact J76 V L S hx hc
 ·exact J77 V L S hx
 ·exact J8d L
 ·exact J8e L
 ·exact J78 V L S hx
 ·exact J8a V L S hr
 ·exact J79 V L S hx
theorem Jm3 {F:Fm} {T:Tt}:∀l:List Tp,(∀x∈l,(clT x).length≤32)→(l.flatMap (bTr F T)).length≤33*l.length
 | [],_=>Kj
 | x::l,h=>by
  rw [List.flatMap_cons,Pp,List.length_cons];have ih:=Jm3 (F:=F) (T:=T) l (fun y hy=>h y (by simp [hy]));have hb:(bTr F T x).length=1+(clT x).length:=by unfold bTr;rw [List.length_cons,Pq];omega
  have:=h x Kj;omega
theorem J6c {F:Fm} {T:Tt} (L:Lim T):(rows F T).length≤20000:=by
 have h1:=Jm3 (F:=F) (T:=T) T.tr L.cc;have h2:(rFa F T).length≤1:=by unfold rFa;split <;> simp
 obtain⟨-,-,-,-,-,a,b,c,d,e,-,g,i,j,k,l⟩:=L;unfold rows;exact Waj
theorem J19 {F:Fm} {T:Tt} (V:Val T) (L:Lim T) (S:Sht F):(rows F T).length≤20000∧(∀l∈(rows F T).map Jas,l.length≤16384)∧S4.textR ((rows F T).map Jas)=if 65536<(Jez F T).length then ([],5) else (Jez F T,0):=by
 refine⟨J6c L,fun l hl=>?_,?_⟩
 ·obtain⟨r,hr,rfl⟩:=List.mem_map.1 hl
  have:=(J6b V L S r hr).line;omega
 ·unfold S4.textR
  have:((rows F T).map Jas).any S4.fed=false:=by
   rw [List.any_eq_false];intro l hl;obtain⟨r,-,rfl⟩:=List.mem_map.1 hl;unfold S4.fed;rw [decide_eq_true_iff];exact fun hb=>Ji7 r 10 hb rfl
  rw [this];rfl
open Go.RowKit
theorem Gst.mored {w0 W W':World} {F b:Nat} {T:TypeId} {vs:List Value} {ts:List Tng} {o:Obj} (h:Gst w0 F T vs ts W) (bl:Pn W W') (hb:W.heap.size≤b) (ho:W'.heap[b]?=some o):Gst w0 F T vs (ts++[tObj b o]) W':=by
 have g:=h.on bl;have hF:b≠F:=by have:=h.lt;omega
 have key:∀(j:Nat) (a:Tng),(ts++[tObj b o])[j]?=some a→ts[j]?=some a∨(j=ts.length∧a=tObj b o):=by
  intro j a ha;rw [List.getElem?_append] at ha;split at ha
  ·exact .inl ha
  ·next hlt =>
   right
   rw [List.getElem?_singleton] at ha;split at ha
   ·next e=>cases ha;exact⟨Kd,rfl⟩
   ·cases ha
 have off:∀(j:Nat) (a:Tng),ts[j]?=some a→a.own≠some b:=fun j a ha e=>by have:=((h.own j a ha).lt b e).2;omega
 refine⟨g.box,g.low,fun j a ha=>?_,fun j a ha e=>?_,fun j m a c hjm ha hc=>?_,g.base⟩
 ·rcases key j a ha with h1 | ⟨-,rfl⟩
  ·exact g.own j a h1
  ·exact tObj.at ho (Nat.le_trans h.base.size hb)
 ·rcases key j a ha with h1 | ⟨-,rfl⟩
  ·exact h.off j a h1 e
  ·exact hF (Po e)
 ·rcases key j a ha with h1 | ⟨e1,rfl⟩
  ·rcases key m c hc with h2 | ⟨-,rfl⟩
   ·exact h.apart j m a c hjm h1 h2
   ·exact fun k e1 e2=>off j a h1 (by rw [e1,←e2];rfl)
  ·rcases key m c hc with h2 | ⟨e2,-⟩
   ·exact fun k e1 e2=>off m c h2 (by rw [e2,←e1];rfl)
   ·omega
theorem Gst.head {w0 W:World} {F:Nat} {T:TypeId} {vs:List Value} {t:Tng} {ts:List Tng} (h:Gst w0 F T vs (t::ts) W):Gst w0 F T vs [t] W:=by
 have up:∀(i:Nat) a,[t][i]?=some a→(t::ts)[i]?=some a:=fun i a ha=>by
  match i with
  | 0=>exact ha
  | i+1=>simp at ha
 exact⟨h.box,h.low,fun i a ha=>h.own i a (up i a ha),fun i a ha=>h.off i a (up i a ha),fun i j a b hij ha hb=>h.apart i j a b hij (up i a ha) (up j b hb),h.base⟩
def Wrx (w0:World) (F:Nat) (R:List (List Bs)) (xs:List (Nat×Obj)) (W:World):Prop:=Wsx w0 F (R.map Jas) (xs.map fun x=>tObj x.1 x.2) W
section
variable {w0 W W':World} {F b:Nat} {o:Obj} {R:List (List Bs)} {xs:List (Nat×Obj)}
theorem Wrx.on (h:Wrx w0 F R xs W) (bl:Pn W W'):Wrx w0 F R xs W':=by
 obtain⟨v,G⟩:=h;exact⟨v,G.on bl⟩
theorem Wrx.base (h:Wrx w0 F R xs W):Pn w0 W:=by
 obtain⟨v,G⟩:=h;exact G.base
theorem Wrx.row (h:Wrx w0 F R xs W) {i:Nat} (hi:xs[i]?=some (b,o)):W.heap[b]?=some o:=by
 obtain⟨v,G⟩:=h;exact (G.blk (i:=i+1) (b:=b) (P:=fun W=>W.heap[b]?=some o) (by rw [List.getElem?_cons_succ,List.getElem?_map,hi];rfl)).1
theorem Wrx.more (h:Wrx w0 F R xs W) (bl:Pn W W') (hb:W.heap.size≤b) (ho:W'.heap[b]?=some o):Wrx w0 F R (xs++[(b,o)]) W':=by
 obtain⟨v,G⟩:=h;have:=G.mored bl hb ho;refine⟨v,?_⟩;rw [List.map_append];exact this
theorem Wrx.none (h:Wrx w0 F R xs W):Wrs w0 F R W:=by
 obtain⟨v,G⟩:=h;exact⟨v,G.head⟩
theorem Wrx.less {x:Nat×Obj} (h:Wrx w0 F R (xs++[x]) W):Wrx w0 F R xs W:=by
 obtain⟨v,G⟩:=h;rw [List.map_append] at G;exact⟨v,Gst.less (ts:=tRow w0.heap.size ⟨9,1,v,(R.map Jas).length,fl s1 (R.map Jas)⟩::xs.map fun x=>tObj x.1 x.2) G⟩
theorem Wrs.x (h:Wrs w0 F R W):Wrx w0 F R [] W:=h
end
theorem Jdg {w0 W:World} {F:Nat} {R:List (List Bs)} {xs:List (Nat×Obj)} (h:Wrx w0 F R xs W) (hl:R.length≤1000000) (f:Value) (fs:List Bs) (hf:Lst W f fs) (hs:Shr fs) :
  Calls prog 134 #[.pointer (some ⟨F,0,none⟩),f] W fun e w'=>e=.returned (.tuple #[])∧Wrx w0 F (R++[fs]) xs w':=by
 have h7:=hs.line;have e:S4.joinR fs=(Jas fs,0):=by
  have:=hs.1;unfold S4.joinR;rw [if_neg Kd,if_neg Kd]
 have:=Qfi h (by rw [Pq];exact hl) f fs hf (by have:=hs.1;omega) (fun x hx=>by have:=hs.2 x hx;omega);rw [e] at this;refine this.mono fun e w' q=>⟨q.1,?_⟩
 unfold Wrx;rw [List.map_append];exact q.2
theorem Jci (w:World) (cs:Array Value) (ls:List Bs) (h:cs.toList=sts ls) (n:Nat) (hn:ls.length=n):Lst (w.alloc (.cells cs 9 (0,0))) (.slice (some ⟨w.heap.size,0,none⟩) n n) ls:=by
 subst hn;refine⟨_,_,rfl,⟨Nat.le_refl _,fun h=>Qf⟩,fun _=>⟨w.heap.size,0,rfl,Kj,fun j x hj=>?_⟩⟩;rw [Nat.zero_add,cell_of_row _ _ _ _ _ _ (heap_alloc_new w _)];rw [←h] at hj;exact Xg
theorem Jhz {P:Program} {md:Region.Mode} {ops:Array Oper} {Q:Exit→Act→World→Prop} {S:World→Prop} {T:List Sk} {fuel:Nat} {l:List Bool} {a:Act} {w:World} {i:Nat} {oi:Oper} {f:FuncId} {vals:Array Value} {u:Value} {R:World→Prop} (d:Nat) (l':List Bool) (hl:l.set i true=l') (hr:Jbk T l=[i]) (hi:ops[i]?=some oi) (hd:oi.dst=some d) (wi:Region.wanted oi (yielded ops a.tmps)=true)
  (hrun:(execOp a.eval oi).run P w=.ok (.enter f vals) w) (C:Calls P f vals w fun e w'=>e=.returned u∧R w') (h:∀w',R w'→S w'∧wpT P md ops Q S T fuel l' (a.put (some d) u) w'):wpT P md ops Q S T (fuel+1) l a w :=
 Jb6 (R:=fun v X=>v=u∧R X) d l' hl hr hi hd wi hrun (C.mono fun e w' h=>⟨u,h.1,rfl,h.2⟩) (fun v w' hv=>by obtain⟨rfl,hv⟩:=hv;exact h w' hv)
theorem Jrv {a b c d:Nat} (h:(some ⟨a,b,none⟩:Option Addr)=some ⟨c,d,none⟩):a=c∧b=d:=by
 have:=Po h;injection this with h1 h2
 exact⟨h1,h2⟩
theorem Jc9 {α β:Type} {l:List α} {k:Nat} {x:α} (f:α→β) (h:l[k]?=some x) (R:List β):R++(l.take (k+1)).map f=(R++(l.take k).map f)++[f x]:=by
 obtain⟨hl,rfl⟩:=Pl h;rw [List.take_add_one,h,List.map_append,List.append_assoc];rfl
theorem J2a {α β:Type} {l:List α} {k:Nat} {x:α} (f:α→List β) (h:l[k]?=some x) (R:List β):R++(l.take (k+1)).flatMap f=(R++(l.take k).flatMap f)++f x:=by
 rw [List.take_add_one,h,List.flatMap_append,List.append_assoc];simp
theorem Jax {P:Program} {a:Act} {oi:Oper} {w:World} (t e:TypeId) (x y:Operand) (ho:oi.op=.indexAddr t x y) (b o n c m K:Nat) (hx:a.eval x=.slice (some ⟨b,o,none⟩) n c) (hy:a.eval y=.int .i64 (m:Int)) (hm:m<n) (hT:P.underlying t=some (.slice e)) (hs:∀w,(sizeOf e).run P w=.ok K w) :
  (execOp a.eval oi).run P w=.ok (.value (.pointer (some ⟨b,o+m*K,none⟩))) w:=by
 have he:P.elem t=e:=Ju;have hr:(Instr.indexAt t (.slice (some ⟨b,o,none⟩) n c) (.int .i64 (m:Int))).run P w=.ok (.pointer (some ⟨b,o+m*K,none⟩)) w:=by
  rw [run_indexAt_slice (P:=P) (w:=w) t ⟨b,o,none⟩ n c .i64 m (by rw [he];exact hT),if_pos Kd,he,hs];simp [Addr.add]
 unfold execOp;simp only [ho,hx,hy,Sem.run_bind,hr,Result.andThen_ok,Sem.run_pure]
theorem Jdh {α:Type} {l:List α} {f:α→Bs} {i:Int} {m:Nat} (hi:i=(m:Int)) {x:α} (h:l[m]?=some x):atI (l.map f) i=f x:=by
 subst hi;unfold atI;rw [List.getD_eq_getElem?_getD,Int.toNat_natCast,List.getElem?_map,h];rfl
abbrev Jbf (A0 A1 A2 A3 A4 A5 A6 A7 A8 A9:Option Addr) (n0 n1 n2 n3 n4 n5 n6 n7 n8 n9:Nat) (T:Tt):Obj :=
 .cells #[.slice A0 T.st.length n0,.slice A1 T.ro.length n1,.slice A2 T.ca.length n2,.slice A3 T.ex.length n3,.slice A4 T.tr.length n4,.slice A5 T.fr.length n5,.slice A6 T.th.length n6,.slice A7 T.gu.length n7,.slice A8 T.pa.length n8,.slice A9 T.pr.length n9,.int .i64 T.di,.int .i64 T.wi,.int .i64 T.cp] 36 (0,0)
theorem Jpt {F_:Fm} {w W:World} {F:Nat} {R0:List (List Bs)} {A0 A1 A2 A3 A4 A5 A6 A7 A8 A9:Option Addr} {n0 n1 n2 n3 n4 n5 n6 n7 n8 n9:Nat} {T:Tt} (FW:Fw F_ w)
  (HL:S13.LstS w (.slice A0 T.st.length n0) T.st∧S15.LstR w (.slice A1 T.ro.length n1) T.ro∧S14.LstC w (.slice A2 T.ca.length n2) T.ca∧S14.LstX w (.slice A3 T.ex.length n3) T.ex∧Jcp w (.slice A4 T.tr.length n4) T.tr∧LstF w (.slice A5 T.fr.length n5) T.fr∧S19.LstH w (.slice A6 T.th.length n6) T.th∧S19.LstU w (.slice A7 T.gu.length n7) T.gu∧S20.LstF w (.slice A8 T.pa.length n8) T.pa∧S21.LstPd w (.slice A9 T.pr.length n9) T.pr) (V:Val T) (L:Lim T) (SH:Sht F_) (hR:R0.length≤900000) (hW:Wrs w F R0 W) :
  Calls prog 54 #[.pointer (some ⟨F,0,none⟩),.agg #[.slice A0 T.st.length n0,.slice A1 T.ro.length n1,.slice A2 T.ca.length n2,.slice A3 T.ex.length n3,.slice A4 T.tr.length n4,.slice A5 T.fr.length n5,.slice A6 T.th.length n6,.slice A7 T.gu.length n7,.slice A8 T.pa.length n8,.slice A9 T.pr.length n9,.int .i64 T.di,.int .i64 T.wi,.int .i64 T.cp]] W fun e w'=>e=.returned (.tuple #[])∧Wrs w F ((((R0++T.st.map (rSt F_))++T.ro.map (rRo))++T.ca.map (rCa F_))++T.ex.map (rEx F_ T)) w':=by
 suffices hs:∀Z:World→Prop,(∀w',Wrs w F ((((R0++T.st.map (rSt F_))++T.ro.map (rRo))++T.ca.map (rCa F_))++T.ex.map (rEx F_ T)) w'→Z w')→Calls prog 54 #[.pointer (some ⟨F,0,none⟩),.agg #[.slice A0 T.st.length n0,.slice A1 T.ro.length n1,.slice A2 T.ca.length n2,.slice A3 T.ex.length n3,.slice A4 T.tr.length n4,.slice A5 T.fr.length n5,.slice A6 T.th.length n6,.slice A7 T.gu.length n7,.slice A8 T.pa.length n8,.slice A9 T.pr.length n9,.int .i64 T.di,.int .i64 T.wi,.int .i64 T.cp]] W fun e w'=>e=.returned (.tuple #[])∧Z w' from hs _ (fun _ h=>h)
 intro Z hZ;have HZ:=Pe hZ;clear hZ;have FW:=Pe FW;have HH:=Pe HL;clear HL;obtain⟨w3,h3⟩:=Pi (W.alloc (Jbf A0 A1 A2 A3 A4 A5 A6 A7 A8 A9 n0 n1 n2 n3 n4 n5 n6 n7 n8 n9 T));have b3:Pn W w3:=Wam;have k3:w3.heap[W.heap.size]?=some (Jbf A0 A1 A2 A3 A4 A5 A6 A7 A8 A9 n0 n1 n2 n3 n4 n5 n6 n7 n8 n9 T):=Wal;have X0:Hid (Wrx w F R0 [(W.heap.size,Jbf A0 A1 A2 A3 A4 A5 A6 A7 A8 A9 n0 n1 n2 n3 n4 n5 n6 n7 n8 n9 T)] w3):=Pe (hW.x.more b3 Ph k3);have q0:w3.cell? ⟨W.heap.size,0,none⟩=some (.slice A0 T.st.length n0):=Wah;clear b3 k3 hW;go_enter func54,ntmps54;go_wp2_with fail;clear q0 h3;go_loopw [17] (fun i wr=>∃k:Nat,i=.int .i64 k∧k≤T.st.length∧Hid (Wrx w F (R0++(T.st.take k).map (rSt F_)) [(W.heap.size,Jbf A0 A1 A2 A3 A4 A5 A6 A7 A8 A9 n0 n1 n2 n3 n4 n5 n6 n7 n8 n9 T)] wr)) (fun i _=>T.st.length - (intOf i).toNat);case atStart=>exact⟨0,rfl,Nat.zero_le _,Pe Wak⟩
 case round =>
  obtain⟨k,rfl,hk,HX⟩:=hrel;by_cases hlt:k<T.st.length
  ·have gk:(k:Int)<(T.st.length:Int):=Kd
   have lb:=L.st;have RLB:(R0++(T.st.take k).map (rSt F_)).length≤1000000:=by
    have l0:=L.st;have l1:=L.ro;have l2:=L.ca;have l3:=L.ex;have l5:=L.fr;have l6:=L.th;have l7:=L.gu;have l8:=L.pa;have l9:=L.pr;have lk:=List.length_take_le k T.st;exact Waj
   obtain⟨⟨id,z,f,ch⟩,hx⟩:=Jah hlt;have hm:=List.mem_of_getElem? hx;obtain⟨⟨v0,v1⟩,v2,v3⟩:=V.st _ hm;dsimp only at v0 v1 v2 v3;have SR:=Pe (J73 V L SH hm);clear hm;obtain⟨nm,hnm⟩:=Pi (str id);obtain⟨b,o,rfl,hb,r0,r1,r2,r3⟩:=S13.four_at ((HH.out.1).below HX.out.base) hx hnm;obtain⟨w7,h7⟩:=Pi (wr.alloc (.cells #[.string nm,.int .i64 z,.bool f,.int .i64 ch] 112 (0,0)));have b7:Pn wr w7:=Wac;have k7:w7.heap[wr.heap.size]?=some (.cells #[.string nm,.int .i64 z,.bool f,.int .i64 ch] 112 (0,0)):=Wab;have l7:wr.heap.size<w7.heap.size:=(Pm k7).1;have Xw7:Hid (Wrx w F _ ([(W.heap.size,Jbf (some ⟨b,o,none⟩) A1 A2 A3 A4 A5 A6 A7 A8 A9 n0 n1 n2 n3 n4 n5 n6 n7 n8 n9 T)]++[(wr.heap.size,.cells #[.string nm,.int .i64 z,.bool f,.int .i64 ch] 112 (0,0))]) w7):=Pe (HX.out.more b7 Ph k7);obtain⟨w7d,hw7d⟩:=Pi (World.drew w7);have dw7d:Pn w7 w7d:=Waa;have Xw7d:=Pe (Xw7.out.on dw7d);have SF:Hid (∀(R:List (List Bs)) (X:World),Wrx w F R ([(W.heap.size,Jbf (some ⟨b,o,none⟩) A1 A2 A3 A4 A5 A6 A7 A8 A9 n0 n1 n2 n3 n4 n5 n6 n7 n8 n9 T)]++[(wr.heap.size,.cells #[.string nm,.int .i64 z,.bool f,.int .i64 ch] 112 (0,0))]) X→X.cell? ⟨wr.heap.size,0,none⟩=some (.string nm)∧X.cell? ⟨wr.heap.size,1,none⟩=some (.int .i64 z)∧X.cell? ⟨wr.heap.size,2,none⟩=some (.bool f)∧X.cell? ⟨wr.heap.size,3,none⟩=some (.int .i64 ch)):=Pe (fun R X hX=>⟨Gw,Gw,Gw,Gw⟩);clear dw7d;clear k7 b7;go_wp2_with fail;refine Jbg (S:=fun X=>X.cell? ⟨wr.heap.size,0,none⟩=some (.string nm)∧X.cell? ⟨wr.heap.size,1,none⟩=some (.int .i64 z)∧X.cell? ⟨wr.heap.size,2,none⟩=some (.bool f)∧X.cell? ⟨wr.heap.size,3,none⟩=some (.int .i64 ch)) _ 14 rfl Kk Kk Kk (Jbm 14 0) Kk Gz (fun _=>?_);first | rw [hw7d] | rw [h3,hw7d]
   refine Jbc (L:=[(0,21,pt F 0),(1,22,pt wr.heap.size 0),(2,23,.string nm),(3,24,pt wr.heap.size 1),(4,25,.int .i64 z),(6,27,pt wr.heap.size 2),(7,28,.bool f),(9,30,pt wr.heap.size 3),(10,31,.int .i64 ch)]) (.q (.q (.cons rfl rfl (.inl ⟨rfl,fun _ h=>Wag⟩) (.q (.cons rfl rfl (.inl ⟨rfl,fun _ h=>Wag⟩) (.q (.cons rfl rfl (.inl ⟨rfl,fun _ h=>Wag⟩) (.q (.cons rfl rfl (.inl ⟨rfl,fun _ h=>Wag⟩) .nil))))))))) [0,1,2,3,4,6,7,9,10] rfl rfl Kk (fun _ _ _ _ _ h=>h) (SF.out _ _ Xw7d.out) ?_;have bw7d:=Below.refl w7d.heap.size w7d;refine Jb6 (i:=5) (R:=fun u X=>u=.string (str (F_.numT z))∧Pn w7d X) 26 _ rfl Kk rfl rfl rfl Kk ((FW.out.num z v0 v1 w7d (Xw7d.out.base.trans (bw7d.mono Xw7d.out.base.size))).mono fun e w' h=>⟨_,h.1,rfl,h.2⟩) ?_;rintro u w7d_0 ⟨rfl,cw7d_0⟩;have bw7d_0:=bw7d.trans (cw7d_0.mono bw7d.size);refine⟨SF.out _ _ (Xw7d.out.on bw7d_0),?_⟩;refine Jb6 (i:=8) (R:=fun u X=>u=.string (str (flgT f))∧Pn w7d_0 X) 29 _ rfl Kk rfl rfl rfl Kk ((Jgx f w7d_0).mono fun e w' h=>⟨_,h.1,rfl,Wan⟩) ?_;rintro u w7d_1 ⟨rfl,cw7d_1⟩;have bw7d_1:=bw7d_0.trans (cw7d_1.mono bw7d_0.size);refine⟨SF.out _ _ (Xw7d.out.on bw7d_1),?_⟩;refine Jb6 (i:=11) (R:=fun u X=>u=.string (str (F_.numT ch))∧Pn w7d_1 X) 32 _ rfl Kk rfl rfl rfl Kk ((FW.out.num ch v2 v3 w7d_1 (Xw7d.out.base.trans (bw7d_1.mono Xw7d.out.base.size))).mono fun e w' h=>⟨_,h.1,rfl,h.2⟩) ?_;rintro u w7d_2 ⟨rfl,cw7d_2⟩;have bw7d_2:=bw7d_1.trans (cw7d_2.mono bw7d_1.size);refine⟨SF.out _ _ (Xw7d.out.on bw7d_2),?_⟩;obtain⟨w7ds,hw7ds⟩:=Pi (w7d_2.alloc (.cells #[.string (str wSt),.string nm,.string (str (F_.numT z)),.string (str (flgT f)),.string (str (F_.numT ch))] 9 (0,0)));have cw7ds:Pn w7d_2 w7ds:=Gy;have bw7ds:=bw7d_2.trans (cw7ds.mono bw7d_2.size);have LL:Lst w7ds (.slice (some ⟨w7d_2.heap.size,0,none⟩) 5 5) (rSt F_ (id,z,f,ch)):=by
    rw [←hw7ds];exact Jci w7d_2 #[.string (str wSt),.string nm,.string (str (F_.numT z)),.string (str (flgT f)),.string (str (F_.numT ch))] (rSt F_ (id,z,f,ch)) Waw 5 rfl
   refine Je1 (i:=12) (v:=.slice (some ⟨w7d_2.heap.size,0,none⟩) 5 5) (w':=w7ds) 33 _ rfl Kk rfl rfl rfl Waf (SF.out _ _ (Xw7d.out.on bw7ds)) rfl ?_;refine Jhz (i:=13) 34 _ rfl Kk rfl rfl Kk Kk (Jdg (Xw7d.out.on bw7ds) RLB _ _ LL (SR.out)) ?_;intro wz hz;refine⟨SF.out _ _ hz,?_⟩;refine Jcf Kk ?_;have HZ2:=Pe hz.less;clear hz;go_wp2_with fail;go_roundw;case rel=>exact⟨k+1,Kg,Kd,Pe Wae⟩
   case measure=>exact Qz
  ·have d:decide (k<T.st.length)=false:=Kb
   have X1:Hid (Wrx w F (R0++T.st.map (rSt F_)) [(W.heap.size,Jbf A0 A1 A2 A3 A4 A5 A6 A7 A8 A9 n0 n1 n2 n3 n4 n5 n6 n7 n8 n9 T)] wr):=Pe Gx;have q0:wr.cell? ⟨W.heap.size,1,none⟩=some (.slice A1 T.ro.length n1):=Wav;clear HX hlt hk;go_wp2_with fail;clear q0 d;go_loopw [39] (fun i wr=>∃k:Nat,i=.int .i64 k∧k≤T.ro.length∧Hid (Wrx w F (R0++T.st.map (rSt F_)++(T.ro.take k).map (rRo)) [(W.heap.size,Jbf A0 A1 A2 A3 A4 A5 A6 A7 A8 A9 n0 n1 n2 n3 n4 n5 n6 n7 n8 n9 T)] wr)) (fun i _=>T.ro.length - (intOf i).toNat);case atStart=>exact⟨0,rfl,Nat.zero_le _,Pe Wau⟩
   case round =>
    obtain⟨k,rfl,hk,HX⟩:=hrel;by_cases hlt:k<T.ro.length
    ·have gk:(k:Int)<(T.ro.length:Int):=Kd
     have lb:=L.ro;have RLB:(R0++T.st.map (rSt F_)++(T.ro.take k).map (rRo)).length≤1000000:=by
      have l0:=L.st;have l1:=L.ro;have l2:=L.ca;have l3:=L.ex;have l5:=L.fr;have l6:=L.th;have l7:=L.gu;have l8:=L.pa;have l9:=L.pr;have lk:=List.length_take_le k T.ro;exact Waj
     obtain⟨⟨id,mo,f⟩,hx⟩:=Jah hlt;have hm:=List.mem_of_getElem? hx;obtain⟨v0,v1⟩:=V.ro _ hm;dsimp only at v0 v1;have SR:=Pe (J8b L hm);clear hm;obtain⟨mo,q0⟩:∃m:Nat,mo=(m:Int):=⟨mo.toNat,Kd⟩;subst q0;obtain⟨nm,hnm⟩:=Pi (str id);obtain⟨b,o,rfl,hb,r0,r1,r2⟩:=S15.three_at ((HH.out.2.1).below HX.out.base) hx hnm;obtain⟨w7,h7⟩:=Pi (wr.alloc (.cells #[.string nm,.int .i64 (mo:Int),.bool f] 114 (0,0)));have b7:Pn wr w7:=Wac;have k7:w7.heap[wr.heap.size]?=some (.cells #[.string nm,.int .i64 (mo:Int),.bool f] 114 (0,0)):=Wab;have l7:wr.heap.size<w7.heap.size:=(Pm k7).1;have Xw7:Hid (Wrx w F _ ([(W.heap.size,Jbf A0 (some ⟨b,o,none⟩) A2 A3 A4 A5 A6 A7 A8 A9 n0 n1 n2 n3 n4 n5 n6 n7 n8 n9 T)]++[(wr.heap.size,.cells #[.string nm,.int .i64 (mo:Int),.bool f] 114 (0,0))]) w7):=Pe (HX.out.more b7 Ph k7);have e1:w7.cell? ⟨wr.heap.size,1,none⟩=some (.int .i64 (mo:Int)):=by rw [cell_of_row _ _ _ _ _ _ k7];rfl
     have CM:=Pe (FW.out.mode mo Kd w7 Xw7.out.base);have HK:=Pe k7;clear k7 b7;go_wp2_with fail;refine CM.out.mono ?_;rintro e w9 ⟨rfl,b9⟩;have k7:=(b9.block _ l7).trans HK.out;have Xw9:=Pe (Xw7.out.on b9);have l9:=Pr l7 b9.size;clear b9 CM e1;obtain⟨w9d,hw9d⟩:=Pi (World.drew w9);have dw9d:Pn w9 w9d:=by rw [←hw9d];exact (Below.refl _ _).drew
     have Xw9d:=Pe (Xw9.out.on dw9d);have SF:Hid (∀(R:List (List Bs)) (X:World),Wrx w F R ([(W.heap.size,Jbf A0 (some ⟨b,o,none⟩) A2 A3 A4 A5 A6 A7 A8 A9 n0 n1 n2 n3 n4 n5 n6 n7 n8 n9 T)]++[(wr.heap.size,.cells #[.string nm,.int .i64 (mo:Int),.bool f] 114 (0,0))]) X→X.cell? ⟨wr.heap.size,0,none⟩=some (.string nm)∧X.cell? ⟨wr.heap.size,2,none⟩=some (.bool f)):=Pe (fun R X hX=>⟨Gw,Gw⟩);clear dw9d;clear k7;go_wp2_with fail;refine Jbg (S:=fun X=>X.cell? ⟨wr.heap.size,0,none⟩=some (.string nm)∧X.cell? ⟨wr.heap.size,2,none⟩=some (.bool f)) _ 9 rfl Kk Kk Kk (Jbm 9 0) Kk Wat (fun _=>?_);first | rw [hw9d] | rw [h3,hw9d]
     refine Jbc (L:=[(0,49,pt F 0),(1,50,pt wr.heap.size 0),(2,51,.string nm),(3,52,.string (str (nmR mo))),(4,53,pt wr.heap.size 2),(5,54,.bool f)]) (.q (.q (.cons rfl rfl (.inl ⟨rfl,fun _ h=>Was⟩) (.q (.q (.cons rfl rfl (.inl ⟨rfl,fun _ h=>Was⟩) .nil)))))) [0,1,2,3,4,5] rfl rfl Kk (fun _ _ _ _ _ h=>h) (SF.out _ _ Xw9d.out) ?_;have bw9d:=Below.refl w9d.heap.size w9d;refine Jb6 (i:=6) (R:=fun u X=>u=.string (str (flgT f))∧Pn w9d X) 55 _ rfl Kk rfl rfl rfl Kk ((Jgx f w9d).mono fun e w' h=>⟨_,h.1,rfl,Wan⟩) ?_;rintro u w9d_0 ⟨rfl,cw9d_0⟩;have bw9d_0:=bw9d.trans (cw9d_0.mono bw9d.size);refine⟨SF.out _ _ (Xw9d.out.on bw9d_0),?_⟩;obtain⟨w9ds,hw9ds⟩:=Pi (w9d_0.alloc (.cells #[.string (str wRo),.string nm,.string (str (nmR mo)),.string (str (flgT f))] 9 (0,0)));have cw9ds:Pn w9d_0 w9ds:=Wax;have bw9ds:=bw9d_0.trans (cw9ds.mono bw9d_0.size);have LL:Lst w9ds (.slice (some ⟨w9d_0.heap.size,0,none⟩) 4 4) (rRo (id,(mo:Int),f)):=by
      rw [←hw9ds];exact Jci w9d_0 #[.string (str wRo),.string nm,.string (str (nmR mo)),.string (str (flgT f))] (rRo (id,(mo:Int),f)) Waw 4 rfl
     refine Je1 (i:=7) (v:=.slice (some ⟨w9d_0.heap.size,0,none⟩) 4 4) (w':=w9ds) 56 _ rfl Kk rfl rfl rfl (by rw [←hw9ds];kernel_rfl) (SF.out _ _ (Xw9d.out.on bw9ds)) rfl ?_;refine Jhz (i:=8) 57 _ rfl Kk rfl rfl Kk Kk (Jdg (Xw9d.out.on bw9ds) RLB _ _ LL (SR.out)) ?_;intro wz hz;refine⟨SF.out _ _ hz,?_⟩;refine Jcf Kk ?_;have HZ2:=Pe hz.less;clear hz;go_wp2_with fail;go_roundw;case rel=>exact⟨k+1,Kg,Kd,Pe Wae⟩
     case measure=>exact Qz
    ·have d:decide (k<T.ro.length)=false:=Kb
     have X2:Hid (Wrx w F (R0++T.st.map (rSt F_)++T.ro.map (rRo)) [(W.heap.size,Jbf A0 A1 A2 A3 A4 A5 A6 A7 A8 A9 n0 n1 n2 n3 n4 n5 n6 n7 n8 n9 T)] wr):=Pe Gx;have q0:wr.cell? ⟨W.heap.size,2,none⟩=some (.slice A2 T.ca.length n2):=War;clear HX hlt hk;go_wp2_with fail;clear q0 d;go_loopw [62] (fun i wr=>∃k:Nat,i=.int .i64 k∧k≤T.ca.length∧Hid (Wrx w F (R0++T.st.map (rSt F_)++T.ro.map (rRo)++(T.ca.take k).map (rCa F_)) [(W.heap.size,Jbf A0 A1 A2 A3 A4 A5 A6 A7 A8 A9 n0 n1 n2 n3 n4 n5 n6 n7 n8 n9 T)] wr)) (fun i _=>T.ca.length - (intOf i).toNat);case atStart=>exact⟨0,rfl,Nat.zero_le _,Pe Waq⟩
     case round =>
      obtain⟨k,rfl,hk,HX⟩:=hrel;by_cases hlt:k<T.ca.length
      ·have gk:(k:Int)<(T.ca.length:Int):=Kd
       have lb:=L.ca;have RLB:(R0++T.st.map (rSt F_)++T.ro.map (rRo)++(T.ca.take k).map (rCa F_)).length≤1000000:=by
        have l0:=L.st;have l1:=L.ro;have l2:=L.ca;have l3:=L.ex;have l5:=L.fr;have l6:=L.th;have l7:=L.gu;have l8:=L.pa;have l9:=L.pr;have lk:=List.length_take_le k T.ca;exact Waj
       obtain⟨⟨id,wd,fm,te⟩,hx⟩:=Jah hlt;have hm:=List.mem_of_getElem? hx;obtain⟨⟨v0,v1⟩,v2,v3⟩:=V.ca _ hm;dsimp only at v0 v1 v2 v3;have SR:=Pe (J74 V L SH hm);clear hm;obtain⟨nm,hnm⟩:=Pi (str id);obtain⟨b,o,rfl,hb,r0,mk,r8,r9⟩:=S14.ten_at ((HH.out.2.2.1).below HX.out.base) hx hnm;have r1:wr.cell? ⟨b,o+k*10+1,none⟩=some (.bool (wd 0)):=mk 0 Kd;have r2:wr.cell? ⟨b,o+k*10+2,none⟩=some (.bool (wd 1)):=mk 1 Kd;have r3:wr.cell? ⟨b,o+k*10+3,none⟩=some (.bool (wd 2)):=mk 2 Kd;have r4:wr.cell? ⟨b,o+k*10+4,none⟩=some (.bool (wd 3)):=mk 3 Kd;have r5:wr.cell? ⟨b,o+k*10+5,none⟩=some (.bool (wd 4)):=mk 4 Kd;have r6:wr.cell? ⟨b,o+k*10+6,none⟩=some (.bool (wd 5)):=mk 5 Kd;have r7:wr.cell? ⟨b,o+k*10+7,none⟩=some (.bool (wd 6)):=mk 6 Kd;obtain⟨w7,h7⟩:=Pi (wr.alloc (.cells #[.string nm,.bool (wd 0),.bool (wd 1),.bool (wd 2),.bool (wd 3),.bool (wd 4),.bool (wd 5),.bool (wd 6),.int .i64 fm,.int .i64 te] 61 (0,0)));have b7:Pn wr w7:=Wac;have k7:w7.heap[wr.heap.size]?=some (.cells #[.string nm,.bool (wd 0),.bool (wd 1),.bool (wd 2),.bool (wd 3),.bool (wd 4),.bool (wd 5),.bool (wd 6),.int .i64 fm,.int .i64 te] 61 (0,0)):=Wab;have l7:wr.heap.size<w7.heap.size:=(Pm k7).1;have Xw7:Hid (Wrx w F _ ([(W.heap.size,Jbf A0 A1 (some ⟨b,o,none⟩) A3 A4 A5 A6 A7 A8 A9 n0 n1 n2 n3 n4 n5 n6 n7 n8 n9 T)]++[(wr.heap.size,.cells #[.string nm,.bool (wd 0),.bool (wd 1),.bool (wd 2),.bool (wd 3),.bool (wd 4),.bool (wd 5),.bool (wd 6),.int .i64 fm,.int .i64 te] 61 (0,0))]) w7):=Pe (HX.out.more b7 Ph k7);obtain⟨w7d,hw7d⟩:=Pi (World.drew w7);have dw7d:Pn w7 w7d:=Waa;have Xw7d:=Pe (Xw7.out.on dw7d);have SF:Hid (∀(R:List (List Bs)) (X:World),Wrx w F R ([(W.heap.size,Jbf A0 A1 (some ⟨b,o,none⟩) A3 A4 A5 A6 A7 A8 A9 n0 n1 n2 n3 n4 n5 n6 n7 n8 n9 T)]++[(wr.heap.size,.cells #[.string nm,.bool (wd 0),.bool (wd 1),.bool (wd 2),.bool (wd 3),.bool (wd 4),.bool (wd 5),.bool (wd 6),.int .i64 fm,.int .i64 te] 61 (0,0))]) X→X.cell? ⟨wr.heap.size,0,none⟩=some (.string nm)∧X.cell? ⟨wr.heap.size,1,none⟩=some (.bool (wd 0))∧X.cell? ⟨wr.heap.size,2,none⟩=some (.bool (wd 1))∧X.cell? ⟨wr.heap.size,3,none⟩=some (.bool (wd 2))∧X.cell? ⟨wr.heap.size,4,none⟩=some (.bool (wd 3))∧X.cell? ⟨wr.heap.size,5,none⟩=some (.bool (wd 4))∧X.cell? ⟨wr.heap.size,6,none⟩=some (.bool (wd 5))∧X.cell? ⟨wr.heap.size,7,none⟩=some (.bool (wd 6))∧X.cell? ⟨wr.heap.size,8,none⟩=some (.int .i64 fm)∧X.cell? ⟨wr.heap.size,9,none⟩=some (.int .i64 te)):=Pe (fun R X hX=>⟨Gw,Gw,Gw,Gw,Gw,Gw,Gw,Gw,Gw,Gw⟩);clear dw7d;clear k7 b7;go_wp2_with fail;refine Jbg (S:=fun X=>X.cell? ⟨wr.heap.size,0,none⟩=some (.string nm)∧X.cell? ⟨wr.heap.size,1,none⟩=some (.bool (wd 0))∧X.cell? ⟨wr.heap.size,2,none⟩=some (.bool (wd 1))∧X.cell? ⟨wr.heap.size,3,none⟩=some (.bool (wd 2))∧X.cell? ⟨wr.heap.size,4,none⟩=some (.bool (wd 3))∧X.cell? ⟨wr.heap.size,5,none⟩=some (.bool (wd 4))∧X.cell? ⟨wr.heap.size,6,none⟩=some (.bool (wd 5))∧X.cell? ⟨wr.heap.size,7,none⟩=some (.bool (wd 6))∧X.cell? ⟨wr.heap.size,8,none⟩=some (.int .i64 fm)∧X.cell? ⟨wr.heap.size,9,none⟩=some (.int .i64 te)) _ 14 rfl Kk Kk Kk (Jbm 14 0) Kk Gz (fun _=>?_);first | rw [hw7d] | rw [h3,hw7d]
       refine Jbc (L:=[(0,66,pt F 0),(1,67,pt wr.heap.size 0),(2,68,.string nm),(3,69,pt wr.heap.size 1),(4,70,.agg #[.bool (wd 0),.bool (wd 1),.bool (wd 2),.bool (wd 3),.bool (wd 4),.bool (wd 5),.bool (wd 6)]),(6,72,pt wr.heap.size 8),(7,73,.int .i64 fm),(9,75,pt wr.heap.size 9),(10,76,.int .i64 te)]) (.q (.q (.cons rfl rfl (.inl ⟨rfl,fun _ h=>Wad⟩) (.q (.cons rfl rfl (.inl ⟨rfl,fun _ h=>Wad⟩) (.q (.cons rfl rfl (.inl ⟨rfl,fun _ h=>Wad⟩) (.q (.cons rfl rfl (.inl ⟨rfl,fun _ h=>Wad⟩) .nil))))))))) [0,1,2,3,4,6,7,9,10] rfl rfl Kk (fun _ _ _ _ _ h=>h) (SF.out _ _ Xw7d.out) ?_;have bw7d:=Below.refl w7d.heap.size w7d;refine Jb6 (i:=5) (R:=fun u X=>u=.string (str (wkT wd))∧Pn w7d X) 71 _ rfl Kk rfl rfl rfl Kk ((J16 wd w7d).mono fun e w' h=>⟨_,h.1,rfl,h.2⟩) ?_;rintro u w7d_0 ⟨rfl,cw7d_0⟩;have bw7d_0:=bw7d.trans (cw7d_0.mono bw7d.size);refine⟨SF.out _ _ (Xw7d.out.on bw7d_0),?_⟩;refine Jb6 (i:=8) (R:=fun u X=>u=.string (str (F_.dayT fm))∧Pn w7d_0 X) 74 _ rfl Kk rfl rfl rfl Kk ((Jm1 (FW.out.day fm v0 v1 w7d_0 (Xw7d.out.base.trans (bw7d_0.mono Xw7d.out.base.size)))).mono fun e w' h=>⟨_,h.1,rfl,h.2⟩) ?_;rintro u w7d_1 ⟨rfl,cw7d_1⟩;have bw7d_1:=bw7d_0.trans (cw7d_1.mono bw7d_0.size);refine⟨SF.out _ _ (Xw7d.out.on bw7d_1),?_⟩;refine Jb6 (i:=11) (R:=fun u X=>u=.string (str (F_.dayT te))∧Pn w7d_1 X) 77 _ rfl Kk rfl rfl rfl Kk ((Jm1 (FW.out.day te v2 v3 w7d_1 (Xw7d.out.base.trans (bw7d_1.mono Xw7d.out.base.size)))).mono fun e w' h=>⟨_,h.1,rfl,h.2⟩) ?_;rintro u w7d_2 ⟨rfl,cw7d_2⟩;have bw7d_2:=bw7d_1.trans (cw7d_2.mono bw7d_1.size);refine⟨SF.out _ _ (Xw7d.out.on bw7d_2),?_⟩;obtain⟨w7ds,hw7ds⟩:=Pi (w7d_2.alloc (.cells #[.string (str wCa),.string nm,.string (str (wkT wd)),.string (str (F_.dayT fm)),.string (str (F_.dayT te))] 9 (0,0)));have cw7ds:Pn w7d_2 w7ds:=Gy;have bw7ds:=bw7d_2.trans (cw7ds.mono bw7d_2.size);have LL:Lst w7ds (.slice (some ⟨w7d_2.heap.size,0,none⟩) 5 5) (rCa F_ (id,wd,fm,te)):=by
        rw [←hw7ds];exact Jci w7d_2 #[.string (str wCa),.string nm,.string (str (wkT wd)),.string (str (F_.dayT fm)),.string (str (F_.dayT te))] (rCa F_ (id,wd,fm,te)) Waw 5 rfl
       refine Je1 (i:=12) (v:=.slice (some ⟨w7d_2.heap.size,0,none⟩) 5 5) (w':=w7ds) 78 _ rfl Kk rfl rfl rfl Waf (SF.out _ _ (Xw7d.out.on bw7ds)) rfl ?_;refine Jhz (i:=13) 79 _ rfl Kk rfl rfl Kk Kk (Jdg (Xw7d.out.on bw7ds) RLB _ _ LL (SR.out)) ?_;intro wz hz;refine⟨SF.out _ _ hz,?_⟩;refine Jcf Kk ?_;have HZ2:=Pe hz.less;clear hz;go_wp2_with fail;go_roundw;case rel=>exact⟨k+1,Kg,Kd,Pe Wae⟩
       case measure=>exact Qz
      ·have d:decide (k<T.ca.length)=false:=Kb
       have X3:Hid (Wrx w F (R0++T.st.map (rSt F_)++T.ro.map (rRo)++T.ca.map (rCa F_)) [(W.heap.size,Jbf A0 A1 A2 A3 A4 A5 A6 A7 A8 A9 n0 n1 n2 n3 n4 n5 n6 n7 n8 n9 T)] wr):=Pe Gx;have q0:wr.cell? ⟨W.heap.size,3,none⟩=some (.slice A3 T.ex.length n3):=Wap;clear HX hlt hk;go_wp2_with fail;clear q0 d;go_loopw [84] (fun i wr=>∃k:Nat,i=.int .i64 k∧k≤T.ex.length∧Hid (Wrx w F (R0++T.st.map (rSt F_)++T.ro.map (rRo)++T.ca.map (rCa F_)++(T.ex.take k).map (rEx F_ T)) [(W.heap.size,Jbf A0 A1 A2 A3 A4 A5 A6 A7 A8 A9 n0 n1 n2 n3 n4 n5 n6 n7 n8 n9 T)] wr)) (fun i _=>T.ex.length - (intOf i).toNat);case atStart=>exact⟨0,rfl,Nat.zero_le _,Pe Wao⟩
       case round =>
        obtain⟨k,rfl,hk,HX⟩:=hrel;by_cases hlt:k<T.ex.length
        ·have gk:(k:Int)<(T.ex.length:Int):=Kd
         have lb:=L.ex;have RLB:(R0++T.st.map (rSt F_)++T.ro.map (rRo)++T.ca.map (rCa F_)++(T.ex.take k).map (rEx F_ T)).length≤1000000:=by
          have l0:=L.st;have l1:=L.ro;have l2:=L.ca;have l3:=L.ex;have l5:=L.fr;have l6:=L.th;have l7:=L.gu;have l8:=L.pa;have l9:=L.pr;have lk:=List.length_take_le k T.ex;exact Waj
         obtain⟨⟨ci,dy,ad⟩,hx⟩:=Jah hlt;have hm:=List.mem_of_getElem? hx;obtain⟨⟨v0,v1⟩,v2,v3⟩:=V.ex _ hm;dsimp only at v0 v1 v2 v3;have SR:=Pe (J75 V L SH hm);clear hm;obtain⟨m1,q1⟩:∃m:Nat,ci=(m:Int):=⟨ci.toNat,Kd⟩;subst q1;obtain⟨⟨z1_0,z1_1,z1_2,z1_3⟩,hx1⟩:=Jah (l:=T.ca) (k:=m1) Kd;have a1:=Jdh (f:=fun x=>x.1) (rfl:(m1:Int)=(m1:Int)) hx1;dsimp only at a1;obtain⟨nm1,hnm1⟩:=Pi (str z1_0);obtain⟨b1,o1,rfl,hb1,y1,-⟩:=S14.ten_at HH.out.2.2.1 hx1 hnm1;obtain⟨b,o,rfl,hb,r0,r1,r2⟩:=S14.three_at ((HH.out.2.2.2.1).below HX.out.base) hx;obtain⟨w7,h7⟩:=Pi (wr.alloc (.cells #[.int .i64 (m1:Int),.int .i64 dy,.bool ad] 116 (0,0)));have b7:Pn wr w7:=Wac;have k7:w7.heap[wr.heap.size]?=some (.cells #[.int .i64 (m1:Int),.int .i64 dy,.bool ad] 116 (0,0)):=Wab;have l7:wr.heap.size<w7.heap.size:=(Pm k7).1;have Xw7:Hid (Wrx w F _ ([(W.heap.size,Jbf A0 A1 (some ⟨b1,o1,none⟩) (some ⟨b,o,none⟩) A4 A5 A6 A7 A8 A9 n0 n1 n2 n3 n4 n5 n6 n7 n8 n9 T)]++[(wr.heap.size,.cells #[.int .i64 (m1:Int),.int .i64 dy,.bool ad] 116 (0,0))]) w7):=Pe (HX.out.more b7 Ph k7);obtain⟨w7d,hw7d⟩:=Pi (World.drew w7);have dw7d:Pn w7 w7d:=Waa;have Xw7d:=Pe (Xw7.out.on dw7d);have SF:Hid (∀(R:List (List Bs)) (X:World),Wrx w F R ([(W.heap.size,Jbf A0 A1 (some ⟨b1,o1,none⟩) (some ⟨b,o,none⟩) A4 A5 A6 A7 A8 A9 n0 n1 n2 n3 n4 n5 n6 n7 n8 n9 T)]++[(wr.heap.size,.cells #[.int .i64 (m1:Int),.int .i64 dy,.bool ad] 116 (0,0))]) X→X.cell? ⟨W.heap.size,2,none⟩=some (.slice (some ⟨b1,o1,none⟩) T.ca.length n2)∧X.cell? ⟨wr.heap.size,0,none⟩=some (.int .i64 (m1:Int))∧X.cell? ⟨b1,o1+m1*10,none⟩=some (.string nm1)∧X.cell? ⟨wr.heap.size,1,none⟩=some (.int .i64 dy)∧X.cell? ⟨wr.heap.size,2,none⟩=some (.bool ad)):=Pe (fun R X hX=>⟨G0,Gw,(hX.base.cell (p:=⟨b1,o1+m1*10,none⟩) hb1).trans y1,Gw,Gw⟩);clear dw7d;clear k7 b7;go_wp2_with fail;refine Jbg (S:=fun X=>X.cell? ⟨W.heap.size,2,none⟩=some (.slice (some ⟨b1,o1,none⟩) T.ca.length n2)∧X.cell? ⟨wr.heap.size,0,none⟩=some (.int .i64 (m1:Int))∧X.cell? ⟨b1,o1+m1*10,none⟩=some (.string nm1)∧X.cell? ⟨wr.heap.size,1,none⟩=some (.int .i64 dy)∧X.cell? ⟨wr.heap.size,2,none⟩=some (.bool ad)) _ 16 rfl Kk Kk Kk (Jbm 16 0) Kk Gz (fun _=>?_);first | rw [hw7d] | rw [h3,hw7d]
         refine Jbc (L:=[(0,88,pt F 0),(1,89,pt W.heap.size 2),(2,90,.slice (some ⟨b1,o1,none⟩) T.ca.length n2),(3,91,pt wr.heap.size 0),(4,92,.int .i64 (m1:Int)),(5,93,pt b1 (o1+m1*10)),(6,94,pt b1 (o1+m1*10)),(7,95,.string nm1),(8,96,pt wr.heap.size 1),(9,97,.int .i64 dy),(11,99,pt wr.heap.size 2),(12,100,.bool ad)]) (.q (.q (.cons rfl rfl (.inl ⟨rfl,fun _ h=>Gv⟩) (.q (.cons rfl rfl (.inl ⟨rfl,fun _ h=>Gv⟩) (.cons rfl rfl (.inl ⟨rfl,fun _ _=>Jax 25 61 (.tmp 90) (.tmp 92) Kk b1 o1 T.ca.length n2 m1 10 Kk Kk Kd underlying25 (fun w=>by simp [sizeOf61])⟩) (.q (.cons rfl rfl (.inl ⟨rfl,fun _ h=>Gv⟩) (.q (.cons rfl rfl (.inl ⟨rfl,fun _ h=>Gv⟩) (.q (.cons rfl rfl (.inl ⟨rfl,fun _ h=>Gv⟩) .nil)))))))))))) [0,1,2,3,4,5,6,7,8,9,11,12] rfl rfl Kk (fun _ _ _ _ _ h=>h) (SF.out _ _ Xw7d.out) ?_;have bw7d:=Below.refl w7d.heap.size w7d;refine Jb6 (i:=10) (R:=fun u X=>u=.string (str (F_.dayT dy))∧Pn w7d X) 98 _ rfl Kk rfl rfl rfl Kk ((Jm1 (FW.out.day dy v2 v3 w7d (Xw7d.out.base.trans (bw7d.mono Xw7d.out.base.size)))).mono fun e w' h=>⟨_,h.1,rfl,h.2⟩) ?_;rintro u w7d_0 ⟨rfl,cw7d_0⟩;have bw7d_0:=bw7d.trans (cw7d_0.mono bw7d.size);refine⟨SF.out _ _ (Xw7d.out.on bw7d_0),?_⟩;refine Jb6 (i:=13) (R:=fun u X=>u=.string (str (if ad then wAdd else wRem))∧Pn w7d_0 X) 101 _ rfl Kk rfl rfl rfl Kk ((Jlf ad (str wAdd) (str wRem) w7d_0).mono fun e w' h=>⟨_,h.1,by cases ad <;> rfl,Wan⟩) ?_;rintro u w7d_1 ⟨rfl,cw7d_1⟩;have bw7d_1:=bw7d_0.trans (cw7d_1.mono bw7d_0.size);refine⟨SF.out _ _ (Xw7d.out.on bw7d_1),?_⟩;obtain⟨w7ds,hw7ds⟩:=Pi (w7d_1.alloc (.cells #[.string (str wEx),.string nm1,.string (str (F_.dayT dy)),.string (str (if ad then wAdd else wRem))] 9 (0,0)));have cw7ds:Pn w7d_1 w7ds:=Gy;have bw7ds:=bw7d_1.trans (cw7ds.mono bw7d_1.size);have LL:Lst w7ds (.slice (some ⟨w7d_1.heap.size,0,none⟩) 4 4) (rEx F_ T ((m1:Int),dy,ad)):=by
          rw [←hw7ds];exact Jci w7d_1 #[.string (str wEx),.string nm1,.string (str (F_.dayT dy)),.string (str (if ad then wAdd else wRem))] (rEx F_ T ((m1:Int),dy,ad)) (by rw [←hnm1,←a1];rfl) 4 rfl
         refine Je1 (i:=14) (v:=.slice (some ⟨w7d_1.heap.size,0,none⟩) 4 4) (w':=w7ds) 102 _ rfl Kk rfl rfl rfl Waf (SF.out _ _ (Xw7d.out.on bw7ds)) rfl ?_;refine Jhz (i:=15) 103 _ rfl Kk rfl rfl Kk Kk (Jdg (Xw7d.out.on bw7ds) RLB _ _ LL (SR.out)) ?_;intro wz hz;refine⟨SF.out _ _ hz,?_⟩;refine Jcf Kk ?_;have HZ2:=Pe hz.less;clear hz;go_wp2_with fail;go_roundw;case rel=>exact⟨k+1,Kg,Kd,Pe Wae⟩
         case measure=>exact Qz
        ·have d:decide (k<T.ex.length)=false:=Kb
         have X4:Hid (Wrx w F (R0++T.st.map (rSt F_)++T.ro.map (rRo)++T.ca.map (rCa F_)++T.ex.map (rEx F_ T)) [(W.heap.size,Jbf A0 A1 A2 A3 A4 A5 A6 A7 A8 A9 n0 n1 n2 n3 n4 n5 n6 n7 n8 n9 T)] wr):=Pe Gx;have HE:=Pe (HZ.out _ X4.out.none);exact Wai
end
end Go.Proofs.YtpifdbphmnifdaaGreatDoor
