/-
  Facts of the proof. Condition: each theorem's own.
-/
import Derived.Test.YtpifdbphmnifdaaGreatDoorYI17
import Derived.Test.YtpifdbphmnifdaaGreatDoorYI18
set_option maxRecDepth 100000
set_option maxHeartbeats 8000000
open Go.Proofs.Tryz
namespace Go.Proofs.YtpifdbphmnifdaaGreatDoor
section
open Go.RowKit
def tyT:Nat→TypeId×Nat
 | 0=>(112,4)
 | 1=>(114,3)
 | 2=>(61,10)
 | 3=>(116,3)
 | 4=>(56,5)
 | 5=>(118,4)
 | 6=>(120,2)
 | 7=>(122,3)
 | 8=>(63,4)
 | 9=>(65,6)
 | _=>(112,0)
def xsT (U:Tt):Nat→List Value
 | 0=>fl S13.se U.st
 | 1=>fl S15.re U.ro
 | 2=>fl S14.ce U.ca
 | 3=>fl S14.xe U.ex
 | 4=>fl te U.tr
 | 5=>fl fe U.fr
 | 6=>fl S19.hh U.th
 | 7=>fl S19.gg U.gu
 | 8=>fl S20.fe U.pa
 | 9=>fl S21.pdE U.pr
 | _=>[]
def idsT (U:Tt):Nat→List Bs
 | 0=>Ja8 U
 | 1=>Jcc U
 | 2=>Jbn U
 | _=>Jbh U
def rowC (w0:World) (x:Tp):Tng:=tRow w0.heap.size ⟨58,5,x.2.2.2.2.1,x.2.2.2.2.2.length,fl cc x.2.2.2.2.2⟩
structure Pt (w0:World) (vs:List Value) (ts:List Tng) (T U:Tt) (N:Nat):Prop where
 cop:CopT T U
 tabs:∀i,i<10→∃v,Tbl w0 vs ts i (tyT i).1 (tyT i).2 v (lenP U i) (xsT U i)
 di:vs[12]?=some (.int .i64 U.di)
 wi:vs[13]?=some (.int .i64 U.wi)
 cp:vs[14]?=some (.int .i64 U.cp)
 ix:∀j,j<4→∃B,Ix vs ts j B (idsT U j)
 calls:∀(j:Nat) (x:Tp),U.tr[j]?=some x→ts[28+j]?=some (rowC w0 x)
 tlen:ts.length=28+U.tr.length
 vlen:vs.length=21
 few:∀i,i<10→lenP U i≤N
 fewc:∀x∈U.tr,x.2.2.2.2.2.length≤N
section
variable {w0:World} {vs vs':List Value} {ts ts':List Tng} {T T' U U':Tt} {N:Nat}
theorem Tbl.keep {i:Nat} {t:TypeId} {k n:Nat} {v:Value} {xs:List Value} (h:Tbl w0 vs ts i t k v n xs) (h1:vs'[2+i]?=vs[2+i]?) (h2:ts'[i]?=ts[i]?):Tbl w0 vs' ts' i t k v n xs:=⟨h1.trans h.cell,h2.trans h.row,h.few⟩
theorem Ix.keep {j B:Nat} {ids:List Bs} (h:Ix vs ts j B ids) (h1:vs'[17+j]?=vs[17+j]?) (h2:ts'[11+j]?=ts[11+j]?):Ix vs' ts' j B ids:=⟨h1.trans h.cell,h2.trans h.map⟩
theorem Pt.upd (h:Pt w0 vs ts T U N) (hN:N+1≤1000000) (k:Nat) (hk:k<10) (cop:CopT T' U') (v:Value) (vlen:vs'.length=21) (hv:∀i,2≤i→i≠2+k→vs'[i]?=vs[i]?) (hvk:vs'[2+k]?=some v) (tlen:ts'.length=ts.length)
  (htk:ts'[k]?=some (tRow w0.heap.size ⟨(tyT k).1,(tyT k).2,v,lenP U' k,xsT U' k⟩)) (ht:∀i,i<10→i≠k→ts'[i]?=ts[i]?) (htc:∀i,28≤i→ts'[i]?=ts[i]?) (ix:∀j,j<4→∃B,Ix vs' ts' j B (idsT U' j))
  (hlen:lenP U' k=lenP U k+1) (hs:∀i,i<10→i≠k→lenP U' i=lenP U i∧xsT U' i=xsT U i) (htr:U'.tr=U.tr) (hdi:U'.di=U.di∧U'.wi=U.wi∧U'.cp=U.cp):Pt w0 vs' ts' T' U' (N+1) where
 cop:=cop
 tabs:=fun i hi=>by
  by_cases e:i=k
  ·subst e
   exact⟨v,hvk,htk,by rw [hlen];have:=h.few i hi;omega⟩
  ·obtain⟨u,hu⟩:=h.tabs i hi
   obtain⟨s1,s2⟩:=hs i hi e;rw [s1,s2];exact⟨u,hu.keep (hv _ (by omega) (by omega)) (ht i hi e)⟩
 di:=by rw [hv 12 (by omega) (by omega),hdi.1];exact h.di
 wi:=by rw [hv 13 (by omega) (by omega),hdi.2.1];exact h.wi
 cp:=by rw [hv 14 (by omega) (by omega),hdi.2.2];exact h.cp
 ix:=ix
 calls:=fun j x hx=>by rw [htc _ (by omega)];exact h.calls j x (by rw [←htr];exact hx)
 tlen:=by rw [tlen,htr];exact h.tlen
 vlen:=vlen
 few:=fun i hi=>by
  by_cases e:i=k
  ·subst e;rw [hlen];have:=h.few i hi;omega
  ·rw [(hs i hi e).1];have:=h.few i hi;omega
 fewc:=fun x hx=>Nat.le_succ_of_le (h.fewc x (by rw [←htr];exact hx))
theorem Ja9 {v u:Value} {e:Int} {k i:Nat} (h:2≤i) (hk:i≠2+k):((set2 vs v e).set (2+k) u)[i]?=vs[i]?:=by rw [List.getElem?_set,if_neg (fun q=>hk q.symm),Jab h]
theorem Jdi {v u:Value} {e:Int} {k:Nat} (h:vs.length=21) (hk:2+k<21):((set2 vs v e).set (2+k) u)[2+k]?=some u:=by
 rw [List.getElem?_set,if_pos rfl,if_pos (by unfold set2;simp only [List.length_set];omega)]
theorem Jcb {v u:Value} {e:Int} {k:Nat} (h:vs.length=21):((set2 vs v e).set (2+k) u).length=21:=by unfold set2;simp only [List.length_set];exact h
theorem Jev {v u:Value} {e:Int} {k:Nat} (h:vs.length=21):((set2 vs v e).set (2+k) u)[1]?=some (.int .i64 e):=by
 rw [List.getElem?_set,if_neg (by omega)];unfold set2;rw [List.getElem?_set,if_pos rfl,if_pos (by rw [List.length_set];omega)]
theorem Jb3 {t:Tng} {k:Nat} (h:k<ts.length):(ts.set k t)[k]?=some t:=by rw [List.getElem?_set,if_pos rfl,if_pos h]
theorem Jam {t:Tng} {k i:Nat} (h:i≠k):(ts.set k t)[i]?=ts[i]?:=by rw [List.getElem?_set,if_neg (fun q=>h q.symm)]
end
structure Left (vs vs':List Value) (ts ts':List Tng):Prop where
 c15:vs'[15]?=vs[15]?
 c16:vs'[16]?=vs[16]?
 t10:ts'[10]?=ts[10]?
 tl:∀i,15≤i→i<28→ts'[i]?=ts[i]?
def AdP (w0:World) (F:Nat) (vs:List Value) (ts:List Tng) (E:Int) (T':Tt) (N:Nat) (w':World):Prop:=∃vs' ts',Gst w0 F 80 vs' ts' w'∧vs'[1]?=some (.int .i64 E)∧vs'.length=21∧Left vs vs' ts ts'∧(E=0→∃U',Pt w0 vs' ts' T' U' (N+1))
section
variable {w0 W:World} {F:Nat} {vs:List Value} {ts:List Tng} {g:List Bs} {T U:Tt} {N:Nat}
theorem Jc5 (h:CopT T U):Ja8 U=Ja8 T∧Jcc U=Jcc T∧Jbn U=Jbn T∧Jbh U=Jbh T:=by
 refine⟨by unfold Ja8;rw [h.st],by unfold Jcc;rw [h.ro],by unfold Jbn;rw [h.ca],?_⟩;have e:∀l:List Tp,l.map (fun x=>x.1)=(l.map noV).map (fun x=>x.1):=fun l=>by rw [List.map_map];rfl
 unfold Jbh;rw [e,e,h.tr]
theorem ee_st (F_:Fm) (T:Tt) (w:Bs) (g:List Bs):e_st F_ g=if (w::g).length=5 then (addR F_ T 0 (w::g)).1 else 1:=by
 by_cases h:(w::g).length=5
 ·rw [if_pos h]
  obtain⟨a,b,c,d,e,q⟩:=five h;cases q
  show _=err _
  rw [Jb6];rfl
 ·rw [if_neg h]
  have h':¬(g.drop 0).length=4:=by simpa using h
  unfold e_st;rw [if_neg h'];simp only [show fe1 0 1=1 from rfl,Jct]
theorem Qau (F_:Fm) (H:Rec w0 F vs ts g W) (FO:Fo F_ w0) (P:Pt w0 vs ts T U N) (hN:N+1≤1000000) (w:Bs) :
  Calls prog 83 #[.pointer (some ⟨F,0,none⟩)] W fun r w'=>r=.returned (.tuple #[])∧AdP w0 F vs ts (if (w::g).length=5 then (addR F_ T 0 (w::g)).1 else 1) (addR F_ T 0 (w::g)).2 N w':=by
 obtain⟨v0,tb⟩:=P.tabs 0 (by omega);obtain⟨i0,i1,i2,i3⟩:=Jc5 P.cop;obtain⟨B,ixx⟩:=P.ix 0 (by omega);have hl:ts.length=28+U.tr.length:=P.tlen;refine (ad_st F_ H FO (l:=U.st) tb ixx).mono fun r w' h=>⟨h.1,?_⟩
 obtain⟨v',v,G⟩:=h.2;refine⟨_,_,G,by rw [←ee_st];exact Jev (k:=0) P.vlen,Jcb (k:=0) P.vlen,⟨Ja9 (k:=0) (by omega) (by omega),Ja9 (k:=0) (by omega) (by omega),(Jam (by decide)).trans (Jam (by decide)),fun i h1 h2=>(Jam (by omega)).trans (Jam (by omega))⟩,fun hE=>?_⟩;have hc:(w::g).length=5:=Decidable.byContradiction fun q=>by rw [if_neg q] at hE;exact absurd hE (by decide)
 have eT:(addR F_ T 0 (w::g)).2={ T with st:=T.st++[x_st F_ g] }:=by
  obtain⟨a,b,c,d,e,q⟩:=five hc;cases q
  rfl
 rw [eT];refine⟨{ U with st:=U.st++[x_st F_ g] },P.upd hN 0 (by omega) ⟨by show U.st++_=T.st++_;rw [P.cop.st],P.cop.ro,P.cop.ca,P.cop.ex,P.cop.tr,P.cop.fr,P.cop.th,P.cop.gu,P.cop.pa,P.cop.pr,P.cop.di,P.cop.wi,P.cop.cp⟩ v (Jcb (k:=0) P.vlen) (fun i h1 h2=>Ja9 (k:=0) h1 h2) (Jdi (k:=0) P.vlen (by omega)) (by simp only [List.length_set]) ?_ (fun i h1 h2=>?_) (fun i h1=>?_) (fun j hj=>?_) (by show (U.st++[_]).length=_;rw [List.length_append];rfl) (fun i h1 h2=>?_) rfl ⟨rfl,rfl,rfl⟩⟩
 ·have e:lenP { U with st:=U.st++[x_st F_ g] } 0=U.st.length+1:=by show (U.st++[_]).length=_;rw [List.length_append];rfl
  rw [e];exact Jb3 (by rw [List.length_set];omega)
 ·rw [Jam h2];exact Jam (by omega)
 ·rw [Jam (by omega)];exact Jam (by omega)
 ·by_cases e:j=0
  ·subst e
   refine⟨B,(Ja9 (k:=0) (by omega) (by omega)).trans ixx.cell,?_⟩;rw [Jam (by omega)];have e2:idsT { U with st:=U.st++[x_st F_ g] } 0=(U.st.map fun x=>x.1)++[g.getD 0 []]:=by show (U.st++[_]).map _=_;rw [List.map_append];rfl
   rw [e2];exact Jb3 (by omega)
  ·obtain⟨B',hB⟩:=P.ix j hj
   have e2:idsT { U with st:=U.st++[x_st F_ g] } j=idsT U j:=by match j,hj with | 0,_ | 1,_ | 2,_ | 3,_=>first | rfl | exact absurd rfl e
   rw [e2];exact⟨B',hB.keep (Ja9 (k:=0) (by omega) (by omega)) ((Jam (by omega)).trans (Jam (by omega)))⟩
 ·match i,h1 with
  | 0,_ | 1,_ | 2,_ | 3,_ | 4,_ | 5,_ | 6,_ | 7,_ | 8,_ | 9,_=>first | exact⟨rfl,rfl⟩ | exact absurd rfl h2
  | i+10,h1=>omega
theorem ee_ro (F_:Fm) (T:Tt) (w:Bs) (g:List Bs):e_ro g=if (w::g).length=4 then (addR F_ T 1 (w::g)).1 else 1:=by
 by_cases h:(w::g).length=4
 ·rw [if_pos h]
  obtain⟨a,b,c,d,q⟩:=four h;cases q
  show _=err _
  rw [Jb6];rfl
 ·rw [if_neg h]
  have h':¬(g.drop 0).length=3:=by simpa using h
  unfold e_ro;rw [if_neg h'];simp only [show fe1 0 1=1 from rfl,Jct]
theorem Qav (F_:Fm) (H:Rec w0 F vs ts g W) (FO:Fo F_ w0) (P:Pt w0 vs ts T U N) (hN:N+1≤1000000) (w:Bs) :
  Calls prog 84 #[.pointer (some ⟨F,0,none⟩)] W fun r w'=>r=.returned (.tuple #[])∧AdP w0 F vs ts (if (w::g).length=4 then (addR F_ T 1 (w::g)).1 else 1) (addR F_ T 1 (w::g)).2 N w':=by
 obtain⟨v0,tb⟩:=P.tabs 1 (by omega);obtain⟨i0,i1,i2,i3⟩:=Jc5 P.cop;obtain⟨B,ixx⟩:=P.ix 1 (by omega);have hl:ts.length=28+U.tr.length:=P.tlen;refine (ad_ro F_ H FO (l:=U.ro) tb ixx).mono fun r w' h=>⟨h.1,?_⟩
 obtain⟨v',v,G⟩:=h.2;refine⟨_,_,G,by rw [←ee_ro];exact Jev (k:=1) P.vlen,Jcb (k:=1) P.vlen,⟨Ja9 (k:=1) (by omega) (by omega),Ja9 (k:=1) (by omega) (by omega),(Jam (by decide)).trans (Jam (by decide)),fun i h1 h2=>(Jam (by omega)).trans (Jam (by omega))⟩,fun hE=>?_⟩;have hc:(w::g).length=4:=Decidable.byContradiction fun q=>by rw [if_neg q] at hE;exact absurd hE (by decide)
 have eT:(addR F_ T 1 (w::g)).2={ T with ro:=T.ro++[x_ro g] }:=by
  obtain⟨a,b,c,d,q⟩:=four hc;cases q
  rfl
 rw [eT];refine⟨{ U with ro:=U.ro++[x_ro g] },P.upd hN 1 (by omega) ⟨P.cop.st,by show U.ro++_=T.ro++_;rw [P.cop.ro],P.cop.ca,P.cop.ex,P.cop.tr,P.cop.fr,P.cop.th,P.cop.gu,P.cop.pa,P.cop.pr,P.cop.di,P.cop.wi,P.cop.cp⟩ v (Jcb (k:=1) P.vlen) (fun i h1 h2=>Ja9 (k:=1) h1 h2) (Jdi (k:=1) P.vlen (by omega)) (by simp only [List.length_set]) ?_ (fun i h1 h2=>?_) (fun i h1=>?_) (fun j hj=>?_) (by show (U.ro++[_]).length=_;rw [List.length_append];rfl) (fun i h1 h2=>?_) rfl ⟨rfl,rfl,rfl⟩⟩
 ·have e:lenP { U with ro:=U.ro++[x_ro g] } 1=U.ro.length+1:=by show (U.ro++[_]).length=_;rw [List.length_append];rfl
  rw [e];exact Jb3 (by rw [List.length_set];omega)
 ·rw [Jam h2];exact Jam (by omega)
 ·rw [Jam (by omega)];exact Jam (by omega)
 ·by_cases e:j=1
  ·subst e
   refine⟨B,(Ja9 (k:=1) (by omega) (by omega)).trans ixx.cell,?_⟩;rw [Jam (by omega)];have e2:idsT { U with ro:=U.ro++[x_ro g] } 1=(U.ro.map fun x=>x.1)++[g.getD 0 []]:=by show (U.ro++[_]).map _=_;rw [List.map_append];rfl
   rw [e2];exact Jb3 (by omega)
  ·obtain⟨B',hB⟩:=P.ix j hj
   have e2:idsT { U with ro:=U.ro++[x_ro g] } j=idsT U j:=by match j,hj with | 0,_ | 1,_ | 2,_ | 3,_=>first | rfl | exact absurd rfl e
   rw [e2];exact⟨B',hB.keep (Ja9 (k:=1) (by omega) (by omega)) ((Jam (by omega)).trans (Jam (by omega)))⟩
 ·match i,h1 with
  | 0,_ | 1,_ | 2,_ | 3,_ | 4,_ | 5,_ | 6,_ | 7,_ | 8,_ | 9,_=>first | exact⟨rfl,rfl⟩ | exact absurd rfl h2
  | i+10,h1=>omega
theorem ee_ca (F_:Fm) (T:Tt) (w:Bs) (g:List Bs):e_ca F_ g=if (w::g).length=5 then (addR F_ T 2 (w::g)).1 else 1:=by
 by_cases h:(w::g).length=5
 ·rw [if_pos h]
  obtain⟨a,b,c,d,e,q⟩:=five h;cases q
  show _=err _
  rw [Jb6];rfl
 ·rw [if_neg h]
  have h':¬(g.drop 0).length=4:=by simpa using h
  unfold e_ca;rw [if_neg h'];simp only [show fe1 0 1=1 from rfl,Jct]
theorem Qaw (F_:Fm) (H:Rec w0 F vs ts g W) (FO:Fo F_ w0) (P:Pt w0 vs ts T U N) (hN:N+1≤1000000) (w:Bs) :
  Calls prog 85 #[.pointer (some ⟨F,0,none⟩)] W fun r w'=>r=.returned (.tuple #[])∧AdP w0 F vs ts (if (w::g).length=5 then (addR F_ T 2 (w::g)).1 else 1) (addR F_ T 2 (w::g)).2 N w':=by
 obtain⟨v0,tb⟩:=P.tabs 2 (by omega);obtain⟨i0,i1,i2,i3⟩:=Jc5 P.cop;obtain⟨B,ixx⟩:=P.ix 2 (by omega);have hl:ts.length=28+U.tr.length:=P.tlen;refine (ad_ca F_ H FO (l:=U.ca) tb ixx).mono fun r w' h=>⟨h.1,?_⟩
 obtain⟨v',v,G⟩:=h.2;refine⟨_,_,G,by rw [←ee_ca];exact Jev (k:=2) P.vlen,Jcb (k:=2) P.vlen,⟨Ja9 (k:=2) (by omega) (by omega),Ja9 (k:=2) (by omega) (by omega),(Jam (by decide)).trans (Jam (by decide)),fun i h1 h2=>(Jam (by omega)).trans (Jam (by omega))⟩,fun hE=>?_⟩;have hc:(w::g).length=5:=Decidable.byContradiction fun q=>by rw [if_neg q] at hE;exact absurd hE (by decide)
 have eT:(addR F_ T 2 (w::g)).2={ T with ca:=T.ca++[x_ca F_ g] }:=by
  obtain⟨a,b,c,d,e,q⟩:=five hc;cases q
  rfl
 rw [eT];refine⟨{ U with ca:=U.ca++[x_ca F_ g] },P.upd hN 2 (by omega) ⟨P.cop.st,P.cop.ro,by show U.ca++_=T.ca++_;rw [P.cop.ca],P.cop.ex,P.cop.tr,P.cop.fr,P.cop.th,P.cop.gu,P.cop.pa,P.cop.pr,P.cop.di,P.cop.wi,P.cop.cp⟩ v (Jcb (k:=2) P.vlen) (fun i h1 h2=>Ja9 (k:=2) h1 h2) (Jdi (k:=2) P.vlen (by omega)) (by simp only [List.length_set]) ?_ (fun i h1 h2=>?_) (fun i h1=>?_) (fun j hj=>?_) (by show (U.ca++[_]).length=_;rw [List.length_append];rfl) (fun i h1 h2=>?_) rfl ⟨rfl,rfl,rfl⟩⟩
 ·have e:lenP { U with ca:=U.ca++[x_ca F_ g] } 2=U.ca.length+1:=by show (U.ca++[_]).length=_;rw [List.length_append];rfl
  rw [e];exact Jb3 (by rw [List.length_set];omega)
 ·rw [Jam h2];exact Jam (by omega)
 ·rw [Jam (by omega)];exact Jam (by omega)
 ·by_cases e:j=2
  ·subst e
   refine⟨B,(Ja9 (k:=2) (by omega) (by omega)).trans ixx.cell,?_⟩;rw [Jam (by omega)];have e2:idsT { U with ca:=U.ca++[x_ca F_ g] } 2=(U.ca.map fun x=>x.1)++[g.getD 0 []]:=by show (U.ca++[_]).map _=_;rw [List.map_append];rfl
   rw [e2];exact Jb3 (by omega)
  ·obtain⟨B',hB⟩:=P.ix j hj
   have e2:idsT { U with ca:=U.ca++[x_ca F_ g] } j=idsT U j:=by match j,hj with | 0,_ | 1,_ | 2,_ | 3,_=>first | rfl | exact absurd rfl e
   rw [e2];exact⟨B',hB.keep (Ja9 (k:=2) (by omega) (by omega)) ((Jam (by omega)).trans (Jam (by omega)))⟩
 ·match i,h1 with
  | 0,_ | 1,_ | 2,_ | 3,_ | 4,_ | 5,_ | 6,_ | 7,_ | 8,_ | 9,_=>first | exact⟨rfl,rfl⟩ | exact absurd rfl h2
  | i+10,h1=>omega
theorem ee_ex (F_:Fm) (T:Tt) (w:Bs) (g:List Bs):e_ex F_ g (Jbn T)=if (w::g).length=4 then (addR F_ T 3 (w::g)).1 else 1:=by
 by_cases h:(w::g).length=4
 ·rw [if_pos h]
  obtain⟨a,b,c,d,q⟩:=four h;cases q
  show _=err _
  rw [Jb6];rfl
 ·rw [if_neg h]
  have h':¬(g.drop 0).length=3:=by simpa using h
  unfold e_ex;rw [if_neg h'];simp only [show fe1 0 1=1 from rfl,Jct]
theorem Qax (F_:Fm) (H:Rec w0 F vs ts g W) (FO:Fo F_ w0) (P:Pt w0 vs ts T U N) (hN:N+1≤1000000) (w:Bs) :
  Calls prog 86 #[.pointer (some ⟨F,0,none⟩)] W fun r w'=>r=.returned (.tuple #[])∧AdP w0 F vs ts (if (w::g).length=4 then (addR F_ T 3 (w::g)).1 else 1) (addR F_ T 3 (w::g)).2 N w':=by
 obtain⟨v0,tb⟩:=P.tabs 3 (by omega);obtain⟨i0,i1,i2,i3⟩:=Jc5 P.cop;obtain⟨Bca,X_ca⟩:=P.ix 2 (by omega);rw [show idsT U 2=Jbn T from i2] at X_ca;have hl:ts.length=28+U.tr.length:=P.tlen;refine (ad_ex F_ H FO (l:=U.ex) tb X_ca).mono fun r w' h=>⟨h.1,?_⟩
 obtain⟨v',v,G⟩:=h.2;refine⟨_,_,G,by rw [←ee_ex];exact Jev (k:=3) P.vlen,Jcb (k:=3) P.vlen,⟨Ja9 (k:=3) (by omega) (by omega),Ja9 (k:=3) (by omega) (by omega),(Jam (by decide)),fun i h1 h2=>(Jam (by omega))⟩,fun hE=>?_⟩;have hc:(w::g).length=4:=Decidable.byContradiction fun q=>by rw [if_neg q] at hE;exact absurd hE (by decide)
 have eT:(addR F_ T 3 (w::g)).2={ T with ex:=T.ex++[x_ex F_ g (Jbn T)] }:=by
  obtain⟨a,b,c,d,q⟩:=four hc;cases q
  rfl
 rw [eT];refine⟨{ U with ex:=U.ex++[x_ex F_ g (Jbn T)] },P.upd hN 3 (by omega) ⟨P.cop.st,P.cop.ro,P.cop.ca,by show U.ex++_=T.ex++_;rw [P.cop.ex],P.cop.tr,P.cop.fr,P.cop.th,P.cop.gu,P.cop.pa,P.cop.pr,P.cop.di,P.cop.wi,P.cop.cp⟩ v (Jcb (k:=3) P.vlen) (fun i h1 h2=>Ja9 (k:=3) h1 h2) (Jdi (k:=3) P.vlen (by omega)) (by simp only [List.length_set]) ?_ (fun i h1 h2=>?_) (fun i h1=>?_) (fun j hj=>?_) (by show (U.ex++[_]).length=_;rw [List.length_append];rfl) (fun i h1 h2=>?_) rfl ⟨rfl,rfl,rfl⟩⟩
 ·have e:lenP { U with ex:=U.ex++[x_ex F_ g (Jbn T)] } 3=U.ex.length+1:=by show (U.ex++[_]).length=_;rw [List.length_append];rfl
  rw [e];exact Jb3 (by omega)
 ·rw [Jam h2]
 ·rw [Jam (by omega)]
 ·obtain⟨B',hB⟩:=P.ix j hj
  have e2:idsT { U with ex:=U.ex++[x_ex F_ g (Jbn T)] } j=idsT U j:=by match j,hj with | 0,_ | 1,_ | 2,_ | 3,_=>rfl
  rw [e2];exact⟨B',hB.keep (Ja9 (k:=3) (by omega) (by omega)) (Jam (by omega))⟩
 ·match i,h1 with
  | 0,_ | 1,_ | 2,_ | 3,_ | 4,_ | 5,_ | 6,_ | 7,_ | 8,_ | 9,_=>first | exact⟨rfl,rfl⟩ | exact absurd rfl h2
  | i+10,h1=>omega
theorem ee_fr (F_:Fm) (T:Tt) (w:Bs) (g:List Bs):e_fr F_ g (Jbh T)=if (w::g).length=5 then (addR F_ T 5 (w::g)).1 else 1:=by
 by_cases h:(w::g).length=5
 ·rw [if_pos h]
  obtain⟨a,b,c,d,e,q⟩:=five h;cases q
  show _=err _
  rw [Jb6];rfl
 ·rw [if_neg h]
  have h':¬(g.drop 0).length=4:=by simpa using h
  unfold e_fr;rw [if_neg h'];simp only [show fe1 0 1=1 from rfl,Jct]
theorem Qay (F_:Fm) (H:Rec w0 F vs ts g W) (FO:Fo F_ w0) (P:Pt w0 vs ts T U N) (hN:N+1≤1000000) (w:Bs) :
  Calls prog 89 #[.pointer (some ⟨F,0,none⟩)] W fun r w'=>r=.returned (.tuple #[])∧AdP w0 F vs ts (if (w::g).length=5 then (addR F_ T 5 (w::g)).1 else 1) (addR F_ T 5 (w::g)).2 N w':=by
 obtain⟨v0,tb⟩:=P.tabs 5 (by omega);obtain⟨i0,i1,i2,i3⟩:=Jc5 P.cop;obtain⟨Btr,X_tr⟩:=P.ix 3 (by omega);rw [show idsT U 3=Jbh T from i3] at X_tr;have hl:ts.length=28+U.tr.length:=P.tlen;refine (ad_fr F_ H FO (l:=U.fr) tb X_tr).mono fun r w' h=>⟨h.1,?_⟩
 obtain⟨v',v,G⟩:=h.2;refine⟨_,_,G,by rw [←ee_fr];exact Jev (k:=5) P.vlen,Jcb (k:=5) P.vlen,⟨Ja9 (k:=5) (by omega) (by omega),Ja9 (k:=5) (by omega) (by omega),(Jam (by decide)),fun i h1 h2=>(Jam (by omega))⟩,fun hE=>?_⟩;have hc:(w::g).length=5:=Decidable.byContradiction fun q=>by rw [if_neg q] at hE;exact absurd hE (by decide)
 have eT:(addR F_ T 5 (w::g)).2={ T with fr:=T.fr++[x_fr F_ g (Jbh T)] }:=by
  obtain⟨a,b,c,d,e,q⟩:=five hc;cases q
  rfl
 rw [eT];refine⟨{ U with fr:=U.fr++[x_fr F_ g (Jbh T)] },P.upd hN 5 (by omega) ⟨P.cop.st,P.cop.ro,P.cop.ca,P.cop.ex,P.cop.tr,by show U.fr++_=T.fr++_;rw [P.cop.fr],P.cop.th,P.cop.gu,P.cop.pa,P.cop.pr,P.cop.di,P.cop.wi,P.cop.cp⟩ v (Jcb (k:=5) P.vlen) (fun i h1 h2=>Ja9 (k:=5) h1 h2) (Jdi (k:=5) P.vlen (by omega)) (by simp only [List.length_set]) ?_ (fun i h1 h2=>?_) (fun i h1=>?_) (fun j hj=>?_) (by show (U.fr++[_]).length=_;rw [List.length_append];rfl) (fun i h1 h2=>?_) rfl ⟨rfl,rfl,rfl⟩⟩
 ·have e:lenP { U with fr:=U.fr++[x_fr F_ g (Jbh T)] } 5=U.fr.length+1:=by show (U.fr++[_]).length=_;rw [List.length_append];rfl
  rw [e];exact Jb3 (by omega)
 ·rw [Jam h2]
 ·rw [Jam (by omega)]
 ·obtain⟨B',hB⟩:=P.ix j hj
  have e2:idsT { U with fr:=U.fr++[x_fr F_ g (Jbh T)] } j=idsT U j:=by match j,hj with | 0,_ | 1,_ | 2,_ | 3,_=>rfl
  rw [e2];exact⟨B',hB.keep (Ja9 (k:=5) (by omega) (by omega)) (Jam (by omega))⟩
 ·match i,h1 with
  | 0,_ | 1,_ | 2,_ | 3,_ | 4,_ | 5,_ | 6,_ | 7,_ | 8,_ | 9,_=>first | exact⟨rfl,rfl⟩ | exact absurd rfl h2
  | i+10,h1=>omega
theorem ee_th (F_:Fm) (T:Tt) (w:Bs) (g:List Bs):e_th g (Jbh T)=if (w::g).length=3 then (addR F_ T 6 (w::g)).1 else 1:=by
 by_cases h:(w::g).length=3
 ·rw [if_pos h]
  obtain⟨a,b,c,q⟩:=J6v h;cases q
  show _=err _
  rw [Jb6];rfl
 ·rw [if_neg h]
  have h':¬(g.drop 0).length=2:=by simpa using h
  unfold e_th;rw [if_neg h'];simp only [show fe1 0 1=1 from rfl,Jct]
theorem Qaz (F_:Fm) (H:Rec w0 F vs ts g W) (P:Pt w0 vs ts T U N) (hN:N+1≤1000000) (w:Bs) :
  Calls prog 90 #[.pointer (some ⟨F,0,none⟩)] W fun r w'=>r=.returned (.tuple #[])∧AdP w0 F vs ts (if (w::g).length=3 then (addR F_ T 6 (w::g)).1 else 1) (addR F_ T 6 (w::g)).2 N w':=by
 obtain⟨v0,tb⟩:=P.tabs 6 (by omega);obtain⟨i0,i1,i2,i3⟩:=Jc5 P.cop;obtain⟨Btr,X_tr⟩:=P.ix 3 (by omega);rw [show idsT U 3=Jbh T from i3] at X_tr;have hl:ts.length=28+U.tr.length:=P.tlen;refine (ad_th H (l:=U.th) tb X_tr).mono fun r w' h=>⟨h.1,?_⟩
 obtain⟨v',v,G⟩:=h.2;refine⟨_,_,G,by rw [←ee_th];exact Jev (k:=6) P.vlen,Jcb (k:=6) P.vlen,⟨Ja9 (k:=6) (by omega) (by omega),Ja9 (k:=6) (by omega) (by omega),(Jam (by decide)),fun i h1 h2=>(Jam (by omega))⟩,fun hE=>?_⟩;have hc:(w::g).length=3:=Decidable.byContradiction fun q=>by rw [if_neg q] at hE;exact absurd hE (by decide)
 have eT:(addR F_ T 6 (w::g)).2={ T with th:=T.th++[x_th g (Jbh T)] }:=by
  obtain⟨a,b,c,q⟩:=J6v hc;cases q
  rfl
 rw [eT];refine⟨{ U with th:=U.th++[x_th g (Jbh T)] },P.upd hN 6 (by omega) ⟨P.cop.st,P.cop.ro,P.cop.ca,P.cop.ex,P.cop.tr,P.cop.fr,by show U.th++_=T.th++_;rw [P.cop.th],P.cop.gu,P.cop.pa,P.cop.pr,P.cop.di,P.cop.wi,P.cop.cp⟩ v (Jcb (k:=6) P.vlen) (fun i h1 h2=>Ja9 (k:=6) h1 h2) (Jdi (k:=6) P.vlen (by omega)) (by simp only [List.length_set]) ?_ (fun i h1 h2=>?_) (fun i h1=>?_) (fun j hj=>?_) (by show (U.th++[_]).length=_;rw [List.length_append];rfl) (fun i h1 h2=>?_) rfl ⟨rfl,rfl,rfl⟩⟩
 ·have e:lenP { U with th:=U.th++[x_th g (Jbh T)] } 6=U.th.length+1:=by show (U.th++[_]).length=_;rw [List.length_append];rfl
  rw [e];exact Jb3 (by omega)
 ·rw [Jam h2]
 ·rw [Jam (by omega)]
 ·obtain⟨B',hB⟩:=P.ix j hj
  have e2:idsT { U with th:=U.th++[x_th g (Jbh T)] } j=idsT U j:=by match j,hj with | 0,_ | 1,_ | 2,_ | 3,_=>rfl
  rw [e2];exact⟨B',hB.keep (Ja9 (k:=6) (by omega) (by omega)) (Jam (by omega))⟩
 ·match i,h1 with
  | 0,_ | 1,_ | 2,_ | 3,_ | 4,_ | 5,_ | 6,_ | 7,_ | 8,_ | 9,_=>first | exact⟨rfl,rfl⟩ | exact absurd rfl h2
  | i+10,h1=>omega
theorem ee_gu (F_:Fm) (T:Tt) (w:Bs) (g:List Bs):e_gu g (Jbh T) (Ja8 T)=if (w::g).length=4 then (addR F_ T 7 (w::g)).1 else 1:=by
 by_cases h:(w::g).length=4
 ·rw [if_pos h]
  obtain⟨a,b,c,d,q⟩:=four h;cases q
  show _=err _
  rw [Jb6];rfl
 ·rw [if_neg h]
  have h':¬(g.drop 0).length=3:=by simpa using h
  unfold e_gu;rw [if_neg h'];simp only [show fe1 0 1=1 from rfl,Jct]
theorem Qa0 (F_:Fm) (H:Rec w0 F vs ts g W) (P:Pt w0 vs ts T U N) (hN:N+1≤1000000) (w:Bs) :
  Calls prog 91 #[.pointer (some ⟨F,0,none⟩)] W fun r w'=>r=.returned (.tuple #[])∧AdP w0 F vs ts (if (w::g).length=4 then (addR F_ T 7 (w::g)).1 else 1) (addR F_ T 7 (w::g)).2 N w':=by
 obtain⟨v0,tb⟩:=P.tabs 7 (by omega);obtain⟨i0,i1,i2,i3⟩:=Jc5 P.cop;obtain⟨Btr,X_tr⟩:=P.ix 3 (by omega);obtain⟨Bst,X_st⟩:=P.ix 0 (by omega);rw [show idsT U 3=Jbh T from i3] at X_tr;rw [show idsT U 0=Ja8 T from i0] at X_st;have hl:ts.length=28+U.tr.length:=P.tlen;refine (ad_gu H (l:=U.gu) tb X_tr X_st).mono fun r w' h=>⟨h.1,?_⟩
 obtain⟨v',v,G⟩:=h.2;refine⟨_,_,G,by rw [←ee_gu];exact Jev (k:=7) P.vlen,Jcb (k:=7) P.vlen,⟨Ja9 (k:=7) (by omega) (by omega),Ja9 (k:=7) (by omega) (by omega),(Jam (by decide)),fun i h1 h2=>(Jam (by omega))⟩,fun hE=>?_⟩;have hc:(w::g).length=4:=Decidable.byContradiction fun q=>by rw [if_neg q] at hE;exact absurd hE (by decide)
 have eT:(addR F_ T 7 (w::g)).2={ T with gu:=T.gu++[x_gu g (Jbh T) (Ja8 T)] }:=by
  obtain⟨a,b,c,d,q⟩:=four hc;cases q
  rfl
 rw [eT];refine⟨{ U with gu:=U.gu++[x_gu g (Jbh T) (Ja8 T)] },P.upd hN 7 (by omega) ⟨P.cop.st,P.cop.ro,P.cop.ca,P.cop.ex,P.cop.tr,P.cop.fr,P.cop.th,by show U.gu++_=T.gu++_;rw [P.cop.gu],P.cop.pa,P.cop.pr,P.cop.di,P.cop.wi,P.cop.cp⟩ v (Jcb (k:=7) P.vlen) (fun i h1 h2=>Ja9 (k:=7) h1 h2) (Jdi (k:=7) P.vlen (by omega)) (by simp only [List.length_set]) ?_ (fun i h1 h2=>?_) (fun i h1=>?_) (fun j hj=>?_) (by show (U.gu++[_]).length=_;rw [List.length_append];rfl) (fun i h1 h2=>?_) rfl ⟨rfl,rfl,rfl⟩⟩
 ·have e:lenP { U with gu:=U.gu++[x_gu g (Jbh T) (Ja8 T)] } 7=U.gu.length+1:=by show (U.gu++[_]).length=_;rw [List.length_append];rfl
  rw [e];exact Jb3 (by omega)
 ·rw [Jam h2]
 ·rw [Jam (by omega)]
 ·obtain⟨B',hB⟩:=P.ix j hj
  have e2:idsT { U with gu:=U.gu++[x_gu g (Jbh T) (Ja8 T)] } j=idsT U j:=by match j,hj with | 0,_ | 1,_ | 2,_ | 3,_=>rfl
  rw [e2];exact⟨B',hB.keep (Ja9 (k:=7) (by omega) (by omega)) (Jam (by omega))⟩
 ·match i,h1 with
  | 0,_ | 1,_ | 2,_ | 3,_ | 4,_ | 5,_ | 6,_ | 7,_ | 8,_ | 9,_=>first | exact⟨rfl,rfl⟩ | exact absurd rfl h2
  | i+10,h1=>omega
theorem ee_pa (F_:Fm) (T:Tt) (w:Bs) (g:List Bs):e_pa F_ g (Ja8 T)=if (w::g).length=5 then (addR F_ T 8 (w::g)).1 else 1:=by
 by_cases h:(w::g).length=5
 ·rw [if_pos h]
  obtain⟨a,b,c,d,e,q⟩:=five h;cases q
  show _=err _
  rw [Jb6];rfl
 ·rw [if_neg h]
  have h':¬(g.drop 0).length=4:=by simpa using h
  unfold e_pa;rw [if_neg h'];simp only [show fe1 0 1=1 from rfl,Jct]
theorem Qa1 (F_:Fm) (H:Rec w0 F vs ts g W) (FO:Fo F_ w0) (P:Pt w0 vs ts T U N) (hN:N+1≤1000000) (w:Bs) :
  Calls prog 92 #[.pointer (some ⟨F,0,none⟩)] W fun r w'=>r=.returned (.tuple #[])∧AdP w0 F vs ts (if (w::g).length=5 then (addR F_ T 8 (w::g)).1 else 1) (addR F_ T 8 (w::g)).2 N w':=by
 obtain⟨v0,tb⟩:=P.tabs 8 (by omega);obtain⟨i0,i1,i2,i3⟩:=Jc5 P.cop;obtain⟨Bst,X_st⟩:=P.ix 0 (by omega);rw [show idsT U 0=Ja8 T from i0] at X_st;have hl:ts.length=28+U.tr.length:=P.tlen;refine (ad_pa F_ H FO (l:=U.pa) tb X_st).mono fun r w' h=>⟨h.1,?_⟩
 obtain⟨v',v,G⟩:=h.2;refine⟨_,_,G,by rw [←ee_pa];exact Jev (k:=8) P.vlen,Jcb (k:=8) P.vlen,⟨Ja9 (k:=8) (by omega) (by omega),Ja9 (k:=8) (by omega) (by omega),(Jam (by decide)),fun i h1 h2=>(Jam (by omega))⟩,fun hE=>?_⟩;have hc:(w::g).length=5:=Decidable.byContradiction fun q=>by rw [if_neg q] at hE;exact absurd hE (by decide)
 have eT:(addR F_ T 8 (w::g)).2={ T with pa:=T.pa++[x_pa F_ g (Ja8 T)] }:=by
  obtain⟨a,b,c,d,e,q⟩:=five hc;cases q
  rfl
 rw [eT];refine⟨{ U with pa:=U.pa++[x_pa F_ g (Ja8 T)] },P.upd hN 8 (by omega) ⟨P.cop.st,P.cop.ro,P.cop.ca,P.cop.ex,P.cop.tr,P.cop.fr,P.cop.th,P.cop.gu,by show U.pa++_=T.pa++_;rw [P.cop.pa],P.cop.pr,P.cop.di,P.cop.wi,P.cop.cp⟩ v (Jcb (k:=8) P.vlen) (fun i h1 h2=>Ja9 (k:=8) h1 h2) (Jdi (k:=8) P.vlen (by omega)) (by simp only [List.length_set]) ?_ (fun i h1 h2=>?_) (fun i h1=>?_) (fun j hj=>?_) (by show (U.pa++[_]).length=_;rw [List.length_append];rfl) (fun i h1 h2=>?_) rfl ⟨rfl,rfl,rfl⟩⟩
 ·have e:lenP { U with pa:=U.pa++[x_pa F_ g (Ja8 T)] } 8=U.pa.length+1:=by show (U.pa++[_]).length=_;rw [List.length_append];rfl
  rw [e];exact Jb3 (by omega)
 ·rw [Jam h2]
 ·rw [Jam (by omega)]
 ·obtain⟨B',hB⟩:=P.ix j hj
  have e2:idsT { U with pa:=U.pa++[x_pa F_ g (Ja8 T)] } j=idsT U j:=by match j,hj with | 0,_ | 1,_ | 2,_ | 3,_=>rfl
  rw [e2];exact⟨B',hB.keep (Ja9 (k:=8) (by omega) (by omega)) (Jam (by omega))⟩
 ·match i,h1 with
  | 0,_ | 1,_ | 2,_ | 3,_ | 4,_ | 5,_ | 6,_ | 7,_ | 8,_ | 9,_=>first | exact⟨rfl,rfl⟩ | exact absurd rfl h2
  | i+10,h1=>omega
theorem ee_pr (F_:Fm) (T:Tt) (w:Bs) (g:List Bs):e_pr F_ g=if (w::g).length=7 then (addR F_ T 9 (w::g)).1 else 1:=by
 by_cases h:(w::g).length=7
 ·rw [if_pos h]
  obtain⟨a,b,c,d,e,f,g,q⟩:=J6w h;cases q
  show _=err _
  rw [Jb6];rfl
 ·rw [if_neg h]
  have h':¬(g.drop 0).length=6:=by simpa using h
  unfold e_pr;rw [if_neg h'];simp only [show fe1 0 1=1 from rfl,Jct]
theorem Qa2 (F_:Fm) (H:Rec w0 F vs ts g W) (FO:Fo F_ w0) (P:Pt w0 vs ts T U N) (hN:N+1≤1000000) (w:Bs) :
  Calls prog 93 #[.pointer (some ⟨F,0,none⟩)] W fun r w'=>r=.returned (.tuple #[])∧AdP w0 F vs ts (if (w::g).length=7 then (addR F_ T 9 (w::g)).1 else 1) (addR F_ T 9 (w::g)).2 N w':=by
 obtain⟨v0,tb⟩:=P.tabs 9 (by omega);obtain⟨i0,i1,i2,i3⟩:=Jc5 P.cop;have hl:ts.length=28+U.tr.length:=P.tlen;refine (ad_pr F_ H FO (l:=U.pr) tb).mono fun r w' h=>⟨h.1,?_⟩
 obtain⟨v',v,G⟩:=h.2;refine⟨_,_,G,by rw [←ee_pr];exact Jev (k:=9) P.vlen,Jcb (k:=9) P.vlen,⟨Ja9 (k:=9) (by omega) (by omega),Ja9 (k:=9) (by omega) (by omega),(Jam (by decide)),fun i h1 h2=>(Jam (by omega))⟩,fun hE=>?_⟩;have hc:(w::g).length=7:=Decidable.byContradiction fun q=>by rw [if_neg q] at hE;exact absurd hE (by decide)
 have eT:(addR F_ T 9 (w::g)).2={ T with pr:=T.pr++[x_pr F_ g] }:=by
  obtain⟨a,b,c,d,e,f,g,q⟩:=J6w hc;cases q
  rfl
 rw [eT];refine⟨{ U with pr:=U.pr++[x_pr F_ g] },P.upd hN 9 (by omega) ⟨P.cop.st,P.cop.ro,P.cop.ca,P.cop.ex,P.cop.tr,P.cop.fr,P.cop.th,P.cop.gu,P.cop.pa,by show U.pr++_=T.pr++_;rw [P.cop.pr],P.cop.di,P.cop.wi,P.cop.cp⟩ v (Jcb (k:=9) P.vlen) (fun i h1 h2=>Ja9 (k:=9) h1 h2) (Jdi (k:=9) P.vlen (by omega)) (by simp only [List.length_set]) ?_ (fun i h1 h2=>?_) (fun i h1=>?_) (fun j hj=>?_) (by show (U.pr++[_]).length=_;rw [List.length_append];rfl) (fun i h1 h2=>?_) rfl ⟨rfl,rfl,rfl⟩⟩
 ·have e:lenP { U with pr:=U.pr++[x_pr F_ g] } 9=U.pr.length+1:=by show (U.pr++[_]).length=_;rw [List.length_append];rfl
  rw [e];exact Jb3 (by omega)
 ·rw [Jam h2]
 ·rw [Jam (by omega)]
 ·obtain⟨B',hB⟩:=P.ix j hj
  have e2:idsT { U with pr:=U.pr++[x_pr F_ g] } j=idsT U j:=by match j,hj with | 0,_ | 1,_ | 2,_ | 3,_=>rfl
  rw [e2];exact⟨B',hB.keep (Ja9 (k:=9) (by omega) (by omega)) (Jam (by omega))⟩
 ·match i,h1 with
  | 0,_ | 1,_ | 2,_ | 3,_ | 4,_ | 5,_ | 6,_ | 7,_ | 8,_ | 9,_=>first | exact⟨rfl,rfl⟩ | exact absurd rfl h2
  | i+10,h1=>omega
end
section
variable {w0 W:World} {F:Nat} {vs:List Value} {ts:List Tng} {g:List Bs} {T U:Tt} {N:Nat}
theorem ee_tr (F_:Fm) (T:Tt) (w:Bs) (g:List Bs):e_tr g (Jcc T) (Jbn T)=if (w::g).length=5 then (addR F_ T 4 (w::g)).1 else 1:=by
 by_cases h:(w::g).length=5
 ·rw [if_pos h]
  obtain⟨a,b,c,d,e,q⟩:=five h;cases q
  show _=err _
  rw [Jb6];rfl
 ·rw [if_neg h]
  have h':¬(g.drop 0).length=4:=by simpa using h
  unfold e_tr;rw [if_neg h'];simp only [show fe1 0 1=1 from rfl,Jct]
theorem Qa3 (F_:Fm) (H:Rec w0 F vs ts g W) (P:Pt w0 vs ts T U N) (hN:N+1≤1000000) (w:Bs) :
  Calls prog 87 #[.pointer (some ⟨F,0,none⟩)] W fun r w'=>r=.returned (.tuple #[])∧AdP w0 F vs ts (if (w::g).length=5 then (addR F_ T 4 (w::g)).1 else 1) (addR F_ T 4 (w::g)).2 N w':=by
 obtain⟨v0,tb⟩:=P.tabs 4 (by omega);obtain⟨i0,i1,i2,i3⟩:=Jc5 P.cop;obtain⟨B,ixx⟩:=P.ix 3 (by omega);obtain⟨Bro,X_ro⟩:=P.ix 1 (by omega);obtain⟨Bca,X_ca⟩:=P.ix 2 (by omega);rw [show idsT U 1=Jcc T from i1] at X_ro;rw [show idsT U 2=Jbn T from i2] at X_ca;have hl:ts.length=28+U.tr.length:=P.tlen;refine (ad_tr H (l:=U.tr) tb ixx X_ro X_ca).mono fun r w' h=>⟨h.1,?_⟩
 obtain⟨v',v,G⟩:=h.2;have G2:=G.more (t:=rowC w0 (x_tr g (Jcc T) (Jbn T))) (Jbm (Below.refl _ _) none) (tRow.at (World.ownsRow_nil _ _ _ _)) (fun k hk=>by cases hk);have hq:((ts.set 14 (tIdx B (U.tr.map (fun x=>x.1)++[g.getD 0 []]))).set 4 (tRow w0.heap.size ⟨56,5,v,U.tr.length+1,fl te (U.tr++[x_tr g (Jcc T) (Jbn T)])⟩)).length=28+U.tr.length:=by simp only [List.length_set];exact hl
 refine⟨_,_,G2,by rw [←ee_tr];exact Jev (k:=4) P.vlen,Jcb (k:=4) P.vlen,⟨Ja9 (k:=4) (by omega) (by omega),Ja9 (k:=4) (by omega) (by omega),?_,fun i h1 h2=>?_⟩,fun hE=>?_⟩
 ·rw [List.getElem?_append_left (by omega)]
  exact (Jam (by decide)).trans (Jam (by decide))
 ·rw [List.getElem?_append_left (by omega)]
  exact (Jam (by omega)).trans (Jam (by omega))
 have hc:(w::g).length=5:=Decidable.byContradiction fun q=>by rw [if_neg q] at hE;exact absurd hE (by decide)
 have eT:(addR F_ T 4 (w::g)).2={ T with tr:=T.tr++[x_tr g (Jcc T) (Jbn T)] }:=by
  obtain⟨a,b,c,d,e,q⟩:=five hc;cases q
  rfl
 rw [eT];have low:∀i,i<28→∀(l:List Tng) (t:Tng),l.length=28+U.tr.length→(l++[t])[i]?=l[i]?:=fun i hi l t hl=>List.getElem?_append_left (by omega)
 refine⟨{ U with tr:=U.tr++[x_tr g (Jcc T) (Jbn T)] },⟨P.cop.st,P.cop.ro,P.cop.ca,P.cop.ex,by show (U.tr++_).map noV=(T.tr++_).map noV;rw [List.map_append,List.map_append,P.cop.tr],P.cop.fr,P.cop.th,P.cop.gu,P.cop.pa,P.cop.pr,P.cop.di,P.cop.wi,P.cop.cp⟩,fun i hi=>?_,(Ja9 (k:=4) (by omega) (by omega)).trans P.di,(Ja9 (k:=4) (by omega) (by omega)).trans P.wi,(Ja9 (k:=4) (by omega) (by omega)).trans P.cp,fun j hj=>?_,fun j x hx=>?_,?_,Jcb (k:=4) P.vlen,fun i hi=>?_,fun x hx=>?_⟩
 ·by_cases e:i=4
  ·subst e
   refine⟨v,Jdi (k:=4) P.vlen (by omega),?_,?_⟩
   ·rw [low _ (by omega) _ _ hq]
    have e:lenP { U with tr:=U.tr++[x_tr g (Jcc T) (Jbn T)] } 4=U.tr.length+1:=by show (U.tr++[_]).length=_;rw [List.length_append];rfl
    rw [e];exact Jb3 (by rw [List.length_set];omega)
   ·have:=P.few 4 (by omega)
    show (U.tr++[_]).length≤_
    rw [List.length_append];exact Nat.le_trans (Nat.succ_le_succ this) hN
  ·obtain⟨u,hu⟩:=P.tabs i hi
   have e2:lenP { U with tr:=U.tr++[x_tr g (Jcc T) (Jbn T)] } i=lenP U i∧xsT { U with tr:=U.tr++[x_tr g (Jcc T) (Jbn T)] } i=xsT U i:=by
    match i,hi with
    | 0,_ | 1,_ | 2,_ | 3,_ | 4,_ | 5,_ | 6,_ | 7,_ | 8,_ | 9,_=>first | exact⟨rfl,rfl⟩ | exact absurd rfl e
    | i+10,h1=>omega
   rw [e2.1,e2.2];exact⟨u,hu.keep (Ja9 (k:=4) (by omega) (by omega)) ((low _ (by omega) _ _ hq).trans ((Jam (by omega)).trans (Jam (by omega))))⟩
 ·by_cases e:j=3
  ·subst e
   refine⟨B,(Ja9 (k:=4) (by omega) (by omega)).trans ixx.cell,?_⟩;rw [low _ (by omega) _ _ hq,Jam (by omega)];have e2:idsT { U with tr:=U.tr++[x_tr g (Jcc T) (Jbn T)] } 3=(U.tr.map fun x=>x.1)++[g.getD 0 []]:=by show (U.tr++[_]).map _=_;rw [List.map_append];rfl
   rw [e2];exact Jb3 (by omega)
  ·obtain⟨B',hB⟩:=P.ix j hj
   have e2:idsT { U with tr:=U.tr++[x_tr g (Jcc T) (Jbn T)] } j=idsT U j:=by match j,hj with | 0,_ | 1,_ | 2,_ | 3,_=>first | rfl | exact absurd rfl e
   rw [e2];exact⟨B',hB.keep (Ja9 (k:=4) (by omega) (by omega)) ((low _ (by omega) _ _ hq).trans ((Jam (by omega)).trans (Jam (by omega))))⟩
 ·have hx:(U.tr++[x_tr g (Jcc T) (Jbn T)])[j]?=some x:=hx
  by_cases hj:j<U.tr.length
  ·rw [List.getElem?_append_left hj] at hx
   rw [List.getElem?_append_left (by omega),Jam (by omega),Jam (by omega)];exact P.calls j x hx
  ·rw [List.getElem?_append_right (by omega),List.getElem?_singleton] at hx
   split at hx
   ·next e =>
    cases hx
    rw [List.getElem?_append_right (by omega),List.getElem?_singleton,if_pos (by omega)]
   ·cases hx
 ·show (_++[_]).length=28+(U.tr++[_]).length
  rw [List.length_append,hq,List.length_append,Nat.add_assoc];rfl
 ·have:=P.few i hi
  by_cases e:i=4
  ·subst e
   show (U.tr++[_]).length≤_
   rw [List.length_append];exact Nat.succ_le_succ this
  ·have e2:lenP { U with tr:=U.tr++[x_tr g (Jcc T) (Jbn T)] } i=lenP U i:=by
    match i,hi with
    | 0,_ | 1,_ | 2,_ | 3,_ | 4,_ | 5,_ | 6,_ | 7,_ | 8,_ | 9,_=>first | exact rfl | exact absurd rfl e
    | i+10,h1=>omega
   omega
 ·have hx:x∈U.tr++[x_tr g (Jcc T) (Jbn T)]:=hx
  rcases List.mem_append.1 hx with h | h
  ·exact Nat.le_succ_of_le (P.fewc x h)
  ·have:x=x_tr g (Jcc T) (Jbn T):=by simpa using h
   subst this;exact Nat.zero_le _
theorem Jxa (x:Int):fe1 8 x=8:=if_neg (by decide)
theorem Qa4 (F_:Fm) (T:Tt) (w:Bs) (g:List Bs) (ok:Bool):e_cc F_ g (Ja8 T) ok=if (w::g).length=5 then (if ok=true then (addR F_ T 10 (w::g)).1 else 8) else 1:=by
 by_cases h:(w::g).length=5
 ·rw [if_pos h]
  obtain⟨a,b,c,d,e,q⟩:=five h;cases q
  cases ok with
  | true =>
   show _=err _
   rw [Jb6];rfl
  | false =>
   show fe1 (fe1 (fe1 (fe1 (fe1 (fe1 0 0) 8) _) _) _) _=8
   simp only [show fe1 (fe1 0 0) 8=8 from rfl,Jxa]
 ·rw [if_neg h]
  have h':¬(g.drop 0).length=4:=by simpa using h
  unfold e_cc;rw [if_neg h'];simp only [show fe1 0 1=1 from rfl,Jct]
theorem J13 {l:List Tp} {l0:List Tp} {x:Tp} (h:(l0++[x]).map noV=l.map noV) (v:Value) (c:Cl):(l0++[putV v c x]).map noV=(addC c l).map noV:=by
 rw [List.map_append] at h;rcases List.eq_nil_or_concat l with rfl | ⟨t,y,rfl⟩
 ·simp at h
 ·rw [List.concat_eq_append] at *
  rw [List.map_append] at h;obtain⟨h1,h2⟩:=List.append_inj' h rfl;rw [Jls,List.map_append,List.map_append,h1];congr 1
  have h2:noV x=noV y:=by simpa using h2
  obtain⟨x1,x2,x3,x4,x5,x6⟩:=x;obtain⟨y1,y2,y3,y4,y5,y6⟩:=y;simp only [noV,Prod.mk.injEq] at h2;obtain⟨rfl,rfl,rfl,rfl,rfl⟩:=h2;rfl
theorem Qa5 (F_:Fm) (H:Rec w0 F vs ts g W) (FO:Fo F_ w0) (P:Pt w0 vs ts T U N) (hN:N+1≤1000000) {lw:Bs} (hlast:vs[16]?=some (.string (str lw))) (hne:(decide (lw=wTr) || decide (lw=wCc))=true→U.tr≠[]) (w:Bs) :
  Calls prog 88 #[.pointer (some ⟨F,0,none⟩)] W fun r w'=>r=.returned (.tuple #[])∧AdP w0 F vs ts (if (w::g).length=5 then (if (decide (lw=wTr) || decide (lw=wCc))=true then (addR F_ T 10 (w::g)).1 else 8) else 1) (addR F_ T 10 (w::g)).2 N w':=by
 obtain⟨v0,tb⟩:=P.tabs 4 (by omega);obtain⟨i0,i1,i2,i3⟩:=Jc5 P.cop;obtain⟨Bst,X_st⟩:=P.ix 0 (by omega);rw [show idsT U 0=Ja8 T from i0] at X_st;have hl:ts.length=28+U.tr.length:=P.tlen;refine (Qas F_ H FO hlast X_st (l:=U.tr) tb (fun ok=>?_)).mono fun r w' h=>⟨h.1,?_⟩
 ·rcases List.eq_nil_or_concat U.tr with e | ⟨l0,x,e⟩
  ·exact absurd e (hne ok)
  ·rw [List.concat_eq_append] at e
   refine⟨l0,x,e,P.calls l0.length x (by rw [e];simp),?_⟩;have:=P.fewc x (by rw [e];simp);omega
 rw [←Qa4];rcases h.2 with ⟨hE,v',G⟩ | ⟨hE,v',v7,l0,x,hlx,G⟩
 ·refine⟨_,_,G,?_,by unfold set2;simp only [List.length_set];exact P.vlen,⟨Jab (by omega),Jab (by omega),rfl,fun i h1 h2=>rfl⟩,fun q=>absurd q hE⟩
  unfold set2;rw [List.getElem?_set,if_pos rfl,if_pos (by rw [List.length_set,P.vlen];omega)]
 ·rw [hE]
  refine⟨_,_,G,?_,by unfold set2;simp only [List.length_set];exact P.vlen,⟨Jab (by omega),Jab (by omega),(Jam (by omega)).trans (Jam (by omega)),fun i h1 h2=>(Jam (by omega)).trans (Jam (by omega))⟩,fun _=>?_⟩
  ·unfold set2
   rw [List.getElem?_set,if_pos rfl,if_pos (by rw [List.length_set,P.vlen];omega)]
  have hc:(w::g).length=5:=Decidable.byContradiction fun q=>by rw [Qa4 F_ T w,if_neg q] at hE;exact absurd hE (by decide)
  have eT:(addR F_ T 10 (w::g)).2={ T with tr:=addC (x_cc F_ g (Ja8 T)) T.tr }:=by
   obtain⟨a,b,c,d,e,q⟩:=five hc;cases q
   rfl
  rw [eT];have hlen:U.tr.length=l0.length+1:=by rw [hlx];simp
  refine⟨{ U with tr:=l0++[putV v7 (x_cc F_ g (Ja8 T)) x] },⟨P.cop.st,P.cop.ro,P.cop.ca,P.cop.ex,J13 (by rw [←hlx];exact P.cop.tr) _ _,P.cop.fr,P.cop.th,P.cop.gu,P.cop.pa,P.cop.pr,P.cop.di,P.cop.wi,P.cop.cp⟩,fun i hi=>?_,(Jab (by omega)).trans P.di,(Jab (by omega)).trans P.wi,(Jab (by omega)).trans P.cp,fun j hj=>?_,fun j y hy=>?_,?_,by unfold set2;simp only [List.length_set];exact P.vlen,fun i hi=>?_,fun y hy=>?_⟩
  ·by_cases e:i=4
   ·subst e
    refine⟨v0,(Jab (by omega)).trans tb.cell,?_,?_⟩
    ·have e:lenP { U with tr:=l0++[putV v7 (x_cc F_ g (Ja8 T)) x] } 4=U.tr.length:=by show (l0++[_]).length=_;rw [hlen];simp
     rw [e];exact Jb3 (by rw [List.length_set];omega)
    ·show (l0++[_]).length≤_
     have:=tb.few;have e:lenP U 4=U.tr.length:=rfl;simp;omega
   ·obtain⟨u,hu⟩:=P.tabs i hi
    have e2:lenP { U with tr:=l0++[putV v7 (x_cc F_ g (Ja8 T)) x] } i=lenP U i∧xsT { U with tr:=l0++[putV v7 (x_cc F_ g (Ja8 T)) x] } i=xsT U i:=by
     match i,hi with
     | 0,_ | 1,_ | 2,_ | 3,_ | 4,_ | 5,_ | 6,_ | 7,_ | 8,_ | 9,_=>first | exact⟨rfl,rfl⟩ | exact absurd rfl e
     | i+10,h1=>omega
    rw [e2.1,e2.2];exact⟨u,hu.keep (Jab (by omega)) ((Jam (by omega)).trans (Jam (by omega)))⟩
  ·obtain⟨B',hB⟩:=P.ix j hj
   have e2:idsT { U with tr:=l0++[putV v7 (x_cc F_ g (Ja8 T)) x] } j=idsT U j:=by
    match j,hj with
    | 0,_ | 1,_ | 2,_=>rfl
    | 3,_=>show (l0++[_]).map _=U.tr.map _;rw [hlx,List.map_append,List.map_append];rfl
   rw [e2];exact⟨B',hB.keep (Jab (by omega)) ((Jam (by omega)).trans (Jam (by omega)))⟩
  ·have hy:(l0++[putV v7 (x_cc F_ g (Ja8 T)) x])[j]?=some y:=hy
   rw [Jam (by omega)];by_cases hj:j<l0.length
   ·rw [List.getElem?_append_left hj] at hy
    rw [Jam (by omega)];exact P.calls j y (by rw [hlx,List.getElem?_append_left hj];exact hy)
   ·rw [List.getElem?_append_right (by omega),List.getElem?_singleton] at hy
    split at hy
    ·next e =>
     cases hy
     have:j=l0.length:=by omega
     subst this;rw [Jb3 (by omega)];show _=some (tRow _ ⟨_,_,_,(x.2.2.2.2.2++[_]).length,_⟩)
     rw [List.length_append];rfl
    ·cases hy
  ·simp only [List.length_set]
   show ts.length=28+(l0++[_]).length
   rw [hl,hlen];simp
  ·by_cases e:i=4
   ·subst e
    have:=P.few 4 (by omega);have e:lenP U 4=U.tr.length:=rfl;show (l0++[_]).length≤_
    simp;omega
   ·have e2:lenP { U with tr:=l0++[putV v7 (x_cc F_ g (Ja8 T)) x] } i=lenP U i:=by
     match i,hi with
     | 0,_ | 1,_ | 2,_ | 3,_ | 4,_ | 5,_ | 6,_ | 7,_ | 8,_ | 9,_=>first | exact rfl | exact absurd rfl e
     | i+10,h1=>omega
    rw [e2];exact Nat.le_succ_of_le (P.few i hi)
  ·have hy:y∈l0++[putV v7 (x_cc F_ g (Ja8 T)) x]:=hy
   rcases List.mem_append.1 hy with h | h
   ·exact Nat.le_succ_of_le (P.fewc y (by rw [hlx];exact List.mem_append_left _ h))
   ·have:y=putV v7 (x_cc F_ g (Ja8 T)) x:=by simpa using h
    subst this;show (x.2.2.2.2.2++[_]).length≤_
    rw [List.length_append];exact Nat.succ_le_succ (P.fewc x (by rw [hlx];simp))
theorem J7v (x:Int):fe1 6 x=6:=if_neg (by decide)
theorem Qa6 (F_:Fm) (T:Tt) (w:Bs) (g:List Bs) (m:Nat):e_fa F_ g m=if (w::g).length=4 then (if m=0 then (addR F_ T 11 (w::g)).1 else 6) else 1:=by
 by_cases h:(w::g).length=4
 ·rw [if_pos h]
  obtain⟨a,b,c,d,q⟩:=four h;cases q
  by_cases hm:m=0
  ·rw [if_pos hm]
   subst hm;show _=err _
   rw [Jb6];rfl
  ·rw [if_neg hm]
   unfold e_fa;rw [if_neg hm];show fe1 (fe1 (fe1 (fe1 (fe1 0 0) 6) _) _) _=6
   simp only [show fe1 (fe1 0 0) 6=6 from rfl,J7v]
 ·rw [if_neg h]
  have h':¬(g.drop 0).length=3:=by simpa using h
  unfold e_fa;rw [if_neg h'];simp only [show fe1 0 1=1 from rfl,Jct]
theorem Qa7 (F_:Fm) (H:Rec w0 F vs ts g W) (FO:Fo F_ w0) (P:Pt w0 vs ts T U N) {B n m c:Nat} {A:Option Addr} {V:List UInt8→Value} (hm:vs[15]?=some (.map (some B))) (hM:ts[10]?=some (tLin B n V)) (hV:V wFa=.slice A m c) (w:Bs) :
  Calls prog 94 #[.pointer (some ⟨F,0,none⟩)] W fun r w'=>r=.returned (.tuple #[])∧AdP w0 F vs ts (if (w::g).length=4 then (if m=0 then (addR F_ T 11 (w::g)).1 else 6) else 1) (addR F_ T 11 (w::g)).2 N w':=by
 refine (Qar F_ H FO hm hM hV P.di P.wi P.cp).mono fun r w' h=>⟨h.1,?_⟩
 obtain⟨v',G⟩:=h.2;rw [←Qa6];have at0:∀(i:Nat),i≠12→i≠13→i≠14→((((set2 vs v' (e_fa F_ g m)).set 12 (.int .i64 (F_.prc (g.getD 0 [])).1)).set 13 (.int .i64 (F_.dur (g.getD 1 [])).1)).set 14 (.int .i64 (F_.prc (g.getD 2 [])).1))[i]?=(set2 vs v' (e_fa F_ g m))[i]?:=fun i h1 h2 h3=>by
  rw [List.getElem?_set,if_neg (fun q=>h3 q.symm),List.getElem?_set,if_neg (fun q=>h2 q.symm),List.getElem?_set,if_neg (fun q=>h1 q.symm)]
 have hvl:(set2 vs v' (e_fa F_ g m)).length=21:=by unfold set2;simp only [List.length_set];exact P.vlen
 refine⟨_,_,G,?_,by simp only [List.length_set];exact hvl,⟨(at0 15 (by omega) (by omega) (by omega)).trans (Jab (by omega)),(at0 16 (by omega) (by omega) (by omega)).trans (Jab (by omega)),rfl,fun i h1 h2=>rfl⟩,fun hE=>?_⟩
 ·rw [at0 1 (by omega) (by omega) (by omega)]
  unfold set2;rw [List.getElem?_set,if_pos rfl,if_pos (by rw [List.length_set,P.vlen];omega)]
 have hc:(w::g).length=4:=Decidable.byContradiction fun q=>by rw [Qa6 F_ T w,if_neg q] at hE;exact absurd hE (by decide)
 have eT:(addR F_ T 11 (w::g)).2={ T with di:=(F_.prc (g.getD 0 [])).1,wi:=(F_.dur (g.getD 1 [])).1,cp:=(F_.prc (g.getD 2 [])).1 }:=by
  obtain⟨a,b,c,d,q⟩:=four hc;cases q
  rfl
 rw [eT];refine⟨{ U with di:=(F_.prc (g.getD 0 [])).1,wi:=(F_.dur (g.getD 1 [])).1,cp:=(F_.prc (g.getD 2 [])).1 },⟨P.cop.st,P.cop.ro,P.cop.ca,P.cop.ex,P.cop.tr,P.cop.fr,P.cop.th,P.cop.gu,P.cop.pa,P.cop.pr,rfl,rfl,rfl⟩,fun i hi=>?_,?_,?_,?_,fun j hj=>?_,P.calls,P.tlen,by simp only [List.length_set];exact hvl,fun i hi=>?_,fun x hx=>Nat.le_succ_of_le (P.fewc x hx)⟩
 ·obtain⟨u,hu⟩:=P.tabs i hi
  have e2:lenP { U with di:=(F_.prc (g.getD 0 [])).1,wi:=(F_.dur (g.getD 1 [])).1,cp:=(F_.prc (g.getD 2 [])).1 } i=lenP U i∧xsT { U with di:=(F_.prc (g.getD 0 [])).1,wi:=(F_.dur (g.getD 1 [])).1,cp:=(F_.prc (g.getD 2 [])).1 } i=xsT U i:=by
   match i,hi with
   | 0,_ | 1,_ | 2,_ | 3,_ | 4,_ | 5,_ | 6,_ | 7,_ | 8,_ | 9,_=>exact⟨rfl,rfl⟩
   | i+10,h1=>omega
  rw [e2.1,e2.2];exact⟨u,hu.keep ((at0 _ (by omega) (by omega) (by omega)).trans (Jab (by omega))) rfl⟩
 ·rw [List.getElem?_set,if_neg (by omega),List.getElem?_set,if_neg (by omega),List.getElem?_set,if_pos rfl,if_pos (by omega)]
 ·rw [List.getElem?_set,if_neg (by omega),List.getElem?_set,if_pos rfl,if_pos (by rw [List.length_set];omega)]
 ·rw [List.getElem?_set,if_pos rfl,if_pos (by simp only [List.length_set];omega)]
 ·obtain⟨B',hB⟩:=P.ix j hj
  have e2:idsT { U with di:=(F_.prc (g.getD 0 [])).1,wi:=(F_.dur (g.getD 1 [])).1,cp:=(F_.prc (g.getD 2 [])).1 } j=idsT U j:=by match j,hj with | 0,_ | 1,_ | 2,_ | 3,_=>rfl
  rw [e2];exact⟨B',hB.keep ((at0 _ (by omega) (by omega) (by omega)).trans (Jab (by omega))) rfl⟩
 ·have e2:lenP { U with di:=(F_.prc (g.getD 0 [])).1,wi:=(F_.dur (g.getD 1 [])).1,cp:=(F_.prc (g.getD 2 [])).1 } i=lenP U i:=by
   match i,hi with
   | 0,_ | 1,_ | 2,_ | 3,_ | 4,_ | 5,_ | 6,_ | 7,_ | 8,_ | 9,_=>rfl
   | i+10,h1=>omega
  rw [e2];exact Nat.le_succ_of_le (P.few i hi)
end
end
end Go.Proofs.YtpifdbphmnifdaaGreatDoor
