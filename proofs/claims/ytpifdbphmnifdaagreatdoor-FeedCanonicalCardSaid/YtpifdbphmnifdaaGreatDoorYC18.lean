/-
  Facts. Condition: each theorem's own.
-/
import Derived.Lib.IndexLaws
import Derived.Test.YtpifdbphmnifdaaGreatDoorYC17
set_option maxRecDepth 100000
set_option maxHeartbeats 8000000
section
variable {p:Prop}
theorem Up (h:p:=by rintro r w1 ⟨rfl,h⟩;have HH:=Pe h;clear h C;go_wp2_with fail;go_end0;exact⟨rfl,HH.out⟩):p:=h
theorem Uq (h:p:=by rw [Jat,hk];decide):p:=h
theorem Ur (h:p:=by unfold set2;simp only [List.length_set];exact P.vlen):p:=h
theorem Us (h:p:=by rw [List.length_set,P.vlen];omega):p:=h
theorem Ut (h:p:=by rw [beq_eq_false_iff_ne];rintro rfl;exact h Kj):p:=h
end
open Go.Proofs.Tryz
namespace Go.Proofs.YtpifdbphmnifdaaGreatDoor
section
open Go.RowKit
section
variable {w0 W:World} {F:Nat} {vs:List Value} {ts:List Tng} {g:List Bs} {T U:Tt} {N:Nat}
theorem ee_tr (F_:Fm) (T:Tt) (w:Bs) (g:List Bs):e_tr g (Jb1 T) (Jba T)=if (w::g).length=5 then (addR F_ T 4 (w::g)).1 else 1:=by
 by_cases h:(w::g).length=5
 ·rw [if_pos h]
  obtain⟨a,b,c,d,e,q⟩:=five h;cases q;show _=err _
  rw [Jch];rfl
 ·rw [if_neg h]
  have h':¬(g.drop 0).length=4:=Kt;unfold e_tr;exact Uh
theorem Qel (F_:Fm) (H:Rec w0 F vs ts g W) (P:Pt w0 vs ts T U N) (hN:N+1≤1000000) (w:Bs) :
  Calls prog 87 #[.pointer (some ⟨F,0,none⟩)] W fun r w'=>r=.returned (.tuple #[])∧AdP w0 F vs ts (if (w::g).length=5 then (addR F_ T 4 (w::g)).1 else 1) (addR F_ T 4 (w::g)).2 N w':=by
 obtain⟨v0,tb⟩:=P.tabs 4 Kd;obtain⟨i0,i1,i2,i3⟩:=Jdz P.cop;obtain⟨B,ixx⟩:=P.ix 3 Kd;obtain⟨Bro,X_ro⟩:=P.ix 1 Kd;obtain⟨Bca,X_ca⟩:=P.ix 2 Kd;rw [show idsT U 1=Jb1 T from i1] at X_ro;rw [show idsT U 2=Jba T from i2] at X_ca;have hl:ts.length=28+U.tr.length:=P.tlen;refine (ad_tr H (l:=U.tr) tb ixx X_ro X_ca).mono fun r w' h=>⟨h.1,?_⟩
 obtain⟨v',v,G⟩:=h.2;have G2:=G.more (t:=rowC w0 (x_tr g (Jb1 T) (Jba T))) (Jbs Pg none) (tRow.at (World.ownsRow_nil _ _ _ _)) (fun k hk=>by cases hk);have hq:((ts.set 14 (tIdx B (U.tr.map (fun x=>x.1)++[g.getD 0 []]))).set 4 (tRow w0.heap.size ⟨56,5,v,U.tr.length+1,fl te (U.tr++[x_tr g (Jb1 T) (Jba T)])⟩)).length=28+U.tr.length:=by simp only [List.length_set];exact hl
 refine⟨_,_,G2,by rw [←ee_tr];exact Jfq (k:=4) P.vlen,Jcl (k:=4) P.vlen,⟨Jbi (k:=4) Kd Kd,Jbi (k:=4) Kd Kd,?_,fun i h1 h2=>?_⟩,fun hE=>?_⟩
 ·rw [List.getElem?_append_left Kd]
  exact (Jar Kl).trans (Jar Kl)
 ·rw [List.getElem?_append_left Kd]
  exact (Jar Kd).trans (Jar Kd)
 have hc:(w::g).length=5:=Decidable.byContradiction fun q=>Ug
 have eT:(addR F_ T 4 (w::g)).2={ T with tr:=T.tr++[x_tr g (Jb1 T) (Jba T)] }:=by
  obtain⟨a,b,c,d,e,q⟩:=five hc;cases q;rfl
 rw [eT];have low:∀i,i<28→∀(l:List Tng) (t:Tng),l.length=28+U.tr.length→(l++[t])[i]?=l[i]?:=fun i hi l t hl=>List.getElem?_append_left Kd
 refine⟨{ U with tr:=U.tr++[x_tr g (Jb1 T) (Jba T)] },⟨P.cop.st,P.cop.ro,P.cop.ca,P.cop.ex,by show (U.tr++_).map noV=(T.tr++_).map noV;rw [List.map_append,List.map_append,P.cop.tr],P.cop.fr,P.cop.th,P.cop.gu,P.cop.pa,P.cop.pr,P.cop.di,P.cop.wi,P.cop.cp⟩,fun i hi=>?_,(Jbi (k:=4) Kd Kd).trans P.di,(Jbi (k:=4) Kd Kd).trans P.wi,(Jbi (k:=4) Kd Kd).trans P.cp,fun j hj=>?_,fun j x hx=>?_,?_,Jcl (k:=4) P.vlen,fun i hi=>?_,fun x hx=>?_⟩
 ·by_cases e:i=4
  ·subst e
   refine⟨v,Jea (k:=4) P.vlen Kd,?_,?_⟩
   ·rw [low _ Kd _ _ hq]
    have e:lenP { U with tr:=U.tr++[x_tr g (Jb1 T) (Jba T)] } 4=U.tr.length+1:=by show (U.tr++[_]).length=_;rw [Pp];rfl
    exact Uk
   ·have:=P.few 4 Kd
    show (U.tr++[_]).length≤_
    rw [Pp];exact Nat.le_trans (Nat.succ_le_succ this) hN
  ·obtain⟨u,hu⟩:=P.tabs i hi
   have e2:lenP { U with tr:=U.tr++[x_tr g (Jb1 T) (Jba T)] } i=lenP U i∧xsT { U with tr:=U.tr++[x_tr g (Jb1 T) (Jba T)] } i=xsT U i:=by
    match i,hi with
    | 0,_ | 1,_ | 2,_ | 3,_ | 4,_ | 5,_ | 6,_ | 7,_ | 8,_ | 9,_=>first | exact⟨rfl,rfl⟩ | exact absurd rfl e
    | i+10,h1=>omega
   rw [e2.1,e2.2];exact⟨u,hu.keep (Jbi (k:=4) Kd Kd) ((low _ Kd _ _ hq).trans ((Jar Kd).trans (Jar Kd)))⟩
 ·by_cases e:j=3
  ·subst e
   refine⟨B,(Jbi (k:=4) Kd Kd).trans ixx.cell,?_⟩;rw [low _ Kd _ _ hq,Jar Kd];have e2:idsT { U with tr:=U.tr++[x_tr g (Jb1 T) (Jba T)] } 3=(U.tr.map fun x=>x.1)++[g.getD 0 []]:=by show (U.tr++[_]).map _=_;rw [List.map_append];rfl
   rw [e2];exact Jcd Kd
  ·obtain⟨B',hB⟩:=P.ix j hj
   have e2:idsT { U with tr:=U.tr++[x_tr g (Jb1 T) (Jba T)] } j=idsT U j:=by match j,hj with | 0,_ | 1,_ | 2,_ | 3,_=>first | rfl | exact absurd rfl e
   rw [e2];exact⟨B',hB.keep (Jbi (k:=4) Kd Kd) ((low _ Kd _ _ hq).trans ((Jar Kd).trans (Jar Kd)))⟩
 ·have hx:(U.tr++[x_tr g (Jb1 T) (Jba T)])[j]?=some x:=hx
  by_cases hj:j<U.tr.length
  ·rw [List.getElem?_append_left hj] at hx
   rw [List.getElem?_append_left Kd,Jar Kd,Jar Kd];exact P.calls j x hx
  ·rw [List.getElem?_append_right Kd,List.getElem?_singleton] at hx
   split at hx
   ·next e =>
    cases hx
    rw [List.getElem?_append_right Kd,List.getElem?_singleton,if_pos Kd]
   ·cases hx
 ·show (_++[_]).length=28+(U.tr++[_]).length
  rw [Pp,hq,Pp,Nat.add_assoc];rfl
 ·have:=P.few i hi
  by_cases e:i=4
  ·subst e
   show (U.tr++[_]).length≤_
   rw [Pp];exact Nat.succ_le_succ this
  ·have e2:lenP { U with tr:=U.tr++[x_tr g (Jb1 T) (Jba T)] } i=lenP U i:=by
    match i,hi with
    | 0,_ | 1,_ | 2,_ | 3,_ | 4,_ | 5,_ | 6,_ | 7,_ | 8,_ | 9,_=>first | exact rfl | exact absurd rfl e
    | i+10,h1=>omega
   omega
 ·have hx:x∈U.tr++[x_tr g (Jb1 T) (Jba T)]:=hx
  rcases List.mem_append.1 hx with h | h
  ·exact Nat.le_succ_of_le (P.fewc x h)
  ·have:x=x_tr g (Jb1 T) (Jba T):=Kt
   subst this;exact Nat.zero_le _
theorem J0t (x:Int):fe1 8 x=8:=if_neg Kl
theorem Qem (F_:Fm) (T:Tt) (w:Bs) (g:List Bs) (ok:Bool):e_cc F_ g (Jaw T) ok=if (w::g).length=5 then (if ok=true then (addR F_ T 10 (w::g)).1 else 8) else 1:=by
 by_cases h:(w::g).length=5
 ·rw [if_pos h]
  obtain⟨a,b,c,d,e,q⟩:=five h;cases q;cases ok with
  | true =>
   show _=err _
   rw [Jch];rfl
  | false =>
   show fe1 (fe1 (fe1 (fe1 (fe1 (fe1 0 0) 8) _) _) _) _=8
   simp only [show fe1 (fe1 0 0) 8=8 from rfl,J0t]
 ·rw [if_neg h]
  have h':¬(g.drop 0).length=4:=Kt;unfold e_cc;exact Uh
theorem J5d {l:List Tp} {l0:List Tp} {x:Tp} (h:(l0++[x]).map noV=l.map noV) (v:Value) (c:Cl):(l0++[putV v c x]).map noV=(addC c l).map noV:=by
 rw [List.map_append] at h;rcases List.eq_nil_or_concat l with rfl | ⟨t,y,rfl⟩
 ·exact Qt
 ·rw [List.concat_eq_append] at *
  rw [List.map_append] at h;obtain⟨h1,h2⟩:=List.append_inj' h rfl;rw [Ji6,List.map_append,List.map_append,h1];congr 1;have h2:noV x=noV y:=by simpa using h2
  obtain⟨x1,x2,x3,x4,x5,x6⟩:=x;obtain⟨y1,y2,y3,y4,y5,y6⟩:=y;simp only [noV,Prod.mk.injEq] at h2;obtain⟨rfl,rfl,rfl,rfl,rfl⟩:=h2;rfl
theorem Qen (F_:Fm) (H:Rec w0 F vs ts g W) (FO:Fo F_ w0) (P:Pt w0 vs ts T U N) (hN:N+1≤1000000) {lw:Bs} (hlast:vs[16]?=some (.string (str lw))) (hne:(decide (lw=wTr) || decide (lw=wCc))=true→U.tr≠[]) (w:Bs) :
  Calls prog 88 #[.pointer (some ⟨F,0,none⟩)] W fun r w'=>r=.returned (.tuple #[])∧AdP w0 F vs ts (if (w::g).length=5 then (if (decide (lw=wTr) || decide (lw=wCc))=true then (addR F_ T 10 (w::g)).1 else 8) else 1) (addR F_ T 10 (w::g)).2 N w':=by
 obtain⟨v0,tb⟩:=P.tabs 4 Kd;obtain⟨i0,i1,i2,i3⟩:=Jdz P.cop;obtain⟨Bst,X_st⟩:=P.ix 0 Kd;rw [show idsT U 0=Jaw T from i0] at X_st;have hl:ts.length=28+U.tr.length:=P.tlen;refine (Qd9 F_ H FO hlast X_st (l:=U.tr) tb (fun ok=>?_)).mono fun r w' h=>⟨h.1,?_⟩
 ·rcases List.eq_nil_or_concat U.tr with e | ⟨l0,x,e⟩
  ·exact absurd e (hne ok)
  ·rw [List.concat_eq_append] at e
   refine⟨l0,x,e,P.calls l0.length x (by rw [e];simp),?_⟩;have:=P.fewc x (by rw [e];simp);omega
 rw [←Qem];rcases h.2 with ⟨hE,v',G⟩ | ⟨hE,v',v7,l0,x,hlx,G⟩
 ·refine⟨_,_,G,?_,Ur,⟨Jae Kd,Jae Kd,rfl,fun i h1 h2=>rfl⟩,fun q=>absurd q hE⟩
  unfold set2;rw [List.getElem?_set,if_pos rfl,if_pos Us]
 ·rw [hE]
  refine⟨_,_,G,?_,Ur,⟨Jae Kd,Jae Kd,(Jar Kd).trans (Jar Kd),fun i h1 h2=>(Jar Kd).trans (Jar Kd)⟩,fun _=>?_⟩
  ·unfold set2
   rw [List.getElem?_set,if_pos rfl,if_pos Us]
  have hc:(w::g).length=5:=Decidable.byContradiction fun q=>by rw [Qem F_ T w,if_neg q] at hE;exact absurd hE Kl
  have eT:(addR F_ T 10 (w::g)).2={ T with tr:=addC (x_cc F_ g (Jaw T)) T.tr }:=by
   obtain⟨a,b,c,d,e,q⟩:=five hc;cases q;rfl
  rw [eT];have hlen:U.tr.length=l0.length+1:=by rw [hlx];simp
  refine⟨{ U with tr:=l0++[putV v7 (x_cc F_ g (Jaw T)) x] },⟨P.cop.st,P.cop.ro,P.cop.ca,P.cop.ex,J5d (by rw [←hlx];exact P.cop.tr) _ _,P.cop.fr,P.cop.th,P.cop.gu,P.cop.pa,P.cop.pr,P.cop.di,P.cop.wi,P.cop.cp⟩,fun i hi=>?_,(Jae Kd).trans P.di,(Jae Kd).trans P.wi,(Jae Kd).trans P.cp,fun j hj=>?_,fun j y hy=>?_,?_,Ur,fun i hi=>?_,fun y hy=>?_⟩
  ·by_cases e:i=4
   ·subst e
    refine⟨v0,(Jae Kd).trans tb.cell,?_,?_⟩
    ·have e:lenP { U with tr:=l0++[putV v7 (x_cc F_ g (Jaw T)) x] } 4=U.tr.length:=by show (l0++[_]).length=_;rw [hlen];simp
     exact Uk
    ·show (l0++[_]).length≤_
     have:=tb.few;have e:lenP U 4=U.tr.length:=rfl;exact Ke
   ·obtain⟨u,hu⟩:=P.tabs i hi
    have e2:lenP { U with tr:=l0++[putV v7 (x_cc F_ g (Jaw T)) x] } i=lenP U i∧xsT { U with tr:=l0++[putV v7 (x_cc F_ g (Jaw T)) x] } i=xsT U i:=by
     match i,hi with
     | 0,_ | 1,_ | 2,_ | 3,_ | 4,_ | 5,_ | 6,_ | 7,_ | 8,_ | 9,_=>first | exact⟨rfl,rfl⟩ | exact absurd rfl e
     | i+10,h1=>omega
    rw [e2.1,e2.2];exact⟨u,hu.keep (Jae Kd) ((Jar Kd).trans (Jar Kd))⟩
  ·obtain⟨B',hB⟩:=P.ix j hj
   have e2:idsT { U with tr:=l0++[putV v7 (x_cc F_ g (Jaw T)) x] } j=idsT U j:=by
    match j,hj with
    | 0,_ | 1,_ | 2,_=>rfl
    | 3,_=>show (l0++[_]).map _=U.tr.map _;rw [hlx,List.map_append,List.map_append];rfl
   rw [e2];exact⟨B',hB.keep (Jae Kd) ((Jar Kd).trans (Jar Kd))⟩
  ·have hy:(l0++[putV v7 (x_cc F_ g (Jaw T)) x])[j]?=some y:=hy
   rw [Jar Kd];by_cases hj:j<l0.length
   ·rw [List.getElem?_append_left hj] at hy
    rw [Jar Kd];exact P.calls j y (by rw [hlx,List.getElem?_append_left hj];exact hy)
   ·rw [List.getElem?_append_right Kd,List.getElem?_singleton] at hy
    split at hy
    ·next e =>
     cases hy
     have:j=l0.length:=Kd;subst this;rw [Jcd Kd];show _=some (tRow _ ⟨_,_,_,(x.2.2.2.2.2++[_]).length,_⟩)
     rw [Pp];rfl
    ·cases hy
  ·simp only [List.length_set]
   show ts.length=28+(l0++[_]).length
   rw [hl,hlen];simp
  ·by_cases e:i=4
   ·subst e
    have:=P.few 4 Kd;have e:lenP U 4=U.tr.length:=rfl;show (l0++[_]).length≤_
    exact Ke
   ·have e2:lenP { U with tr:=l0++[putV v7 (x_cc F_ g (Jaw T)) x] } i=lenP U i:=by
     match i,hi with
     | 0,_ | 1,_ | 2,_ | 3,_ | 4,_ | 5,_ | 6,_ | 7,_ | 8,_ | 9,_=>first | exact rfl | exact absurd rfl e
     | i+10,h1=>omega
    rw [e2];exact Nat.le_succ_of_le (P.few i hi)
  ·have hy:y∈l0++[putV v7 (x_cc F_ g (Jaw T)) x]:=hy
   rcases List.mem_append.1 hy with h | h
   ·exact Nat.le_succ_of_le (P.fewc y (by rw [hlx];exact List.mem_append_left _ h))
   ·have:y=putV v7 (x_cc F_ g (Jaw T)) x:=Kt
    subst this;show (x.2.2.2.2.2++[_]).length≤_
    rw [Pp];exact Nat.succ_le_succ (P.fewc x (by rw [hlx];simp))
theorem Qa5 (x:Int):fe1 6 x=6:=if_neg Kl
theorem Qeo (F_:Fm) (T:Tt) (w:Bs) (g:List Bs) (m:Nat):e_fa F_ g m=if (w::g).length=4 then (if m=0 then (addR F_ T 11 (w::g)).1 else 6) else 1:=by
 by_cases h:(w::g).length=4
 ·rw [if_pos h]
  obtain⟨a,b,c,d,q⟩:=four h;cases q;by_cases hm:m=0
  ·rw [if_pos hm]
   subst hm;show _=err _
   rw [Jch];rfl
  ·rw [if_neg hm]
   unfold e_fa;rw [if_neg hm];show fe1 (fe1 (fe1 (fe1 (fe1 0 0) 6) _) _) _=6
   simp only [show fe1 (fe1 0 0) 6=6 from rfl,Qa5]
 ·rw [if_neg h]
  have h':¬(g.drop 0).length=3:=Kt;unfold e_fa;exact Uh
theorem Qep (F_:Fm) (H:Rec w0 F vs ts g W) (FO:Fo F_ w0) (P:Pt w0 vs ts T U N) {B n m c:Nat} {A:Option Addr} {V:List UInt8→Value} (hm:vs[15]?=some (.map (some B))) (hM:ts[10]?=some (tLin B n V)) (hV:V wFa=.slice A m c) (w:Bs) :
  Calls prog 94 #[.pointer (some ⟨F,0,none⟩)] W fun r w'=>r=.returned (.tuple #[])∧AdP w0 F vs ts (if (w::g).length=4 then (if m=0 then (addR F_ T 11 (w::g)).1 else 6) else 1) (addR F_ T 11 (w::g)).2 N w':=by
 refine (Qd8 F_ H FO hm hM hV P.di P.wi P.cp).mono fun r w' h=>⟨h.1,?_⟩
 obtain⟨v',G⟩:=h.2;rw [←Qeo];have at0:∀(i:Nat),i≠12→i≠13→i≠14→((((set2 vs v' (e_fa F_ g m)).set 12 (.int .i64 (F_.prc (g.getD 0 [])).1)).set 13 (.int .i64 (F_.dur (g.getD 1 [])).1)).set 14 (.int .i64 (F_.prc (g.getD 2 [])).1))[i]?=(set2 vs v' (e_fa F_ g m))[i]?:=fun i h1 h2 h3=>by
  rw [List.getElem?_set,if_neg (fun q=>h3 q.symm),List.getElem?_set,if_neg (fun q=>h2 q.symm),List.getElem?_set,if_neg (fun q=>h1 q.symm)]
 have hvl:(set2 vs v' (e_fa F_ g m)).length=21:=Ur;refine⟨_,_,G,?_,by simp only [List.length_set];exact hvl,⟨(at0 15 Kd Kd Kd).trans (Jae Kd),(at0 16 Kd Kd Kd).trans (Jae Kd),rfl,fun i h1 h2=>rfl⟩,fun hE=>?_⟩
 ·rw [at0 1 Kd Kd Kd]
  unfold set2;rw [List.getElem?_set,if_pos rfl,if_pos Us]
 have hc:(w::g).length=4:=Decidable.byContradiction fun q=>by rw [Qeo F_ T w,if_neg q] at hE;exact absurd hE Kl
 have eT:(addR F_ T 11 (w::g)).2={ T with di:=(F_.prc (g.getD 0 [])).1,wi:=(F_.dur (g.getD 1 [])).1,cp:=(F_.prc (g.getD 2 [])).1 }:=by
  obtain⟨a,b,c,d,q⟩:=four hc;cases q;rfl
 rw [eT];refine⟨{ U with di:=(F_.prc (g.getD 0 [])).1,wi:=(F_.dur (g.getD 1 [])).1,cp:=(F_.prc (g.getD 2 [])).1 },⟨P.cop.st,P.cop.ro,P.cop.ca,P.cop.ex,P.cop.tr,P.cop.fr,P.cop.th,P.cop.gu,P.cop.pa,P.cop.pr,rfl,rfl,rfl⟩,fun i hi=>?_,?_,?_,?_,fun j hj=>?_,P.calls,P.tlen,by simp only [List.length_set];exact hvl,fun i hi=>?_,fun x hx=>Nat.le_succ_of_le (P.fewc x hx)⟩
 ·obtain⟨u,hu⟩:=P.tabs i hi
  have e2:lenP { U with di:=(F_.prc (g.getD 0 [])).1,wi:=(F_.dur (g.getD 1 [])).1,cp:=(F_.prc (g.getD 2 [])).1 } i=lenP U i∧xsT { U with di:=(F_.prc (g.getD 0 [])).1,wi:=(F_.dur (g.getD 1 [])).1,cp:=(F_.prc (g.getD 2 [])).1 } i=xsT U i:=by
   match i,hi with
   | 0,_ | 1,_ | 2,_ | 3,_ | 4,_ | 5,_ | 6,_ | 7,_ | 8,_ | 9,_=>exact⟨rfl,rfl⟩
   | i+10,h1=>omega
  rw [e2.1,e2.2];exact⟨u,hu.keep ((at0 _ Kd Kd Kd).trans (Jae Kd)) rfl⟩
 ·rw [List.getElem?_set,if_neg Kd,List.getElem?_set,if_neg Kd,List.getElem?_set,if_pos rfl,if_pos Kd]
 ·rw [List.getElem?_set,if_neg Kd,List.getElem?_set,if_pos rfl,if_pos Ul]
 ·rw [List.getElem?_set,if_pos rfl,if_pos (by simp only [List.length_set];omega)]
 ·obtain⟨B',hB⟩:=P.ix j hj
  have e2:idsT { U with di:=(F_.prc (g.getD 0 [])).1,wi:=(F_.dur (g.getD 1 [])).1,cp:=(F_.prc (g.getD 2 [])).1 } j=idsT U j:=by match j,hj with | 0,_ | 1,_ | 2,_ | 3,_=>rfl
  rw [e2];exact⟨B',hB.keep ((at0 _ Kd Kd Kd).trans (Jae Kd)) rfl⟩
 ·have e2:lenP { U with di:=(F_.prc (g.getD 0 [])).1,wi:=(F_.dur (g.getD 1 [])).1,cp:=(F_.prc (g.getD 2 [])).1 } i=lenP U i:=by
   match i,hi with
   | 0,_ | 1,_ | 2,_ | 3,_ | 4,_ | 5,_ | 6,_ | 7,_ | 8,_ | 9,_=>rfl
   | i+10,h1=>omega
  rw [e2];exact Nat.le_succ_of_le (P.few i hi)
end
theorem Jat (t w:Bs):((str t).toList==w)=decide (t=w):=by
 have tl:(str t).toList=t:=by rw [Lib.toList_data]
 rw [tl];by_cases q:t=w <;> simp [q]
theorem Qeq {F:Nat} {W:World} {kw:Bs} (hk:kw=wSt) {Z:World→Prop} (C:Calls prog 83 #[.pointer (some ⟨F,0,none⟩)] W fun r w'=>r=.returned (.tuple #[])∧Z w'):Calls prog 44 #[.pointer (some ⟨F,0,none⟩),.string (str kw)] W fun r w'=>r=.returned (.tuple #[])∧Z w':=by
 have c0:((str kw).toList==[115,116,111,112])=true:=Uq;have C:=Pe C;clear hk;generalize str kw=s at *;go_enter func44,ntmps44;go_wp2_with fail;refine C.out.mono ?_;exact Up
theorem Qer {F:Nat} {W:World} {kw:Bs} (hk:kw=wRo) {Z:World→Prop} (C:Calls prog 84 #[.pointer (some ⟨F,0,none⟩)] W fun r w'=>r=.returned (.tuple #[])∧Z w'):Calls prog 44 #[.pointer (some ⟨F,0,none⟩),.string (str kw)] W fun r w'=>r=.returned (.tuple #[])∧Z w':=by
 have c0:((str kw).toList==[115,116,111,112])=false:=Uq;have c1:((str kw).toList==[114,111,117,116,101])=true:=Uq;have C:=Pe C;clear hk;generalize str kw=s at *;go_enter func44,ntmps44;go_wp2_with fail;refine C.out.mono ?_;exact Up
theorem Qes {F:Nat} {W:World} {kw:Bs} (hk:kw=wCa) {Z:World→Prop} (C:Calls prog 85 #[.pointer (some ⟨F,0,none⟩)] W fun r w'=>r=.returned (.tuple #[])∧Z w'):Calls prog 44 #[.pointer (some ⟨F,0,none⟩),.string (str kw)] W fun r w'=>r=.returned (.tuple #[])∧Z w':=by
 have c0:((str kw).toList==[115,116,111,112])=false:=Uq;have c1:((str kw).toList==[114,111,117,116,101])=false:=Uq;have c2:((str kw).toList==[99,97,108,101,110,100,97,114])=true:=Uq;have C:=Pe C;clear hk;generalize str kw=s at *;go_enter func44,ntmps44;go_wp2_with fail;refine C.out.mono ?_;exact Up
theorem Qet {F:Nat} {W:World} {kw:Bs} (hk:kw=wEx) {Z:World→Prop} (C:Calls prog 86 #[.pointer (some ⟨F,0,none⟩)] W fun r w'=>r=.returned (.tuple #[])∧Z w'):Calls prog 44 #[.pointer (some ⟨F,0,none⟩),.string (str kw)] W fun r w'=>r=.returned (.tuple #[])∧Z w':=by
 have c0:((str kw).toList==[115,116,111,112])=false:=Uq;have c1:((str kw).toList==[114,111,117,116,101])=false:=Uq;have c2:((str kw).toList==[99,97,108,101,110,100,97,114])=false:=Uq;have c3:((str kw).toList==[101,120,99,101,112,116,105,111,110])=true:=Uq;have C:=Pe C;clear hk;generalize str kw=s at *;go_enter func44,ntmps44;go_wp2_with fail;refine C.out.mono ?_;exact Up
theorem Qeu {F:Nat} {W:World} {kw:Bs} (hk:kw=wTr) {Z:World→Prop} (C:Calls prog 87 #[.pointer (some ⟨F,0,none⟩)] W fun r w'=>r=.returned (.tuple #[])∧Z w'):Calls prog 44 #[.pointer (some ⟨F,0,none⟩),.string (str kw)] W fun r w'=>r=.returned (.tuple #[])∧Z w':=by
 have c0:((str kw).toList==[115,116,111,112])=false:=Uq;have c1:((str kw).toList==[114,111,117,116,101])=false:=Uq;have c2:((str kw).toList==[99,97,108,101,110,100,97,114])=false:=Uq;have c3:((str kw).toList==[101,120,99,101,112,116,105,111,110])=false:=Uq;have c4:((str kw).toList==[116,114,105,112])=true:=Uq;have C:=Pe C;clear hk;generalize str kw=s at *;go_enter func44,ntmps44;go_wp2_with fail;refine C.out.mono ?_;exact Up
theorem Qev {F:Nat} {W:World} {kw:Bs} (hk:kw=wCc) {Z:World→Prop} (C:Calls prog 88 #[.pointer (some ⟨F,0,none⟩)] W fun r w'=>r=.returned (.tuple #[])∧Z w'):Calls prog 44 #[.pointer (some ⟨F,0,none⟩),.string (str kw)] W fun r w'=>r=.returned (.tuple #[])∧Z w':=by
 have c0:((str kw).toList==[115,116,111,112])=false:=Uq;have c1:((str kw).toList==[114,111,117,116,101])=false:=Uq;have c2:((str kw).toList==[99,97,108,101,110,100,97,114])=false:=Uq;have c3:((str kw).toList==[101,120,99,101,112,116,105,111,110])=false:=Uq;have c4:((str kw).toList==[116,114,105,112])=false:=Uq;have c5:((str kw).toList==[99,97,108,108])=true:=Uq;have C:=Pe C;clear hk;generalize str kw=s at *;go_enter func44,ntmps44;go_wp2_with fail;refine C.out.mono ?_;exact Up
theorem Qew {F:Nat} {W:World} {kw:Bs} (hk:kw=wFr) {Z:World→Prop} (C:Calls prog 89 #[.pointer (some ⟨F,0,none⟩)] W fun r w'=>r=.returned (.tuple #[])∧Z w'):Calls prog 44 #[.pointer (some ⟨F,0,none⟩),.string (str kw)] W fun r w'=>r=.returned (.tuple #[])∧Z w':=by
 have c0:((str kw).toList==[115,116,111,112])=false:=Uq;have c1:((str kw).toList==[114,111,117,116,101])=false:=Uq;have c2:((str kw).toList==[99,97,108,101,110,100,97,114])=false:=Uq;have c3:((str kw).toList==[101,120,99,101,112,116,105,111,110])=false:=Uq;have c4:((str kw).toList==[116,114,105,112])=false:=Uq;have c5:((str kw).toList==[99,97,108,108])=false:=Uq;have c6:((str kw).toList==[102,114,101,113,117,101,110,99,121])=true:=Uq;have C:=Pe C;clear hk;generalize str kw=s at *;go_enter func44,ntmps44;go_wp2_with fail;refine C.out.mono ?_;exact Up
theorem Qex {F:Nat} {W:World} {kw:Bs} (hk:kw=wTh) {Z:World→Prop} (C:Calls prog 90 #[.pointer (some ⟨F,0,none⟩)] W fun r w'=>r=.returned (.tuple #[])∧Z w'):Calls prog 44 #[.pointer (some ⟨F,0,none⟩),.string (str kw)] W fun r w'=>r=.returned (.tuple #[])∧Z w':=by
 have c0:((str kw).toList==[115,116,111,112])=false:=Uq;have c1:((str kw).toList==[114,111,117,116,101])=false:=Uq;have c2:((str kw).toList==[99,97,108,101,110,100,97,114])=false:=Uq;have c3:((str kw).toList==[101,120,99,101,112,116,105,111,110])=false:=Uq;have c4:((str kw).toList==[116,114,105,112])=false:=Uq;have c5:((str kw).toList==[99,97,108,108])=false:=Uq;have c6:((str kw).toList==[102,114,101,113,117,101,110,99,121])=false:=Uq;have c7:((str kw).toList==[116,104,114,111,117,103,104])=true:=Uq;have C:=Pe C;clear hk;generalize str kw=s at *;go_enter func44,ntmps44;go_wp2_with fail;refine C.out.mono ?_;exact Up
theorem Qey {F:Nat} {W:World} {kw:Bs} (hk:kw=wGu) {Z:World→Prop} (C:Calls prog 91 #[.pointer (some ⟨F,0,none⟩)] W fun r w'=>r=.returned (.tuple #[])∧Z w'):Calls prog 44 #[.pointer (some ⟨F,0,none⟩),.string (str kw)] W fun r w'=>r=.returned (.tuple #[])∧Z w':=by
 have c0:((str kw).toList==[115,116,111,112])=false:=Uq;have c1:((str kw).toList==[114,111,117,116,101])=false:=Uq;have c2:((str kw).toList==[99,97,108,101,110,100,97,114])=false:=Uq;have c3:((str kw).toList==[101,120,99,101,112,116,105,111,110])=false:=Uq;have c4:((str kw).toList==[116,114,105,112])=false:=Uq;have c5:((str kw).toList==[99,97,108,108])=false:=Uq;have c6:((str kw).toList==[102,114,101,113,117,101,110,99,121])=false:=Uq;have c7:((str kw).toList==[116,104,114,111,117,103,104])=false:=Uq;have c8:((str kw).toList==[103,117,97,114,97,110,116,101,101])=true:=Uq;have C:=Pe C;clear hk;generalize str kw=s at *;go_enter func44,ntmps44;go_wp2_with fail;refine C.out.mono ?_;exact Up
theorem Qez {F:Nat} {W:World} {kw:Bs} (hk:kw=wPa) {Z:World→Prop} (C:Calls prog 92 #[.pointer (some ⟨F,0,none⟩)] W fun r w'=>r=.returned (.tuple #[])∧Z w'):Calls prog 44 #[.pointer (some ⟨F,0,none⟩),.string (str kw)] W fun r w'=>r=.returned (.tuple #[])∧Z w':=by
 have c0:((str kw).toList==[115,116,111,112])=false:=Uq;have c1:((str kw).toList==[114,111,117,116,101])=false:=Uq;have c2:((str kw).toList==[99,97,108,101,110,100,97,114])=false:=Uq;have c3:((str kw).toList==[101,120,99,101,112,116,105,111,110])=false:=Uq;have c4:((str kw).toList==[116,114,105,112])=false:=Uq;have c5:((str kw).toList==[99,97,108,108])=false:=Uq;have c6:((str kw).toList==[102,114,101,113,117,101,110,99,121])=false:=Uq;have c7:((str kw).toList==[116,104,114,111,117,103,104])=false:=Uq;have c8:((str kw).toList==[103,117,97,114,97,110,116,101,101])=false:=Uq;have c9:((str kw).toList==[112,97,116,104])=true:=Uq;have C:=Pe C;clear hk;generalize str kw=s at *;go_enter func44,ntmps44;go_wp2_with fail;refine C.out.mono ?_;exact Up
theorem Qe0 {F:Nat} {W:World} {kw:Bs} (hk:kw=wPr) {Z:World→Prop} (C:Calls prog 93 #[.pointer (some ⟨F,0,none⟩)] W fun r w'=>r=.returned (.tuple #[])∧Z w'):Calls prog 44 #[.pointer (some ⟨F,0,none⟩),.string (str kw)] W fun r w'=>r=.returned (.tuple #[])∧Z w':=by
 have c0:((str kw).toList==[115,116,111,112])=false:=Uq;have c1:((str kw).toList==[114,111,117,116,101])=false:=Uq;have c2:((str kw).toList==[99,97,108,101,110,100,97,114])=false:=Uq;have c3:((str kw).toList==[101,120,99,101,112,116,105,111,110])=false:=Uq;have c4:((str kw).toList==[116,114,105,112])=false:=Uq;have c5:((str kw).toList==[99,97,108,108])=false:=Uq;have c6:((str kw).toList==[102,114,101,113,117,101,110,99,121])=false:=Uq;have c7:((str kw).toList==[116,104,114,111,117,103,104])=false:=Uq;have c8:((str kw).toList==[103,117,97,114,97,110,116,101,101])=false:=Uq;have c9:((str kw).toList==[112,97,116,104])=false:=Uq;have c10:((str kw).toList==[112,114,111,100,117,99,116])=true:=Uq;have C:=Pe C;clear hk;generalize str kw=s at *;go_enter func44,ntmps44;go_wp2_with fail;refine C.out.mono ?_;exact Up
theorem Qe1 {F:Nat} {W:World} {kw:Bs} (hk:kw=wFa) {Z:World→Prop} (C:Calls prog 94 #[.pointer (some ⟨F,0,none⟩)] W fun r w'=>r=.returned (.tuple #[])∧Z w'):Calls prog 44 #[.pointer (some ⟨F,0,none⟩),.string (str kw)] W fun r w'=>r=.returned (.tuple #[])∧Z w':=by
 have c0:((str kw).toList==[115,116,111,112])=false:=Uq;have c1:((str kw).toList==[114,111,117,116,101])=false:=Uq;have c2:((str kw).toList==[99,97,108,101,110,100,97,114])=false:=Uq;have c3:((str kw).toList==[101,120,99,101,112,116,105,111,110])=false:=Uq;have c4:((str kw).toList==[116,114,105,112])=false:=Uq;have c5:((str kw).toList==[99,97,108,108])=false:=Uq;have c6:((str kw).toList==[102,114,101,113,117,101,110,99,121])=false:=Uq;have c7:((str kw).toList==[116,104,114,111,117,103,104])=false:=Uq;have c8:((str kw).toList==[103,117,97,114,97,110,116,101,101])=false:=Uq;have c9:((str kw).toList==[112,97,116,104])=false:=Uq;have c10:((str kw).toList==[112,114,111,100,117,99,116])=false:=Uq;have c11:((str kw).toList==[102,97,114,101,115])=true:=Uq;have C:=Pe C;clear hk;generalize str kw=s at *;go_enter func44,ntmps44;go_wp2_with fail;refine C.out.mono ?_;exact Up
theorem sw_no {F:Nat} {W:World} {kw:Bs} (hk:kw ∉ kinds) {Z:World→Prop} (C:Calls prog 95 #[.pointer (some ⟨F,0,none⟩),.bool false,.int .i64 41] W fun r w'=>r=.returned (.tuple #[])∧Z w'):Calls prog 44 #[.pointer (some ⟨F,0,none⟩),.string (str kw)] W fun r w'=>r=.returned (.tuple #[])∧Z w':=by
 have hn:∀w,w∈kinds→((str kw).toList==w)=false:=fun w hw=>by rw [Jat];exact Pj fun e=>hk (by rw [e];exact hw)
 have c0:=hn [115,116,111,112] Kl;have c1:=hn [114,111,117,116,101] Kl;have c2:=hn [99,97,108,101,110,100,97,114] Kl;have c3:=hn [101,120,99,101,112,116,105,111,110] Kl;have c4:=hn [116,114,105,112] Kl;have c5:=hn [99,97,108,108] Kl;have c6:=hn [102,114,101,113,117,101,110,99,121] Kl;have c7:=hn [116,104,114,111,117,103,104] Kl;have c8:=hn [103,117,97,114,97,110,116,101,101] Kl;have c9:=hn [112,97,116,104] Kl;have c10:=hn [112,114,111,100,117,99,116] Kl;have c11:=hn [102,97,114,101,115] Kl;have C:=Pe C;clear hk hn;generalize str kw=s at *;go_enter func44,ntmps44;go_wp2_with fail;refine C.out.mono ?_;exact Up
theorem Jrb {kw:Bs} (h:kind kw≠12):kinds[kind kw]?=some kw:=by
 have hlt:kinds.findIdx (fun x=>decide (x=kw))<kinds.length:=by
  have:=Jhf kw;have e:kinds.length=12:=rfl;unfold kind at h this;omega
 have g:=List.findIdx_getElem (w:=hlt);simp only [decide_eq_true_eq] at g;unfold kind;rw [List.getElem?_eq_getElem hlt,g]
theorem J0u {kw:Bs} (h:kind kw=12):kw ∉ kinds:=fun hm=>by
 have:kinds.findIdx (fun x=>decide (x=kw))<kinds.length:=List.findIdx_lt_length_of_exists ⟨kw,hm,Kj⟩;have e:kinds.length=12:=rfl;unfold kind at h;omega
def Jfj (F_:Fm) (T:Tt) (k:Nat) (f:List Bs) (ok:Bool) (m:Nat):Int:=if k=12 then 41 else if f.length≠cnts.getD k 0 then 1 else if k=10∧ok=false then 8 else if k=11∧m≠0 then 6 else (addR F_ T k f).1
theorem J5e (F_:Fm) {w0 W:World} {F:Nat} {vs:List Value} {ts:List Tng} {g:List Bs} {T U:Tt} {N:Nat} (H:Rec w0 F vs ts g W) (FO:Fo F_ w0) (P:Pt w0 vs ts T U N) (hN:N+1≤1000000) {lw:Bs} (hlast:vs[16]?=some (.string (str lw))) (hne:(decide (lw=wTr) || decide (lw=wCc))=true→U.tr≠[]) {B n m c:Nat} {A:Option Addr} {V:List UInt8→Value} (hm:vs[15]?=some (.map (some B))) (hM:ts[10]?=some (tLin B n V)) (hV:V wFa=.slice A m c) (kw:Bs) :
  Calls prog 44 #[.pointer (some ⟨F,0,none⟩),.string (str kw)] W fun r w'=>r=.returned (.tuple #[])∧AdP w0 F vs ts (Jfj F_ T (kind kw) (kw::g) (decide (lw=wTr) || decide (lw=wCc)) m) (addR F_ T (kind kw) (kw::g)).2 N w':=by
 have plain:∀(k c:Nat),k<10→cnts.getD k 0=c→Jfj F_ T k (kw::g) (decide (lw=wTr) || decide (lw=wCc)) m=if (kw::g).length=c then (addR F_ T k (kw::g)).1 else 1:=fun k c h10 hc=>by
  unfold Jfj;rw [hc,if_neg Kd];by_cases q:(kw::g).length=c
  ·rw [if_neg (fun x=>x q),if_pos q]
   rw [if_neg (fun x=>Kd),if_neg (fun x=>Kd)]
  ·rw [if_pos q,if_neg q]
 by_cases h12:kind kw=12
 ·obtain⟨vq,pq⟩:=H.prd
  refine sw_no (J0u h12) ((Jdy (F:=F) (vs:=vs) (g:=g) (W0:=W) false 41 0 0 W (Nx.start pq)).mono fun r w' h=>⟨h.1,?_⟩);obtain⟨v',G⟩:=H.up h.2.1;have e:Jfj F_ T (kind kw) (kw::g) (decide (lw=wTr) || decide (lw=wCc)) m=41:=by unfold Jfj;exact if_pos h12
  rw [e];refine⟨_,_,G,?_,Ur,⟨Jae Kd,Jae Kd,rfl,fun i _ _=>rfl⟩,fun q=>absurd q Kl⟩;unfold set2;rw [List.getElem?_set,if_pos rfl,if_pos Us];rfl
 ·have hk:=Jrb h12
  have hle:=Jhf kw;obtain⟨k,hkk⟩:=Pi (kind kw);rw [hkk] at hk h12 hle ⊢;match k,hle,hk with
  | 0,_,hk=>rw [plain 0 5 Kd rfl];exact Qeq (Po hk).symm (Qec F_ H FO P hN kw)
  | 1,_,hk=>rw [plain 1 4 Kd rfl];exact Qer (Po hk).symm (Qed F_ H FO P hN kw)
  | 2,_,hk=>rw [plain 2 5 Kd rfl];exact Qes (Po hk).symm (Qee F_ H FO P hN kw)
  | 3,_,hk=>rw [plain 3 4 Kd rfl];exact Qet (Po hk).symm (Qef F_ H FO P hN kw)
  | 4,_,hk=>rw [plain 4 5 Kd rfl];exact Qeu (Po hk).symm (Qel F_ H P hN kw)
  | 5,_,hk=>rw [plain 5 5 Kd rfl];exact Qew (Po hk).symm (Qeg F_ H FO P hN kw)
  | 6,_,hk=>rw [plain 6 3 Kd rfl];exact Qex (Po hk).symm (Qeh F_ H P hN kw)
  | 7,_,hk=>rw [plain 7 4 Kd rfl];exact Qey (Po hk).symm (Qei F_ H P hN kw)
  | 8,_,hk=>rw [plain 8 5 Kd rfl];exact Qez (Po hk).symm (Qej F_ H FO P hN kw)
  | 9,_,hk=>rw [plain 9 7 Kd rfl];exact Qe0 (Po hk).symm (Qek F_ H FO P hN kw)
  | 10,_,hk =>
   have e:Jfj F_ T 10 (kw::g) (decide (lw=wTr) || decide (lw=wCc)) m=if (kw::g).length=5 then (if (decide (lw=wTr) || decide (lw=wCc))=true then (addR F_ T 10 (kw::g)).1 else 8) else 1:=by
    unfold Jfj;rw [show cnts.getD 10 0=5 from rfl,if_neg Kd];by_cases q:(kw::g).length=5
    ·rw [if_neg (fun x=>x q),if_pos q]
     cases (decide (lw=wTr) || decide (lw=wCc)) with
     | true=>rw [if_neg Kj,if_neg Kj,if_pos rfl]
     | false=>rw [if_pos ⟨rfl,rfl⟩];rfl
    ·rw [if_pos q,if_neg q]
   rw [e];exact Qev (Po hk).symm (Qen F_ H FO P hN hlast hne kw)
  | 11,_,hk =>
   have e:Jfj F_ T 11 (kw::g) (decide (lw=wTr) || decide (lw=wCc)) m=if (kw::g).length=4 then (if m=0 then (addR F_ T 11 (kw::g)).1 else 6) else 1:=by
    unfold Jfj;rw [show cnts.getD 11 0=4 from rfl,if_neg Kd];by_cases q:(kw::g).length=4
    ·rw [if_neg (fun x=>x q),if_pos q]
     rw [if_neg (fun x=>absurd x.1 Kl)];by_cases hm0:m=0
     ·rw [if_neg (fun x=>x.2 hm0),if_pos hm0]
     ·rw [if_pos ⟨rfl,hm0⟩,if_neg hm0]
    ·rw [if_pos q,if_neg q]
   rw [e];exact Qe1 (Po hk).symm (Qep F_ H FO P hm hM hV kw)
  | 12,_,_=>exact absurd rfl h12
  | k+13,h,_=>omega
theorem Jjm (c:UInt8) (post:List UInt8):∀pre:List UInt8,c ∉ pre→Lib.indexByte (pre++c::post) c=pre.length
 | [],_=>by simp [Lib.indexByte]
 | b::l,h=>by
  have hb:(b==c)=false:=Ut;have hl:c ∉ l:=fun hx=>h (by simp [hx])
  have ih:=Jjm c post l hl;have hn:(((l.length:Nat):Int)==-1)=false:=Vs;simp [Lib.indexByte,hb,ih,hn]
theorem Jhn (c:UInt8):∀l:List UInt8,c ∉ l→Lib.indexByte l c=-1
 | [],_=>rfl
 | b::l,h=>by
  have hb:(b==c)=false:=Ut;have hl:c ∉ l:=fun hx=>h (by simp [hx])
  have ih:=Jhn c l hl;simp [Lib.indexByte,hb,ih]
theorem Jrc (pre post:List UInt8) (c:UInt8):(str (pre++c::post)).extract 0 pre.length=str pre:=by
 rw [Lib.extract_eq];simp
theorem Jpj (pre post:List UInt8) (c:UInt8):(str (pre++c::post)).extract (pre.length+1) (str (pre++c::post)).size=str post:=by
 rw [Lib.extract_eq];have:(str (pre++c::post)).size=pre.length+post.length+1:=by show (pre++c::post).toArray.size=_;simp;omega
 rw [this];simp
theorem Qa6 {a b a' b':ByteArray} {t:Bool} (h:a=a') (k:b=b'):Ending.returned (.tuple #[.string a,.string b,.bool t])=.returned (.tuple #[.string a',.string b',.bool t]):=Qk
theorem J0v (c:UInt8) (l:List UInt8) (h:c ∉ l) (w:World) :
  Pc 311 #[.string (str l),.string ⟨#[c]⟩] w (.tuple #[.string (str l),.string (str []),.bool false]):=by
 have hc:=Tryz.stringslite_Index_one (str l) c;have hi:Lib.indexByte (str l).data.toList c=-1:=Jhn c l h;rw [hi] at hc;have HC:=Pe hc;clear hc hi h;go_enter func311,ntmps311;go_wp2_with (go_at_call 216;refine (HC.out _).mono ?_;rintro e w' ⟨rfl,rfl⟩);go_ret3
 exact Jr
theorem J5f (c:UInt8) (pre post:List UInt8) (h:c ∉ pre) (hl:(pre++c::post).length≤9223372036854775807) (w:World) :
  Pc 311 #[.string (str (pre++c::post)),.string ⟨#[c]⟩] w (.tuple #[.string (str pre),.string (str post),.bool true]):=by
 have hc:=Tryz.stringslite_Index_one (str (pre++c::post)) c;have hi:Lib.indexByte (str (pre++c::post)).data.toList c=pre.length:=Jjm c post pre h;rw [hi] at hc;have HC:=Pe hc;have e1:=Jrc pre post c;have e2:=Jpj pre post c;obtain⟨s,hs⟩:∃s,s=str (pre++c::post):=⟨_,rfl⟩;have hz:s.size=pre.length+post.length+1:=by rw [hs];show (pre++c::post).toArray.size=_;simp;omega
 have hz2:s.size≤9223372036854775807:=by rw [hz];simp at hl;omega
 rw [←hs] at e1 e2 HC ⊢;clear hc hi h hs hl;obtain⟨n,hn⟩:∃n:Nat,n=pre.length:=⟨_,rfl⟩;rw [←hn] at e1 e2 HC hz;have c1:(0:Int)≤↑n:=Kd;have c2:(↑n:Int)≤↑s.size:=Kd;have c3:(0:Int)≤↑n+1:=Kd;have c4:(↑n+1:Int)≤↑s.size:=Kd;have c5:IntKind.i64.wrap (↑n+1)=↑n+1:=IntWalk.i64_in _ Kd;clear hn hz;have E1:=Pe e1;have E2:=Pe e2;clear e1 e2;go_enter func311,ntmps311;go_wp2_with (go_at_call 216;refine (HC.out _).mono ?_;rintro e w' ⟨rfl,rfl⟩);go_region
 go_wp2
 go_ret3
 exact⟨Qa6 E1.out E2.out,(Below.refl _ _).drew⟩
theorem Jev (c:UInt8) (l:List UInt8) (h:c ∉ l) (w:World) :
  Pc 245 #[.string (str l),.string ⟨#[c]⟩] w (.tuple #[.string (str l),.string (str []),.bool false]):=by
 have HC:=Pe (J0v c l h);clear h;go_enter func245,ntmps245;go_wp2_with fail;refine (HC.out _).mono ?_;rintro e w1 ⟨rfl,b1⟩;go_wp2_with fail;go_ret3;exact⟨rfl,b1⟩
theorem Jmp (c:UInt8) (pre post:List UInt8) (h:c ∉ pre) (hl:(pre++c::post).length≤9223372036854775807) (w:World) :
  Pc 245 #[.string (str (pre++c::post)),.string ⟨#[c]⟩] w (.tuple #[.string (str pre),.string (str post),.bool true]):=by
 have HC:=Pe (J5f c pre post h hl);clear h hl;generalize pre++c::post=l at HC ⊢;go_enter func245,ntmps245;go_wp2_with fail;refine (HC.out _).mono ?_;rintro e w1 ⟨rfl,b1⟩;go_wp2_with fail;go_ret3;exact⟨rfl,b1⟩
theorem Jlb (c:UInt8) (l:List UInt8) (h:(l++[c]).length≤9223372036854775807) (w:World) :
  Pb 39 #[.string (str (l++[c])),.string ⟨#[c]⟩] w (.tuple #[.string (str l),.bool true]):=by
 have hc:=Tryz.strings_CutSuffix (str (l++[c])) ⟨#[c]⟩ w h;have h1:Lib.hasSuffix (str (l++[c])).data.toList (⟨#[c]⟩:ByteArray).data.toList=true:=by
  show List.isSuffixOf [c] (l++[c])=true
  exact We
 have h2:Lib.trimSuffix (str (l++[c])).data.toList (⟨#[c]⟩:ByteArray).data.toList=l:=by
  unfold Lib.trimSuffix;rw [h1,if_pos rfl];simp
 rw [h1,h2] at hc;exact hc.mono fun _ _ ⟨he,hw⟩=>⟨he,hw.symm⟩
theorem Jjn (c:UInt8) (l:List UInt8) (hn:List.isSuffixOf [c] l=false) (h:l.length≤9223372036854775807) (w:World) :
  Pb 39 #[.string (str l),.string ⟨#[c]⟩] w (.tuple #[.string (str l),.bool false]):=by
 have hc:=Tryz.strings_CutSuffix (str l) ⟨#[c]⟩ w h;have h1:Lib.hasSuffix (str l).data.toList (⟨#[c]⟩:ByteArray).data.toList=false:=hn;have h2:Lib.trimSuffix (str l).data.toList (⟨#[c]⟩:ByteArray).data.toList=l:=by
  unfold Lib.trimSuffix;rw [h1];rfl
 rw [h1,h2] at hc;exact hc.mono fun _ _ ⟨he,hw⟩=>⟨he,hw.symm⟩
end
end Go.Proofs.YtpifdbphmnifdaaGreatDoor
