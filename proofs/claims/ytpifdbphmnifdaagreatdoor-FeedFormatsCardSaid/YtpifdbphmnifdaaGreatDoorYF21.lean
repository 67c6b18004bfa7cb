/-
  Facts. Condition: each theorem's own.
-/
import Derived.Test.YtpifdbphmnifdaaGreatDoorYF20
set_option maxRecDepth 100000
set_option maxHeartbeats 8000000
section
variable {p:Prop}
theorem War(h:p:=by rintro r w1 ⟨rfl,h⟩;have HH:=Pe h;clear h C;go_wp2_with fail;go_end0;exact⟨rfl,HH.out⟩):p:=h
theorem Wau(h:p:=by rw[Jaq,hk];decide):p:=h
theorem Wav(h:p:=by obtain⟨h0,h1,h2,h3⟩:=h;dsimp only[pt];go_simp;try with_reducible rfl):p:=h
theorem Waw(h:p:=by unfold set2;simp only[List.length_set];exact P.vlen):p:=h
theorem Wax(h:p:=by simp only[e];omega):p:=h
theorem Waz(h:p:=by simp only[e] at this;exact this):p:=h
theorem Wa0(h:p:=by simp[T0] at h):p:=h
theorem Wa1(h:p:=by rw[List.length_set,P.vlen];omega):p:=h
end
open Go.Proofs.Tryz
namespace Go.Proofs.YtpifdbphmnifdaaGreatDoor
section
open Go.RowKit
section
variable {w0 W:World} {F:Nat} {vs:List Value} {ts:List Tng} {g:List Bs} {T U:Tt} {N:Nat}
theorem ee_tr(F_:Fm)(T:Tt)(w:Bs)(g:List Bs):e_tr g (Jct T) (Jb5 T)=if(w::g).length=5 then(addR F_ T 4 (w::g)).1 else 1:=by
 by_cases h:(w::g).length=5
 ·rw[if_pos h]
  obtain⟨a,b,c,d,e,q⟩:=five h;cases q;show _=err _
  rw[Jcp];rfl
 ·rw[if_neg h]
  have h':¬(g.drop 0).length=4:=Kt;unfold e_tr;exact Wak
theorem Qew(F_:Fm)(H:Rec w0 F vs ts g W)(P:Pt w0 vs ts T U N)(hN:N+1<=1000000)(w:Bs):
  Calls prog 87 #[.pointer (some ⟨F,0,none⟩)] W fun r w'=>r=.returned (.tuple #[])/\AdP w0 F vs ts (if(w::g).length=5 then(addR F_ T 4 (w::g)).1 else 1) (addR F_ T 4 (w::g)).2 N w':=by
 obtain⟨v0,tb⟩:=P.tabs 4 Ka;obtain⟨i0,i1,i2,i3⟩:=Jdv P.cop;obtain⟨B,ixx⟩:=P.ix 3 Ka;obtain⟨Bro,X_ro⟩:=P.ix 1 Ka;obtain⟨Bca,X_ca⟩:=P.ix 2 Ka;rw[show idsT U 1=Jct T from i1] at X_ro;rw[show idsT U 2=Jb5 T from i2] at X_ca;have hl:ts.length=28+U.tr.length:=P.tlen;refine(ad_tr H (l:=U.tr) tb ixx X_ro X_ca).mono fun r w' h=>⟨h.1,?_⟩
 obtain⟨v',v,G⟩:=h.2;have G2:=G.more (t:=rowC w0 (x_tr g (Jct T) (Jb5 T))) (Jbu Pg none) (tRow.at (World.ownsRow_nil _ _ _ _)) (fun k hk=>by cases hk);have hq:((ts.set 14 (tIdx B (U.tr.map (fun x=>x.1)++[g.getD 0 []]))).set 4 (tRow w0.heap.size ⟨56,5,v,U.tr.length+1,fl te (U.tr++[x_tr g (Jct T) (Jb5 T)])⟩)).length=28+U.tr.length:=by simp only[List.length_set];exact hl
 refine⟨_,_,G2,by rw[<-ee_tr];exact Jfv (k:=4) P.vlen,Jcr (k:=4) P.vlen,⟨Jbk (k:=4) Ka Ka,Jbk (k:=4) Ka Ka,?_,fun i h1 h2=>?_⟩,fun hE=>?_⟩
 ·rw[List.getElem?_append_left Ka]
  exact(Jao Kd).trans (Jao Kd)
 ·rw[List.getElem?_append_left Ka]
  exact(Jao Ka).trans (Jao Ka)
 have hc:(w::g).length=5:=Decidable.byContradiction fun q=>Waj
 have eT:(addR F_ T 4 (w::g)).2={ T with tr:=T.tr++[x_tr g (Jct T) (Jb5 T)] }:=by
  obtain⟨a,b,c,d,e,q⟩:=five hc;cases q;rfl
 rw[eT];have low:∀i,i<28->∀(l:List Tng) (t:Tng),l.length=28+U.tr.length->(l++[t])[i]?=l[i]?:=fun i hi l t hl=>List.getElem?_append_left Ka
 refine⟨{ U with tr:=U.tr++[x_tr g (Jct T) (Jb5 T)] },⟨P.cop.st,P.cop.ro,P.cop.ca,P.cop.ex,by show(U.tr++_).map noV=(T.tr++_).map noV;rw[List.map_append,List.map_append,P.cop.tr],P.cop.fr,P.cop.th,P.cop.gu,P.cop.pa,P.cop.pr,P.cop.di,P.cop.wi,P.cop.cp⟩,fun i hi=>?_,(Jbk (k:=4) Ka Ka).trans P.di,(Jbk (k:=4) Ka Ka).trans P.wi,(Jbk (k:=4) Ka Ka).trans P.cp,fun j hj=>?_,fun j x hx=>?_,?_,Jcr (k:=4) P.vlen,fun i hi=>?_,fun x hx=>?_⟩
 ·by_cases e:i=4
  ·subst e
   refine⟨v,Jd7 (k:=4) P.vlen Ka,?_,?_⟩
   ·rw[low _ Ka _ _ hq]
    have e:lenP { U with tr:=U.tr++[x_tr g (Jct T) (Jb5 T)] } 4=U.tr.length+1:=by show(U.tr++[_]).length=_;rw[Pq];rfl
    exact Wan
   ·have:=P.few 4 Ka
    show(U.tr++[_]).length<=_
    rw[Pq];exact Nat.le_trans (Nat.succ_le_succ this) hN
  ·obtain⟨u,hu⟩:=P.tabs i hi
   have e2:lenP { U with tr:=U.tr++[x_tr g (Jct T) (Jb5 T)] } i=lenP U i/\xsT { U with tr:=U.tr++[x_tr g (Jct T) (Jb5 T)] } i=xsT U i:=by
    match i,hi with
    | 0,_ | 1,_ | 2,_ | 3,_ | 4,_ | 5,_ | 6,_ | 7,_ | 8,_ | 9,_=>first | exact⟨rfl,rfl⟩ | exact absurd rfl e
    | i+10,h1=>omega
   rw[e2.1,e2.2];exact⟨u,hu.keep (Jbk (k:=4) Ka Ka) ((low _ Ka _ _ hq).trans ((Jao Ka).trans (Jao Ka)))⟩
 ·by_cases e:j=3
  ·subst e
   refine⟨B,(Jbk (k:=4) Ka Ka).trans ixx.cell,?_⟩;rw[low _ Ka _ _ hq,Jao Ka];have e2:idsT { U with tr:=U.tr++[x_tr g (Jct T) (Jb5 T)] } 3=(U.tr.map fun x=>x.1)++[g.getD 0 []]:=by show(U.tr++[_]).map _=_;rw[List.map_append];rfl
   rw[e2];exact Jcm Ka
  ·obtain⟨B',hB⟩:=P.ix j hj
   have e2:idsT { U with tr:=U.tr++[x_tr g (Jct T) (Jb5 T)] } j=idsT U j:=by match j,hj with | 0,_ | 1,_ | 2,_ | 3,_=>first | rfl | exact absurd rfl e
   rw[e2];exact⟨B',hB.keep (Jbk (k:=4) Ka Ka) ((low _ Ka _ _ hq).trans ((Jao Ka).trans (Jao Ka)))⟩
 ·have hx:(U.tr++[x_tr g (Jct T) (Jb5 T)])[j]?=some x:=hx
  by_cases hj:j<U.tr.length
  ·rw[List.getElem?_append_left hj] at hx
   rw[List.getElem?_append_left Ka,Jao Ka,Jao Ka];exact P.calls j x hx
  ·rw[List.getElem?_append_right Ka,List.getElem?_singleton] at hx
   split at hx
   ·next e =>
    cases hx
    rw[List.getElem?_append_right Ka,List.getElem?_singleton,if_pos Ka]
   ·cases hx
 ·show(_++[_]).length=28+(U.tr++[_]).length
  rw[Pq,hq,Pq,Nat.add_assoc];rfl
 ·have:=P.few i hi
  by_cases e:i=4
  ·subst e
   show(U.tr++[_]).length<=_
   rw[Pq];exact Nat.succ_le_succ this
  ·have e2:lenP { U with tr:=U.tr++[x_tr g (Jct T) (Jb5 T)] } i=lenP U i:=by
    match i,hi with
    | 0,_ | 1,_ | 2,_ | 3,_ | 4,_ | 5,_ | 6,_ | 7,_ | 8,_ | 9,_=>first | exact rfl | exact absurd rfl e
    | i+10,h1=>omega
   omega
 ·have hx:x∈U.tr++[x_tr g (Jct T) (Jb5 T)]:=hx
  rcases List.mem_append.1 hx with h | h
  ·exact Nat.le_succ_of_le (P.fewc x h)
  ·have:x=x_tr g (Jct T) (Jb5 T):=Kt
   subst this;exact Nat.zero_le _
theorem J2q(x:Int):fe1 8 x=8:=if_neg Kd
theorem Qex(F_:Fm)(T:Tt)(w:Bs)(g:List Bs)(ok:Bool):e_cc F_ g (Jbi T) ok=if(w::g).length=5 then(if ok=true then(addR F_ T 10 (w::g)).1 else 8) else 1:=by
 by_cases h:(w::g).length=5
 ·rw[if_pos h]
  obtain⟨a,b,c,d,e,q⟩:=five h;cases q;cases ok with
  | true =>
   show _=err _
   rw[Jcp];rfl
  | false =>
   show fe1 (fe1 (fe1 (fe1 (fe1 (fe1 0 0) 8) _) _) _) _=8
   simp only[show fe1 (fe1 0 0) 8=8 from rfl,J2q]
 ·rw[if_neg h]
  have h':¬(g.drop 0).length=4:=Kt;unfold e_cc;exact Wak
theorem J6r{l:List Tp}{l0:List Tp}{x:Tp}(h:(l0++[x]).map noV=l.map noV)(v:Value)(c:Cl):(l0++[putV v c x]).map noV=(addC c l).map noV:=by
 rw[List.map_append] at h;rcases List.eq_nil_or_concat l with rfl | ⟨t,y,rfl⟩
 ·exact Qv
 ·rw[List.concat_eq_append] at *
  rw[List.map_append] at h;obtain⟨h1,h2⟩:=List.append_inj' h rfl;rw[Jo8,List.map_append,List.map_append,h1];congr 1;have h2:noV x=noV y:=by simpa using h2
  obtain⟨x1,x2,x3,x4,x5,x6⟩:=x;obtain⟨y1,y2,y3,y4,y5,y6⟩:=y;simp only[noV,Prod.mk.injEq] at h2;obtain⟨rfl,rfl,rfl,rfl,rfl⟩:=h2;rfl
theorem Qey(F_:Fm)(H:Rec w0 F vs ts g W)(FO:Fo F_ w0)(P:Pt w0 vs ts T U N)(hN:N+1<=1000000){lw:Bs}(hlast:vs[16]?=some (.string (str lw)))(hne:(decide (lw=wTr) || decide (lw=wCc))=true->U.tr≠[])(w:Bs):
  Calls prog 88 #[.pointer (some ⟨F,0,none⟩)] W fun r w'=>r=.returned (.tuple #[])/\AdP w0 F vs ts (if(w::g).length=5 then(if(decide (lw=wTr) || decide (lw=wCc))=true then(addR F_ T 10 (w::g)).1 else 8) else 1) (addR F_ T 10 (w::g)).2 N w':=by
 obtain⟨v0,tb⟩:=P.tabs 4 Ka;obtain⟨i0,i1,i2,i3⟩:=Jdv P.cop;obtain⟨Bst,X_st⟩:=P.ix 0 Ka;rw[show idsT U 0=Jbi T from i0] at X_st;have hl:ts.length=28+U.tr.length:=P.tlen;refine(Qek F_ H FO hlast X_st (l:=U.tr) tb (fun ok=>?_)).mono fun r w' h=>⟨h.1,?_⟩
 ·rcases List.eq_nil_or_concat U.tr with e | ⟨l0,x,e⟩
  ·exact absurd e (hne ok)
  ·rw[List.concat_eq_append] at e
   refine⟨l0,x,e,P.calls l0.length x (by rw[e];simp),?_⟩;have:=P.fewc x (by rw[e];simp);omega
 rw[<-Qex];rcases h.2 with⟨hE,v',G⟩ | ⟨hE,v',v7,l0,x,hlx,G⟩
 ·refine⟨_,_,G,?_,Waw,⟨Jae Ka,Jae Ka,rfl,fun i h1 h2=>rfl⟩,fun q=>absurd q hE⟩
  unfold set2;rw[List.getElem?_set,if_pos rfl,if_pos Wa1]
 ·rw[hE]
  refine⟨_,_,G,?_,Waw,⟨Jae Ka,Jae Ka,(Jao Ka).trans (Jao Ka),fun i h1 h2=>(Jao Ka).trans (Jao Ka)⟩,fun _=>?_⟩
  ·unfold set2
   rw[List.getElem?_set,if_pos rfl,if_pos Wa1]
  have hc:(w::g).length=5:=Decidable.byContradiction fun q=>by rw[Qex F_ T w,if_neg q] at hE;exact absurd hE Kd
  have eT:(addR F_ T 10 (w::g)).2={ T with tr:=addC (x_cc F_ g (Jbi T)) T.tr }:=by
   obtain⟨a,b,c,d,e,q⟩:=five hc;cases q;rfl
  rw[eT];have hlen:U.tr.length=l0.length+1:=by rw[hlx];simp
  refine⟨{ U with tr:=l0++[putV v7 (x_cc F_ g (Jbi T)) x] },⟨P.cop.st,P.cop.ro,P.cop.ca,P.cop.ex,J6r (by rw[<-hlx];exact P.cop.tr) _ _,P.cop.fr,P.cop.th,P.cop.gu,P.cop.pa,P.cop.pr,P.cop.di,P.cop.wi,P.cop.cp⟩,fun i hi=>?_,(Jae Ka).trans P.di,(Jae Ka).trans P.wi,(Jae Ka).trans P.cp,fun j hj=>?_,fun j y hy=>?_,?_,Waw,fun i hi=>?_,fun y hy=>?_⟩
  ·by_cases e:i=4
   ·subst e
    refine⟨v0,(Jae Ka).trans tb.cell,?_,?_⟩
    ·have e:lenP { U with tr:=l0++[putV v7 (x_cc F_ g (Jbi T)) x] } 4=U.tr.length:=by show(l0++[_]).length=_;rw[hlen];simp
     exact Wan
    ·show(l0++[_]).length<=_
     have:=tb.few;have e:lenP U 4=U.tr.length:=rfl;exact Kb
   ·obtain⟨u,hu⟩:=P.tabs i hi
    have e2:lenP { U with tr:=l0++[putV v7 (x_cc F_ g (Jbi T)) x] } i=lenP U i/\xsT { U with tr:=l0++[putV v7 (x_cc F_ g (Jbi T)) x] } i=xsT U i:=by
     match i,hi with
     | 0,_ | 1,_ | 2,_ | 3,_ | 4,_ | 5,_ | 6,_ | 7,_ | 8,_ | 9,_=>first | exact⟨rfl,rfl⟩ | exact absurd rfl e
     | i+10,h1=>omega
    rw[e2.1,e2.2];exact⟨u,hu.keep (Jae Ka) ((Jao Ka).trans (Jao Ka))⟩
  ·obtain⟨B',hB⟩:=P.ix j hj
   have e2:idsT { U with tr:=l0++[putV v7 (x_cc F_ g (Jbi T)) x] } j=idsT U j:=by
    match j,hj with
    | 0,_ | 1,_ | 2,_=>rfl
    | 3,_=>show(l0++[_]).map _=U.tr.map _;rw[hlx,List.map_append,List.map_append];rfl
   rw[e2];exact⟨B',hB.keep (Jae Ka) ((Jao Ka).trans (Jao Ka))⟩
  ·have hy:(l0++[putV v7 (x_cc F_ g (Jbi T)) x])[j]?=some y:=hy
   rw[Jao Ka];by_cases hj:j<l0.length
   ·rw[List.getElem?_append_left hj] at hy
    rw[Jao Ka];exact P.calls j y (by rw[hlx,List.getElem?_append_left hj];exact hy)
   ·rw[List.getElem?_append_right Ka,List.getElem?_singleton] at hy
    split at hy
    ·next e =>
     cases hy
     have:j=l0.length:=Ka;subst this;rw[Jcm Ka];show _=some (tRow _ ⟨_,_,_,(x.2.2.2.2.2++[_]).length,_⟩)
     rw[Pq];rfl
    ·cases hy
  ·simp only[List.length_set]
   show ts.length=28+(l0++[_]).length
   rw[hl,hlen];simp
  ·by_cases e:i=4
   ·subst e
    have:=P.few 4 Ka;have e:lenP U 4=U.tr.length:=rfl;show(l0++[_]).length<=_
    exact Kb
   ·have e2:lenP { U with tr:=l0++[putV v7 (x_cc F_ g (Jbi T)) x] } i=lenP U i:=by
     match i,hi with
     | 0,_ | 1,_ | 2,_ | 3,_ | 4,_ | 5,_ | 6,_ | 7,_ | 8,_ | 9,_=>first | exact rfl | exact absurd rfl e
     | i+10,h1=>omega
    rw[e2];exact Nat.le_succ_of_le (P.few i hi)
  ·have hy:y∈l0++[putV v7 (x_cc F_ g (Jbi T)) x]:=hy
   rcases List.mem_append.1 hy with h | h
   ·exact Nat.le_succ_of_le (P.fewc y (by rw[hlx];exact List.mem_append_left _ h))
   ·have:y=putV v7 (x_cc F_ g (Jbi T)) x:=Kt
    subst this;show(x.2.2.2.2.2++[_]).length<=_
    rw[Pq];exact Nat.succ_le_succ (P.fewc x (by rw[hlx];simp))
theorem Qb5(x:Int):fe1 6 x=6:=if_neg Kd
theorem Qez(F_:Fm)(T:Tt)(w:Bs)(g:List Bs)(m:Nat):e_fa F_ g m=if(w::g).length=4 then(if m=0 then(addR F_ T 11 (w::g)).1 else 6) else 1:=by
 by_cases h:(w::g).length=4
 ·rw[if_pos h]
  obtain⟨a,b,c,d,q⟩:=four h;cases q;by_cases hm:m=0
  ·rw[if_pos hm]
   subst hm;show _=err _
   rw[Jcp];rfl
  ·rw[if_neg hm]
   unfold e_fa;rw[if_neg hm];show fe1 (fe1 (fe1 (fe1 (fe1 0 0) 6) _) _) _=6
   simp only[show fe1 (fe1 0 0) 6=6 from rfl,Qb5]
 ·rw[if_neg h]
  have h':¬(g.drop 0).length=3:=Kt;unfold e_fa;exact Wak
theorem Qe0(F_:Fm)(H:Rec w0 F vs ts g W)(FO:Fo F_ w0)(P:Pt w0 vs ts T U N){B n m c:Nat}{A:Option Addr}{V:List UInt8->Value}(hm:vs[15]?=some (.map (some B)))(hM:ts[10]?=some (tLin B n V))(hV:V wFa=.slice A m c)(w:Bs):
  Calls prog 94 #[.pointer (some ⟨F,0,none⟩)] W fun r w'=>r=.returned (.tuple #[])/\AdP w0 F vs ts (if(w::g).length=4 then(if m=0 then(addR F_ T 11 (w::g)).1 else 6) else 1) (addR F_ T 11 (w::g)).2 N w':=by
 refine(Qej F_ H FO hm hM hV P.di P.wi P.cp).mono fun r w' h=>⟨h.1,?_⟩
 obtain⟨v',G⟩:=h.2;rw[<-Qez];have at0:∀(i:Nat),i≠12->i≠13->i≠14->((((set2 vs v' (e_fa F_ g m)).set 12 (.int .i64 (F_.prc (g.getD 0 [])).1)).set 13 (.int .i64 (F_.dur (g.getD 1 [])).1)).set 14 (.int .i64 (F_.prc (g.getD 2 [])).1))[i]?=(set2 vs v' (e_fa F_ g m))[i]?:=fun i h1 h2 h3=>by
  rw[List.getElem?_set,if_neg (fun q=>h3 q.symm),List.getElem?_set,if_neg (fun q=>h2 q.symm),List.getElem?_set,if_neg (fun q=>h1 q.symm)]
 have hvl:(set2 vs v' (e_fa F_ g m)).length=21:=Waw;refine⟨_,_,G,?_,by simp only[List.length_set];exact hvl,⟨(at0 15 Ka Ka Ka).trans (Jae Ka),(at0 16 Ka Ka Ka).trans (Jae Ka),rfl,fun i h1 h2=>rfl⟩,fun hE=>?_⟩
 ·rw[at0 1 Ka Ka Ka]
  unfold set2;rw[List.getElem?_set,if_pos rfl,if_pos Wa1]
 have hc:(w::g).length=4:=Decidable.byContradiction fun q=>by rw[Qez F_ T w,if_neg q] at hE;exact absurd hE Kd
 have eT:(addR F_ T 11 (w::g)).2={ T with di:=(F_.prc (g.getD 0 [])).1,wi:=(F_.dur (g.getD 1 [])).1,cp:=(F_.prc (g.getD 2 [])).1 }:=by
  obtain⟨a,b,c,d,q⟩:=four hc;cases q;rfl
 rw[eT];refine⟨{ U with di:=(F_.prc (g.getD 0 [])).1,wi:=(F_.dur (g.getD 1 [])).1,cp:=(F_.prc (g.getD 2 [])).1 },⟨P.cop.st,P.cop.ro,P.cop.ca,P.cop.ex,P.cop.tr,P.cop.fr,P.cop.th,P.cop.gu,P.cop.pa,P.cop.pr,rfl,rfl,rfl⟩,fun i hi=>?_,?_,?_,?_,fun j hj=>?_,P.calls,P.tlen,by simp only[List.length_set];exact hvl,fun i hi=>?_,fun x hx=>Nat.le_succ_of_le (P.fewc x hx)⟩
 ·obtain⟨u,hu⟩:=P.tabs i hi
  have e2:lenP { U with di:=(F_.prc (g.getD 0 [])).1,wi:=(F_.dur (g.getD 1 [])).1,cp:=(F_.prc (g.getD 2 [])).1 } i=lenP U i/\xsT { U with di:=(F_.prc (g.getD 0 [])).1,wi:=(F_.dur (g.getD 1 [])).1,cp:=(F_.prc (g.getD 2 [])).1 } i=xsT U i:=by
   match i,hi with
   | 0,_ | 1,_ | 2,_ | 3,_ | 4,_ | 5,_ | 6,_ | 7,_ | 8,_ | 9,_=>exact⟨rfl,rfl⟩
   | i+10,h1=>omega
  rw[e2.1,e2.2];exact⟨u,hu.keep ((at0 _ Ka Ka Ka).trans (Jae Ka)) rfl⟩
 ·rw[List.getElem?_set,if_neg Ka,List.getElem?_set,if_neg Ka,List.getElem?_set,if_pos rfl,if_pos Ka]
 ·rw[List.getElem?_set,if_neg Ka,List.getElem?_set,if_pos rfl,if_pos Wao]
 ·rw[List.getElem?_set,if_pos rfl,if_pos (by simp only[List.length_set];omega)]
 ·obtain⟨B',hB⟩:=P.ix j hj
  have e2:idsT { U with di:=(F_.prc (g.getD 0 [])).1,wi:=(F_.dur (g.getD 1 [])).1,cp:=(F_.prc (g.getD 2 [])).1 } j=idsT U j:=by match j,hj with | 0,_ | 1,_ | 2,_ | 3,_=>rfl
  rw[e2];exact⟨B',hB.keep ((at0 _ Ka Ka Ka).trans (Jae Ka)) rfl⟩
 ·have e2:lenP { U with di:=(F_.prc (g.getD 0 [])).1,wi:=(F_.dur (g.getD 1 [])).1,cp:=(F_.prc (g.getD 2 [])).1 } i=lenP U i:=by
   match i,hi with
   | 0,_ | 1,_ | 2,_ | 3,_ | 4,_ | 5,_ | 6,_ | 7,_ | 8,_ | 9,_=>rfl
   | i+10,h1=>omega
  rw[e2];exact Nat.le_succ_of_le (P.few i hi)
end
theorem Jaq(t w:Bs):((str t).toList==w)=decide (t=w):=by
 have tl:(str t).toList=t:=by rw[Lib.toList_data]
 rw[tl];by_cases q:t=w <;> simp[q]
variable {kw:Bs}
theorem Qe1{F:Nat}{W:World}(hk:kw=wSt){Z:World->Prop}(C:Calls prog 83 #[.pointer (some ⟨F,0,none⟩)] W fun r w'=>r=.returned (.tuple #[])/\Z w'):Calls prog 44 #[.pointer (some ⟨F,0,none⟩),.string (str kw)] W fun r w'=>r=.returned (.tuple #[])/\Z w':=by
 have c0:((str kw).toList==[115,116,111,112])=true:=Wau;have C:=Pe C;clear hk;generalize str kw=s at *;go_enter func44,ntmps44;go_wp2_with fail;refine C.out.mono ?_;exact War
theorem Qe2{F:Nat}{W:World}(hk:kw=wRo){Z:World->Prop}(C:Calls prog 84 #[.pointer (some ⟨F,0,none⟩)] W fun r w'=>r=.returned (.tuple #[])/\Z w'):Calls prog 44 #[.pointer (some ⟨F,0,none⟩),.string (str kw)] W fun r w'=>r=.returned (.tuple #[])/\Z w':=by
 have c0:((str kw).toList==[115,116,111,112])=false:=Wau;have c1:((str kw).toList==[114,111,117,116,101])=true:=Wau;have C:=Pe C;clear hk;generalize str kw=s at *;go_enter func44,ntmps44;go_wp2_with fail;refine C.out.mono ?_;exact War
theorem Qe3{F:Nat}{W:World}(hk:kw=wCa){Z:World->Prop}(C:Calls prog 85 #[.pointer (some ⟨F,0,none⟩)] W fun r w'=>r=.returned (.tuple #[])/\Z w'):Calls prog 44 #[.pointer (some ⟨F,0,none⟩),.string (str kw)] W fun r w'=>r=.returned (.tuple #[])/\Z w':=by
 have c0:((str kw).toList==[115,116,111,112])=false:=Wau;have c1:((str kw).toList==[114,111,117,116,101])=false:=Wau;have c2:((str kw).toList==[99,97,108,101,110,100,97,114])=true:=Wau;have C:=Pe C;clear hk;generalize str kw=s at *;go_enter func44,ntmps44;go_wp2_with fail;refine C.out.mono ?_;exact War
theorem Qe4{F:Nat}{W:World}(hk:kw=wEx){Z:World->Prop}(C:Calls prog 86 #[.pointer (some ⟨F,0,none⟩)] W fun r w'=>r=.returned (.tuple #[])/\Z w'):Calls prog 44 #[.pointer (some ⟨F,0,none⟩),.string (str kw)] W fun r w'=>r=.returned (.tuple #[])/\Z w':=by
 have c0:((str kw).toList==[115,116,111,112])=false:=Wau;have c1:((str kw).toList==[114,111,117,116,101])=false:=Wau;have c2:((str kw).toList==[99,97,108,101,110,100,97,114])=false:=Wau;have c3:((str kw).toList==[101,120,99,101,112,116,105,111,110])=true:=Wau;have C:=Pe C;clear hk;generalize str kw=s at *;go_enter func44,ntmps44;go_wp2_with fail;refine C.out.mono ?_;exact War
theorem Qe5{F:Nat}{W:World}(hk:kw=wTr){Z:World->Prop}(C:Calls prog 87 #[.pointer (some ⟨F,0,none⟩)] W fun r w'=>r=.returned (.tuple #[])/\Z w'):Calls prog 44 #[.pointer (some ⟨F,0,none⟩),.string (str kw)] W fun r w'=>r=.returned (.tuple #[])/\Z w':=by
 have c0:((str kw).toList==[115,116,111,112])=false:=Wau;have c1:((str kw).toList==[114,111,117,116,101])=false:=Wau;have c2:((str kw).toList==[99,97,108,101,110,100,97,114])=false:=Wau;have c3:((str kw).toList==[101,120,99,101,112,116,105,111,110])=false:=Wau;have c4:((str kw).toList==[116,114,105,112])=true:=Wau;have C:=Pe C;clear hk;generalize str kw=s at *;go_enter func44,ntmps44;go_wp2_with fail;refine C.out.mono ?_;exact War
theorem Qe6{F:Nat}{W:World}(hk:kw=wCc){Z:World->Prop}(C:Calls prog 88 #[.pointer (some ⟨F,0,none⟩)] W fun r w'=>r=.returned (.tuple #[])/\Z w'):Calls prog 44 #[.pointer (some ⟨F,0,none⟩),.string (str kw)] W fun r w'=>r=.returned (.tuple #[])/\Z w':=by
 have c0:((str kw).toList==[115,116,111,112])=false:=Wau;have c1:((str kw).toList==[114,111,117,116,101])=false:=Wau;have c2:((str kw).toList==[99,97,108,101,110,100,97,114])=false:=Wau;have c3:((str kw).toList==[101,120,99,101,112,116,105,111,110])=false:=Wau;have c4:((str kw).toList==[116,114,105,112])=false:=Wau;have c5:((str kw).toList==[99,97,108,108])=true:=Wau;have C:=Pe C;clear hk;generalize str kw=s at *;go_enter func44,ntmps44;go_wp2_with fail;refine C.out.mono ?_;exact War
theorem Qe7{F:Nat}{W:World}(hk:kw=wFr){Z:World->Prop}(C:Calls prog 89 #[.pointer (some ⟨F,0,none⟩)] W fun r w'=>r=.returned (.tuple #[])/\Z w'):Calls prog 44 #[.pointer (some ⟨F,0,none⟩),.string (str kw)] W fun r w'=>r=.returned (.tuple #[])/\Z w':=by
 have c0:((str kw).toList==[115,116,111,112])=false:=Wau;have c1:((str kw).toList==[114,111,117,116,101])=false:=Wau;have c2:((str kw).toList==[99,97,108,101,110,100,97,114])=false:=Wau;have c3:((str kw).toList==[101,120,99,101,112,116,105,111,110])=false:=Wau;have c4:((str kw).toList==[116,114,105,112])=false:=Wau;have c5:((str kw).toList==[99,97,108,108])=false:=Wau;have c6:((str kw).toList==[102,114,101,113,117,101,110,99,121])=true:=Wau;have C:=Pe C;clear hk;generalize str kw=s at *;go_enter func44,ntmps44;go_wp2_with fail;refine C.out.mono ?_;exact War
theorem Qe8{F:Nat}{W:World}(hk:kw=wTh){Z:World->Prop}(C:Calls prog 90 #[.pointer (some ⟨F,0,none⟩)] W fun r w'=>r=.returned (.tuple #[])/\Z w'):Calls prog 44 #[.pointer (some ⟨F,0,none⟩),.string (str kw)] W fun r w'=>r=.returned (.tuple #[])/\Z w':=by
 have c0:((str kw).toList==[115,116,111,112])=false:=Wau;have c1:((str kw).toList==[114,111,117,116,101])=false:=Wau;have c2:((str kw).toList==[99,97,108,101,110,100,97,114])=false:=Wau;have c3:((str kw).toList==[101,120,99,101,112,116,105,111,110])=false:=Wau;have c4:((str kw).toList==[116,114,105,112])=false:=Wau;have c5:((str kw).toList==[99,97,108,108])=false:=Wau;have c6:((str kw).toList==[102,114,101,113,117,101,110,99,121])=false:=Wau;have c7:((str kw).toList==[116,104,114,111,117,103,104])=true:=Wau;have C:=Pe C;clear hk;generalize str kw=s at *;go_enter func44,ntmps44;go_wp2_with fail;refine C.out.mono ?_;exact War
theorem Qe9{F:Nat}{W:World}(hk:kw=wGu){Z:World->Prop}(C:Calls prog 91 #[.pointer (some ⟨F,0,none⟩)] W fun r w'=>r=.returned (.tuple #[])/\Z w'):Calls prog 44 #[.pointer (some ⟨F,0,none⟩),.string (str kw)] W fun r w'=>r=.returned (.tuple #[])/\Z w':=by
 have c0:((str kw).toList==[115,116,111,112])=false:=Wau;have c1:((str kw).toList==[114,111,117,116,101])=false:=Wau;have c2:((str kw).toList==[99,97,108,101,110,100,97,114])=false:=Wau;have c3:((str kw).toList==[101,120,99,101,112,116,105,111,110])=false:=Wau;have c4:((str kw).toList==[116,114,105,112])=false:=Wau;have c5:((str kw).toList==[99,97,108,108])=false:=Wau;have c6:((str kw).toList==[102,114,101,113,117,101,110,99,121])=false:=Wau;have c7:((str kw).toList==[116,104,114,111,117,103,104])=false:=Wau;have c8:((str kw).toList==[103,117,97,114,97,110,116,101,101])=true:=Wau;have C:=Pe C;clear hk;generalize str kw=s at *;go_enter func44,ntmps44;go_wp2_with fail;refine C.out.mono ?_;exact War
theorem Qfa{F:Nat}{W:World}(hk:kw=wPa){Z:World->Prop}(C:Calls prog 92 #[.pointer (some ⟨F,0,none⟩)] W fun r w'=>r=.returned (.tuple #[])/\Z w'):Calls prog 44 #[.pointer (some ⟨F,0,none⟩),.string (str kw)] W fun r w'=>r=.returned (.tuple #[])/\Z w':=by
 have c0:((str kw).toList==[115,116,111,112])=false:=Wau;have c1:((str kw).toList==[114,111,117,116,101])=false:=Wau;have c2:((str kw).toList==[99,97,108,101,110,100,97,114])=false:=Wau;have c3:((str kw).toList==[101,120,99,101,112,116,105,111,110])=false:=Wau;have c4:((str kw).toList==[116,114,105,112])=false:=Wau;have c5:((str kw).toList==[99,97,108,108])=false:=Wau;have c6:((str kw).toList==[102,114,101,113,117,101,110,99,121])=false:=Wau;have c7:((str kw).toList==[116,104,114,111,117,103,104])=false:=Wau;have c8:((str kw).toList==[103,117,97,114,97,110,116,101,101])=false:=Wau;have c9:((str kw).toList==[112,97,116,104])=true:=Wau;have C:=Pe C;clear hk;generalize str kw=s at *;go_enter func44,ntmps44;go_wp2_with fail;refine C.out.mono ?_;exact War
theorem Qfb{F:Nat}{W:World}(hk:kw=wPr){Z:World->Prop}(C:Calls prog 93 #[.pointer (some ⟨F,0,none⟩)] W fun r w'=>r=.returned (.tuple #[])/\Z w'):Calls prog 44 #[.pointer (some ⟨F,0,none⟩),.string (str kw)] W fun r w'=>r=.returned (.tuple #[])/\Z w':=by
 have c0:((str kw).toList==[115,116,111,112])=false:=Wau;have c1:((str kw).toList==[114,111,117,116,101])=false:=Wau;have c2:((str kw).toList==[99,97,108,101,110,100,97,114])=false:=Wau;have c3:((str kw).toList==[101,120,99,101,112,116,105,111,110])=false:=Wau;have c4:((str kw).toList==[116,114,105,112])=false:=Wau;have c5:((str kw).toList==[99,97,108,108])=false:=Wau;have c6:((str kw).toList==[102,114,101,113,117,101,110,99,121])=false:=Wau;have c7:((str kw).toList==[116,104,114,111,117,103,104])=false:=Wau;have c8:((str kw).toList==[103,117,97,114,97,110,116,101,101])=false:=Wau;have c9:((str kw).toList==[112,97,116,104])=false:=Wau;have c10:((str kw).toList==[112,114,111,100,117,99,116])=true:=Wau;have C:=Pe C;clear hk;generalize str kw=s at *;go_enter func44,ntmps44;go_wp2_with fail;refine C.out.mono ?_;exact War
theorem Qfc{F:Nat}{W:World}(hk:kw=wFa){Z:World->Prop}(C:Calls prog 94 #[.pointer (some ⟨F,0,none⟩)] W fun r w'=>r=.returned (.tuple #[])/\Z w'):Calls prog 44 #[.pointer (some ⟨F,0,none⟩),.string (str kw)] W fun r w'=>r=.returned (.tuple #[])/\Z w':=by
 have c0:((str kw).toList==[115,116,111,112])=false:=Wau;have c1:((str kw).toList==[114,111,117,116,101])=false:=Wau;have c2:((str kw).toList==[99,97,108,101,110,100,97,114])=false:=Wau;have c3:((str kw).toList==[101,120,99,101,112,116,105,111,110])=false:=Wau;have c4:((str kw).toList==[116,114,105,112])=false:=Wau;have c5:((str kw).toList==[99,97,108,108])=false:=Wau;have c6:((str kw).toList==[102,114,101,113,117,101,110,99,121])=false:=Wau;have c7:((str kw).toList==[116,104,114,111,117,103,104])=false:=Wau;have c8:((str kw).toList==[103,117,97,114,97,110,116,101,101])=false:=Wau;have c9:((str kw).toList==[112,97,116,104])=false:=Wau;have c10:((str kw).toList==[112,114,111,100,117,99,116])=false:=Wau;have c11:((str kw).toList==[102,97,114,101,115])=true:=Wau;have C:=Pe C;clear hk;generalize str kw=s at *;go_enter func44,ntmps44;go_wp2_with fail;refine C.out.mono ?_;exact War
theorem sw_no{F:Nat}{W:World}(hk:kw ∉ kinds){Z:World->Prop}(C:Calls prog 95 #[.pointer (some ⟨F,0,none⟩),.bool false,.int .i64 41] W fun r w'=>r=.returned (.tuple #[])/\Z w'):Calls prog 44 #[.pointer (some ⟨F,0,none⟩),.string (str kw)] W fun r w'=>r=.returned (.tuple #[])/\Z w':=by
 have hn:∀w,w∈kinds->((str kw).toList==w)=false:=fun w hw=>by rw[Jaq];exact Pj fun e=>hk (by rw[e];exact hw)
 have c0:=hn [115,116,111,112] Kd;have c1:=hn [114,111,117,116,101] Kd;have c2:=hn [99,97,108,101,110,100,97,114] Kd;have c3:=hn [101,120,99,101,112,116,105,111,110] Kd;have c4:=hn [116,114,105,112] Kd;have c5:=hn [99,97,108,108] Kd;have c6:=hn [102,114,101,113,117,101,110,99,121] Kd;have c7:=hn [116,104,114,111,117,103,104] Kd;have c8:=hn [103,117,97,114,97,110,116,101,101] Kd;have c9:=hn [112,97,116,104] Kd;have c10:=hn [112,114,111,100,117,99,116] Kd;have c11:=hn [102,97,114,101,115] Kd;have C:=Pe C;clear hk hn;generalize str kw=s at *;go_enter func44,ntmps44;go_wp2_with fail;refine C.out.mono ?_;exact War
theorem Jsb(h:kind kw≠12):kinds[kind kw]?=some kw:=by
 have hlt:kinds.findIdx (fun x=>decide (x=kw))<kinds.length:=by
  have:=Jhj kw;have e:kinds.length=12:=rfl;unfold kind at h this;omega
 have g:=List.findIdx_getElem (w:=hlt);simp only[decide_eq_true_eq] at g;unfold kind;rw[List.getElem?_eq_getElem hlt,g]
theorem J2r(h:kind kw=12):kw ∉ kinds:=fun hm=>by
 have:kinds.findIdx (fun x=>decide (x=kw))<kinds.length:=List.findIdx_lt_length_of_exists ⟨kw,hm,Ke⟩;have e:kinds.length=12:=rfl;unfold kind at h;omega
def Jfo(F_:Fm)(T:Tt)(k:Nat)(f:List Bs)(ok:Bool)(m:Nat):Int:=if k=12 then 41 else if f.length≠cnts.getD k 0 then 1 else if k=10/\ok=false then 8 else if k=11/\m≠0 then 6 else(addR F_ T k f).1
theorem J6s(F_:Fm){w0 W:World}{F:Nat}{vs:List Value}{ts:List Tng}{g:List Bs}{T U:Tt}{N:Nat}(H:Rec w0 F vs ts g W)(FO:Fo F_ w0)(P:Pt w0 vs ts T U N)(hN:N+1<=1000000){lw:Bs}(hlast:vs[16]?=some (.string (str lw)))(hne:(decide (lw=wTr) || decide (lw=wCc))=true->U.tr≠[]){B n m c:Nat}{A:Option Addr}{V:List UInt8->Value}(hm:vs[15]?=some (.map (some B)))(hM:ts[10]?=some (tLin B n V))(hV:V wFa=.slice A m c)(kw:Bs):
  Calls prog 44 #[.pointer (some ⟨F,0,none⟩),.string (str kw)] W fun r w'=>r=.returned (.tuple #[])/\AdP w0 F vs ts (Jfo F_ T (kind kw) (kw::g) (decide (lw=wTr) || decide (lw=wCc)) m) (addR F_ T (kind kw) (kw::g)).2 N w':=by
 have plain:∀(k c:Nat),k<10->cnts.getD k 0=c->Jfo F_ T k (kw::g) (decide (lw=wTr) || decide (lw=wCc)) m=if(kw::g).length=c then(addR F_ T k (kw::g)).1 else 1:=fun k c h10 hc=>by
  unfold Jfo;rw[hc,if_neg Ka];by_cases q:(kw::g).length=c
  ·rw[if_neg (fun x=>x q),if_pos q]
   rw[if_neg (fun x=>Ka),if_neg (fun x=>Ka)]
  ·rw[if_pos q,if_neg q]
 by_cases h12:kind kw=12
 ·obtain⟨vq,pq⟩:=H.prd
  refine sw_no (J2r h12) ((Jdu (F:=F) (vs:=vs) (g:=g) (W0:=W) false 41 0 0 W (Nx.start pq)).mono fun r w' h=>⟨h.1,?_⟩);obtain⟨v',G⟩:=H.up h.2.1;have e:Jfo F_ T (kind kw) (kw::g) (decide (lw=wTr) || decide (lw=wCc)) m=41:=by unfold Jfo;exact if_pos h12
  rw[e];refine⟨_,_,G,?_,Waw,⟨Jae Ka,Jae Ka,rfl,fun i _ _=>rfl⟩,fun q=>absurd q Kd⟩;unfold set2;rw[List.getElem?_set,if_pos rfl,if_pos Wa1];rfl
 ·have hk:=Jsb h12
  have hle:=Jhj kw;obtain⟨k,hkk⟩:=Pi (kind kw);rw[hkk] at hk h12 hle |-;match k,hle,hk with
  | 0,_,hk=>rw[plain 0 5 Ka rfl];exact Qe1 (Pp hk).symm (Qen F_ H FO P hN kw)
  | 1,_,hk=>rw[plain 1 4 Ka rfl];exact Qe2 (Pp hk).symm (Qeo F_ H FO P hN kw)
  | 2,_,hk=>rw[plain 2 5 Ka rfl];exact Qe3 (Pp hk).symm (Qep F_ H FO P hN kw)
  | 3,_,hk=>rw[plain 3 4 Ka rfl];exact Qe4 (Pp hk).symm (Qeq F_ H FO P hN kw)
  | 4,_,hk=>rw[plain 4 5 Ka rfl];exact Qe5 (Pp hk).symm (Qew F_ H P hN kw)
  | 5,_,hk=>rw[plain 5 5 Ka rfl];exact Qe7 (Pp hk).symm (Qer F_ H FO P hN kw)
  | 6,_,hk=>rw[plain 6 3 Ka rfl];exact Qe8 (Pp hk).symm (Qes F_ H P hN kw)
  | 7,_,hk=>rw[plain 7 4 Ka rfl];exact Qe9 (Pp hk).symm (Qet F_ H P hN kw)
  | 8,_,hk=>rw[plain 8 5 Ka rfl];exact Qfa (Pp hk).symm (Qeu F_ H FO P hN kw)
  | 9,_,hk=>rw[plain 9 7 Ka rfl];exact Qfb (Pp hk).symm (Qev F_ H FO P hN kw)
  | 10,_,hk =>
   have e:Jfo F_ T 10 (kw::g) (decide (lw=wTr) || decide (lw=wCc)) m=if(kw::g).length=5 then(if(decide (lw=wTr) || decide (lw=wCc))=true then(addR F_ T 10 (kw::g)).1 else 8) else 1:=by
    unfold Jfo;rw[show cnts.getD 10 0=5 from rfl,if_neg Ka];by_cases q:(kw::g).length=5
    ·rw[if_neg (fun x=>x q),if_pos q]
     cases (decide (lw=wTr) || decide (lw=wCc)) with
     | true=>rw[if_neg Ke,if_neg Ke,if_pos rfl]
     | false=>rw[if_pos ⟨rfl,rfl⟩];rfl
    ·rw[if_pos q,if_neg q]
   rw[e];exact Qe6 (Pp hk).symm (Qey F_ H FO P hN hlast hne kw)
  | 11,_,hk =>
   have e:Jfo F_ T 11 (kw::g) (decide (lw=wTr) || decide (lw=wCc)) m=if(kw::g).length=4 then(if m=0 then(addR F_ T 11 (kw::g)).1 else 6) else 1:=by
    unfold Jfo;rw[show cnts.getD 11 0=4 from rfl,if_neg Ka];by_cases q:(kw::g).length=4
    ·rw[if_neg (fun x=>x q),if_pos q]
     rw[if_neg (fun x=>absurd x.1 Kd)];by_cases hm0:m=0
     ·rw[if_neg (fun x=>x.2 hm0),if_pos hm0]
     ·rw[if_pos ⟨rfl,hm0⟩,if_neg hm0]
    ·rw[if_pos q,if_neg q]
   rw[e];exact Qfc (Pp hk).symm (Qe0 F_ H FO P hm hM hV kw)
  | 12,_,_=>exact absurd rfl h12
  | k+13,h,_=>omega
def i1(x:Int):List Value:=[.int .i64 x]
theorem Qfd(x:Int):(i1 x).length=1:=rfl
def lnK(r:Rd)(lx:List Int)(k:Nat):List Int:=if k<10 then r.ln.getD k [] else if k=10 then lx else if r.fa=0 then[] else[r.fa]
structure Ln (w0:World) (vs:List Value) (ts:List Tng) (r:Rd) (lw:Bs) (B m:Nat) (V:List UInt8->Value) (lx:List Int) (N:Nat):Prop where
 c15:vs[15]?=some (.map (some B))
 t10:ts[10]?=some (tLin B m V)
 c16:vs[16]?=some (.string (str lw))
 rows:∀k,k<12->ts[15+k]?=some (tRow w0.heap.size ⟨3,1,V (kinds.getD k []),(lnK r lx k).length,fl i1 (lnK r lx k)⟩)
 no:∀x,x ∉ kinds->V x=.slice none 0 0
 cl:r.cl=(decide (lw=wTr) || decide (lw=wCc))
 few:∀k,k<12->(lnK r lx k).length<=N
 less:m<=N
 ten:r.ln.length=10
 fa:0<=r.fa
def Pa(w0:World)(F:Nat)(r:Rd)(N:Nat)(W:World):Prop:=∃vs ts U lw B m V lx,Gst w0 F 80 vs ts W/\vs[1]?=some (.int .i64 0)/\Pt w0 vs ts r.T U N/\Ln w0 vs ts r lw B m V lx N/\(r.cl=true->U.tr≠[])
section
variable {w0:World} {vs vs':List Value} {ts ts':List Tng} {T U:Tt} {N:Nat}
theorem Pt.frame(h:Pt w0 vs ts T U N)(hv:∀i,2<=i->i≠15->i≠16->vs'[i]?=vs[i]?)(hvl:vs'.length=vs.length)(ht:∀i,i<10\/(11<=i/\i<15)\/28<=i->ts'[i]?=ts[i]?)(htl:ts'.length=ts.length):Pt w0 vs' ts' T U N where
 cop:=h.cop
 tabs:=fun i hi=>by
  obtain⟨v,hu⟩:=h.tabs i hi;exact⟨v,hu.keep (hv _ Ka Ka Ka) (ht i (.inl hi))⟩
 di:=(hv 12 Ka Ka Ka).trans h.di
 wi:=(hv 13 Ka Ka Ka).trans h.wi
 cp:=(hv 14 Ka Ka Ka).trans h.cp
 ix:=fun j hj=>by
  obtain⟨B,hB⟩:=h.ix j hj;exact⟨B,hB.keep (hv _ Ka Ka Ka) (ht _ (.inr (.inl Ka)))⟩
 calls:=fun j x hx=>(ht _ (.inr (.inr Ka))).trans (h.calls j x hx)
 tlen:=htl.trans h.tlen
 vlen:=hvl.trans h.vlen
 few:=h.few
 fewc:=h.fewc
theorem Prd.mono{F n n':Nat}{v:Value}{g:List Bs}{e:Int}{W:World}(h:Prd F n vs v g e W)(hn:n<=n')(hW:n'<=W.heap.size):Prd F n' vs v g e W:=by
 refine⟨h.box,h.rest,h.err,?_,hW⟩;obtain⟨A,c,e,h1,h2,h3⟩:=h.lst;refine⟨A,c,e,h1,h2,fun h0=>?_⟩;obtain⟨b,o,e1,h4,h5⟩:=h3 h0;exact⟨b,o,e1,Ps h4 hn,h5⟩
end
theorem J6t(F_:Fm)(r:Rd)(lx:List Int)(f:List Bs)(n:Int)(hn:n≠0)(ten:r.ln.length=10)(k:Nat)(hk:kind (f.headD [])=k)(h12:k<12)(h0:(rcd F_ r f n).1=0)(hfa:0<=r.fa):
  (rcd F_ r f n).2=⟨(addR F_ r.T k f).2,if k<10 then r.ln.modify k (·++[n]) else r.ln,if k=11 then n else r.fa,decide (k=4\/k=10)⟩/\∀j,j<12->lnK (rcd F_ r f n).2 (if k=10 then lx++[n] else lx) j=if j=k then lnK r lx j++[n] else lnK r lx j:=by
 have e:(rcd F_ r f n).2=⟨(addR F_ r.T k f).2,if k<10 then r.ln.modify k (·++[n]) else r.ln,if k=11 then n else r.fa,decide (k=4\/k=10)⟩/\(k=11->r.fa=0):=by
  unfold rcd at h0 |-;simp only[hk] at h0 |-;rw[if_neg Ka] at h0 |-;by_cases hc:f.length=cnts.getD k 0
  ·rw[if_neg (fun q=>q hc)] at h0 |-
   by_cases h10:k=10/\r.cl=false
   ·rw[if_pos h10] at h0;simp at h0
   ·rw[if_neg h10] at h0 |-
    by_cases h11:k=11/\0<r.fa
    ·rw[if_pos h11] at h0;simp at h0
    ·rw[if_neg h11]
     exact⟨rfl,fun q=>by have:=fun x=>h11 ⟨q,x⟩;omega⟩
  ·rw[if_pos hc] at h0;simp at h0
 refine⟨e.1,fun j hj=>?_⟩;rw[e.1];unfold lnK;by_cases hj10:j<10
 ·rw[if_pos hj10,if_pos hj10]
  by_cases hk10:k<10
  ·simp only[if_pos hk10]
   exact Jt1 r.ln k j n Ka
  ·simp only[if_neg hk10]
   rw[if_neg Ka]
 ·rw[if_neg hj10,if_neg hj10]
  by_cases hj1:j=10
  ·rw[if_pos hj1,if_pos hj1]
   by_cases hk1:k=10
   ·rw[if_pos hk1,if_pos Ka]
   ·rw[if_neg hk1,if_neg Ka]
  ·rw[if_neg hj1,if_neg hj1]
   by_cases hk1:k=11
   ·simp only[if_pos hk1]
    rw[if_pos (by omega:j=k),if_neg hn,if_pos (e.2 hk1)];rfl
   ·simp only[if_neg hk1]
    rw[if_neg (by omega:¬j=k)]
variable {w:World} {n i:Nat} {l:List Bs}
theorem Jjx{kw:Bs}(h:kind kw≠12):kinds.getD (kind kw) []=kw:=by
 rw[List.getD_eq_getElem?_getD,Jsb h];rfl
theorem J6u{j:Nat}(hi:i<12)(hj:j<12)(h:i≠j):kinds.getD i []≠kinds.getD j []:=by
 have hd:∀i,i<12->∀j,j<12->i≠j->kinds.getD i []≠kinds.getD j []:=Kd;exact hd i hi j hj h
theorem ite1{α β:Type}{p:Prop}[Decidable p](a b:α×β):(if p then a else b).1=if p then a.1 else b.1:=by split <;> rfl
theorem J6v(F_:Fm)(r:Rd)(f:List Bs)(n:Int)(ok:Bool)(m:Nat)(hok:r.cl=ok)(hm:m≠0↔0<r.fa):Jfo F_ r.T (kind (f.headD [])) f ok m=(rcd F_ r f n).1:=by
 unfold Jfo rcd;simp only[ite1,hok,hm]
theorem J2s{j:Nat}{x:Bs}(h:l[j]?=some x):(sts l)[j]?=some (.string (str x)):=by
 unfold sts;rw[List.getElem?_map,h];rfl
theorem OwnS.lstO{base F:Nat}{v:Value}(h:OwnS w base v l)(hF:F<base)(hn:w.heap.size<=n):LstO F n w v l:=by
 obtain⟨A,c,hv,hc,-,hx⟩:=Jb8 h;have hm:c<=9223372036854775807:=by
  rcases h.2 with⟨e,-⟩ | ⟨_,_,_,e,_,_,_,hm,_⟩
  ·rw[hv] at e;injection e with _ _ e3;omega
  ·rw[hv] at e;injection e with _ _ e3;unfold maxLen at hm;omega
 refine⟨A,c,hv,hc,hm,fun h0=>?_⟩;obtain⟨g,hA,h1,hg,hcell⟩:=hx h0;exact⟨g,0,hA,Ka,Ka,fun j x hj=>hcell j _ (J2s hj)⟩
theorem Jng{α:Type}{l:List α}(h:i<l.length):∃x,l[i]?=some x:=⟨_,List.getElem?_eq_getElem h⟩
theorem J2t:(prog.info? 3).map (fun i=>(i.zero,i.size,i.bytes))=some (some (.int .i64 0),1,8):=Kl
theorem Qb6(F_:Fm){w0 W:World}{F N:Nat}{r:Rd}(FO:Fo F_ w0){vs:List Value}{ts:List Tng}{U:Tt}{lw:Bs}{B m:Nat}{V:List UInt8->Value}{lx:List Int}(G:Gst w0 F 80 vs ts W)(PT:Pt w0 vs ts r.T U N)(L:Ln w0 vs ts r lw B m V lx N)(e1:vs[1]?=some (.int .i64 0))(hcl:r.cl=true->U.tr≠[])(hN:N+1<=1000000)(hm:m<=1000000)(x kw:Bs)(g:List Bs)(hs:S4.splitR x=(kw::g,0))(hx:x.length<=65536)(h64:g.length<=64)(hg:∀k,(g.getD k []).length<=65536)(hkw:kw.length<=65536)(n:Int)(E:Int)(hE:Jfo F_ r.T (kind kw) (kw::g) (decide (lw=wTr) || decide (lw=wCc)) (lnK r lx 11).length=E):
  Calls prog 22 #[.pointer (some ⟨F,0,none⟩),.string (str x),.int .i64 n] W fun e w'=>e=.returned (.int .i64 E)/\Po w0 w'/\(E=0->∃vs3 vs4 vs' ts4 ts' i v m',(∀i,2<=i->vs3[i]?=vs[i]?)/\vs3.length=vs.length/\(∃U',Pt w0 vs4 ts4 (addR F_ r.T (kind kw) (kw::g)).2 U' (N+1))/\Left vs3 vs4 ts ts4/\vs4[1]?=some (.int .i64 0)/\vs'=vs4.set 16 (.string (str kw))/\i=15+kind kw/\m'<=m+1/\ts'=(ts4.set i (tRow w0.heap.size ⟨3,1,v,(lnK r lx (kind kw)++[n]).length,fl i1 (lnK r lx (kind kw)++[n])⟩)).set 10 (tLin B m' (putL V kw v))/\Gst w0 F 80 vs' ts' w'):=by
 suffices h:∀Z:World->Prop,(∀w',Po w0 w'->(E=0->∃vs3 vs4 vs' ts4 ts' i v m',(∀i,2<=i->vs3[i]?=vs[i]?)/\vs3.length=vs.length/\(∃U',Pt w0 vs4 ts4 (addR F_ r.T (kind kw) (kw::g)).2 U' (N+1))/\Left vs3 vs4 ts ts4/\vs4[1]?=some (.int .i64 0)/\vs'=vs4.set 16 (.string (str kw))/\i=15+kind kw/\m'<=m+1/\ts'=(ts4.set i (tRow w0.heap.size ⟨3,1,v,(lnK r lx (kind kw)++[n]).length,fl i1 (lnK r lx (kind kw)++[n])⟩)).set 10 (tLin B m' (putL V kw v))/\Gst w0 F 80 vs' ts' w')->Z w')->Calls prog 22 #[.pointer (some ⟨F,0,none⟩),.string (str x),.int .i64 n] W fun e w'=>e=.returned (.int .i64 E)/\Z w' from h _ (fun _ a b=>⟨a,b⟩)
 intro Z hZ;have HZ:=Pe hZ;clear hZ;have C0:=Pe (S4.fsplit_any (str x) Qb W);have hs':S4.splitR (str x).data.toList=(kw::g,0):=hs;rw[hs'] at C0;clear hs hs';obtain⟨u0,hu0⟩:=Jng (l:=vs) (i:=0) (by rw[PT.vlen];omega);generalize str x=xs at C0 |-;go_enter func22,ntmps22;go_wp2_with fail;refine C0.out.mono ?_;rintro q w1 ⟨v,rfl,ho,hb⟩;clear C0;dsimp only at ho |-;have LO:=ho;obtain⟨A0,c0,rfl,-⟩:=Jb8 ho;obtain⟨v,hv⟩:=Pi (Value.slice A0 (kw::g).length c0);have G1:=G.on hb;obtain⟨k0,k1⟩:=G1.cell hu0;have G2:=G1.put 0 v;have LO:LstO F (w1.setCell ⟨F,0,none⟩ v).heap.size (w1.setCell ⟨F,0,none⟩ v) v (kw::g):=by
  have e:(w1.setCell ⟨F,0,none⟩ v).heap.size=w1.heap.size:=Ke;rw[e,<-hv];exact(OwnS.lstO ho G.lt Ph).kept Ph (Jbs w1 F 0 _) (.inl rfl)
 have P2:Prd F (w1.setCell ⟨F,0,none⟩ v).heap.size (vs.set 0 v) v (kw::g) 0 (w1.setCell ⟨F,0,none⟩ v):=⟨G2.box,by rw[List.getElem?_set,if_pos rfl,if_pos (by rw[PT.vlen];omega)],by rw[List.getElem?_set,if_neg Kd];exact e1,LO,Nat.le_refl _⟩;have Q2:=Pe (And.intro G2 P2);clear G1 G2 P2 LO ho;subst hv;go_wp2_with fail;clear k0 k1;generalize Value.slice A0 (kw::g).length c0=v at Q2 |-;generalize w1.setCell ⟨F,0,none⟩ v=w2 at Q2 |-;obtain⟨G2,P2⟩:=Q2.out;have hvl:(vs.set 0 v).length=vs.length:=List.length_set;have C1:=Jbt (F:=F) (vs:=vs.set 0 v) (g:=kw::g) (W0:=w2) 0 0 w2 (Nx.start P2);rw[show(kw::g).getD 0 []=kw from rfl] at C1;refine C1.mono ?_;rintro q w3 ⟨rfl,⟨n31,-,v',n33⟩,-⟩;clear C1;have G3:=G2.up n31 n33.box;have P3:Prd F w3.heap.size (set2 (vs.set 0 v) v' 0) v' g 0 w3:=Prd.mono n33 n33.size Ph;have hv3:∀i,2<=i->(set2 (vs.set 0 v) v' 0)[i]?=vs[i]?:=fun i hi=>by rw[Jae hi,List.getElem?_set,if_neg Ka]
 have hl3:(set2 (vs.set 0 v) v' 0).length=vs.length:=by unfold set2;simp only[List.length_set]
 clear n31 n33 G2 P2 Q2;generalize set2 (vs.set 0 v) v' 0=vs3 at G3 P3 hv3 hl3;have PT3:=PT.frame (vs':=vs3) (ts':=ts) (fun i h _ _=>hv3 i h) hl3 (fun _ _=>rfl) rfl;obtain⟨A1,c1,hV,-⟩:=Jb8 (G3.row (L.rows 11 Ka));have hV:V wFa=.slice A1 (lnK r lx 11).length c1:=hV;have C2:=Pe (J6s F_ (W:=w3) ⟨G3,⟨v',P3⟩,Ka,hg⟩ FO PT3 hN ((hv3 16 Ka).trans L.c16) (fun h=>hcl (L.cl.trans h)) ((hv3 15 Ka).trans L.c15) L.t10 hV kw);rw[hE] at C2;clear G3 P3 PT3 PT G;go_wp2_with fail;refine C2.out.mono ?_;rintro q w4 ⟨rfl,vs4,ts4,G4,e4,l4,L4,hP⟩;clear C2;have ROW:∃ts5 i l,Gst w0 F 80 vs4 ts5 w4/\ts5[10]?=some (tLin B m V)/\ts5[i]?=some (tRow w0.heap.size ⟨3,1,V kw,l.length,fl i1 l⟩)/\i≠10/\l.length<=1000000/\(E=0->ts5=ts4/\i=15+kind kw/\l=lnK r lx (kind kw)):=by
  have h10:ts4[10]?=some (tLin B m V):=L4.t10.trans L.t10;have hl:=(Pm h10).1;by_cases h12:kind kw=12
  ·have hE':E=41:=by rw[<-hE];unfold Jfo;rw[if_pos h12]
   have hVk:=L.no kw (J2r h12);refine⟨ts4++[tRow w0.heap.size ⟨3,1,V kw,0,fl i1 []⟩],ts4.length,[],G4.more (Jbu Pg none) (tRow.at ?_) (fun k hk=>?_),by rw[List.getElem?_append_left hl];exact h10,by rw[List.getElem?_append_right Ph,Nat.sub_self];rfl,Ka,Ke,fun h=>absurd (hE'.symm.trans h) Kd⟩
   ·rw[hVk];exact World.ownsRow_nil _ _ _ _
   ·rw[hVk] at hk;cases hk
  ·have hk:kind kw<12:=by have:=Jhj kw;omega
   refine⟨ts4,15+kind kw,lnK r lx (kind kw),G4,h10,?_,Ka,by have:=L.few _ hk;omega,fun _=>⟨rfl,rfl,rfl⟩⟩;rw[L4.tl _ Ka Ka,L.rows _ hk,Jjx h12]
 obtain⟨ts5,i,l,G5,h10,HR,hi10,hll,hz⟩:=ROW;clear G4;obtain⟨w5,h5⟩:=Pi (World.drew w4);have G5:=G5.on (W':=w5) Wad;have c15:vs4[15]?=some (.map (some B)):=L4.c15.trans ((hv3 15 Ka).trans L.c15);have S0:∀(X:World) (vs:List Value) (ts:List Tng),vs[15]?=some (.map (some B))->ts[10]?=some (tLin B m V)->Gst w0 F 80 vs ts X->X.cell? ⟨F,15,none⟩=some (.map (some B))/\(Instr.lookup 76 (.map (some B)) (.string (str kw)) false).run prog X=.ok (V kw) X:=fun X vs ts h h' G=>⟨(G.cell h).1,(G.blk h').1.look (str kw) kw rfl Ka⟩
 go_wp2_with fail;refine Jei (S:=fun X=>X.cell? ⟨F,15,none⟩=some (.map (some B))/\(Instr.lookup 76 (.map (some B)) (.string (str kw)) false).run prog X=.ok (V kw) X) _ 15 14 rfl Kl Kl Kl (Jbl 15 0) Kl ?_;rw[h5];refine Jd2 (L:=[(0,30,pt F 0),(1,31,pt F 0),(2,32,pt F 15),(3,33,.map (some B)),(4,34,.string (str kw)),(5,35,pt F 0),(6,36,pt F 0),(7,37,pt F 15),(8,38,.map (some B)),(9,39,.string (str kw)),(10,40,V kw),(11,41,.int .i64 n)]) rfl (.q (.q (.q (.cons rfl rfl (.inl ⟨rfl,fun _ h=>Waf⟩) (.q (.q (.q (.q (.cons rfl rfl (.inl ⟨rfl,fun _ h=>Waf⟩) (.q (.cons rfl rfl (.inl ⟨rfl,fun _ h=>Waf⟩) (.q .nil)))))))))))) [0,1,2,3,4,5,6,7,8,9,10,11] rfl rfl Kl (fun _ _ _ _ _ h=>h) (S0 _ _ _ c15 h10 G5) ?_;obtain⟨w6,h6⟩:=Pi (w5.alloc (.cells #[.int .i64 n] 3 (0,0)));have G6:=G5.on (W':=w6) Wac;have y6:=heap_alloc_new w5 (.cells #[.int .i64 n] 3 (0,0));rw[h6] at y6;refine Jda (i:=12) (v:=.slice (some ⟨w5.heap.size,0,none⟩) 1 1) (w':=w6) 42 _ rfl Kl rfl rfl rfl Wah (S0 _ _ _ c15 h10 G6) rfl ?_;obtain⟨v7,w7,hr7,o7,g7,p7⟩:=Jcj (enc:=i1) Qfd Kd underlying84 J2t rfl Kd w6 84 w0.heap.size (V kw) l n (fun u hu=>by simp only[i1,List.mem_cons,List.not_mem_nil,or_false] at hu;subst hu;rfl) (G6.row HR) _ _ y6 rfl G6.base.size Ka;have G7:=G6.turn (t':=tRow w0.heap.size ⟨3,1,v7,(l++[n]).length,fl i1 (l++[n])⟩) HR g7 (tRow.at o7) p7;have h10':(ts5.set i (tRow w0.heap.size ⟨3,1,v7,(l++[n]).length,fl i1 (l++[n])⟩))[10]?=some (tLin B m V):=(List.getElem?_set_ne hi10).trans h10;refine Jda (i:=13) (v:=v7) (w':=w7) 43 _ rfl Kl rfl rfl rfl (Ja9 (s:=.tmp 40) (x:=.tmp 42) (ST:=84) Kl Kl Kl hr7) (S0 _ _ _ c15 h10' G7) rfl ?_;have b7:=G7.blk h10';obtain⟨w8,r8,m8,g8⟩:=b7.1.put Ka (str kw) kw rfl Ka v7;have G8:=G7.turn (t':=tLin B (m+1) (putL V kw v7)) h10' g8 (tBlk.at m8 b7.2.1 (Ps b7.2.2.1 g8.size) fun _ _ _ h1 hg hn=>h1.kept hg hn) (fun k hk=>.inl hk);refine Jej (w':=w8) _ rfl Kl rfl rfl rfl Waa ?_;refine Jhw Kl ?_;have c16:∃u,vs4[16]?=some u:=Jng Ka;obtain⟨u16,c16⟩:=c16;have G9:=G8.put 16 (.string (str kw));obtain⟨k0,k1⟩:=G8.cell c16;obtain⟨k2,k3⟩:=G8.cell e4;have k4:=(G9.cell (i:=1) (v:=.int .i64 E) (by rw[List.getElem?_set,if_neg Kd];exact e4)).1;have Q9:Hid (Z (w8.setCell ⟨F,16,none⟩ (.string (str kw)))):=Pe (HZ.out _ G9.base fun h0=>by
  obtain⟨z1,z2,z3⟩:=hz h0;subst z1;subst z2;subst z3;exact⟨vs3,vs4,_,ts5,_,_,v7,m+1,hv3,hl3,hP h0,L4,h0 ▸ e4,rfl,rfl,Nat.le_refl _,rfl,G9⟩)
 clear G9 G8 G7 G6 G5 g8 m8 r8 b7 h10' p7 g7 o7 hr7 y6 h6 h5 S0 hP hz HR;go_wp2_with fail;go_ret;exact⟨rfl,Q9.out⟩
theorem Qb7(F:Nat)(W:World)(x:Bs)(f:List Bs)(z n:Int)(hs:S4.splitR x=(f,z))(hz:z≠0)(hx:x.length<=65536):
  Pc 22 #[.pointer (some ⟨F,0,none⟩),.string (str x),.int .i64 n] W (.int .i64 z):=by
 have C0:=Pe (S4.fsplit_any (str x) Qb W);have hs':S4.splitR (str x).data.toList=(f,z):=hs;rw[hs'] at C0;clear hs hs';generalize str x=xs at C0 |-;go_enter func22,ntmps22;go_wp2_with fail;refine C0.out.mono ?_;rintro q w1 ⟨v,rfl,ho,hb⟩;clear C0;dsimp only at ho |-;obtain⟨A0,c0,rfl,-⟩:=Jb8 ho;have B1:=Pe hb;clear hb ho;go_wp2_with fail;go_ret;exact⟨rfl,B1.out⟩
theorem J2u(kw:Bs)(k:Nat)(hk:k<12):kind kw=k↔kw=kinds.getD k []:=by
 have hd:∀k,k<12->kind (kinds.getD k [])=k:=Kd;constructor
 ·intro h
  rw[<-h,Jjx Ka]
 ·intro h
  rw[h,hd k hk]
theorem J2v(F_:Fm){T:Tt}{k:Nat}(hk:k<12){f:List Bs}(hf:f.length=cnts.getD k 0)(h:k=4\/T.tr≠[]):(addR F_ T k f).2.tr≠[]:=by
 have h4:(addR F_ T k f).2.tr.length=T.tr.length+if 4=k then 1 else 0:=(Jre F_ T k hk f hf).1 4 Ka
 intro e;rw[e] at h4;rcases h with h | h
 ·rw[if_pos h.symm] at h4;simp at h4
 ·have:T.tr.length≠0:=fun q=>h (List.length_eq_zero_iff.1 q)
  simp only[List.length_nil] at h4;omega
theorem Qb8(F_:Fm){w0 W:World}{F N:Nat}{r:Rd}(FO:Fo F_ w0)(P:Pa w0 F r N W)(hN:N+1<=1000000)(x:Bs)(hx:x.length<=65536)(hi:ign x=false)(n:Int)(hn:0<n):
  Calls prog 22 #[.pointer (some ⟨F,0,none⟩),.string (str x),.int .i64 n] W fun e w'=>e=.returned (.int .i64 (oneR F_ r x n).1)/\Po w0 w'/\((oneR F_ r x n).1=0->Pa w0 F (oneR F_ r x n).2 (N+1) w'):=by
 obtain⟨vs,ts,U,lw,B,m,V,lx,G,e1,PT,L,hcl⟩:=P;have hO:oneR F_ r x n=if(splR x).2≠0 then((splR x).2,r) else rcd F_ r (splR x).1 n:=by unfold oneR;rw[hi];rfl
 by_cases hS:(splR x).2=0
 ·rw[if_neg (fun q=>q hS)] at hO
  have hxn:x≠[]:=fun e=>by rw[e] at hi;cases hi
  obtain⟨-,-,s3,s4,s5⟩:=J8t hS hxn;obtain⟨fs,hfs⟩:=Pi ((splR x).1);rw[hfs] at hO s3 s4 s5;cases fs with
  | nil=>exact absurd rfl s3
  | cons kw g =>
   rw[List.length_cons] at s4;have hk:kw.length<=65536:=Nat.le_trans (s5 kw (List.mem_cons_self)) hx;have hg:∀k,(g.getD k []).length<=65536:=fun k=>by
    rw[List.getD_eq_getElem?_getD];cases h:g[k]? with
    | none=>simp
    | some y=>exact Nat.le_trans (s5 y (List.mem_cons_of_mem _ (List.mem_of_getElem? h))) hx
   have hc:=J6v F_ r (kw::g) n (decide (lw=wTr) || decide (lw=wCc)) (lnK r lx 11).length L.cl (by
    have:=L.fa;show(if r.fa=0 then([]:List Int) else[r.fa]).length≠0↔0<r.fa
    by_cases h0:r.fa=0
    ·rw[if_pos h0,h0];simp
    ·rw[if_neg h0];simp;omega)
   rw[hO];have hsp:S4.splitR x=(kw::g,0):=(Prod.ext hfs hS:splR x=(kw::g,0));refine(Qb6 F_ FO G PT L e1 hcl hN (by have:=L.less;omega) x kw g hsp hx Ka hg hk n _ hc).mono ?_;rintro e w' ⟨rfl,hb,hK⟩;refine⟨rfl,hb,fun h0=>?_⟩;obtain⟨vs3,vs4,vs',ts4,ts',i,v,m',hv3,hl3,⟨U',PT4⟩,L4,e4,rfl,rfl,hm',rfl,G'⟩:=hK h0;have hk12:kind kw<12:=by
    have:=Jhj kw;have h:kind kw≠12:=fun q=>by rw[<-hc] at h0;unfold Jfo at h0;rw[if_pos (show kind ((kw::g).headD [])=12 from q)] at h0;cases h0
    omega
   have hkg:=Jjx (kw:=kw) Ka;obtain⟨n1,n2⟩:=J6t F_ r lx (kw::g) n Ka L.ten (kind kw) rfl hk12 h0 L.fa;have hf:(kw::g).length=cnts.getD (kind kw) 0:=by
    rw[<-hc] at h0;unfold Jfo at h0;rw[if_neg (show ¬kind ((kw::g).headD [])=12 from by show ¬kind kw=12;omega)] at h0;by_cases q:(kw::g).length=cnts.getD (kind kw) 0
    ·exact q
    ·rw[if_pos (show(kw::g).length≠cnts.getD (kind ((kw::g).headD [])) 0 from q)] at h0;cases h0
   have h10:(kind kw=10->r.cl=true):=fun q=>by
    rw[<-hc] at h0;unfold Jfo at h0;rw[if_neg (show ¬kind ((kw::g).headD [])=12 from by show ¬kind kw=12;omega),if_neg (show ¬(kw::g).length≠cnts.getD (kind ((kw::g).headD [])) 0 from fun x=>x hf)] at h0;rw[<-L.cl] at h0;by_cases q1:r.cl=false
    ·rw[if_pos ⟨(show kind ((kw::g).headD [])=10 from q),q1⟩] at h0;cases h0
    ·simpa using q1
   have ht10:10<ts4.length:=by have:=PT4.tlen;omega
   have htl:15+kind kw<ts4.length:=by have:=PT4.tlen;omega
   have hl16:16<vs4.length:=by have:=PT4.vlen;omega
   have cl':(rcd F_ r (kw::g) n).2.cl=(decide (kw=wTr) || decide (kw=wCc)):=by
    rw[n1];show decide (kind kw=4\/kind kw=10)=_
    rw[<-Bool.decide_or];refine decide_eq_decide.2 ?_;rw[J2u kw 4 Ka,J2u kw 10 Ka];exact Iff.rfl
   refine⟨_,_,U',kw,B,m',putL V kw v,if kind kw=10 then lx++[n] else lx,G',by rw[List.getElem?_set,if_neg Kd];exact e4,?_,⟨?_,?_,?_,fun j hj=>?_,fun y hy=>?_,cl',fun j hj=>?_,by have:=L.less;omega,?_,?_⟩,fun hq=>?_⟩
   ·rw[n1]
    exact PT4.frame (fun i _ _ h16=>by rw[List.getElem?_set,if_neg (fun q=>h16 q.symm)]) List.length_set (fun i hi=>by rw[List.getElem?_set,if_neg Ka,List.getElem?_set,if_neg Ka]) (by rw[List.length_set,List.length_set])
   ·rw[List.getElem?_set,if_neg Kd]
    exact L4.c15.trans ((hv3 15 Ka).trans L.c15)
   ·rw[List.getElem?_set,if_pos rfl,if_pos (by rw[List.length_set];exact ht10)]
   ·rw[List.getElem?_set,if_pos rfl,if_pos hl16]
   ·rw[n2 j hj,List.getElem?_set,if_neg Ka]
    by_cases q:j=kind kw
    ·subst q
     rw[List.getElem?_set,if_pos rfl,if_pos htl,if_pos rfl,hkg];unfold putL;rw[if_pos rfl]
    ·rw[List.getElem?_set,if_neg Ka,if_neg q,L4.tl _ Ka Ka,L.rows j hj]
     unfold putL;rw[if_neg (fun h=>J6u hj hk12 q (h.trans hkg.symm))]
   ·unfold putL
    rw[if_neg (fun h=>by
     subst h;have:=Jsb (kw:=y) Ka;exact hy (List.mem_of_getElem? this))]
    exact L.no y hy
   ·rw[n2 j hj]
    have:=L.few j hj;by_cases q:j=kind kw
    ·rw[if_pos q,Pq];simpa using this
    ·rw[if_neg q];omega
   ·rw[n1]
    show(if kind kw<10 then r.ln.modify (kind kw) (·++[n]) else r.ln).length=10
    split
    ·rw[List.length_modify];exact L.ten
    ·exact L.ten
   ·rw[n1]
    show 0<=if kind kw=11 then n else r.fa
    split
    ·omega
    ·exact L.fa
   ·have hT:(addR F_ r.T (kind kw) (kw::g)).2.tr≠[]:=by
     refine J2v F_ hk12 hf ?_;rw[n1] at hq;have hq:kind kw=4\/kind kw=10:=by simpa using hq
     rcases hq with h | h
     ·exact .inl h
     ·refine .inr fun e=>?_
      have hu:=hcl (h10 h);have hl:=congrArg List.length PT.cop.tr;rw[Pr,Pr,e] at hl;exact hu (List.length_eq_zero_iff.1 hl)
    intro e;have hl:=congrArg List.length PT4.cop.tr;rw[Pr,Pr,e] at hl;exact hT (List.length_eq_zero_iff.1 hl.symm)
 ·rw[if_pos hS] at hO
  rw[hO];have hsp:S4.splitR x=((splR x).1,(splR x).2):=rfl;refine(Qb7 F W x _ _ n hsp hS hx).mono ?_;rintro e w' ⟨rfl,hb⟩;exact⟨rfl,G.base.trans (hb.mono G.base.size),fun h=>absurd h hS⟩
def nilR(w0:World)(t:TypeId)(k:Nat):Tng:=tRow w0.heap.size ⟨t,k,.slice none 0 0,0,[]⟩
theorem nilR.at(w0 W:World)(t:TypeId)(k:Nat):(nilR w0 t k).At w0.heap.size W:=tRow.at (World.ownsRow_nil _ _ _ _)
def vsN(n:Nat):List Value:=[.slice none 0 0,.int .i64 0,.slice none 0 0,.slice none 0 0,.slice none 0 0,.slice none 0 0,.slice none 0 0,.slice none 0 0,.slice none 0 0,.slice none 0 0,.slice none 0 0,.slice none 0 0,.int .i64 0,.int .i64 0,.int .i64 0,.map (some n),.string ⟨#[]⟩,.map (some (n+1)),.map (some (n+2)),.map (some (n+3)),.map (some (n+4))]
def tsA(w0:World):List Tng:=(List.range 10).map fun i=>nilR w0 (tyT i).1 (tyT i).2
def tsM(n:Nat):List Tng:=[tLin n 0 (fun _=>.slice none 0 0),tIdx (n+1) [],tIdx (n+2) [],tIdx (n+3) [],tIdx (n+4) []]
def tsL(w0:World):List Tng:=List.replicate 13 (nilR w0 3 1)
def tsN(w0:World)(n:Nat):List Tng:=tsA w0++(tsM n++tsL w0)
theorem J8u(w0:World)(n i:Nat)(t:Tng)(h:(tsN w0 n)[i]?=some t):(i<10/\t=nilR w0 (tyT i).1 (tyT i).2)\/(10<=i/\i<15/\(tsM n)[i - 10]?=some t)\/(15<=i/\i<28/\t=nilR w0 3 1):=by
 have la:(tsA w0).length=10:=rfl;have lm:(tsM n).length=5:=rfl;unfold tsN at h;by_cases h1:i<10
 ·rw[List.getElem?_append_left Ka] at h
  unfold tsA at h;rw[List.getElem?_map,List.getElem?_range h1] at h;exact .inl ⟨h1,(Pp h).symm⟩
 ·rw[List.getElem?_append_right Ka,la] at h
  by_cases h2:i<15
  ·rw[List.getElem?_append_left Ka] at h
   exact .inr (.inl ⟨Ka,h2,h⟩)
  ·rw[List.getElem?_append_right Ka,lm] at h
   unfold tsL at h;rw[List.getElem?_replicate] at h;split at h
   ·exact .inr (.inr ⟨Ka,Ka,(Pp h).symm⟩)
   ·cases h
theorem Qb9{g:Nat}{t:Tng}(h:(tsM n)[i]?=some t)(hg:t.own=some g):g=n+i:=by
 match i with
 | 0=>cases h;cases hg;rfl
 | 1=>cases h;cases hg;rfl
 | 2=>cases h;cases hg;rfl
 | 3=>cases h;cases hg;rfl
 | 4=>cases h;cases hg;rfl
 | i+5=>simp[tsM] at h
theorem Jsc{w0:World}{g:Nat}{t:Tng}(h:(tsN w0 n)[i]?=some t)(hg:t.own=some g):10<=i/\i<15/\g=n+(i - 10):=by
 rcases J8u w0 n i t h with⟨_,rfl⟩ | ⟨h1,h2,h3⟩ | ⟨_,_,rfl⟩
 ·cases hg
 ·exact⟨h1,h2,Qb9 h3 hg⟩
 ·cases hg
theorem J2w(k:Nat):lnK R0 [] k=[]:=by
 unfold lnK;split
 ·show([[],[],[],[],[],[],[],[],[],[]]:List (List Int)).getD k []=[]
  match k with
  | 0 | 1 | 2 | 3 | 4 | 5 | 6 | 7 | 8 | 9=>rfl
  | _+10=>rfl
 ·split <;> rfl
theorem Qfe{w0 W:World}(hn:w0.heap.size=n)(hb:W.heap[n+5]?=some (.cells (vsN n).toArray 80 (0,0)))(h0:MapL W n 0 fun _=>.slice none 0 0)(h1:MapF W (n+1) [])(h2:MapF W (n+2) [])(h3:MapF W (n+3) [])(h4:MapF W (n+4) [])(b:Po w0 W):Pa w0 (n+5) R0 0 W:=by
 have hl:n+5<W.heap.size:=(Pn hb).1;have hM:∀(i:Nat) (t:Tng),(tsM n)[i]?=some t->t.At w0.heap.size W:=fun i t h=>by
  match i with
  | 0=>cases h;exact tBlk.at h0 Ka Ka fun _ _ _ h1 hg hn=>h1.kept hg hn
  | 1=>cases h;exact tIdx.at h1 Ka
  | 2=>cases h;exact tIdx.at h2 Ka
  | 3=>cases h;exact tIdx.at h3 Ka
  | 4=>cases h;exact tIdx.at h4 Ka
  | i+5=>simp[tsM] at h
 refine⟨vsN n,tsN w0 n,T0,[],n,0,fun _=>.slice none 0 0,[],⟨hb,Ka,fun i t h=>?_,fun i t h e=>?_,fun i j a c hij ha hc g hg e=>?_,b⟩,rfl,⟨?_,?_,rfl,rfl,rfl,?_,fun j x h=>Wa0,rfl,rfl,?_,fun x h=>Wa0⟩,⟨rfl,rfl,rfl,fun k hk=>?_,fun _ _=>rfl,rfl,fun k hk=>by rw[J2w];exact Nat.le_refl _,Nat.le_refl _,rfl,Int.le_refl _⟩,fun h=>Qi⟩
 ·rcases J8u w0 n i t h with⟨_,rfl⟩ | ⟨_,_,h⟩ | ⟨_,_,rfl⟩
  ·exact nilR.at _ _ _ _
  ·exact hM _ _ h
  ·exact nilR.at _ _ _ _
 ·have:=Jsc h e
  omega
 ·have h1:=Jsc ha hg
  have h2:=Jsc hc e;omega
 ·exact⟨rfl,rfl,rfl,rfl,rfl,rfl,rfl,rfl,rfl,rfl,rfl,rfl,rfl⟩
 ·intro i hi
  match i,hi with
  | 0,_ | 1,_ | 2,_ | 3,_ | 4,_ | 5,_ | 6,_ | 7,_ | 8,_ | 9,_=>exact⟨_,rfl,rfl,Nat.zero_le _⟩
 ·intro j hj
  match j,hj with
  | 0,_=>exact⟨n+1,rfl,rfl⟩
  | 1,_=>exact⟨n+2,rfl,rfl⟩
  | 2,_=>exact⟨n+3,rfl,rfl⟩
  | 3,_=>exact⟨n+4,rfl,rfl⟩
 ·intro i hi
  match i,hi with
  | 0,_ | 1,_ | 2,_ | 3,_ | 4,_ | 5,_ | 6,_ | 7,_ | 8,_ | 9,_=>exact Nat.le_refl _
 ·rw[J2w]
  match k,hk with
  | 0,_ | 1,_ | 2,_ | 3,_ | 4,_ | 5,_ | 6,_ | 7,_ | 8,_ | 9,_ | 10,_ | 11,_=>rfl
theorem Jjy(w:World)(o:Obj){i:Nat}{x:Obj}(h:w.heap[i]?=some x):(w.alloc o).heap[i]?=some x :=
 (((Below.refl w.heap.size w).alloc Ph o).block i (Pn h).1).trans h
theorem MapF.alloc{b:Nat}(h:MapF w b l)(o:Obj):MapF (w.alloc o) b l:=h.kept (Jbu ((Below.refl w.heap.size w).alloc Ph o) none) Ke
theorem MapL.alloc{b:Nat}{V:List UInt8->Value}(h:MapL w b n V)(o:Obj):MapL (w.alloc o) b n V:=h.kept (Jbu ((Below.refl w.heap.size w).alloc Ph o) none) Ke
theorem size_alloc(w:World)(o:Obj):(w.alloc o).heap.size=w.heap.size+1:=Ke
theorem Qca(w:World):Calls prog 20 #[] w fun e w'=>e=.returned (.pointer (some ⟨w.heap.size+5,0,none⟩))/\Pa w (w.heap.size+5) R0 0 w':=by
 have m1:∀w:World,(Instr.makeMap 76 none).run prog w=.ok (.map (some w.heap.size)) (w.alloc (.map #[] 0)):=fun _=>Kl
 have m2:∀w:World,(Instr.makeMap 78 none).run prog w=.ok (.map (some w.heap.size)) (w.alloc (.map #[] 0)):=fun _=>Kl
 have H0:Hid (Pa w (w.heap.size+5) R0 0 ((((((w.alloc (.map #[] 0)).alloc (.map #[] 0)).alloc (.map #[] 0)).alloc (.map #[] 0)).alloc (.map #[] 0)).alloc (.cells (vsN w.heap.size).toArray 80 (0,0)))):=Pe (by
  have e:=size_alloc;refine Qfe rfl ?_ ?_ ?_ ?_ ?_ ?_ ?_
  ·have:=heap_alloc_new (((((w.alloc (.map #[] 0)).alloc (.map #[] 0)).alloc (.map #[] 0)).alloc (.map #[] 0)).alloc (.map #[] 0)) (.cells (vsN w.heap.size).toArray 80 (0,0))
   exact Waz
  ·exact((((MapL.made w).alloc _).alloc _).alloc _).alloc _ |>.alloc _
  ·have:=((((MapF.made (w.alloc (.map #[] 0))).alloc (.map #[] 0)).alloc (.map #[] 0)).alloc (.map #[] 0)).alloc (.cells (vsN w.heap.size).toArray 80 (0,0))
   exact Waz
  ·have:=(((MapF.made ((w.alloc (.map #[] 0)).alloc (.map #[] 0))).alloc (.map #[] 0)).alloc (.map #[] 0)).alloc (.cells (vsN w.heap.size).toArray 80 (0,0))
   exact Waz
  ·have:=((MapF.made (((w.alloc (.map #[] 0)).alloc (.map #[] 0)).alloc (.map #[] 0))).alloc (.map #[] 0)).alloc (.cells (vsN w.heap.size).toArray 80 (0,0))
   exact Waz
  ·have:=(MapF.made ((((w.alloc (.map #[] 0)).alloc (.map #[] 0)).alloc (.map #[] 0)).alloc (.map #[] 0))).alloc (.cells (vsN w.heap.size).toArray 80 (0,0))
   exact Waz
  ·exact((((((Below.refl w.heap.size w).alloc Ph _).alloc Wax _).alloc Wax _).alloc Wax _).alloc Wax _).alloc Wax _)
 generalize hz:Pa w (w.heap.size+5) R0 0=Z at H0 |-;clear hz;go_enter func20,ntmps20;go_wp2_with fail;go_ret;exact⟨rfl,H0.out⟩
theorem Qff(x:Bs):ign x=(decide (x=[]) || Go.Lib.hasPrefix x [35]):=by
 cases x with
 | nil=>rfl
 | cons a x =>
  unfold ign Go.Lib.hasPrefix;rw[List.isPrefixOf_cons_cons];simp[BEq.comm]
theorem Qcb(x:Bs)(w:World):Calls prog 21 #[.string (str x)] w fun e w'=>e=.returned (.bool (ign x))/\w'=w:=by
 have C0:=Pe (Tryz.strings_HasPrefix (str x) ⟨#[35]⟩ w);have e:Lib.hasPrefix (str x).data.toList (⟨#[35]⟩:ByteArray).data.toList=Go.Lib.hasPrefix x [35]:=rfl;rw[e] at C0;rw[Qff];have k0:=Jaq x [];have k1:((str x).toList==[])=decide (x=[]):=k0;clear e k0;generalize Go.Lib.hasPrefix x [35]=p at C0 |-;generalize decide (x=[])=q at k1 |-;generalize str x=s at C0 k1 |-;go_enter func21,ntmps21;cases q with
 | true =>
  exact Kc
 | false =>
  go_wp2_with fail;refine C0.out.mono ?_;rintro r w1 ⟨rfl,rfl⟩;exact Kc
def kdV:Array Value:=((kinds.take 10).map fun k=>Value.string (str k)).toArray
def Jqf(w:World):Prop:=w.var? prog "transit/feed.kinds"=some kdV
theorem Jus:prog.globalNamed "transit/feed.kinds"=some 0:=Kl
theorem Jqf.below{w':World}(h:Jqf w)(b:Po w w'):Jqf w':=var?_below b Jus (var_size Jus h) h
theorem Jqf.cell(h:Jqf w)(m:Nat)(hm:m<10):w.cell? ⟨0,m,none⟩=some (.string (str (kinds.getD m []))):=by
 rw[World.var?_cell Jus h m];match m,hm with
 | 0,_ | 1,_ | 2,_ | 3,_ | 4,_ | 5,_ | 6,_ | 7,_ | 8,_ | 9,_=>rfl
theorem Qcc(B k:Nat)(hk:k<10)(W:World):(Instr.indexAt 105 (.pointer (some ⟨B,0,none⟩)) (.int .i64 (k:Int))).run prog W=.ok (.pointer (some ⟨B,k,none⟩)) W:=by
 have hT:=underlying105;have he:prog.elem 105=9:=Jv;have hl:prog.arrayLen 105=10:=Jz;rw[run_indexAt_array W 105 _ _ _ (by rw[he,hl];exact hT),hl,he,if_pos Ka];simp[sizeOf9,Addr.add];try exact fun h=>h.symm
theorem Jut(g n c k:Nat)(hk:k<n)(W:World):(Instr.indexAt 84 (.slice (some ⟨g,0,none⟩) n c) (.int .i64 (k:Int))).run prog W=.ok (.pointer (some ⟨g,k,none⟩)) W:=by
 have hn:(k:Int)<(n:Int):=Ka;have h0:(0:Int)<=(k:Int):=Ka;go_simp
 try simp[hk,hn,h0,Addr.add]
theorem fl_i1(l:List Int):fl i1 l=l.map fun x=>.int .i64 x:=by
 induction l with
 | nil=>rfl
 | cons a l ih=>show .int .i64 a::fl i1 l=_;rw[ih];rfl
theorem Ln.at{w0 W:World}{F:Nat}{vs:List Value}{ts:List Tng}{r:Rd}{lw:Bs}{B m N:Nat}{V:List UInt8->Value}{lx:List Int}(L:Ln w0 vs ts r lw B m V lx N)(G:Gst w0 F 80 vs ts W)(k:Nat)(hk:k<12)(j:Nat)(y:Int)(hy:(lnK r lx k)[j]?=some y):
  ∃gb n c,j<n/\V (kinds.getD k [])=.slice (some ⟨gb,0,none⟩) n c/\W.cell? ⟨gb,j,none⟩=some (.int .i64 y):=by
 have hj:=(Pm hy).1;obtain⟨A,c,hv,-,-,hx⟩:=Jb8 (G.row (L.rows k hk));obtain⟨g,rfl,-,-,hc⟩:=hx (by show 0<(lnK r lx k).length;omega);refine⟨g,_,c,hj,hv,?_⟩;have:=hc j (.int .i64 y) (by show(fl i1 (lnK r lx k))[j]?=_;rw[fl_i1,List.getElem?_map,hy];rfl);rwa [Nat.zero_add] at this
theorem Qcd{w0 W:World}{F N:Nat}{r:Rd}(P:Pa w0 F r N W)(hg:Jqf W)(p:Nat)(hp:p<10)(i y:Int)(h:(i<0/\r.fa=y/\y≠0)\/∃j:Nat,i=(j:Int)/\(r.ln.getD p [])[j]?=some y):
  Pc 24 #[.pointer (some ⟨F,0,none⟩),.int .i64 (p:Int),.int .i64 i] W (.int .i64 y):=by
 obtain⟨vs,ts,U,lw,B,m,V,lx,G,e1,PT,L,hcl⟩:=P;obtain⟨k0,k1⟩:=G.cell L.c15;rcases h with⟨hi,hf,hy⟩ | ⟨j,rfl,hy⟩
 ·obtain⟨gb,n,c,hn,hv,hc⟩:=L.at G 11 Ka 0 y (by show(if r.fa=0 then[] else[r.fa])[0]?=some y;rw[if_neg Ka,hf];rfl)
  have LK:=(G.blk L.t10).1.look (str wFa) wFa rfl Kd;rw[show V wFa=_ from hv] at LK;have LK:(Instr.lookup 76 (.map (some B)) (.string ⟨#[102,97,114,101,115]⟩) false).run prog W=.ok (.slice (some ⟨gb,0,none⟩) n c) W:=LK;have hx:=Jut gb n c 0 hn W;have hd:decide (i<0)=true:=Pk hi;clear G PT L e1 hv hy hf hcl;go_enter func24,ntmps24;go_wp2_with fail;go_ret;exact Js
 ·obtain⟨wd,hwd⟩:=Pi (World.drew W)
  have Bd:Po W wd:=by rw[<-hwd];exact(Below.refl _ _).drew
  have G:=G.on Bd;have k0:=(G.cell L.c15).1;obtain⟨gb,n,c,hj,hv,hc⟩:=L.at G p Ka j y (by unfold lnK;rw[if_pos hp];exact hy);have hk:(kinds.getD p []).length<=4611686018427387904:=by
   match p,hp with
   | 0,_ | 1,_ | 2,_ | 3,_ | 4,_ | 5,_ | 6,_ | 7,_ | 8,_ | 9,_=>decide
  have LK:=(G.blk L.t10).1.look (str (kinds.getD p [])) (kinds.getD p []) rfl hk;rw[hv] at LK;have KC:=(hg.below Bd).cell p hp;have HB:=Pe Bd;generalize str (kinds.getD p [])=s at LK KC;have hd:decide ((j:Int)<0)=false:=Pj Ka;clear G PT L e1 hv hy hcl k1 Bd hg;go_enter func24,ntmps24;go_wp2_with fail;refine Jbf (S:=fun X=>X.cell? ⟨F,15,none⟩=some (.map (some B))/\(Instr.lookup 76 (.map (some B)) (.string s) false).run prog X=.ok (.slice (some ⟨gb,0,none⟩) n c) X/\X.cell? ⟨0,p,none⟩=some (.string s)/\X.cell? ⟨gb,j,none⟩=some (.int .i64 y)) _ 12 rfl Kl Kl Kl (Jbl 12 0) Kl (by rw[hwd];exact⟨k0,LK,KC,hc⟩) (fun _=>?_);rw[hwd];refine Jbb (L:=[(0,16,pt F 0),(1,17,pt F 0),(2,18,pt F 15),(3,19,.map (some B)),(4,20,.int .i64 (p:Int)),(5,21,pt 0 p),(6,22,.string s),(7,23,.slice (some ⟨gb,0,none⟩) n c),(8,24,.int .i64 (j:Int)),(9,25,pt gb j),(10,26,.int .i64 y),(11,6,.int .i64 y)]) (.q (.q (.q (.cons rfl rfl (.inl ⟨rfl,fun X h=>Wav⟩) (.q (.cons rfl rfl (.inl ⟨rfl,fun X h=>by obtain⟨h0,h1,h2,h3⟩:=h;dsimp only[pt];have:=Qcc 0 p hp X;go_simp;try with_reducible rfl⟩) (.cons rfl rfl (.inl ⟨rfl,fun X h=>Wav⟩) (.cons rfl rfl (.inl ⟨rfl,fun X h=>Wav⟩) (.q (.cons rfl rfl (.inl ⟨rfl,fun X h=>by obtain⟨h0,h1,h2,h3⟩:=h;dsimp only[pt];have:=Jut gb n c j hj X;go_simp;try with_reducible rfl⟩) (.cons rfl rfl (.inl ⟨rfl,fun X h=>Wav⟩) (.q .nil)))))))))))) [0,1,2,3,4,5,6,7,8,9,10,11] rfl rfl Kl (fun _ _ _ _ _ h=>h) ⟨k0,LK,KC,hc⟩ ?_;refine Jcl Kl ?_;go_wp2_with fail;go_ret;exact⟨Kl,HB.out⟩
end
end Go.Proofs.YtpifdbphmnifdaaGreatDoor
