/-
  Facts of the proof. Condition: each theorem's own.
-/
import Derived.Test.YtpifdbphmnifdaaGreatDoorYI15
set_option maxRecDepth 100000
set_option maxHeartbeats 8000000
open Go.Proofs.Tryz
namespace Go.Proofs.YtpifdbphmnifdaaGreatDoor
section
open Go.RowKit
section
variable {w0 W X:World} {F:Nat} {vs:List Value} {ts:List Tng} {t:Tng}
theorem Tbl.slice {i:Nat} {T:TypeId} {k n:Nat} {v:Value} {xs:List Value} (h:Tbl w0 vs ts i T k v n xs) (R:Gst w0 F 80 vs ts W):∃A c,v=.slice A n c:=by
 have hr:=R.row h.row;rcases hr.2 with ⟨h0,h1⟩ | ⟨g,c,cur,h0,-⟩
 ·exact⟨none,0,by rw [show v=_ from h0,show n=0 from h1]⟩
 ·exact⟨_,c,h0⟩
theorem Ix.lt {j B:Nat} {ids:List Bs} (h:Ix vs ts j B ids):11+j<ts.length:=(List.getElem?_eq_some_iff.1 h.map).1
theorem Ix.app_at {j B:Nat} {ids:List Bs} (h:Ix vs ts j B ids):(ts++[t])[11+j]?=some (tIdx B ids):=Ja2 h.map
theorem Ix.app {j B:Nat} {ids:List Bs} {us:List Value} (h:Ix vs ts j B ids) (R:Gst w0 F 80 us (ts++[t]) X):MapF X B ids:=(R.blk (h.app_at (t:=t))).1
theorem Ix.base {j B:Nat} {ids:List Bs} {us:List Value} (h:Ix vs ts j B ids) (R:Gst w0 F 80 us (ts++[t]) X):w0.heap.size≤B:=(R.blk (h.app_at (t:=t))).2.1
end
theorem Rdr.ret {F:Nat} {vs:List Value} {g:List Bs} {W0 X:World} {f:FuncId} {x:Array Value} {k k':Nat} {e e':Int} {u:Value} (h:Rdr F vs g W0 f x k e u k' e') (hX:Nx F vs g W0 k e X):Calls prog f x X fun r w'=>∃q,r=.returned q∧(q=u∧Nx F vs g W0 k' e' w') :=
 (h X hX).mono fun _ _ hh=>⟨u,hh.1,rfl,hh.2.1⟩
abbrev pt (F o:Nat):Value:=.pointer (some ⟨F,o,none⟩)
theorem Runs.rd {ops:Array Oper} {S:World→Prop} {dj:Nat} {F:Nat} {vs:List Value} {g:List Bs} {W0:World} {o:Obj} {k k':Nat} {e e':Int} {a a':Act} {i:Nat} {r:List Nat} {oi:Oper} {G':World→Prop} (d:Nat) {f:FuncId} {x:Array Value} (u:Value) (hi:ops[i]?=some oi) (hd:oi.dst=some d) (hne:dj≠d) (w:∀b:Act,Region.wanted oi (yielded ops b.tmps)=true)
  (r0:∀W,(execOp a.eval oi).run prog W=.ok (.enter f x) W) (r1:∀q W,(execOp (a.put (some dj) q).eval oi).run prog W=.ok (.enter f x) W) (R:Rdr F vs g W0 f x k e u k' e') (s:∀W,Nx F vs g W0 k e W→S W)
  (h:Runs prog ops S dj (fun X=>.pointer (some ⟨X.heap.size,0,none⟩)) (fun X=>X.alloc o) (Lq W0 o) (Nx F vs g W0 k' e') (a.put (some d) u) r a' G'):Runs prog ops S dj (fun X=>.pointer (some ⟨X.heap.size,0,none⟩)) (fun X=>X.alloc o) (Lq W0 o) (Nx F vs g W0 k e) a (i::r) a' G' :=
 .cons d u hi hd hne w r0 r1 (R.run o) (Nx.new o) s h
structure WkN (F:Nat) (vs:List Value) (g:List Bs) (W0:World) (k:Nat) (W:World) (t:Bs) (x:Int) (cs:Array Value) (wr:World):Prop where
 nx:Nx F vs g W0 k x wr
 res:wr.heap[W.heap.size]?=some (.cells (wkC t 0) 59 (0,0))
 arr:wr.heap[W.heap.size+1]?=some (.cells cs 59 (0,0))
 st:Jfn F W wr
section
variable {F k:Nat} {vs:List Value} {g:List Bs} {W0 W wr w':World} {t:Bs} {x y e:Int} {cs:Array Value}
theorem WkN.up (h:WkN F vs g W0 k W t x cs wr) (hF:F<W.heap.size) (n:Nx F vs g W0 k y w') (s:Jfn F wr w'):WkN F vs g W0 k W t y cs w' :=
 ⟨n,s _ _ (by omega) h.res,s _ _ (by omega) h.arr,h.st.trans s⟩
theorem WkN.put (h:WkN F vs g W0 k W t x cs wr) (hF:F<W.heap.size) (h0:W0.heap.size≤W.heap.size) (j:Nat) (u:Value):WkN F vs g W0 k W t x (cs.setIfInBounds j u) (wr.setCell ⟨W.heap.size+1,j,none⟩ u):=by
 have gr:=Jbi wr (W.heap.size+1) j u;have oth:∀i,i≠W.heap.size+1→(wr.setCell ⟨W.heap.size+1,j,none⟩ u).heap[i]?=wr.heap[i]?:=fun i hi=>RowKit.Below.heap_setCell _ _ _ i hi
 refine⟨h.nx.off gr (by omega) (by omega),(oth _ (by omega)).trans h.res,?_,fun b o hb ho=>(oth b ?_).trans (h.st b o hb ho)⟩
 ·rw [heap_setCell_same _ _ _ _ _ _ h.arr]
 ·have:=(Array.getElem?_eq_some_iff.1 ho).1
  omega
theorem WkN.done (h:WkN F vs g W0 k W t x cs wr) (hF:F<W.heap.size) (h0:W0.heap.size≤W.heap.size) (ds:Array Value):Nx F vs g W0 k x (wr.setRow W.heap.size ds)∧Jfn F W (wr.setRow W.heap.size ds) :=
 ⟨h.nx.off (Jcp wr W.heap.size ds) h0 (by omega),fun b o hb ho=>(setRow_other wr _ b ds (by have:=(Array.getElem?_eq_some_iff.1 ho).1;omega)).trans (h.st b o hb ho)⟩
theorem WkN.start (h:Nx F vs g W0 k e W):WkN F vs g W0 k W t e (wkC t 0) ((W.alloc (.cells (wkC t 0) 59 (0,0))).alloc (.cells (wkC t 0) 59 (0,0))) :=
 have b:Below W.heap.size W ((W.alloc (.cells (wkC t 0) 59 (0,0))).alloc (.cells (wkC t 0) 59 (0,0))):=((Below.refl _ _).alloc (Nat.le_refl _) _).alloc (by simp) _
 ⟨h.on b,heap_alloc2_old W _ _,heap_alloc2_new W _ _,(h.blw b).2⟩
theorem J1r (k:Nat) (e:Int):Rdr F vs g W0 179 #[.pointer (some ⟨F,0,none⟩)] k e (.agg #[.bool ((wk (g.getD k [])).1 0),.bool ((wk (g.getD k [])).1 1),.bool ((wk (g.getD k [])).1 2),.bool ((wk (g.getD k [])).1 3),.bool ((wk (g.getD k [])).1 4),.bool ((wk (g.getD k [])).1 5),.bool ((wk (g.getD k [])).1 6)]) (k+1) (fe1 e (wk (g.getD k [])).2):=by
 intro W h;have hF:=h.lt;have h0:W0.heap.size≤W.heap.size:=h.1.size;obtain⟨t,ht⟩:∃t,g.getD k []=t:=⟨_,rfl⟩;have S0:=WkN.start (t:=t) h;obtain⟨W2,hW2⟩:∃X,(W.alloc (.cells (wkC t 0) 59 (0,0))).alloc (.cells (wkC t 0) 59 (0,0))=X:=⟨_,rfl⟩;rw [hW2] at S0;rw [J1p] at hW2;have C1:=Lib.hid (Jbj (F:=F) (vs:=vs) (g:=g) (W0:=W0) k e W2 S0.nx);rw [ht] at C1 ⊢;obtain⟨s,hs⟩:∃s,str t=s:=⟨_,rfl⟩;rw [hs] at C1;have UP:=Lib.hid (fun (w':World) (n:Nx F vs g W0 (k+1) e w') (q:Jfn F W2 w')=>(⟨n,q _ _ (by omega) S0.res,q _ _ (by omega) S0.arr,S0.st.trans q⟩:WkN F vs g W0 (k+1) W t e (wkC t 0) w'));have hz:s.size=t.length:=by rw [←hs];show (List.toArray t).size=_;simp
 have hd:s.data.toList=t:=by rw [←hs]
 have C3:=Lib.hid (fun b y W'=>Jc4 (F:=F) (vs:=vs) (g:=g) (W0:=W0) b 3 (k+1) y W');clear S0 h ht;by_cases h7:t.length=7
 ·have R:Hid ((.agg (wkC t 7):Value)=.agg #[.bool ((wk t).1 0),.bool ((wk t).1 1),.bool ((wk t).1 2),.bool ((wk t).1 3),.bool ((wk t).1 4),.bool ((wk t).1 5),.bool ((wk t).1 6)]):=Lib.hid (by unfold wk;rw [if_neg (fun q=>q h7)];simp [wkC,wkB])
  have E:Hid (wkE e t 7=fe1 e (wk t).2):=Lib.hid (by unfold wk;rw [if_neg (fun q=>q h7)];unfold wkE;rw [List.take_of_length_le (by omega)];rfl);have g7:((s.size:Int) != 7)=false:=by rw [hz,h7];rfl
  have G8:=Lib.hid (show ((t.length:Int) != 7)=false by rw [h7];rfl);have HD:=Lib.hid hd;have HL:Hid (t.length=7):=Lib.hid h7;clear hs hd h7;go_enter func179,ntmps179
  go_wp2_with fail
  refine C1.out.mono ?_;rintro r w1 ⟨rfl,n1,s1⟩;have S1:=Lib.hid (UP.out w1 n1 s1);clear n1 s1 C1 UP;go_wp2_with fail
  try rw [G8.out]
  clear G8;go_loopw [14] (fun i wr=>∃j:Nat,i=.int .i64 j∧j≤7∧Hid (WkN F vs g W0 (k+1) W t (wkE e t j) (wkC t j) wr)) (fun i _=>7 - (intOf i).toNat)
  case atStart=>exact⟨0,rfl,Nat.zero_le _,Lib.hid (by have:=S1.out;rwa [show wkE e t 0=e from Jcf e])⟩
  case round =>
   obtain⟨j,rfl,hk,HK⟩:=hrel;by_cases hlt:j<7
   ·obtain⟨c,hc⟩:∃c,t[j]?=some c:=⟨t[j]'(by rw [HL.out];exact hlt),List.getElem?_eq_getElem _⟩
    have gk:(j:Int)<7:=by omega
    have ks:=fun X=>Jbo s j c (by rw [HD.out];exact hc) j rfl X
    have ix:=fun X=>wk_ix (W.heap.size+1) j hlt X
    have CA:Hid ((wkC t j)[j]?=some (.bool false)):=Lib.hid (Qan t j hlt);have fin:∀(b:Bool),(okW c=b)→Hid ((if b=true then wkE e t j else fe1 (wkE e t j) 3)=wkE e t (j+1)):=fun b hb=>Lib.hid (by
     cases b with
     | true=>exact (Qao hc hb).symm
     | false=>exact (Qap hc hb).symm)
    have CN:∀(b:Bool),decide (c=49)=b→Hid ((wkC t j).setIfInBounds j (.bool b)=wkC t (j+1)):=fun b hb=>Lib.hid (by rw [←J7r t j hlt,hc,←hb];simp)
    by_cases h49:c=49
    ·have b3:((c.toNat:Int)==49)=true:=by rw [h49];rfl
     have EN:=fin true (by rw [h49];rfl);have CN:=CN true (decide_eq_true h49);have D:=Lib.hid (C3.out true (wkE e t j) wr HK.out.nx);clear hc h49 hlt fin;go_wp2_with fail
     refine D.out.mono ?_;rintro r w3 ⟨rfl,n3,s3⟩;rw [EN.out] at n3;have q3:=HK.out.up hF n3 s3;have m0:w3.cell? ⟨W.heap.size+1,j,none⟩=some (.bool false):=by rw [cell_of_row _ _ j _ _ _ q3.arr];exact CA.out
     have f0:=frozen_of_row w3 (W.heap.size+1) j _ _ q3.arr;have K2:Hid (WkN F vs g W0 (k+1) W t (wkE e t (j+1)) (wkC t (j+1)) (w3.setCell ⟨W.heap.size+1,j,none⟩ (.bool true))):=Lib.hid (by
      have q:=q3.put hF h0 j (.bool true);rw [CN.out] at q;exact q)
     clear HK D n3 s3 q3 EN CN CA;go_wp2_with fail
     go_roundw
     case rel=>exact⟨j+1,by go_num,by omega,K2⟩
     case measure=>simp [intOf];omega
    ·have b3:((c.toNat:Int)==49)=false:=Jac (fun q=>h49 (UInt8.toNat_inj.1 (by have:(49:UInt8).toNat=49:=rfl;omega)))
     obtain⟨p,hp⟩:∃p,decide (c=48)=p:=⟨_,rfl⟩;have b4:((c.toNat:Int)==48)=p:=by
      rw [←hp];by_cases q:c=48
      ·rw [decide_eq_true q,q];rfl
      ·rw [decide_eq_false q];exact Jac (fun r=>q (UInt8.toNat_inj.1 (by have:(48:UInt8).toNat=48:=rfl;omega)))
     have EN:=fin p (by rw [←hp];unfold okW;by_cases q:c=48 <;> simp [q,h49]);have CN:=CN false (decide_eq_false h49);have D:=Lib.hid (C3.out p (wkE e t j) wr HK.out.nx);clear hc h49 hlt fin hp;go_wp2_with fail
     refine D.out.mono ?_;rintro r w3 ⟨rfl,n3,s3⟩;rw [EN.out] at n3;have q3:=HK.out.up hF n3 s3;have m0:w3.cell? ⟨W.heap.size+1,j,none⟩=some (.bool false):=by rw [cell_of_row _ _ j _ _ _ q3.arr];exact CA.out
     have f0:=frozen_of_row w3 (W.heap.size+1) j _ _ q3.arr;have K2:Hid (WkN F vs g W0 (k+1) W t (wkE e t (j+1)) (wkC t (j+1)) (w3.setCell ⟨W.heap.size+1,j,none⟩ (.bool false))):=Lib.hid (by
      have q:=q3.put hF h0 j (.bool false);rw [CN.out] at q;exact q)
     clear HK D n3 s3 q3 EN CN CA;go_wp2_with fail
     go_roundw
     case rel=>exact⟨j+1,by go_num,by omega,K2⟩
     case measure=>simp [intOf];omega
   ·obtain rfl:j=7:=by omega
    have d:decide (((7:Nat):Int)<7)=false:=rfl;have r0:=HK.out.res;have r1:=HK.out.arr;have D:=Lib.hid (HK.out.done hF h0 (wkC t 7));clear hlt hk HK HD HL S1;go_wp2_with (first
     | (refine wpList_load_row rfl 59 (.tmp 3) rfl (W.heap.size+1) rfl 59 (wkC t 7) (0,0) _ r1 underlying59 rfl (Jdt _ _) ?_)
     | (refine wpList_store_row rfl 59 (.tmp 2) (.tmp 36) rfl W.heap.size (wkC t 7) rfl rfl 59 (wkC t 0) r0 (Jdt _ _) rfl (Jw7 _ _) ?_))
    refine bodyPost_ret (results_cell_row rfl _ _ W.heap.size 59 (wkC t 7) (0,0) _ rfl (setRow_heap wr W.heap.size (wkC t 0) (wkC t 7) _ _ r0) underlying59 rfl (Jdt _ _)) rfl ?_;exact⟨by rw [R.out],by rw [←E.out];exact D.out.1,D.out.2⟩
 ·have R:Hid ((.agg (wkC t 0):Value)=.agg #[.bool ((wk t).1 0),.bool ((wk t).1 1),.bool ((wk t).1 2),.bool ((wk t).1 3),.bool ((wk t).1 4),.bool ((wk t).1 5),.bool ((wk t).1 6)]):=Lib.hid (by unfold wk;rw [if_pos h7];simp [wkC,wkB])
  have E:Hid (fe1 e 3=fe1 e (wk t).2):=Lib.hid (by unfold wk;rw [if_pos h7]);have g7:((s.size:Int) != 7)=true:=by rw [hz];exact Jae (by omega)
  clear hs hd h7 hz;go_enter func179,ntmps179
  go_wp2_with fail
  refine C1.out.mono ?_;rintro r w1 ⟨rfl,n1,s1⟩;have S1:=Lib.hid (UP.out w1 n1 s1);have D:=Lib.hid (C3.out false e w1 n1);clear n1 s1 C1 UP;go_wp2_with fail
  refine D.out.mono ?_;rintro r w3 ⟨rfl,n3,s3⟩;have q3:=S1.out.up hF n3 s3;have r0:=q3.res;have r1:=q3.arr;have D:=Lib.hid (q3.done hF h0 (wkC t 0));clear n3 s3 q3 S1;go_wp2_with (first
   | (refine wpList_load_row rfl 59 (.tmp 3) rfl (W.heap.size+1) rfl 59 (wkC t 0) (0,0) _ r1 underlying59 rfl (Jdt _ _) ?_)
   | (refine wpList_store_row rfl 59 (.tmp 2) (.tmp 13) rfl W.heap.size (wkC t 0) rfl rfl 59 (wkC t 0) r0 (Jdt _ _) rfl (Jw7 _ _) ?_))
  refine bodyPost_ret (results_cell_row rfl _ _ W.heap.size 59 (wkC t 0) (0,0) _ rfl (setRow_heap w3 W.heap.size (wkC t 0) (wkC t 0) _ _ r0) underlying59 rfl (Jdt _ _)) rfl ?_;exact⟨by rw [R.out],by rw [←E.out];exact D.out.1,D.out.2⟩
end
end
end Go.Proofs.YtpifdbphmnifdaaGreatDoor
