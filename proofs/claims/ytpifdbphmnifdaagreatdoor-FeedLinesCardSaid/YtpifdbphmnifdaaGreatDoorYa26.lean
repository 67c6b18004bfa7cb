/-
  Facts about the program that the statement's proof uses. Condition: none beyond each theorem's own hypotheses.
-/
import Derived.Test.YtpifdbphmnifdaaGreatDoorYa25
set_option maxRecDepth 100000
set_option maxHeartbeats 8000000
namespace Go.Proofs.YtpifdbphmnifdaaGreatDoor
open Go.RowKit
theorem wservice_any {F_:Fm} {w W:World} {F:Nat} {R0:List (List Bs)} {A0 A1 A2 A3 A4 A5 A6 A7 A8 A9:Option Addr} {n0 n1 n2 n3 n4 n5 n6 n7 n8 n9:Nat} {T:Tt} (FW:Fw F_ w)
  (HL:S13.LstS w (.slice A0 T.st.length n0) T.st∧S15.LstR w (.slice A1 T.ro.length n1) T.ro∧S14.LstC w (.slice A2 T.ca.length n2) T.ca∧S14.LstX w (.slice A3 T.ex.length n3) T.ex∧LstTp w (.slice A4 T.tr.length n4) T.tr∧LstF w (.slice A5 T.fr.length n5) T.fr∧S19.LstH w (.slice A6 T.th.length n6) T.th∧S19.LstU w (.slice A7 T.gu.length n7) T.gu∧S20.LstF w (.slice A8 T.pa.length n8) T.pa∧S21.LstPd w (.slice A9 T.pr.length n9) T.pr) (V:Val T) (L:Lim T) (SH:Sht F_) (hR:R0.length≤900000) (hW:Wrs w F R0 W) :
  Calls Tryz.prog 54 #[.pointer (some ⟨F,0,none⟩),.agg #[.slice A0 T.st.length n0,.slice A1 T.ro.length n1,.slice A2 T.ca.length n2,.slice A3 T.ex.length n3,.slice A4 T.tr.length n4,.slice A5 T.fr.length n5,.slice A6 T.th.length n6,.slice A7 T.gu.length n7,.slice A8 T.pa.length n8,.slice A9 T.pr.length n9,.int .i64 T.di,.int .i64 T.wi,.int .i64 T.cp]] W fun e w'=>e = .returned (.tuple #[])∧Wrs w F ((((R0 ++ T.st.map (rSt F_)) ++ T.ro.map (rRo)) ++ T.ca.map (rCa F_)) ++ T.ex.map (rEx F_ T)) w':=by
 suffices hs:∀ Z:World→Prop,(∀ w',Wrs w F ((((R0 ++ T.st.map (rSt F_)) ++ T.ro.map (rRo)) ++ T.ca.map (rCa F_)) ++ T.ex.map (rEx F_ T)) w'→Z w')→Calls Tryz.prog 54 #[.pointer (some ⟨F,0,none⟩),.agg #[.slice A0 T.st.length n0,.slice A1 T.ro.length n1,.slice A2 T.ca.length n2,.slice A3 T.ex.length n3,.slice A4 T.tr.length n4,.slice A5 T.fr.length n5,.slice A6 T.th.length n6,.slice A7 T.gu.length n7,.slice A8 T.pa.length n8,.slice A9 T.pr.length n9,.int .i64 T.di,.int .i64 T.wi,.int .i64 T.cp]] W fun e w'=>e = .returned (.tuple #[])∧Z w' from hs _ (fun _ h=>h)
 intro Z hZ
 have HZ:=Lib.hid hZ
 clear hZ
 have FW:=Lib.hid FW
 have HH:=Lib.hid HL
 clear HL
 obtain ⟨w3,h3⟩:∃ X,W.alloc (.cells #[.slice A0 T.st.length n0,.slice A1 T.ro.length n1,.slice A2 T.ca.length n2,.slice A3 T.ex.length n3,.slice A4 T.tr.length n4,.slice A5 T.fr.length n5,.slice A6 T.th.length n6,.slice A7 T.gu.length n7,.slice A8 T.pa.length n8,.slice A9 T.pr.length n9,.int .i64 T.di,.int .i64 T.wi,.int .i64 T.cp] 36 (0,0)) = X:=⟨_,rfl⟩
 have b3:Below W.heap.size W w3:=by rw [← h3]; exact (Below.refl _ _).alloc (Nat.le_refl _) _
 have k3:w3.heap[W.heap.size]? = some (.cells #[.slice A0 T.st.length n0,.slice A1 T.ro.length n1,.slice A2 T.ca.length n2,.slice A3 T.ex.length n3,.slice A4 T.tr.length n4,.slice A5 T.fr.length n5,.slice A6 T.th.length n6,.slice A7 T.gu.length n7,.slice A8 T.pa.length n8,.slice A9 T.pr.length n9,.int .i64 T.di,.int .i64 T.wi,.int .i64 T.cp] 36 (0,0)):=by rw [← h3]; exact heap_alloc_new W _
 have X0:Hid (Wrx w F R0 [(W.heap.size,.cells #[.slice A0 T.st.length n0,.slice A1 T.ro.length n1,.slice A2 T.ca.length n2,.slice A3 T.ex.length n3,.slice A4 T.tr.length n4,.slice A5 T.fr.length n5,.slice A6 T.th.length n6,.slice A7 T.gu.length n7,.slice A8 T.pa.length n8,.slice A9 T.pr.length n9,.int .i64 T.di,.int .i64 T.wi,.int .i64 T.cp] 36 (0,0))] w3):=Lib.hid (hW.x.more b3 (Nat.le_refl _) k3)
 have q0:w3.cell? ⟨W.heap.size,0,none⟩ = some (.slice A0 T.st.length n0):=by rw [cell_of_row _ _ _ _ _ _ k3]; rfl
 clear b3 k3 hW
 go_enter Tryz.func54,Tryz.ntmps54
 go_wp2_with fail
 clear q0 h3
 go_loopw [17] (fun i wr=>∃ k:Nat,i = .int .i64 k∧k≤T.st.length∧Hid (Wrx w F (R0 ++ (T.st.take k).map (rSt F_)) [(W.heap.size,.cells #[.slice A0 T.st.length n0,.slice A1 T.ro.length n1,.slice A2 T.ca.length n2,.slice A3 T.ex.length n3,.slice A4 T.tr.length n4,.slice A5 T.fr.length n5,.slice A6 T.th.length n6,.slice A7 T.gu.length n7,.slice A8 T.pa.length n8,.slice A9 T.pr.length n9,.int .i64 T.di,.int .i64 T.wi,.int .i64 T.cp] 36 (0,0))] wr)) (fun i _=>T.st.length - (intOf i).toNat)
 case atStart=>exact ⟨0,rfl,Nat.zero_le _,Lib.hid (by rw [List.take_zero,List.map_nil,List.append_nil]; exact X0.out)⟩
 case round =>
  obtain ⟨k,rfl,hk,HX⟩:=hrel
  by_cases hlt:k < T.st.length
  ·have gk:(k:Int) < (T.st.length:Int):=by omega
   have lb:=L.st
   have RLB:(R0 ++ (T.st.take k).map (rSt F_)).length≤1000000:=by
    have l0:=L.st
    have l1:=L.ro
    have l2:=L.ca
    have l3:=L.ex
    have l5:=L.fr
    have l6:=L.th
    have l7:=L.gu
    have l8:=L.pa
    have l9:=L.pr
    have lk:=List.length_take_le k T.st
    simp only [List.length_append,List.length_map]
    omega
   obtain ⟨⟨id,z,f,ch⟩,hx⟩:=at_lt hlt
   have hm:=List.mem_of_getElem? hx
   obtain ⟨⟨v0,v1⟩,v2,v3⟩:=V.st _ hm
   dsimp only at v0 v1 v2 v3
   have SR:=Lib.hid (shr_st V L SH hm)
   clear hm
   obtain ⟨nm,hnm⟩:∃ s,str id = s:=⟨_,rfl⟩
   obtain ⟨b,o,rfl,hb,r0,r1,r2,r3⟩:=S13.four_at ((HH.out.1).below HX.out.base) hx hnm
   obtain ⟨w7,h7⟩:∃ X,wr.alloc (.cells #[.string nm,.int .i64 z,.bool f,.int .i64 ch] 112 (0,0)) = X:=⟨_,rfl⟩
   have b7:Below wr.heap.size wr w7:=by rw [← h7]; exact (Below.refl _ _).alloc (Nat.le_refl _) _
   have k7:w7.heap[wr.heap.size]? = some (.cells #[.string nm,.int .i64 z,.bool f,.int .i64 ch] 112 (0,0)):=by rw [← h7]; exact heap_alloc_new wr _
   have l7:wr.heap.size < w7.heap.size:=(Array.getElem?_eq_some_iff.1 k7).1
   have Xw7:Hid (Wrx w F _ ([(W.heap.size,.cells #[.slice (some ⟨b,o,none⟩) T.st.length n0,.slice A1 T.ro.length n1,.slice A2 T.ca.length n2,.slice A3 T.ex.length n3,.slice A4 T.tr.length n4,.slice A5 T.fr.length n5,.slice A6 T.th.length n6,.slice A7 T.gu.length n7,.slice A8 T.pa.length n8,.slice A9 T.pr.length n9,.int .i64 T.di,.int .i64 T.wi,.int .i64 T.cp] 36 (0,0))] ++ [(wr.heap.size,.cells #[.string nm,.int .i64 z,.bool f,.int .i64 ch] 112 (0,0))]) w7):=Lib.hid (HX.out.more b7 (Nat.le_refl _) k7)
   obtain ⟨w7d,hw7d⟩:∃ X,World.drew w7 = X:=⟨_,rfl⟩
   have dw7d:Below w7.heap.size w7 w7d:=by rw [← hw7d]; exact (Below.refl _ _).drew
   have Xw7d:=Lib.hid (Xw7.out.on dw7d)
   have SF:Hid (∀ (R:List (List Bs)) (X:World),Wrx w F R ([(W.heap.size,.cells #[.slice (some ⟨b,o,none⟩) T.st.length n0,.slice A1 T.ro.length n1,.slice A2 T.ca.length n2,.slice A3 T.ex.length n3,.slice A4 T.tr.length n4,.slice A5 T.fr.length n5,.slice A6 T.th.length n6,.slice A7 T.gu.length n7,.slice A8 T.pa.length n8,.slice A9 T.pr.length n9,.int .i64 T.di,.int .i64 T.wi,.int .i64 T.cp] 36 (0,0))] ++ [(wr.heap.size,.cells #[.string nm,.int .i64 z,.bool f,.int .i64 ch] 112 (0,0))]) X→X.cell? ⟨wr.heap.size,0,none⟩ = some (.string nm)∧X.cell? ⟨wr.heap.size,1,none⟩ = some (.int .i64 z)∧X.cell? ⟨wr.heap.size,2,none⟩ = some (.bool f)∧X.cell? ⟨wr.heap.size,3,none⟩ = some (.int .i64 ch)):=Lib.hid (fun R X hX=>⟨by rw [cell_of_row _ _ _ _ _ _ (hX.row (i:=1) rfl)]; rfl,by rw [cell_of_row _ _ _ _ _ _ (hX.row (i:=1) rfl)]; rfl,by rw [cell_of_row _ _ _ _ _ _ (hX.row (i:=1) rfl)]; rfl,by rw [cell_of_row _ _ _ _ _ _ (hX.row (i:=1) rfl)]; rfl⟩)
   clear dw7d
   clear k7 b7
   go_wp2_with fail
   refine startT (S:=fun X=>X.cell? ⟨wr.heap.size,0,none⟩ = some (.string nm)∧X.cell? ⟨wr.heap.size,1,none⟩ = some (.int .i64 z)∧X.cell? ⟨wr.heap.size,2,none⟩ = some (.bool f)∧X.cell? ⟨wr.heap.size,3,none⟩ = some (.int .i64 ch)) _ 14 rfl (by kernel_rfl) (by kernel_rfl) (by kernel_rfl) (bitsL 14 0) (by kernel_rfl) (by (first | rw [hw7d] | rw [h3,hw7d]); exact SF.out _ _ Xw7d.out) (fun _=>?_)
   first | rw [hw7d] | rw [h3,hw7d]
   refine takesT (L:=[(0,21,pt F 0),(1,22,pt wr.heap.size 0),(2,23,.string nm),(3,24,pt wr.heap.size 1),(4,25,.int .i64 z),(6,27,pt wr.heap.size 2),(7,28,.bool f),(9,30,pt wr.heap.size 3),(10,31,.int .i64 ch)]) (.q (.q (.cons rfl rfl (.inl ⟨rfl,fun _ h=>by obtain ⟨y0,y1,y2,y3⟩:=h; dsimp only [pt]; go_simp; try with_reducible rfl⟩) (.q (.cons rfl rfl (.inl ⟨rfl,fun _ h=>by obtain ⟨y0,y1,y2,y3⟩:=h; dsimp only [pt]; go_simp; try with_reducible rfl⟩) (.q (.cons rfl rfl (.inl ⟨rfl,fun _ h=>by obtain ⟨y0,y1,y2,y3⟩:=h; dsimp only [pt]; go_simp; try with_reducible rfl⟩) (.q (.cons rfl rfl (.inl ⟨rfl,fun _ h=>by obtain ⟨y0,y1,y2,y3⟩:=h; dsimp only [pt]; go_simp; try with_reducible rfl⟩) .nil))))))))) [0,1,2,3,4,6,7,9,10] rfl rfl (by kernel_rfl) (fun _ _ _ _ _ h=>h) (SF.out _ _ Xw7d.out) ?_
   have bw7d:=Below.refl w7d.heap.size w7d
   refine callT (i:=5) (R:=fun u X=>u = .string (str (F_.numT z))∧Below w7d.heap.size w7d X) 26 _ rfl (by kernel_rfl) rfl rfl rfl (by kernel_rfl) ((FW.out.num z v0 v1 w7d (Xw7d.out.base.trans (bw7d.mono Xw7d.out.base.size))).mono fun e w' h=>⟨_,h.1,rfl,h.2⟩) ?_
   rintro u w7d_0 ⟨rfl,cw7d_0⟩
   have bw7d_0:=bw7d.trans (cw7d_0.mono bw7d.size)
   refine ⟨SF.out _ _ (Xw7d.out.on bw7d_0),?_⟩
   refine callT (i:=8) (R:=fun u X=>u = .string (str (flgT f))∧Below w7d_0.heap.size w7d_0 X) 29 _ rfl (by kernel_rfl) rfl rfl rfl (by kernel_rfl) ((wflag_any f w7d_0).mono fun e w' h=>⟨_,h.1,rfl,by rw [h.2]; exact Below.refl _ _⟩) ?_
   rintro u w7d_1 ⟨rfl,cw7d_1⟩
   have bw7d_1:=bw7d_0.trans (cw7d_1.mono bw7d_0.size)
   refine ⟨SF.out _ _ (Xw7d.out.on bw7d_1),?_⟩
   refine callT (i:=11) (R:=fun u X=>u = .string (str (F_.numT ch))∧Below w7d_1.heap.size w7d_1 X) 32 _ rfl (by kernel_rfl) rfl rfl rfl (by kernel_rfl) ((FW.out.num ch v2 v3 w7d_1 (Xw7d.out.base.trans (bw7d_1.mono Xw7d.out.base.size))).mono fun e w' h=>⟨_,h.1,rfl,h.2⟩) ?_
   rintro u w7d_2 ⟨rfl,cw7d_2⟩
   have bw7d_2:=bw7d_1.trans (cw7d_2.mono bw7d_1.size)
   refine ⟨SF.out _ _ (Xw7d.out.on bw7d_2),?_⟩
   obtain ⟨w7ds,hw7ds⟩:∃ X,w7d_2.alloc (.cells #[.string (str wSt),.string nm,.string (str (F_.numT z)),.string (str (flgT f)),.string (str (F_.numT ch))] 9 (0,0)) = X:=⟨_,rfl⟩
   have cw7ds:Below w7d_2.heap.size w7d_2 w7ds:=by rw [← hw7ds]; exact (Below.refl _ _).alloc (Nat.le_refl _) _
   have bw7ds:=bw7d_2.trans (cw7ds.mono bw7d_2.size)
   have LL:Lst w7ds (.slice (some ⟨w7d_2.heap.size,0,none⟩) 5 5) (rSt F_ (id,z,f,ch)):=by
    rw [← hw7ds]
    exact lst_lits w7d_2 #[.string (str wSt),.string nm,.string (str (F_.numT z)),.string (str (flgT f)),.string (str (F_.numT ch))] (rSt F_ (id,z,f,ch)) (by rw [← hnm]; rfl) 5 rfl
   refine makeT (i:=12) (v:=.slice (some ⟨w7d_2.heap.size,0,none⟩) 5 5) (w':=w7ds) 33 _ rfl (by kernel_rfl) rfl rfl rfl (by rw [← hw7ds]; kernel_rfl) (SF.out _ _ (Xw7d.out.on bw7ds)) rfl ?_
   refine callW (i:=13) 34 _ rfl (by kernel_rfl) rfl rfl (by kernel_rfl) (by kernel_rfl) (wrx_rec (Xw7d.out.on bw7ds) RLB _ _ LL (SR.out)) ?_
   intro wz hz
   refine ⟨SF.out _ _ hz,?_⟩
   refine doneT (by kernel_rfl) ?_
   have HZ2:=Lib.hid hz.less
   clear hz
   go_wp2_with fail
   go_roundw
   case rel=>exact ⟨k + 1,by go_num,by omega,Lib.hid (by rw [take_map _ hx]; exact HZ2.out)⟩
   case measure=>simp [intOf]; omega
  ·have d:decide (k < T.st.length) = false:=by rw [decide_eq_false_iff_not]; exact hlt
   have X1:Hid (Wrx w F (R0 ++ T.st.map (rSt F_)) [(W.heap.size,.cells #[.slice A0 T.st.length n0,.slice A1 T.ro.length n1,.slice A2 T.ca.length n2,.slice A3 T.ex.length n3,.slice A4 T.tr.length n4,.slice A5 T.fr.length n5,.slice A6 T.th.length n6,.slice A7 T.gu.length n7,.slice A8 T.pa.length n8,.slice A9 T.pr.length n9,.int .i64 T.di,.int .i64 T.wi,.int .i64 T.cp] 36 (0,0))] wr):=Lib.hid (by have h:=HX.out; rw [List.take_of_length_le (by omega)] at h; exact h)
   have q0:wr.cell? ⟨W.heap.size,1,none⟩ = some (.slice A1 T.ro.length n1):=by rw [cell_of_row _ _ _ _ _ _ (X1.out.row (i:=0) rfl)]; rfl
   clear HX hlt hk
   go_wp2_with fail
   clear q0 d
   go_loopw [39] (fun i wr=>∃ k:Nat,i = .int .i64 k∧k≤T.ro.length∧Hid (Wrx w F (R0 ++ T.st.map (rSt F_) ++ (T.ro.take k).map (rRo)) [(W.heap.size,.cells #[.slice A0 T.st.length n0,.slice A1 T.ro.length n1,.slice A2 T.ca.length n2,.slice A3 T.ex.length n3,.slice A4 T.tr.length n4,.slice A5 T.fr.length n5,.slice A6 T.th.length n6,.slice A7 T.gu.length n7,.slice A8 T.pa.length n8,.slice A9 T.pr.length n9,.int .i64 T.di,.int .i64 T.wi,.int .i64 T.cp] 36 (0,0))] wr)) (fun i _=>T.ro.length - (intOf i).toNat)
   case atStart=>exact ⟨0,rfl,Nat.zero_le _,Lib.hid (by rw [List.take_zero,List.map_nil,List.append_nil]; exact X1.out)⟩
   case round =>
    obtain ⟨k,rfl,hk,HX⟩:=hrel
    by_cases hlt:k < T.ro.length
    ·have gk:(k:Int) < (T.ro.length:Int):=by omega
     have lb:=L.ro
     have RLB:(R0 ++ T.st.map (rSt F_) ++ (T.ro.take k).map (rRo)).length≤1000000:=by
      have l0:=L.st
      have l1:=L.ro
      have l2:=L.ca
      have l3:=L.ex
      have l5:=L.fr
      have l6:=L.th
      have l7:=L.gu
      have l8:=L.pa
      have l9:=L.pr
      have lk:=List.length_take_le k T.ro
      simp only [List.length_append,List.length_map]
      omega
     obtain ⟨⟨id,mo,f⟩,hx⟩:=at_lt hlt
     have hm:=List.mem_of_getElem? hx
     obtain ⟨v0,v1⟩:=V.ro _ hm
     dsimp only at v0 v1
     have SR:=Lib.hid (shr_ro L hm)
     clear hm
     obtain ⟨mo,q0⟩:∃ m:Nat,mo = (m:Int):=⟨mo.toNat,by omega⟩
     subst q0
     obtain ⟨nm,hnm⟩:∃ s,str id = s:=⟨_,rfl⟩
     obtain ⟨b,o,rfl,hb,r0,r1,r2⟩:=S15.three_at ((HH.out.2.1).below HX.out.base) hx hnm
     obtain ⟨w7,h7⟩:∃ X,wr.alloc (.cells #[.string nm,.int .i64 (mo:Int),.bool f] 114 (0,0)) = X:=⟨_,rfl⟩
     have b7:Below wr.heap.size wr w7:=by rw [← h7]; exact (Below.refl _ _).alloc (Nat.le_refl _) _
     have k7:w7.heap[wr.heap.size]? = some (.cells #[.string nm,.int .i64 (mo:Int),.bool f] 114 (0,0)):=by rw [← h7]; exact heap_alloc_new wr _
     have l7:wr.heap.size < w7.heap.size:=(Array.getElem?_eq_some_iff.1 k7).1
     have Xw7:Hid (Wrx w F _ ([(W.heap.size,.cells #[.slice A0 T.st.length n0,.slice (some ⟨b,o,none⟩) T.ro.length n1,.slice A2 T.ca.length n2,.slice A3 T.ex.length n3,.slice A4 T.tr.length n4,.slice A5 T.fr.length n5,.slice A6 T.th.length n6,.slice A7 T.gu.length n7,.slice A8 T.pa.length n8,.slice A9 T.pr.length n9,.int .i64 T.di,.int .i64 T.wi,.int .i64 T.cp] 36 (0,0))] ++ [(wr.heap.size,.cells #[.string nm,.int .i64 (mo:Int),.bool f] 114 (0,0))]) w7):=Lib.hid (HX.out.more b7 (Nat.le_refl _) k7)
     have e1:w7.cell? ⟨wr.heap.size,1,none⟩ = some (.int .i64 (mo:Int)):=by rw [cell_of_row _ _ _ _ _ _ k7]; rfl
     have CM:=Lib.hid (FW.out.mode mo (by omega) w7 Xw7.out.base)
     have HK:=Lib.hid k7
     clear k7 b7
     go_wp2_with fail
     refine CM.out.mono ?_
     rintro e w9 ⟨rfl,b9⟩
     have k7:=(b9.block _ l7).trans HK.out
     have Xw9:=Lib.hid (Xw7.out.on b9)
     have l9:=Nat.lt_of_lt_of_le l7 b9.size
     clear b9 CM e1
     obtain ⟨w9d,hw9d⟩:∃ X,World.drew w9 = X:=⟨_,rfl⟩
     have dw9d:Below w9.heap.size w9 w9d:=by rw [← hw9d]; exact (Below.refl _ _).drew
     have Xw9d:=Lib.hid (Xw9.out.on dw9d)
     have SF:Hid (∀ (R:List (List Bs)) (X:World),Wrx w F R ([(W.heap.size,.cells #[.slice A0 T.st.length n0,.slice (some ⟨b,o,none⟩) T.ro.length n1,.slice A2 T.ca.length n2,.slice A3 T.ex.length n3,.slice A4 T.tr.length n4,.slice A5 T.fr.length n5,.slice A6 T.th.length n6,.slice A7 T.gu.length n7,.slice A8 T.pa.length n8,.slice A9 T.pr.length n9,.int .i64 T.di,.int .i64 T.wi,.int .i64 T.cp] 36 (0,0))] ++ [(wr.heap.size,.cells #[.string nm,.int .i64 (mo:Int),.bool f] 114 (0,0))]) X→X.cell? ⟨wr.heap.size,0,none⟩ = some (.string nm)∧X.cell? ⟨wr.heap.size,2,none⟩ = some (.bool f)):=Lib.hid (fun R X hX=>⟨by rw [cell_of_row _ _ _ _ _ _ (hX.row (i:=1) rfl)]; rfl,by rw [cell_of_row _ _ _ _ _ _ (hX.row (i:=1) rfl)]; rfl⟩)
     clear dw9d
     clear k7
     go_wp2_with fail
     refine startT (S:=fun X=>X.cell? ⟨wr.heap.size,0,none⟩ = some (.string nm)∧X.cell? ⟨wr.heap.size,2,none⟩ = some (.bool f)) _ 9 rfl (by kernel_rfl) (by kernel_rfl) (by kernel_rfl) (bitsL 9 0) (by kernel_rfl) (by (first | rw [hw9d] | rw [h3,hw9d]); exact SF.out _ _ Xw9d.out) (fun _=>?_)
     first | rw [hw9d] | rw [h3,hw9d]
     refine takesT (L:=[(0,49,pt F 0),(1,50,pt wr.heap.size 0),(2,51,.string nm),(3,52,.string (str (nmR mo))),(4,53,pt wr.heap.size 2),(5,54,.bool f)]) (.q (.q (.cons rfl rfl (.inl ⟨rfl,fun _ h=>by obtain ⟨y0,y1⟩:=h; dsimp only [pt]; go_simp; try with_reducible rfl⟩) (.q (.q (.cons rfl rfl (.inl ⟨rfl,fun _ h=>by obtain ⟨y0,y1⟩:=h; dsimp only [pt]; go_simp; try with_reducible rfl⟩) .nil)))))) [0,1,2,3,4,5] rfl rfl (by kernel_rfl) (fun _ _ _ _ _ h=>h) (SF.out _ _ Xw9d.out) ?_
     have bw9d:=Below.refl w9d.heap.size w9d
     refine callT (i:=6) (R:=fun u X=>u = .string (str (flgT f))∧Below w9d.heap.size w9d X) 55 _ rfl (by kernel_rfl) rfl rfl rfl (by kernel_rfl) ((wflag_any f w9d).mono fun e w' h=>⟨_,h.1,rfl,by rw [h.2]; exact Below.refl _ _⟩) ?_
     rintro u w9d_0 ⟨rfl,cw9d_0⟩
     have bw9d_0:=bw9d.trans (cw9d_0.mono bw9d.size)
     refine ⟨SF.out _ _ (Xw9d.out.on bw9d_0),?_⟩
     obtain ⟨w9ds,hw9ds⟩:∃ X,w9d_0.alloc (.cells #[.string (str wRo),.string nm,.string (str (nmR mo)),.string (str (flgT f))] 9 (0,0)) = X:=⟨_,rfl⟩
     have cw9ds:Below w9d_0.heap.size w9d_0 w9ds:=by rw [← hw9ds]; exact (Below.refl _ _).alloc (Nat.le_refl _) _
     have bw9ds:=bw9d_0.trans (cw9ds.mono bw9d_0.size)
     have LL:Lst w9ds (.slice (some ⟨w9d_0.heap.size,0,none⟩) 4 4) (rRo (id,(mo:Int),f)):=by
      rw [← hw9ds]
      exact lst_lits w9d_0 #[.string (str wRo),.string nm,.string (str (nmR mo)),.string (str (flgT f))] (rRo (id,(mo:Int),f)) (by rw [← hnm]; rfl) 4 rfl
     refine makeT (i:=7) (v:=.slice (some ⟨w9d_0.heap.size,0,none⟩) 4 4) (w':=w9ds) 56 _ rfl (by kernel_rfl) rfl rfl rfl (by rw [← hw9ds]; kernel_rfl) (SF.out _ _ (Xw9d.out.on bw9ds)) rfl ?_
     refine callW (i:=8) 57 _ rfl (by kernel_rfl) rfl rfl (by kernel_rfl) (by kernel_rfl) (wrx_rec (Xw9d.out.on bw9ds) RLB _ _ LL (SR.out)) ?_
     intro wz hz
     refine ⟨SF.out _ _ hz,?_⟩
     refine doneT (by kernel_rfl) ?_
     have HZ2:=Lib.hid hz.less
     clear hz
     go_wp2_with fail
     go_roundw
     case rel=>exact ⟨k + 1,by go_num,by omega,Lib.hid (by rw [take_map _ hx]; exact HZ2.out)⟩
     case measure=>simp [intOf]; omega
    ·have d:decide (k < T.ro.length) = false:=by rw [decide_eq_false_iff_not]; exact hlt
     have X2:Hid (Wrx w F (R0 ++ T.st.map (rSt F_) ++ T.ro.map (rRo)) [(W.heap.size,.cells #[.slice A0 T.st.length n0,.slice A1 T.ro.length n1,.slice A2 T.ca.length n2,.slice A3 T.ex.length n3,.slice A4 T.tr.length n4,.slice A5 T.fr.length n5,.slice A6 T.th.length n6,.slice A7 T.gu.length n7,.slice A8 T.pa.length n8,.slice A9 T.pr.length n9,.int .i64 T.di,.int .i64 T.wi,.int .i64 T.cp] 36 (0,0))] wr):=Lib.hid (by have h:=HX.out; rw [List.take_of_length_le (by omega)] at h; exact h)
     have q0:wr.cell? ⟨W.heap.size,2,none⟩ = some (.slice A2 T.ca.length n2):=by rw [cell_of_row _ _ _ _ _ _ (X2.out.row (i:=0) rfl)]; rfl
     clear HX hlt hk
     go_wp2_with fail
     clear q0 d
     go_loopw [62] (fun i wr=>∃ k:Nat,i = .int .i64 k∧k≤T.ca.length∧Hid (Wrx w F (R0 ++ T.st.map (rSt F_) ++ T.ro.map (rRo) ++ (T.ca.take k).map (rCa F_)) [(W.heap.size,.cells #[.slice A0 T.st.length n0,.slice A1 T.ro.length n1,.slice A2 T.ca.length n2,.slice A3 T.ex.length n3,.slice A4 T.tr.length n4,.slice A5 T.fr.length n5,.slice A6 T.th.length n6,.slice A7 T.gu.length n7,.slice A8 T.pa.length n8,.slice A9 T.pr.length n9,.int .i64 T.di,.int .i64 T.wi,.int .i64 T.cp] 36 (0,0))] wr)) (fun i _=>T.ca.length - (intOf i).toNat)
     case atStart=>exact ⟨0,rfl,Nat.zero_le _,Lib.hid (by rw [List.take_zero,List.map_nil,List.append_nil]; exact X2.out)⟩
     case round =>
      obtain ⟨k,rfl,hk,HX⟩:=hrel
      by_cases hlt:k < T.ca.length
      ·have gk:(k:Int) < (T.ca.length:Int):=by omega
       have lb:=L.ca
       have RLB:(R0 ++ T.st.map (rSt F_) ++ T.ro.map (rRo) ++ (T.ca.take k).map (rCa F_)).length≤1000000:=by
        have l0:=L.st
        have l1:=L.ro
        have l2:=L.ca
        have l3:=L.ex
        have l5:=L.fr
        have l6:=L.th
        have l7:=L.gu
        have l8:=L.pa
        have l9:=L.pr
        have lk:=List.length_take_le k T.ca
        simp only [List.length_append,List.length_map]
        omega
       obtain ⟨⟨id,wd,fm,te⟩,hx⟩:=at_lt hlt
       have hm:=List.mem_of_getElem? hx
       obtain ⟨⟨v0,v1⟩,v2,v3⟩:=V.ca _ hm
       dsimp only at v0 v1 v2 v3
       have SR:=Lib.hid (shr_ca V L SH hm)
       clear hm
       obtain ⟨nm,hnm⟩:∃ s,str id = s:=⟨_,rfl⟩
       obtain ⟨b,o,rfl,hb,r0,mk,r8,r9⟩:=S14.ten_at ((HH.out.2.2.1).below HX.out.base) hx hnm
       have r1:wr.cell? ⟨b,o + k * 10 + 1,none⟩ = some (.bool (wd 0)):=mk 0 (by omega)
       have r2:wr.cell? ⟨b,o + k * 10 + 2,none⟩ = some (.bool (wd 1)):=mk 1 (by omega)
       have r3:wr.cell? ⟨b,o + k * 10 + 3,none⟩ = some (.bool (wd 2)):=mk 2 (by omega)
       have r4:wr.cell? ⟨b,o + k * 10 + 4,none⟩ = some (.bool (wd 3)):=mk 3 (by omega)
       have r5:wr.cell? ⟨b,o + k * 10 + 5,none⟩ = some (.bool (wd 4)):=mk 4 (by omega)
       have r6:wr.cell? ⟨b,o + k * 10 + 6,none⟩ = some (.bool (wd 5)):=mk 5 (by omega)
       have r7:wr.cell? ⟨b,o + k * 10 + 7,none⟩ = some (.bool (wd 6)):=mk 6 (by omega)
       obtain ⟨w7,h7⟩:∃ X,wr.alloc (.cells #[.string nm,.bool (wd 0),.bool (wd 1),.bool (wd 2),.bool (wd 3),.bool (wd 4),.bool (wd 5),.bool (wd 6),.int .i64 fm,.int .i64 te] 61 (0,0)) = X:=⟨_,rfl⟩
       have b7:Below wr.heap.size wr w7:=by rw [← h7]; exact (Below.refl _ _).alloc (Nat.le_refl _) _
       have k7:w7.heap[wr.heap.size]? = some (.cells #[.string nm,.bool (wd 0),.bool (wd 1),.bool (wd 2),.bool (wd 3),.bool (wd 4),.bool (wd 5),.bool (wd 6),.int .i64 fm,.int .i64 te] 61 (0,0)):=by rw [← h7]; exact heap_alloc_new wr _
       have l7:wr.heap.size < w7.heap.size:=(Array.getElem?_eq_some_iff.1 k7).1
       have Xw7:Hid (Wrx w F _ ([(W.heap.size,.cells #[.slice A0 T.st.length n0,.slice A1 T.ro.length n1,.slice (some ⟨b,o,none⟩) T.ca.length n2,.slice A3 T.ex.length n3,.slice A4 T.tr.length n4,.slice A5 T.fr.length n5,.slice A6 T.th.length n6,.slice A7 T.gu.length n7,.slice A8 T.pa.length n8,.slice A9 T.pr.length n9,.int .i64 T.di,.int .i64 T.wi,.int .i64 T.cp] 36 (0,0))] ++ [(wr.heap.size,.cells #[.string nm,.bool (wd 0),.bool (wd 1),.bool (wd 2),.bool (wd 3),.bool (wd 4),.bool (wd 5),.bool (wd 6),.int .i64 fm,.int .i64 te] 61 (0,0))]) w7):=Lib.hid (HX.out.more b7 (Nat.le_refl _) k7)
       obtain ⟨w7d,hw7d⟩:∃ X,World.drew w7 = X:=⟨_,rfl⟩
       have dw7d:Below w7.heap.size w7 w7d:=by rw [← hw7d]; exact (Below.refl _ _).drew
       have Xw7d:=Lib.hid (Xw7.out.on dw7d)
       have SF:Hid (∀ (R:List (List Bs)) (X:World),Wrx w F R ([(W.heap.size,.cells #[.slice A0 T.st.length n0,.slice A1 T.ro.length n1,.slice (some ⟨b,o,none⟩) T.ca.length n2,.slice A3 T.ex.length n3,.slice A4 T.tr.length n4,.slice A5 T.fr.length n5,.slice A6 T.th.length n6,.slice A7 T.gu.length n7,.slice A8 T.pa.length n8,.slice A9 T.pr.length n9,.int .i64 T.di,.int .i64 T.wi,.int .i64 T.cp] 36 (0,0))] ++ [(wr.heap.size,.cells #[.string nm,.bool (wd 0),.bool (wd 1),.bool (wd 2),.bool (wd 3),.bool (wd 4),.bool (wd 5),.bool (wd 6),.int .i64 fm,.int .i64 te] 61 (0,0))]) X→X.cell? ⟨wr.heap.size,0,none⟩ = some (.string nm)∧X.cell? ⟨wr.heap.size,1,none⟩ = some (.bool (wd 0))∧X.cell? ⟨wr.heap.size,2,none⟩ = some (.bool (wd 1))∧X.cell? ⟨wr.heap.size,3,none⟩ = some (.bool (wd 2))∧X.cell? ⟨wr.heap.size,4,none⟩ = some (.bool (wd 3))∧X.cell? ⟨wr.heap.size,5,none⟩ = some (.bool (wd 4))∧X.cell? ⟨wr.heap.size,6,none⟩ = some (.bool (wd 5))∧X.cell? ⟨wr.heap.size,7,none⟩ = some (.bool (wd 6))∧X.cell? ⟨wr.heap.size,8,none⟩ = some (.int .i64 fm)∧X.cell? ⟨wr.heap.size,9,none⟩ = some (.int .i64 te)):=Lib.hid (fun R X hX=>⟨by rw [cell_of_row _ _ _ _ _ _ (hX.row (i:=1) rfl)]; rfl,by rw [cell_of_row _ _ _ _ _ _ (hX.row (i:=1) rfl)]; rfl,by rw [cell_of_row _ _ _ _ _ _ (hX.row (i:=1) rfl)]; rfl,by rw [cell_of_row _ _ _ _ _ _ (hX.row (i:=1) rfl)]; rfl,by rw [cell_of_row _ _ _ _ _ _ (hX.row (i:=1) rfl)]; rfl,by rw [cell_of_row _ _ _ _ _ _ (hX.row (i:=1) rfl)]; rfl,by rw [cell_of_row _ _ _ _ _ _ (hX.row (i:=1) rfl)]; rfl,by rw [cell_of_row _ _ _ _ _ _ (hX.row (i:=1) rfl)]; rfl,by rw [cell_of_row _ _ _ _ _ _ (hX.row (i:=1) rfl)]; rfl,by rw [cell_of_row _ _ _ _ _ _ (hX.row (i:=1) rfl)]; rfl⟩)
       clear dw7d
       clear k7 b7
       go_wp2_with fail
       refine startT (S:=fun X=>X.cell? ⟨wr.heap.size,0,none⟩ = some (.string nm)∧X.cell? ⟨wr.heap.size,1,none⟩ = some (.bool (wd 0))∧X.cell? ⟨wr.heap.size,2,none⟩ = some (.bool (wd 1))∧X.cell? ⟨wr.heap.size,3,none⟩ = some (.bool (wd 2))∧X.cell? ⟨wr.heap.size,4,none⟩ = some (.bool (wd 3))∧X.cell? ⟨wr.heap.size,5,none⟩ = some (.bool (wd 4))∧X.cell? ⟨wr.heap.size,6,none⟩ = some (.bool (wd 5))∧X.cell? ⟨wr.heap.size,7,none⟩ = some (.bool (wd 6))∧X.cell? ⟨wr.heap.size,8,none⟩ = some (.int .i64 fm)∧X.cell? ⟨wr.heap.size,9,none⟩ = some (.int .i64 te)) _ 14 rfl (by kernel_rfl) (by kernel_rfl) (by kernel_rfl) (bitsL 14 0) (by kernel_rfl) (by (first | rw [hw7d] | rw [h3,hw7d]); exact SF.out _ _ Xw7d.out) (fun _=>?_)
       first | rw [hw7d] | rw [h3,hw7d]
       refine takesT (L:=[(0,66,pt F 0),(1,67,pt wr.heap.size 0),(2,68,.string nm),(3,69,pt wr.heap.size 1),(4,70,.agg #[.bool (wd 0),.bool (wd 1),.bool (wd 2),.bool (wd 3),.bool (wd 4),.bool (wd 5),.bool (wd 6)]),(6,72,pt wr.heap.size 8),(7,73,.int .i64 fm),(9,75,pt wr.heap.size 9),(10,76,.int .i64 te)]) (.q (.q (.cons rfl rfl (.inl ⟨rfl,fun _ h=>by obtain ⟨y0,y1,y2,y3,y4,y5,y6,y7,y8,y9⟩:=h; dsimp only [pt]; go_simp; try with_reducible rfl⟩) (.q (.cons rfl rfl (.inl ⟨rfl,fun _ h=>by obtain ⟨y0,y1,y2,y3,y4,y5,y6,y7,y8,y9⟩:=h; dsimp only [pt]; go_simp; try with_reducible rfl⟩) (.q (.cons rfl rfl (.inl ⟨rfl,fun _ h=>by obtain ⟨y0,y1,y2,y3,y4,y5,y6,y7,y8,y9⟩:=h; dsimp only [pt]; go_simp; try with_reducible rfl⟩) (.q (.cons rfl rfl (.inl ⟨rfl,fun _ h=>by obtain ⟨y0,y1,y2,y3,y4,y5,y6,y7,y8,y9⟩:=h; dsimp only [pt]; go_simp; try with_reducible rfl⟩) .nil))))))))) [0,1,2,3,4,6,7,9,10] rfl rfl (by kernel_rfl) (fun _ _ _ _ _ h=>h) (SF.out _ _ Xw7d.out) ?_
       have bw7d:=Below.refl w7d.heap.size w7d
       refine callT (i:=5) (R:=fun u X=>u = .string (str (wkT wd))∧Below w7d.heap.size w7d X) 71 _ rfl (by kernel_rfl) rfl rfl rfl (by kernel_rfl) ((wweek_any wd w7d).mono fun e w' h=>⟨_,h.1,rfl,h.2⟩) ?_
       rintro u w7d_0 ⟨rfl,cw7d_0⟩
       have bw7d_0:=bw7d.trans (cw7d_0.mono bw7d.size)
       refine ⟨SF.out _ _ (Xw7d.out.on bw7d_0),?_⟩
       refine callT (i:=8) (R:=fun u X=>u = .string (str (F_.dayT fm))∧Below w7d_0.heap.size w7d_0 X) 74 _ rfl (by kernel_rfl) rfl rfl rfl (by kernel_rfl) ((wday_any (FW.out.day fm v0 v1 w7d_0 (Xw7d.out.base.trans (bw7d_0.mono Xw7d.out.base.size)))).mono fun e w' h=>⟨_,h.1,rfl,h.2⟩) ?_
       rintro u w7d_1 ⟨rfl,cw7d_1⟩
       have bw7d_1:=bw7d_0.trans (cw7d_1.mono bw7d_0.size)
       refine ⟨SF.out _ _ (Xw7d.out.on bw7d_1),?_⟩
       refine callT (i:=11) (R:=fun u X=>u = .string (str (F_.dayT te))∧Below w7d_1.heap.size w7d_1 X) 77 _ rfl (by kernel_rfl) rfl rfl rfl (by kernel_rfl) ((wday_any (FW.out.day te v2 v3 w7d_1 (Xw7d.out.base.trans (bw7d_1.mono Xw7d.out.base.size)))).mono fun e w' h=>⟨_,h.1,rfl,h.2⟩) ?_
       rintro u w7d_2 ⟨rfl,cw7d_2⟩
       have bw7d_2:=bw7d_1.trans (cw7d_2.mono bw7d_1.size)
       refine ⟨SF.out _ _ (Xw7d.out.on bw7d_2),?_⟩
       obtain ⟨w7ds,hw7ds⟩:∃ X,w7d_2.alloc (.cells #[.string (str wCa),.string nm,.string (str (wkT wd)),.string (str (F_.dayT fm)),.string (str (F_.dayT te))] 9 (0,0)) = X:=⟨_,rfl⟩
       have cw7ds:Below w7d_2.heap.size w7d_2 w7ds:=by rw [← hw7ds]; exact (Below.refl _ _).alloc (Nat.le_refl _) _
       have bw7ds:=bw7d_2.trans (cw7ds.mono bw7d_2.size)
       have LL:Lst w7ds (.slice (some ⟨w7d_2.heap.size,0,none⟩) 5 5) (rCa F_ (id,wd,fm,te)):=by
        rw [← hw7ds]
        exact lst_lits w7d_2 #[.string (str wCa),.string nm,.string (str (wkT wd)),.string (str (F_.dayT fm)),.string (str (F_.dayT te))] (rCa F_ (id,wd,fm,te)) (by rw [← hnm]; rfl) 5 rfl
       refine makeT (i:=12) (v:=.slice (some ⟨w7d_2.heap.size,0,none⟩) 5 5) (w':=w7ds) 78 _ rfl (by kernel_rfl) rfl rfl rfl (by rw [← hw7ds]; kernel_rfl) (SF.out _ _ (Xw7d.out.on bw7ds)) rfl ?_
       refine callW (i:=13) 79 _ rfl (by kernel_rfl) rfl rfl (by kernel_rfl) (by kernel_rfl) (wrx_rec (Xw7d.out.on bw7ds) RLB _ _ LL (SR.out)) ?_
       intro wz hz
       refine ⟨SF.out _ _ hz,?_⟩
       refine doneT (by kernel_rfl) ?_
       have HZ2:=Lib.hid hz.less
       clear hz
       go_wp2_with fail
       go_roundw
       case rel=>exact ⟨k + 1,by go_num,by omega,Lib.hid (by rw [take_map _ hx]; exact HZ2.out)⟩
       case measure=>simp [intOf]; omega
      ·have d:decide (k < T.ca.length) = false:=by rw [decide_eq_false_iff_not]; exact hlt
       have X3:Hid (Wrx w F (R0 ++ T.st.map (rSt F_) ++ T.ro.map (rRo) ++ T.ca.map (rCa F_)) [(W.heap.size,.cells #[.slice A0 T.st.length n0,.slice A1 T.ro.length n1,.slice A2 T.ca.length n2,.slice A3 T.ex.length n3,.slice A4 T.tr.length n4,.slice A5 T.fr.length n5,.slice A6 T.th.length n6,.slice A7 T.gu.length n7,.slice A8 T.pa.length n8,.slice A9 T.pr.length n9,.int .i64 T.di,.int .i64 T.wi,.int .i64 T.cp] 36 (0,0))] wr):=Lib.hid (by have h:=HX.out; rw [List.take_of_length_le (by omega)] at h; exact h)
       have q0:wr.cell? ⟨W.heap.size,3,none⟩ = some (.slice A3 T.ex.length n3):=by rw [cell_of_row _ _ _ _ _ _ (X3.out.row (i:=0) rfl)]; rfl
       clear HX hlt hk
       go_wp2_with fail
       clear q0 d
       go_loopw [84] (fun i wr=>∃ k:Nat,i = .int .i64 k∧k≤T.ex.length∧Hid (Wrx w F (R0 ++ T.st.map (rSt F_) ++ T.ro.map (rRo) ++ T.ca.map (rCa F_) ++ (T.ex.take k).map (rEx F_ T)) [(W.heap.size,.cells #[.slice A0 T.st.length n0,.slice A1 T.ro.length n1,.slice A2 T.ca.length n2,.slice A3 T.ex.length n3,.slice A4 T.tr.length n4,.slice A5 T.fr.length n5,.slice A6 T.th.length n6,.slice A7 T.gu.length n7,.slice A8 T.pa.length n8,.slice A9 T.pr.length n9,.int .i64 T.di,.int .i64 T.wi,.int .i64 T.cp] 36 (0,0))] wr)) (fun i _=>T.ex.length - (intOf i).toNat)
       case atStart=>exact ⟨0,rfl,Nat.zero_le _,Lib.hid (by rw [List.take_zero,List.map_nil,List.append_nil]; exact X3.out)⟩
       case round =>
        obtain ⟨k,rfl,hk,HX⟩:=hrel
        by_cases hlt:k < T.ex.length
        ·have gk:(k:Int) < (T.ex.length:Int):=by omega
         have lb:=L.ex
         have RLB:(R0 ++ T.st.map (rSt F_) ++ T.ro.map (rRo) ++ T.ca.map (rCa F_) ++ (T.ex.take k).map (rEx F_ T)).length≤1000000:=by
          have l0:=L.st
          have l1:=L.ro
          have l2:=L.ca
          have l3:=L.ex
          have l5:=L.fr
          have l6:=L.th
          have l7:=L.gu
          have l8:=L.pa
          have l9:=L.pr
          have lk:=List.length_take_le k T.ex
          simp only [List.length_append,List.length_map]
          omega
         obtain ⟨⟨ci,dy,ad⟩,hx⟩:=at_lt hlt
         have hm:=List.mem_of_getElem? hx
         obtain ⟨⟨v0,v1⟩,v2,v3⟩:=V.ex _ hm
         dsimp only at v0 v1 v2 v3
         have SR:=Lib.hid (shr_ex V L SH hm)
         clear hm
         obtain ⟨m1,q1⟩:∃ m:Nat,ci = (m:Int):=⟨ci.toNat,by omega⟩
         subst q1
         obtain ⟨⟨z1_0,z1_1,z1_2,z1_3⟩,hx1⟩:=at_lt (l:=T.ca) (k:=m1) (by omega)
         have a1:=atI_map (f:=fun x=>x.1) (rfl:(m1:Int) = (m1:Int)) hx1
         dsimp only at a1
         obtain ⟨nm1,hnm1⟩:∃ s,str z1_0 = s:=⟨_,rfl⟩
         obtain ⟨b1,o1,rfl,hb1,y1,-⟩:=S14.ten_at HH.out.2.2.1 hx1 hnm1
         obtain ⟨b,o,rfl,hb,r0,r1,r2⟩:=S14.three_at ((HH.out.2.2.2.1).below HX.out.base) hx
         obtain ⟨w7,h7⟩:∃ X,wr.alloc (.cells #[.int .i64 (m1:Int),.int .i64 dy,.bool ad] 116 (0,0)) = X:=⟨_,rfl⟩
         have b7:Below wr.heap.size wr w7:=by rw [← h7]; exact (Below.refl _ _).alloc (Nat.le_refl _) _
         have k7:w7.heap[wr.heap.size]? = some (.cells #[.int .i64 (m1:Int),.int .i64 dy,.bool ad] 116 (0,0)):=by rw [← h7]; exact heap_alloc_new wr _
         have l7:wr.heap.size < w7.heap.size:=(Array.getElem?_eq_some_iff.1 k7).1
         have Xw7:Hid (Wrx w F _ ([(W.heap.size,.cells #[.slice A0 T.st.length n0,.slice A1 T.ro.length n1,.slice (some ⟨b1,o1,none⟩) T.ca.length n2,.slice (some ⟨b,o,none⟩) T.ex.length n3,.slice A4 T.tr.length n4,.slice A5 T.fr.length n5,.slice A6 T.th.length n6,.slice A7 T.gu.length n7,.slice A8 T.pa.length n8,.slice A9 T.pr.length n9,.int .i64 T.di,.int .i64 T.wi,.int .i64 T.cp] 36 (0,0))] ++ [(wr.heap.size,.cells #[.int .i64 (m1:Int),.int .i64 dy,.bool ad] 116 (0,0))]) w7):=Lib.hid (HX.out.more b7 (Nat.le_refl _) k7)
         obtain ⟨w7d,hw7d⟩:∃ X,World.drew w7 = X:=⟨_,rfl⟩
         have dw7d:Below w7.heap.size w7 w7d:=by rw [← hw7d]; exact (Below.refl _ _).drew
         have Xw7d:=Lib.hid (Xw7.out.on dw7d)
         have SF:Hid (∀ (R:List (List Bs)) (X:World),Wrx w F R ([(W.heap.size,.cells #[.slice A0 T.st.length n0,.slice A1 T.ro.length n1,.slice (some ⟨b1,o1,none⟩) T.ca.length n2,.slice (some ⟨b,o,none⟩) T.ex.length n3,.slice A4 T.tr.length n4,.slice A5 T.fr.length n5,.slice A6 T.th.length n6,.slice A7 T.gu.length n7,.slice A8 T.pa.length n8,.slice A9 T.pr.length n9,.int .i64 T.di,.int .i64 T.wi,.int .i64 T.cp] 36 (0,0))] ++ [(wr.heap.size,.cells #[.int .i64 (m1:Int),.int .i64 dy,.bool ad] 116 (0,0))]) X→X.cell? ⟨W.heap.size,2,none⟩ = some (.slice (some ⟨b1,o1,none⟩) T.ca.length n2)∧X.cell? ⟨wr.heap.size,0,none⟩ = some (.int .i64 (m1:Int))∧X.cell? ⟨b1,o1 + m1 * 10,none⟩ = some (.string nm1)∧X.cell? ⟨wr.heap.size,1,none⟩ = some (.int .i64 dy)∧X.cell? ⟨wr.heap.size,2,none⟩ = some (.bool ad)):=Lib.hid (fun R X hX=>⟨by rw [cell_of_row _ _ _ _ _ _ (hX.row (i:=0) rfl)]; rfl,by rw [cell_of_row _ _ _ _ _ _ (hX.row (i:=1) rfl)]; rfl,(hX.base.cell (p:=⟨b1,o1 + m1 * 10,none⟩) hb1).trans y1,by rw [cell_of_row _ _ _ _ _ _ (hX.row (i:=1) rfl)]; rfl,by rw [cell_of_row _ _ _ _ _ _ (hX.row (i:=1) rfl)]; rfl⟩)
         clear dw7d
         clear k7 b7
         go_wp2_with fail
         refine startT (S:=fun X=>X.cell? ⟨W.heap.size,2,none⟩ = some (.slice (some ⟨b1,o1,none⟩) T.ca.length n2)∧X.cell? ⟨wr.heap.size,0,none⟩ = some (.int .i64 (m1:Int))∧X.cell? ⟨b1,o1 + m1 * 10,none⟩ = some (.string nm1)∧X.cell? ⟨wr.heap.size,1,none⟩ = some (.int .i64 dy)∧X.cell? ⟨wr.heap.size,2,none⟩ = some (.bool ad)) _ 16 rfl (by kernel_rfl) (by kernel_rfl) (by kernel_rfl) (bitsL 16 0) (by kernel_rfl) (by (first | rw [hw7d] | rw [h3,hw7d]); exact SF.out _ _ Xw7d.out) (fun _=>?_)
         first | rw [hw7d] | rw [h3,hw7d]
         refine takesT (L:=[(0,88,pt F 0),(1,89,pt W.heap.size 2),(2,90,.slice (some ⟨b1,o1,none⟩) T.ca.length n2),(3,91,pt wr.heap.size 0),(4,92,.int .i64 (m1:Int)),(5,93,pt b1 (o1 + m1 * 10)),(6,94,pt b1 (o1 + m1 * 10)),(7,95,.string nm1),(8,96,pt wr.heap.size 1),(9,97,.int .i64 dy),(11,99,pt wr.heap.size 2),(12,100,.bool ad)]) (.q (.q (.cons rfl rfl (.inl ⟨rfl,fun _ h=>by obtain ⟨y0,y1,y2,y3,y4⟩:=h; dsimp only [pt]; go_simp; try with_reducible rfl⟩) (.q (.cons rfl rfl (.inl ⟨rfl,fun _ h=>by obtain ⟨y0,y1,y2,y3,y4⟩:=h; dsimp only [pt]; go_simp; try with_reducible rfl⟩) (.cons rfl rfl (.inl ⟨rfl,fun _ _=>exec_ixaddr 25 61 (.tmp 90) (.tmp 92) (by kernel_rfl) b1 o1 T.ca.length n2 m1 10 (by kernel_rfl) (by kernel_rfl) (by omega) Tryz.underlying25 (fun w=>by simp [Tryz.sizeOf61])⟩) (.q (.cons rfl rfl (.inl ⟨rfl,fun _ h=>by obtain ⟨y0,y1,y2,y3,y4⟩:=h; dsimp only [pt]; go_simp; try with_reducible rfl⟩) (.q (.cons rfl rfl (.inl ⟨rfl,fun _ h=>by obtain ⟨y0,y1,y2,y3,y4⟩:=h; dsimp only [pt]; go_simp; try with_reducible rfl⟩) (.q (.cons rfl rfl (.inl ⟨rfl,fun _ h=>by obtain ⟨y0,y1,y2,y3,y4⟩:=h; dsimp only [pt]; go_simp; try with_reducible rfl⟩) .nil)))))))))))) [0,1,2,3,4,5,6,7,8,9,11,12] rfl rfl (by kernel_rfl) (fun _ _ _ _ _ h=>h) (SF.out _ _ Xw7d.out) ?_
         have bw7d:=Below.refl w7d.heap.size w7d
         refine callT (i:=10) (R:=fun u X=>u = .string (str (F_.dayT dy))∧Below w7d.heap.size w7d X) 98 _ rfl (by kernel_rfl) rfl rfl rfl (by kernel_rfl) ((wday_any (FW.out.day dy v2 v3 w7d (Xw7d.out.base.trans (bw7d.mono Xw7d.out.base.size)))).mono fun e w' h=>⟨_,h.1,rfl,h.2⟩) ?_
         rintro u w7d_0 ⟨rfl,cw7d_0⟩
         have bw7d_0:=bw7d.trans (cw7d_0.mono bw7d.size)
         refine ⟨SF.out _ _ (Xw7d.out.on bw7d_0),?_⟩
         refine callT (i:=13) (R:=fun u X=>u = .string (str (if ad then wAdd else wRem))∧Below w7d_0.heap.size w7d_0 X) 101 _ rfl (by kernel_rfl) rfl rfl rfl (by kernel_rfl) ((choice_any ad (str wAdd) (str wRem) w7d_0).mono fun e w' h=>⟨_,h.1,by cases ad <;> rfl,by rw [h.2]; exact Below.refl _ _⟩) ?_
         rintro u w7d_1 ⟨rfl,cw7d_1⟩
         have bw7d_1:=bw7d_0.trans (cw7d_1.mono bw7d_0.size)
         refine ⟨SF.out _ _ (Xw7d.out.on bw7d_1),?_⟩
         obtain ⟨w7ds,hw7ds⟩:∃ X,w7d_1.alloc (.cells #[.string (str wEx),.string nm1,.string (str (F_.dayT dy)),.string (str (if ad then wAdd else wRem))] 9 (0,0)) = X:=⟨_,rfl⟩
         have cw7ds:Below w7d_1.heap.size w7d_1 w7ds:=by rw [← hw7ds]; exact (Below.refl _ _).alloc (Nat.le_refl _) _
         have bw7ds:=bw7d_1.trans (cw7ds.mono bw7d_1.size)
         have LL:Lst w7ds (.slice (some ⟨w7d_1.heap.size,0,none⟩) 4 4) (rEx F_ T ((m1:Int),dy,ad)):=by
          rw [← hw7ds]
          exact lst_lits w7d_1 #[.string (str wEx),.string nm1,.string (str (F_.dayT dy)),.string (str (if ad then wAdd else wRem))] (rEx F_ T ((m1:Int),dy,ad)) (by rw [← hnm1,← a1]; rfl) 4 rfl
         refine makeT (i:=14) (v:=.slice (some ⟨w7d_1.heap.size,0,none⟩) 4 4) (w':=w7ds) 102 _ rfl (by kernel_rfl) rfl rfl rfl (by rw [← hw7ds]; kernel_rfl) (SF.out _ _ (Xw7d.out.on bw7ds)) rfl ?_
         refine callW (i:=15) 103 _ rfl (by kernel_rfl) rfl rfl (by kernel_rfl) (by kernel_rfl) (wrx_rec (Xw7d.out.on bw7ds) RLB _ _ LL (SR.out)) ?_
         intro wz hz
         refine ⟨SF.out _ _ hz,?_⟩
         refine doneT (by kernel_rfl) ?_
         have HZ2:=Lib.hid hz.less
         clear hz
         go_wp2_with fail
         go_roundw
         case rel=>exact ⟨k + 1,by go_num,by omega,Lib.hid (by rw [take_map _ hx]; exact HZ2.out)⟩
         case measure=>simp [intOf]; omega
        ·have d:decide (k < T.ex.length) = false:=by rw [decide_eq_false_iff_not]; exact hlt
         have X4:Hid (Wrx w F (R0 ++ T.st.map (rSt F_) ++ T.ro.map (rRo) ++ T.ca.map (rCa F_) ++ T.ex.map (rEx F_ T)) [(W.heap.size,.cells #[.slice A0 T.st.length n0,.slice A1 T.ro.length n1,.slice A2 T.ca.length n2,.slice A3 T.ex.length n3,.slice A4 T.tr.length n4,.slice A5 T.fr.length n5,.slice A6 T.th.length n6,.slice A7 T.gu.length n7,.slice A8 T.pa.length n8,.slice A9 T.pr.length n9,.int .i64 T.di,.int .i64 T.wi,.int .i64 T.cp] 36 (0,0))] wr):=Lib.hid (by have h:=HX.out; rw [List.take_of_length_le (by omega)] at h; exact h)
         have HE:=Lib.hid (HZ.out _ X4.out.none)
         clear HX
         go_wp2_with fail
         go_end0
         exact ⟨rfl,HE.out⟩
end Go.Proofs.YtpifdbphmnifdaaGreatDoor
