/-
  Facts about the program that the statement's proof uses. Condition: none beyond each theorem's own hypotheses.
-/
import Derived.Test.YtpifdbphmnifdaaGreatDoorYa25
set_option maxRecDepth 100000
set_option maxHeartbeats 8000000
namespace Go.Proofs.YtpifdbphmnifdaaGreatDoor
open Go.RowKit
theorem wconnections_any {F_:Fm} {w W:World} {F:Nat} {R0:List (List Bs)} {A0 A1 A2 A3 A4 A5 A6 A7 A8 A9:Option Addr} {n0 n1 n2 n3 n4 n5 n6 n7 n8 n9:Nat} {T:Tt} (FW:Fw F_ w)
  (HL:S13.LstS w (.slice A0 T.st.length n0) T.st∧S15.LstR w (.slice A1 T.ro.length n1) T.ro∧S14.LstC w (.slice A2 T.ca.length n2) T.ca∧S14.LstX w (.slice A3 T.ex.length n3) T.ex∧LstTp w (.slice A4 T.tr.length n4) T.tr∧LstF w (.slice A5 T.fr.length n5) T.fr∧S19.LstH w (.slice A6 T.th.length n6) T.th∧S19.LstU w (.slice A7 T.gu.length n7) T.gu∧S20.LstF w (.slice A8 T.pa.length n8) T.pa∧S21.LstPd w (.slice A9 T.pr.length n9) T.pr) (V:Val T) (L:Lim T) (SH:Sht F_) (hR:R0.length≤900000) (hW:Wrs w F R0 W) :
  Calls Tryz.prog 56 #[.pointer (some ⟨F,0,none⟩),.agg #[.slice A0 T.st.length n0,.slice A1 T.ro.length n1,.slice A2 T.ca.length n2,.slice A3 T.ex.length n3,.slice A4 T.tr.length n4,.slice A5 T.fr.length n5,.slice A6 T.th.length n6,.slice A7 T.gu.length n7,.slice A8 T.pa.length n8,.slice A9 T.pr.length n9,.int .i64 T.di,.int .i64 T.wi,.int .i64 T.cp]] W fun e w'=>e = .returned (.tuple #[])∧Wrs w F ((((R0 ++ T.fr.map (rFr F_ T)) ++ T.th.map (rTh T)) ++ T.gu.map (rGu T)) ++ T.pa.map (rPa F_ T)) w':=by
 suffices hs:∀ Z:World→Prop,(∀ w',Wrs w F ((((R0 ++ T.fr.map (rFr F_ T)) ++ T.th.map (rTh T)) ++ T.gu.map (rGu T)) ++ T.pa.map (rPa F_ T)) w'→Z w')→Calls Tryz.prog 56 #[.pointer (some ⟨F,0,none⟩),.agg #[.slice A0 T.st.length n0,.slice A1 T.ro.length n1,.slice A2 T.ca.length n2,.slice A3 T.ex.length n3,.slice A4 T.tr.length n4,.slice A5 T.fr.length n5,.slice A6 T.th.length n6,.slice A7 T.gu.length n7,.slice A8 T.pa.length n8,.slice A9 T.pr.length n9,.int .i64 T.di,.int .i64 T.wi,.int .i64 T.cp]] W fun e w'=>e = .returned (.tuple #[])∧Z w' from hs _ (fun _ h=>h)
 intro Z hZ
 have HZ:=Lib.hid hZ
 clear hZ
 have FW:=Lib.hid FW
 have HH:=Lib.hid HL
 clear HL
 obtain ⟨w3,h3⟩:∃ X,W.alloc (.cells #[.slice A0 T.st.length n0,.slice A1 T.ro.length n1,.slice A2 T.ca.length n2,.slice A3 T.ex.length n3,.slice A4 T.tr.length n4,.slice A5 T.fr.length n5,.slice A6 T.th.length n6,.slice A7 T.gu.length n7,.slice A8 T.pa.length n8,.slice A9 T.pr.length n9,.int .i64 T.di,.int .i64 T.wi,.int .i64 T.cp] 36 (0,0)) = X:=⟨_,rfl⟩
 have b3:Below W.heap.size W w3:=by rw [← h3]; exact (Below.refl _ _).alloc (Nat.le_refl _) _
 have k3:w3.heap[W.heap.size]? = some (.cells #[.slice A0 T.st.length n0,.slice A1 T.ro.length n1,.slice A2 T.ca.length n2,.slice A3 T.ex.length n3,.slice A4 T.tr.length n4,.slice A5 T.fr.length n5,.slice A6 T.th.length n6,.slice A7 T.gu.length n7,.slice A8 T.pa.length n8,.slice A9 T.pr.length n9,.int .i64 T.di,.int .i64 T.wi,.int .i64 T.cp] 36 (0,0)):=by rw [← h3]; exact heap_alloc_new W _
 have X0:Hid (Wrx w F R0 [(W.heap.size,.cells #[.slice A0 T.st.length n0,.slice A1 T.ro.length n1,.slice A2 T.ca.length n2,.slice A3 T.ex.length n3,.slice A4 T.tr.length n4,.slice A5 T.fr.length n5,.slice A6 T.th.length n6,.slice A7 T.gu.length n7,.slice A8 T.pa.length n8,.slice A9 T.pr.length n9,.int .i64 T.di,.int .i64 T.wi,.int .i64 T.cp] 36 (0,0))] w3):=Lib.hid (hW.x.more b3 (Nat.le_refl _) k3)
 have q0:w3.cell? ⟨W.heap.size,5,none⟩ = some (.slice A5 T.fr.length n5):=by rw [cell_of_row _ _ _ _ _ _ k3]; rfl
 clear b3 k3 hW
 go_enter Tryz.func56,Tryz.ntmps56
 go_wp2_with fail
 clear q0 h3
 go_loopw [15] (fun i wr=>∃ k:Nat,i = .int .i64 k∧k≤T.fr.length∧Hid (Wrx w F (R0 ++ (T.fr.take k).map (rFr F_ T)) [(W.heap.size,.cells #[.slice A0 T.st.length n0,.slice A1 T.ro.length n1,.slice A2 T.ca.length n2,.slice A3 T.ex.length n3,.slice A4 T.tr.length n4,.slice A5 T.fr.length n5,.slice A6 T.th.length n6,.slice A7 T.gu.length n7,.slice A8 T.pa.length n8,.slice A9 T.pr.length n9,.int .i64 T.di,.int .i64 T.wi,.int .i64 T.cp] 36 (0,0))] wr)) (fun i _=>T.fr.length - (intOf i).toNat)
 case atStart=>exact ⟨0,rfl,Nat.zero_le _,Lib.hid (by rw [List.take_zero,List.map_nil,List.append_nil]; exact X0.out)⟩
 case round =>
  obtain ⟨k,rfl,hk,HX⟩:=hrel
  by_cases hlt:k < T.fr.length
  ·have gk:(k:Int) < (T.fr.length:Int):=by omega
   have lb:=L.fr
   have RLB:(R0 ++ (T.fr.take k).map (rFr F_ T)).length≤1000000:=by
    have l0:=L.st
    have l1:=L.ro
    have l2:=L.ca
    have l3:=L.ex
    have l5:=L.fr
    have l6:=L.th
    have l7:=L.gu
    have l8:=L.pa
    have l9:=L.pr
    have lk:=List.length_take_le k T.fr
    simp only [List.length_append,List.length_map]
    omega
   obtain ⟨⟨ti,fm,te,ev⟩,hx⟩:=at_lt hlt
   have hm:=List.mem_of_getElem? hx
   obtain ⟨⟨v0,v1⟩,⟨v2,v3⟩,⟨v4,v5⟩,v6,v7⟩:=V.fr _ hm
   dsimp only at v0 v1 v2 v3 v4 v5 v6 v7
   have SR:=Lib.hid (shr_fr V L SH hm)
   clear hm
   obtain ⟨m1,q1⟩:∃ m:Nat,ti = (m:Int):=⟨ti.toNat,by omega⟩
   subst q1
   obtain ⟨⟨z1_0,z1_1,z1_2,z1_3,z1_4,z1_5⟩,hx1⟩:=at_lt (l:=T.tr) (k:=m1) (by omega)
   have a1:=atI_map (f:=fun x=>x.1) (rfl:(m1:Int) = (m1:Int)) hx1
   dsimp only at a1
   obtain ⟨nm1,hnm1⟩:∃ s,str z1_0 = s:=⟨_,rfl⟩
   obtain ⟨b1,o1,_,_,rfl,-,hb1,y1,-⟩:=trip_at HH.out.2.2.2.2.1 hx1 hnm1
   obtain ⟨b,o,rfl,hb,r0,r1,r2,r3⟩:=four_at ((HH.out.2.2.2.2.2.1).below HX.out.base) hx
   obtain ⟨w7,h7⟩:∃ X,wr.alloc (.cells #[.int .i64 (m1:Int),.int .i64 fm,.int .i64 te,.int .i64 ev] 118 (0,0)) = X:=⟨_,rfl⟩
   have b7:Below wr.heap.size wr w7:=by rw [← h7]; exact (Below.refl _ _).alloc (Nat.le_refl _) _
   have k7:w7.heap[wr.heap.size]? = some (.cells #[.int .i64 (m1:Int),.int .i64 fm,.int .i64 te,.int .i64 ev] 118 (0,0)):=by rw [← h7]; exact heap_alloc_new wr _
   have l7:wr.heap.size < w7.heap.size:=(Array.getElem?_eq_some_iff.1 k7).1
   have Xw7:Hid (Wrx w F _ ([(W.heap.size,.cells #[.slice A0 T.st.length n0,.slice A1 T.ro.length n1,.slice A2 T.ca.length n2,.slice A3 T.ex.length n3,.slice (some ⟨b1,o1,none⟩) T.tr.length n4,.slice (some ⟨b,o,none⟩) T.fr.length n5,.slice A6 T.th.length n6,.slice A7 T.gu.length n7,.slice A8 T.pa.length n8,.slice A9 T.pr.length n9,.int .i64 T.di,.int .i64 T.wi,.int .i64 T.cp] 36 (0,0))] ++ [(wr.heap.size,.cells #[.int .i64 (m1:Int),.int .i64 fm,.int .i64 te,.int .i64 ev] 118 (0,0))]) w7):=Lib.hid (HX.out.more b7 (Nat.le_refl _) k7)
   obtain ⟨w7d,hw7d⟩:∃ X,World.drew w7 = X:=⟨_,rfl⟩
   have dw7d:Below w7.heap.size w7 w7d:=by rw [← hw7d]; exact (Below.refl _ _).drew
   have Xw7d:=Lib.hid (Xw7.out.on dw7d)
   have SF:Hid (∀ (R:List (List Bs)) (X:World),Wrx w F R ([(W.heap.size,.cells #[.slice A0 T.st.length n0,.slice A1 T.ro.length n1,.slice A2 T.ca.length n2,.slice A3 T.ex.length n3,.slice (some ⟨b1,o1,none⟩) T.tr.length n4,.slice (some ⟨b,o,none⟩) T.fr.length n5,.slice A6 T.th.length n6,.slice A7 T.gu.length n7,.slice A8 T.pa.length n8,.slice A9 T.pr.length n9,.int .i64 T.di,.int .i64 T.wi,.int .i64 T.cp] 36 (0,0))] ++ [(wr.heap.size,.cells #[.int .i64 (m1:Int),.int .i64 fm,.int .i64 te,.int .i64 ev] 118 (0,0))]) X→X.cell? ⟨W.heap.size,4,none⟩ = some (.slice (some ⟨b1,o1,none⟩) T.tr.length n4)∧X.cell? ⟨wr.heap.size,0,none⟩ = some (.int .i64 (m1:Int))∧X.cell? ⟨b1,o1 + m1 * 5,none⟩ = some (.string nm1)∧X.cell? ⟨wr.heap.size,1,none⟩ = some (.int .i64 fm)∧X.cell? ⟨wr.heap.size,2,none⟩ = some (.int .i64 te)∧X.cell? ⟨wr.heap.size,3,none⟩ = some (.int .i64 ev)):=Lib.hid (fun R X hX=>⟨by rw [cell_of_row _ _ _ _ _ _ (hX.row (i:=0) rfl)]; rfl,by rw [cell_of_row _ _ _ _ _ _ (hX.row (i:=1) rfl)]; rfl,(hX.base.cell (p:=⟨b1,o1 + m1 * 5,none⟩) hb1).trans y1,by rw [cell_of_row _ _ _ _ _ _ (hX.row (i:=1) rfl)]; rfl,by rw [cell_of_row _ _ _ _ _ _ (hX.row (i:=1) rfl)]; rfl,by rw [cell_of_row _ _ _ _ _ _ (hX.row (i:=1) rfl)]; rfl⟩)
   clear dw7d
   clear k7 b7
   go_wp2_with fail
   refine startT (S:=fun X=>X.cell? ⟨W.heap.size,4,none⟩ = some (.slice (some ⟨b1,o1,none⟩) T.tr.length n4)∧X.cell? ⟨wr.heap.size,0,none⟩ = some (.int .i64 (m1:Int))∧X.cell? ⟨b1,o1 + m1 * 5,none⟩ = some (.string nm1)∧X.cell? ⟨wr.heap.size,1,none⟩ = some (.int .i64 fm)∧X.cell? ⟨wr.heap.size,2,none⟩ = some (.int .i64 te)∧X.cell? ⟨wr.heap.size,3,none⟩ = some (.int .i64 ev)) _ 19 rfl (by kernel_rfl) (by kernel_rfl) (by kernel_rfl) (bitsL 19 0) (by kernel_rfl) (by (first | rw [hw7d] | rw [h3,hw7d]); exact SF.out _ _ Xw7d.out) (fun _=>?_)
   first | rw [hw7d] | rw [h3,hw7d]
   refine takesT (L:=[(0,19,pt F 0),(1,20,pt W.heap.size 4),(2,21,.slice (some ⟨b1,o1,none⟩) T.tr.length n4),(3,22,pt wr.heap.size 0),(4,23,.int .i64 (m1:Int)),(5,24,pt b1 (o1 + m1 * 5)),(6,25,pt b1 (o1 + m1 * 5)),(7,26,.string nm1),(8,27,pt wr.heap.size 1),(9,28,.int .i64 fm),(11,30,pt wr.heap.size 2),(12,31,.int .i64 te),(14,33,pt wr.heap.size 3),(15,34,.int .i64 ev)]) (.q (.q (.cons rfl rfl (.inl ⟨rfl,fun _ h=>by obtain ⟨y0,y1,y2,y3,y4,y5⟩:=h; dsimp only [pt]; go_simp; try with_reducible rfl⟩) (.q (.cons rfl rfl (.inl ⟨rfl,fun _ h=>by obtain ⟨y0,y1,y2,y3,y4,y5⟩:=h; dsimp only [pt]; go_simp; try with_reducible rfl⟩) (.cons rfl rfl (.inl ⟨rfl,fun _ _=>exec_ixaddr 27 56 (.tmp 21) (.tmp 23) (by kernel_rfl) b1 o1 T.tr.length n4 m1 5 (by kernel_rfl) (by kernel_rfl) (by omega) Tryz.underlying27 (fun w=>by simp [Tryz.sizeOf56])⟩) (.q (.cons rfl rfl (.inl ⟨rfl,fun _ h=>by obtain ⟨y0,y1,y2,y3,y4,y5⟩:=h; dsimp only [pt]; go_simp; try with_reducible rfl⟩) (.q (.cons rfl rfl (.inl ⟨rfl,fun _ h=>by obtain ⟨y0,y1,y2,y3,y4,y5⟩:=h; dsimp only [pt]; go_simp; try with_reducible rfl⟩) (.q (.cons rfl rfl (.inl ⟨rfl,fun _ h=>by obtain ⟨y0,y1,y2,y3,y4,y5⟩:=h; dsimp only [pt]; go_simp; try with_reducible rfl⟩) (.q (.cons rfl rfl (.inl ⟨rfl,fun _ h=>by obtain ⟨y0,y1,y2,y3,y4,y5⟩:=h; dsimp only [pt]; go_simp; try with_reducible rfl⟩) .nil)))))))))))))) [0,1,2,3,4,5,6,7,8,9,11,12,14,15] rfl rfl (by kernel_rfl) (fun _ _ _ _ _ h=>h) (SF.out _ _ Xw7d.out) ?_
   have bw7d:=Below.refl w7d.heap.size w7d
   refine callT (i:=10) (R:=fun u X=>u = .string (str (F_.timT fm))∧Below w7d.heap.size w7d X) 29 _ rfl (by kernel_rfl) rfl rfl rfl (by kernel_rfl) ((wtime_any (FW.out.tim fm v2 v3 w7d (Xw7d.out.base.trans (bw7d.mono Xw7d.out.base.size)))).mono fun e w' h=>⟨_,h.1,rfl,h.2⟩) ?_
   rintro u w7d_0 ⟨rfl,cw7d_0⟩
   have bw7d_0:=bw7d.trans (cw7d_0.mono bw7d.size)
   refine ⟨SF.out _ _ (Xw7d.out.on bw7d_0),?_⟩
   refine callT (i:=13) (R:=fun u X=>u = .string (str (F_.timT te))∧Below w7d_0.heap.size w7d_0 X) 32 _ rfl (by kernel_rfl) rfl rfl rfl (by kernel_rfl) ((wtime_any (FW.out.tim te v4 v5 w7d_0 (Xw7d.out.base.trans (bw7d_0.mono Xw7d.out.base.size)))).mono fun e w' h=>⟨_,h.1,rfl,h.2⟩) ?_
   rintro u w7d_1 ⟨rfl,cw7d_1⟩
   have bw7d_1:=bw7d_0.trans (cw7d_1.mono bw7d_0.size)
   refine ⟨SF.out _ _ (Xw7d.out.on bw7d_1),?_⟩
   refine callT (i:=16) (R:=fun u X=>u = .string (str (F_.durT ev))∧Below w7d_1.heap.size w7d_1 X) 35 _ rfl (by kernel_rfl) rfl rfl rfl (by kernel_rfl) ((wduration_any (FW.out.dur ev v6 v7 w7d_1 (Xw7d.out.base.trans (bw7d_1.mono Xw7d.out.base.size)))).mono fun e w' h=>⟨_,h.1,rfl,h.2⟩) ?_
   rintro u w7d_2 ⟨rfl,cw7d_2⟩
   have bw7d_2:=bw7d_1.trans (cw7d_2.mono bw7d_1.size)
   refine ⟨SF.out _ _ (Xw7d.out.on bw7d_2),?_⟩
   obtain ⟨w7ds,hw7ds⟩:∃ X,w7d_2.alloc (.cells #[.string (str wFr),.string nm1,.string (str (F_.timT fm)),.string (str (F_.timT te)),.string (str (F_.durT ev))] 9 (0,0)) = X:=⟨_,rfl⟩
   have cw7ds:Below w7d_2.heap.size w7d_2 w7ds:=by rw [← hw7ds]; exact (Below.refl _ _).alloc (Nat.le_refl _) _
   have bw7ds:=bw7d_2.trans (cw7ds.mono bw7d_2.size)
   have LL:Lst w7ds (.slice (some ⟨w7d_2.heap.size,0,none⟩) 5 5) (rFr F_ T ((m1:Int),fm,te,ev)):=by
    rw [← hw7ds]
    exact lst_lits w7d_2 #[.string (str wFr),.string nm1,.string (str (F_.timT fm)),.string (str (F_.timT te)),.string (str (F_.durT ev))] (rFr F_ T ((m1:Int),fm,te,ev)) (by rw [← hnm1,← a1]; rfl) 5 rfl
   refine makeT (i:=17) (v:=.slice (some ⟨w7d_2.heap.size,0,none⟩) 5 5) (w':=w7ds) 36 _ rfl (by kernel_rfl) rfl rfl rfl (by rw [← hw7ds]; kernel_rfl) (SF.out _ _ (Xw7d.out.on bw7ds)) rfl ?_
   refine callW (i:=18) 37 _ rfl (by kernel_rfl) rfl rfl (by kernel_rfl) (by kernel_rfl) (wrx_rec (Xw7d.out.on bw7ds) RLB _ _ LL (SR.out)) ?_
   intro wz hz
   refine ⟨SF.out _ _ hz,?_⟩
   refine doneT (by kernel_rfl) ?_
   have HZ2:=Lib.hid hz.less
   clear hz
   go_wp2_with fail
   go_roundw
   case rel=>exact ⟨k + 1,by go_num,by omega,Lib.hid (by rw [take_map _ hx]; exact HZ2.out)⟩
   case measure=>simp [intOf]; omega
  ·have d:decide (k < T.fr.length) = false:=by rw [decide_eq_false_iff_not]; exact hlt
   have X1:Hid (Wrx w F (R0 ++ T.fr.map (rFr F_ T)) [(W.heap.size,.cells #[.slice A0 T.st.length n0,.slice A1 T.ro.length n1,.slice A2 T.ca.length n2,.slice A3 T.ex.length n3,.slice A4 T.tr.length n4,.slice A5 T.fr.length n5,.slice A6 T.th.length n6,.slice A7 T.gu.length n7,.slice A8 T.pa.length n8,.slice A9 T.pr.length n9,.int .i64 T.di,.int .i64 T.wi,.int .i64 T.cp] 36 (0,0))] wr):=Lib.hid (by have h:=HX.out; rw [List.take_of_length_le (by omega)] at h; exact h)
   have q0:wr.cell? ⟨W.heap.size,6,none⟩ = some (.slice A6 T.th.length n6):=by rw [cell_of_row _ _ _ _ _ _ (X1.out.row (i:=0) rfl)]; rfl
   clear HX hlt hk
   go_wp2_with fail
   clear q0 d
   go_loopw [42] (fun i wr=>∃ k:Nat,i = .int .i64 k∧k≤T.th.length∧Hid (Wrx w F (R0 ++ T.fr.map (rFr F_ T) ++ (T.th.take k).map (rTh T)) [(W.heap.size,.cells #[.slice A0 T.st.length n0,.slice A1 T.ro.length n1,.slice A2 T.ca.length n2,.slice A3 T.ex.length n3,.slice A4 T.tr.length n4,.slice A5 T.fr.length n5,.slice A6 T.th.length n6,.slice A7 T.gu.length n7,.slice A8 T.pa.length n8,.slice A9 T.pr.length n9,.int .i64 T.di,.int .i64 T.wi,.int .i64 T.cp] 36 (0,0))] wr)) (fun i _=>T.th.length - (intOf i).toNat)
   case atStart=>exact ⟨0,rfl,Nat.zero_le _,Lib.hid (by rw [List.take_zero,List.map_nil,List.append_nil]; exact X1.out)⟩
   case round =>
    obtain ⟨k,rfl,hk,HX⟩:=hrel
    by_cases hlt:k < T.th.length
    ·have gk:(k:Int) < (T.th.length:Int):=by omega
     have lb:=L.th
     have RLB:(R0 ++ T.fr.map (rFr F_ T) ++ (T.th.take k).map (rTh T)).length≤1000000:=by
      have l0:=L.st
      have l1:=L.ro
      have l2:=L.ca
      have l3:=L.ex
      have l5:=L.fr
      have l6:=L.th
      have l7:=L.gu
      have l8:=L.pa
      have l9:=L.pr
      have lk:=List.length_take_le k T.th
      simp only [List.length_append,List.length_map]
      omega
     obtain ⟨⟨ta,tb⟩,hx⟩:=at_lt hlt
     have hm:=List.mem_of_getElem? hx
     obtain ⟨⟨v0,v1⟩,v2,v3⟩:=V.th _ hm
     dsimp only at v0 v1 v2 v3
     have SR:=Lib.hid (shr_th (x:=(ta,tb)) L)
     clear hm
     obtain ⟨m1,q1⟩:∃ m:Nat,ta = (m:Int):=⟨ta.toNat,by omega⟩
     subst q1
     obtain ⟨⟨z1_0,z1_1,z1_2,z1_3,z1_4,z1_5⟩,hx1⟩:=at_lt (l:=T.tr) (k:=m1) (by omega)
     have a1:=atI_map (f:=fun x=>x.1) (rfl:(m1:Int) = (m1:Int)) hx1
     dsimp only at a1
     obtain ⟨nm1,hnm1⟩:∃ s,str z1_0 = s:=⟨_,rfl⟩
     obtain ⟨b1,o1,_,_,rfl,-,hb1,y1,-⟩:=trip_at HH.out.2.2.2.2.1 hx1 hnm1
     obtain ⟨m2,q2⟩:∃ m:Nat,tb = (m:Int):=⟨tb.toNat,by omega⟩
     subst q2
     obtain ⟨⟨z2_0,z2_1,z2_2,z2_3,z2_4,z2_5⟩,hx2⟩:=at_lt (l:=T.tr) (k:=m2) (by omega)
     have a2:=atI_map (f:=fun x=>x.1) (rfl:(m2:Int) = (m2:Int)) hx2
     dsimp only at a2
     obtain ⟨nm2,hnm2⟩:∃ s,str z2_0 = s:=⟨_,rfl⟩
     obtain ⟨b2,o2,_,_,e2,-,hb2,y2,-⟩:=trip_at HH.out.2.2.2.2.1 hx2 hnm2
     obtain ⟨rfl,rfl⟩:=adr_inj e2
     obtain ⟨b,o,rfl,hb,r0,r1⟩:=S19.two_hh ((HH.out.2.2.2.2.2.2.1).below HX.out.base) hx
     obtain ⟨w7,h7⟩:∃ X,wr.alloc (.cells #[.int .i64 (m1:Int),.int .i64 (m2:Int)] 120 (0,0)) = X:=⟨_,rfl⟩
     have b7:Below wr.heap.size wr w7:=by rw [← h7]; exact (Below.refl _ _).alloc (Nat.le_refl _) _
     have k7:w7.heap[wr.heap.size]? = some (.cells #[.int .i64 (m1:Int),.int .i64 (m2:Int)] 120 (0,0)):=by rw [← h7]; exact heap_alloc_new wr _
     have l7:wr.heap.size < w7.heap.size:=(Array.getElem?_eq_some_iff.1 k7).1
     have Xw7:Hid (Wrx w F _ ([(W.heap.size,.cells #[.slice A0 T.st.length n0,.slice A1 T.ro.length n1,.slice A2 T.ca.length n2,.slice A3 T.ex.length n3,.slice (some ⟨b1,o1,none⟩) T.tr.length n4,.slice A5 T.fr.length n5,.slice (some ⟨b,o,none⟩) T.th.length n6,.slice A7 T.gu.length n7,.slice A8 T.pa.length n8,.slice A9 T.pr.length n9,.int .i64 T.di,.int .i64 T.wi,.int .i64 T.cp] 36 (0,0))] ++ [(wr.heap.size,.cells #[.int .i64 (m1:Int),.int .i64 (m2:Int)] 120 (0,0))]) w7):=Lib.hid (HX.out.more b7 (Nat.le_refl _) k7)
     obtain ⟨w7d,hw7d⟩:∃ X,World.drew w7 = X:=⟨_,rfl⟩
     have dw7d:Below w7.heap.size w7 w7d:=by rw [← hw7d]; exact (Below.refl _ _).drew
     have Xw7d:=Lib.hid (Xw7.out.on dw7d)
     have SF:Hid (∀ (R:List (List Bs)) (X:World),Wrx w F R ([(W.heap.size,.cells #[.slice A0 T.st.length n0,.slice A1 T.ro.length n1,.slice A2 T.ca.length n2,.slice A3 T.ex.length n3,.slice (some ⟨b1,o1,none⟩) T.tr.length n4,.slice A5 T.fr.length n5,.slice (some ⟨b,o,none⟩) T.th.length n6,.slice A7 T.gu.length n7,.slice A8 T.pa.length n8,.slice A9 T.pr.length n9,.int .i64 T.di,.int .i64 T.wi,.int .i64 T.cp] 36 (0,0))] ++ [(wr.heap.size,.cells #[.int .i64 (m1:Int),.int .i64 (m2:Int)] 120 (0,0))]) X→X.cell? ⟨W.heap.size,4,none⟩ = some (.slice (some ⟨b1,o1,none⟩) T.tr.length n4)∧X.cell? ⟨wr.heap.size,0,none⟩ = some (.int .i64 (m1:Int))∧X.cell? ⟨b1,o1 + m1 * 5,none⟩ = some (.string nm1)∧X.cell? ⟨wr.heap.size,1,none⟩ = some (.int .i64 (m2:Int))∧X.cell? ⟨b1,o1 + m2 * 5,none⟩ = some (.string nm2)):=Lib.hid (fun R X hX=>⟨by rw [cell_of_row _ _ _ _ _ _ (hX.row (i:=0) rfl)]; rfl,by rw [cell_of_row _ _ _ _ _ _ (hX.row (i:=1) rfl)]; rfl,(hX.base.cell (p:=⟨b1,o1 + m1 * 5,none⟩) hb1).trans y1,by rw [cell_of_row _ _ _ _ _ _ (hX.row (i:=1) rfl)]; rfl,(hX.base.cell (p:=⟨b1,o1 + m2 * 5,none⟩) hb1).trans y2⟩)
     clear dw7d
     clear k7 b7
     go_wp2_with fail
     refine startT (S:=fun X=>X.cell? ⟨W.heap.size,4,none⟩ = some (.slice (some ⟨b1,o1,none⟩) T.tr.length n4)∧X.cell? ⟨wr.heap.size,0,none⟩ = some (.int .i64 (m1:Int))∧X.cell? ⟨b1,o1 + m1 * 5,none⟩ = some (.string nm1)∧X.cell? ⟨wr.heap.size,1,none⟩ = some (.int .i64 (m2:Int))∧X.cell? ⟨b1,o1 + m2 * 5,none⟩ = some (.string nm2)) _ 17 rfl (by kernel_rfl) (by kernel_rfl) (by kernel_rfl) (bitsL 17 0) (by kernel_rfl) (by (first | rw [hw7d] | rw [h3,hw7d]); exact SF.out _ _ Xw7d.out) (fun _=>?_)
     first | rw [hw7d] | rw [h3,hw7d]
     refine takesT (L:=[(0,46,pt F 0),(1,47,pt W.heap.size 4),(2,48,.slice (some ⟨b1,o1,none⟩) T.tr.length n4),(3,49,pt wr.heap.size 0),(4,50,.int .i64 (m1:Int)),(5,51,pt b1 (o1 + m1 * 5)),(6,52,pt b1 (o1 + m1 * 5)),(7,53,.string nm1),(8,54,pt W.heap.size 4),(9,55,.slice (some ⟨b1,o1,none⟩) T.tr.length n4),(10,56,pt wr.heap.size 1),(11,57,.int .i64 (m2:Int)),(12,58,pt b1 (o1 + m2 * 5)),(13,59,pt b1 (o1 + m2 * 5)),(14,60,.string nm2)]) (.q (.q (.cons rfl rfl (.inl ⟨rfl,fun _ h=>by obtain ⟨y0,y1,y2,y3,y4⟩:=h; dsimp only [pt]; go_simp; try with_reducible rfl⟩) (.q (.cons rfl rfl (.inl ⟨rfl,fun _ h=>by obtain ⟨y0,y1,y2,y3,y4⟩:=h; dsimp only [pt]; go_simp; try with_reducible rfl⟩) (.cons rfl rfl (.inl ⟨rfl,fun _ _=>exec_ixaddr 27 56 (.tmp 48) (.tmp 50) (by kernel_rfl) b1 o1 T.tr.length n4 m1 5 (by kernel_rfl) (by kernel_rfl) (by omega) Tryz.underlying27 (fun w=>by simp [Tryz.sizeOf56])⟩) (.q (.cons rfl rfl (.inl ⟨rfl,fun _ h=>by obtain ⟨y0,y1,y2,y3,y4⟩:=h; dsimp only [pt]; go_simp; try with_reducible rfl⟩) (.q (.cons rfl rfl (.inl ⟨rfl,fun _ h=>by obtain ⟨y0,y1,y2,y3,y4⟩:=h; dsimp only [pt]; go_simp; try with_reducible rfl⟩) (.q (.cons rfl rfl (.inl ⟨rfl,fun _ h=>by obtain ⟨y0,y1,y2,y3,y4⟩:=h; dsimp only [pt]; go_simp; try with_reducible rfl⟩) (.cons rfl rfl (.inl ⟨rfl,fun _ _=>exec_ixaddr 27 56 (.tmp 55) (.tmp 57) (by kernel_rfl) b1 o1 T.tr.length n4 m2 5 (by kernel_rfl) (by kernel_rfl) (by omega) Tryz.underlying27 (fun w=>by simp [Tryz.sizeOf56])⟩) (.q (.cons rfl rfl (.inl ⟨rfl,fun _ h=>by obtain ⟨y0,y1,y2,y3,y4⟩:=h; dsimp only [pt]; go_simp; try with_reducible rfl⟩) .nil))))))))))))))) [0,1,2,3,4,5,6,7,8,9,10,11,12,13,14] rfl rfl (by kernel_rfl) (fun _ _ _ _ _ h=>h) (SF.out _ _ Xw7d.out) ?_
     have bw7d:=Below.refl w7d.heap.size w7d
     obtain ⟨w7ds,hw7ds⟩:∃ X,w7d.alloc (.cells #[.string (str wTh),.string nm1,.string nm2] 9 (0,0)) = X:=⟨_,rfl⟩
     have cw7ds:Below w7d.heap.size w7d w7ds:=by rw [← hw7ds]; exact (Below.refl _ _).alloc (Nat.le_refl _) _
     have bw7ds:=bw7d.trans (cw7ds.mono bw7d.size)
     have LL:Lst w7ds (.slice (some ⟨w7d.heap.size,0,none⟩) 3 3) (rTh T ((m1:Int),(m2:Int))):=by
      rw [← hw7ds]
      exact lst_lits w7d #[.string (str wTh),.string nm1,.string nm2] (rTh T ((m1:Int),(m2:Int))) (by rw [← hnm1,← a1]; rw [← hnm2,← a2]; rfl) 3 rfl
     refine makeT (i:=15) (v:=.slice (some ⟨w7d.heap.size,0,none⟩) 3 3) (w':=w7ds) 61 _ rfl (by kernel_rfl) rfl rfl rfl (by rw [← hw7ds]; kernel_rfl) (SF.out _ _ (Xw7d.out.on bw7ds)) rfl ?_
     refine callW (i:=16) 62 _ rfl (by kernel_rfl) rfl rfl (by kernel_rfl) (by kernel_rfl) (wrx_rec (Xw7d.out.on bw7ds) RLB _ _ LL (SR.out)) ?_
     intro wz hz
     refine ⟨SF.out _ _ hz,?_⟩
     refine doneT (by kernel_rfl) ?_
     have HZ2:=Lib.hid hz.less
     clear hz
     go_wp2_with fail
     go_roundw
     case rel=>exact ⟨k + 1,by go_num,by omega,Lib.hid (by rw [take_map _ hx]; exact HZ2.out)⟩
     case measure=>simp [intOf]; omega
    ·have d:decide (k < T.th.length) = false:=by rw [decide_eq_false_iff_not]; exact hlt
     have X2:Hid (Wrx w F (R0 ++ T.fr.map (rFr F_ T) ++ T.th.map (rTh T)) [(W.heap.size,.cells #[.slice A0 T.st.length n0,.slice A1 T.ro.length n1,.slice A2 T.ca.length n2,.slice A3 T.ex.length n3,.slice A4 T.tr.length n4,.slice A5 T.fr.length n5,.slice A6 T.th.length n6,.slice A7 T.gu.length n7,.slice A8 T.pa.length n8,.slice A9 T.pr.length n9,.int .i64 T.di,.int .i64 T.wi,.int .i64 T.cp] 36 (0,0))] wr):=Lib.hid (by have h:=HX.out; rw [List.take_of_length_le (by omega)] at h; exact h)
     have q0:wr.cell? ⟨W.heap.size,7,none⟩ = some (.slice A7 T.gu.length n7):=by rw [cell_of_row _ _ _ _ _ _ (X2.out.row (i:=0) rfl)]; rfl
     clear HX hlt hk
     go_wp2_with fail
     clear q0 d
     go_loopw [67] (fun i wr=>∃ k:Nat,i = .int .i64 k∧k≤T.gu.length∧Hid (Wrx w F (R0 ++ T.fr.map (rFr F_ T) ++ T.th.map (rTh T) ++ (T.gu.take k).map (rGu T)) [(W.heap.size,.cells #[.slice A0 T.st.length n0,.slice A1 T.ro.length n1,.slice A2 T.ca.length n2,.slice A3 T.ex.length n3,.slice A4 T.tr.length n4,.slice A5 T.fr.length n5,.slice A6 T.th.length n6,.slice A7 T.gu.length n7,.slice A8 T.pa.length n8,.slice A9 T.pr.length n9,.int .i64 T.di,.int .i64 T.wi,.int .i64 T.cp] 36 (0,0))] wr)) (fun i _=>T.gu.length - (intOf i).toNat)
     case atStart=>exact ⟨0,rfl,Nat.zero_le _,Lib.hid (by rw [List.take_zero,List.map_nil,List.append_nil]; exact X2.out)⟩
     case round =>
      obtain ⟨k,rfl,hk,HX⟩:=hrel
      by_cases hlt:k < T.gu.length
      ·have gk:(k:Int) < (T.gu.length:Int):=by omega
       have lb:=L.gu
       have RLB:(R0 ++ T.fr.map (rFr F_ T) ++ T.th.map (rTh T) ++ (T.gu.take k).map (rGu T)).length≤1000000:=by
        have l0:=L.st
        have l1:=L.ro
        have l2:=L.ca
        have l3:=L.ex
        have l5:=L.fr
        have l6:=L.th
        have l7:=L.gu
        have l8:=L.pa
        have l9:=L.pr
        have lk:=List.length_take_le k T.gu
        simp only [List.length_append,List.length_map]
        omega
       obtain ⟨⟨ta,tb,si⟩,hx⟩:=at_lt hlt
       have hm:=List.mem_of_getElem? hx
       obtain ⟨⟨v0,v1⟩,⟨v2,v3⟩,v4,v5⟩:=V.gu _ hm
       dsimp only at v0 v1 v2 v3 v4 v5
       have SR:=Lib.hid (shr_gu (x:=(ta,tb,si)) L)
       clear hm
       obtain ⟨m1,q1⟩:∃ m:Nat,ta = (m:Int):=⟨ta.toNat,by omega⟩
       subst q1
       obtain ⟨⟨z1_0,z1_1,z1_2,z1_3,z1_4,z1_5⟩,hx1⟩:=at_lt (l:=T.tr) (k:=m1) (by omega)
       have a1:=atI_map (f:=fun x=>x.1) (rfl:(m1:Int) = (m1:Int)) hx1
       dsimp only at a1
       obtain ⟨nm1,hnm1⟩:∃ s,str z1_0 = s:=⟨_,rfl⟩
       obtain ⟨b1,o1,_,_,rfl,-,hb1,y1,-⟩:=trip_at HH.out.2.2.2.2.1 hx1 hnm1
       obtain ⟨m2,q2⟩:∃ m:Nat,tb = (m:Int):=⟨tb.toNat,by omega⟩
       subst q2
       obtain ⟨⟨z2_0,z2_1,z2_2,z2_3,z2_4,z2_5⟩,hx2⟩:=at_lt (l:=T.tr) (k:=m2) (by omega)
       have a2:=atI_map (f:=fun x=>x.1) (rfl:(m2:Int) = (m2:Int)) hx2
       dsimp only at a2
       obtain ⟨nm2,hnm2⟩:∃ s,str z2_0 = s:=⟨_,rfl⟩
       obtain ⟨b2,o2,_,_,e2,-,hb2,y2,-⟩:=trip_at HH.out.2.2.2.2.1 hx2 hnm2
       obtain ⟨rfl,rfl⟩:=adr_inj e2
       obtain ⟨m3,q3⟩:∃ m:Nat,si = (m:Int):=⟨si.toNat,by omega⟩
       subst q3
       obtain ⟨⟨z3_0,z3_1,z3_2,z3_3⟩,hx3⟩:=at_lt (l:=T.st) (k:=m3) (by omega)
       have a3:=atI_map (f:=fun x=>x.1) (rfl:(m3:Int) = (m3:Int)) hx3
       dsimp only at a3
       obtain ⟨nm3,hnm3⟩:∃ s,str z3_0 = s:=⟨_,rfl⟩
       obtain ⟨b3,o3,rfl,hb3,y3,-,-,-⟩:=S13.four_at HH.out.1 hx3 hnm3
       obtain ⟨b,o,rfl,hb,r0,r1,r2⟩:=S19.three_gg ((HH.out.2.2.2.2.2.2.2.1).below HX.out.base) hx
       obtain ⟨w7,h7⟩:∃ X,wr.alloc (.cells #[.int .i64 (m1:Int),.int .i64 (m2:Int),.int .i64 (m3:Int)] 122 (0,0)) = X:=⟨_,rfl⟩
       have b7:Below wr.heap.size wr w7:=by rw [← h7]; exact (Below.refl _ _).alloc (Nat.le_refl _) _
       have k7:w7.heap[wr.heap.size]? = some (.cells #[.int .i64 (m1:Int),.int .i64 (m2:Int),.int .i64 (m3:Int)] 122 (0,0)):=by rw [← h7]; exact heap_alloc_new wr _
       have l7:wr.heap.size < w7.heap.size:=(Array.getElem?_eq_some_iff.1 k7).1
       have Xw7:Hid (Wrx w F _ ([(W.heap.size,.cells #[.slice (some ⟨b3,o3,none⟩) T.st.length n0,.slice A1 T.ro.length n1,.slice A2 T.ca.length n2,.slice A3 T.ex.length n3,.slice (some ⟨b1,o1,none⟩) T.tr.length n4,.slice A5 T.fr.length n5,.slice A6 T.th.length n6,.slice (some ⟨b,o,none⟩) T.gu.length n7,.slice A8 T.pa.length n8,.slice A9 T.pr.length n9,.int .i64 T.di,.int .i64 T.wi,.int .i64 T.cp] 36 (0,0))] ++ [(wr.heap.size,.cells #[.int .i64 (m1:Int),.int .i64 (m2:Int),.int .i64 (m3:Int)] 122 (0,0))]) w7):=Lib.hid (HX.out.more b7 (Nat.le_refl _) k7)
       obtain ⟨w7d,hw7d⟩:∃ X,World.drew w7 = X:=⟨_,rfl⟩
       have dw7d:Below w7.heap.size w7 w7d:=by rw [← hw7d]; exact (Below.refl _ _).drew
       have Xw7d:=Lib.hid (Xw7.out.on dw7d)
       have SF:Hid (∀ (R:List (List Bs)) (X:World),Wrx w F R ([(W.heap.size,.cells #[.slice (some ⟨b3,o3,none⟩) T.st.length n0,.slice A1 T.ro.length n1,.slice A2 T.ca.length n2,.slice A3 T.ex.length n3,.slice (some ⟨b1,o1,none⟩) T.tr.length n4,.slice A5 T.fr.length n5,.slice A6 T.th.length n6,.slice (some ⟨b,o,none⟩) T.gu.length n7,.slice A8 T.pa.length n8,.slice A9 T.pr.length n9,.int .i64 T.di,.int .i64 T.wi,.int .i64 T.cp] 36 (0,0))] ++ [(wr.heap.size,.cells #[.int .i64 (m1:Int),.int .i64 (m2:Int),.int .i64 (m3:Int)] 122 (0,0))]) X→X.cell? ⟨W.heap.size,4,none⟩ = some (.slice (some ⟨b1,o1,none⟩) T.tr.length n4)∧X.cell? ⟨wr.heap.size,0,none⟩ = some (.int .i64 (m1:Int))∧X.cell? ⟨b1,o1 + m1 * 5,none⟩ = some (.string nm1)∧X.cell? ⟨wr.heap.size,1,none⟩ = some (.int .i64 (m2:Int))∧X.cell? ⟨b1,o1 + m2 * 5,none⟩ = some (.string nm2)∧X.cell? ⟨W.heap.size,0,none⟩ = some (.slice (some ⟨b3,o3,none⟩) T.st.length n0)∧X.cell? ⟨wr.heap.size,2,none⟩ = some (.int .i64 (m3:Int))∧X.cell? ⟨b3,o3 + m3 * 4,none⟩ = some (.string nm3)):=Lib.hid (fun R X hX=>⟨by rw [cell_of_row _ _ _ _ _ _ (hX.row (i:=0) rfl)]; rfl,by rw [cell_of_row _ _ _ _ _ _ (hX.row (i:=1) rfl)]; rfl,(hX.base.cell (p:=⟨b1,o1 + m1 * 5,none⟩) hb1).trans y1,by rw [cell_of_row _ _ _ _ _ _ (hX.row (i:=1) rfl)]; rfl,(hX.base.cell (p:=⟨b1,o1 + m2 * 5,none⟩) hb1).trans y2,by rw [cell_of_row _ _ _ _ _ _ (hX.row (i:=0) rfl)]; rfl,by rw [cell_of_row _ _ _ _ _ _ (hX.row (i:=1) rfl)]; rfl,(hX.base.cell (p:=⟨b3,o3 + m3 * 4,none⟩) hb3).trans y3⟩)
       clear dw7d
       clear k7 b7
       go_wp2_with fail
       refine startT (S:=fun X=>X.cell? ⟨W.heap.size,4,none⟩ = some (.slice (some ⟨b1,o1,none⟩) T.tr.length n4)∧X.cell? ⟨wr.heap.size,0,none⟩ = some (.int .i64 (m1:Int))∧X.cell? ⟨b1,o1 + m1 * 5,none⟩ = some (.string nm1)∧X.cell? ⟨wr.heap.size,1,none⟩ = some (.int .i64 (m2:Int))∧X.cell? ⟨b1,o1 + m2 * 5,none⟩ = some (.string nm2)∧X.cell? ⟨W.heap.size,0,none⟩ = some (.slice (some ⟨b3,o3,none⟩) T.st.length n0)∧X.cell? ⟨wr.heap.size,2,none⟩ = some (.int .i64 (m3:Int))∧X.cell? ⟨b3,o3 + m3 * 4,none⟩ = some (.string nm3)) _ 24 rfl (by kernel_rfl) (by kernel_rfl) (by kernel_rfl) (bitsL 24 0) (by kernel_rfl) (by (first | rw [hw7d] | rw [h3,hw7d]); exact SF.out _ _ Xw7d.out) (fun _=>?_)
       first | rw [hw7d] | rw [h3,hw7d]
       refine takesT (L:=[(0,71,pt F 0),(1,72,pt W.heap.size 4),(2,73,.slice (some ⟨b1,o1,none⟩) T.tr.length n4),(3,74,pt wr.heap.size 0),(4,75,.int .i64 (m1:Int)),(5,76,pt b1 (o1 + m1 * 5)),(6,77,pt b1 (o1 + m1 * 5)),(7,78,.string nm1),(8,79,pt W.heap.size 4),(9,80,.slice (some ⟨b1,o1,none⟩) T.tr.length n4),(10,81,pt wr.heap.size 1),(11,82,.int .i64 (m2:Int)),(12,83,pt b1 (o1 + m2 * 5)),(13,84,pt b1 (o1 + m2 * 5)),(14,85,.string nm2),(15,86,pt W.heap.size 0),(16,87,.slice (some ⟨b3,o3,none⟩) T.st.length n0),(17,88,pt wr.heap.size 2),(18,89,.int .i64 (m3:Int)),(19,90,pt b3 (o3 + m3 * 4)),(20,91,pt b3 (o3 + m3 * 4)),(21,92,.string nm3)]) (.q (.q (.cons rfl rfl (.inl ⟨rfl,fun _ h=>by obtain ⟨y0,y1,y2,y3,y4,y5,y6,y7⟩:=h; dsimp only [pt]; go_simp; try with_reducible rfl⟩) (.q (.cons rfl rfl (.inl ⟨rfl,fun _ h=>by obtain ⟨y0,y1,y2,y3,y4,y5,y6,y7⟩:=h; dsimp only [pt]; go_simp; try with_reducible rfl⟩) (.cons rfl rfl (.inl ⟨rfl,fun _ _=>exec_ixaddr 27 56 (.tmp 73) (.tmp 75) (by kernel_rfl) b1 o1 T.tr.length n4 m1 5 (by kernel_rfl) (by kernel_rfl) (by omega) Tryz.underlying27 (fun w=>by simp [Tryz.sizeOf56])⟩) (.q (.cons rfl rfl (.inl ⟨rfl,fun _ h=>by obtain ⟨y0,y1,y2,y3,y4,y5,y6,y7⟩:=h; dsimp only [pt]; go_simp; try with_reducible rfl⟩) (.q (.cons rfl rfl (.inl ⟨rfl,fun _ h=>by obtain ⟨y0,y1,y2,y3,y4,y5,y6,y7⟩:=h; dsimp only [pt]; go_simp; try with_reducible rfl⟩) (.q (.cons rfl rfl (.inl ⟨rfl,fun _ h=>by obtain ⟨y0,y1,y2,y3,y4,y5,y6,y7⟩:=h; dsimp only [pt]; go_simp; try with_reducible rfl⟩) (.cons rfl rfl (.inl ⟨rfl,fun _ _=>exec_ixaddr 27 56 (.tmp 80) (.tmp 82) (by kernel_rfl) b1 o1 T.tr.length n4 m2 5 (by kernel_rfl) (by kernel_rfl) (by omega) Tryz.underlying27 (fun w=>by simp [Tryz.sizeOf56])⟩) (.q (.cons rfl rfl (.inl ⟨rfl,fun _ h=>by obtain ⟨y0,y1,y2,y3,y4,y5,y6,y7⟩:=h; dsimp only [pt]; go_simp; try with_reducible rfl⟩) (.q (.cons rfl rfl (.inl ⟨rfl,fun _ h=>by obtain ⟨y0,y1,y2,y3,y4,y5,y6,y7⟩:=h; dsimp only [pt]; go_simp; try with_reducible rfl⟩) (.q (.cons rfl rfl (.inl ⟨rfl,fun _ h=>by obtain ⟨y0,y1,y2,y3,y4,y5,y6,y7⟩:=h; dsimp only [pt]; go_simp; try with_reducible rfl⟩) (.cons rfl rfl (.inl ⟨rfl,fun _ _=>exec_ixaddr 23 112 (.tmp 87) (.tmp 89) (by kernel_rfl) b3 o3 T.st.length n0 m3 4 (by kernel_rfl) (by kernel_rfl) (by omega) Tryz.underlying23 (fun w=>by simp [Tryz.sizeOf112])⟩) (.q (.cons rfl rfl (.inl ⟨rfl,fun _ h=>by obtain ⟨y0,y1,y2,y3,y4,y5,y6,y7⟩:=h; dsimp only [pt]; go_simp; try with_reducible rfl⟩) .nil)))))))))))))))))))))) [0,1,2,3,4,5,6,7,8,9,10,11,12,13,14,15,16,17,18,19,20,21] rfl rfl (by kernel_rfl) (fun _ _ _ _ _ h=>h) (SF.out _ _ Xw7d.out) ?_
       have bw7d:=Below.refl w7d.heap.size w7d
       obtain ⟨w7ds,hw7ds⟩:∃ X,w7d.alloc (.cells #[.string (str wGu),.string nm1,.string nm2,.string nm3] 9 (0,0)) = X:=⟨_,rfl⟩
       have cw7ds:Below w7d.heap.size w7d w7ds:=by rw [← hw7ds]; exact (Below.refl _ _).alloc (Nat.le_refl _) _
       have bw7ds:=bw7d.trans (cw7ds.mono bw7d.size)
       have LL:Lst w7ds (.slice (some ⟨w7d.heap.size,0,none⟩) 4 4) (rGu T ((m1:Int),(m2:Int),(m3:Int))):=by
        rw [← hw7ds]
        exact lst_lits w7d #[.string (str wGu),.string nm1,.string nm2,.string nm3] (rGu T ((m1:Int),(m2:Int),(m3:Int))) (by rw [← hnm1,← a1]; rw [← hnm2,← a2]; rw [← hnm3,← a3]; rfl) 4 rfl
       refine makeT (i:=22) (v:=.slice (some ⟨w7d.heap.size,0,none⟩) 4 4) (w':=w7ds) 93 _ rfl (by kernel_rfl) rfl rfl rfl (by rw [← hw7ds]; kernel_rfl) (SF.out _ _ (Xw7d.out.on bw7ds)) rfl ?_
       refine callW (i:=23) 94 _ rfl (by kernel_rfl) rfl rfl (by kernel_rfl) (by kernel_rfl) (wrx_rec (Xw7d.out.on bw7ds) RLB _ _ LL (SR.out)) ?_
       intro wz hz
       refine ⟨SF.out _ _ hz,?_⟩
       refine doneT (by kernel_rfl) ?_
       have HZ2:=Lib.hid hz.less
       clear hz
       go_wp2_with fail
       go_roundw
       case rel=>exact ⟨k + 1,by go_num,by omega,Lib.hid (by rw [take_map _ hx]; exact HZ2.out)⟩
       case measure=>simp [intOf]; omega
      ·have d:decide (k < T.gu.length) = false:=by rw [decide_eq_false_iff_not]; exact hlt
       have X3:Hid (Wrx w F (R0 ++ T.fr.map (rFr F_ T) ++ T.th.map (rTh T) ++ T.gu.map (rGu T)) [(W.heap.size,.cells #[.slice A0 T.st.length n0,.slice A1 T.ro.length n1,.slice A2 T.ca.length n2,.slice A3 T.ex.length n3,.slice A4 T.tr.length n4,.slice A5 T.fr.length n5,.slice A6 T.th.length n6,.slice A7 T.gu.length n7,.slice A8 T.pa.length n8,.slice A9 T.pr.length n9,.int .i64 T.di,.int .i64 T.wi,.int .i64 T.cp] 36 (0,0))] wr):=Lib.hid (by have h:=HX.out; rw [List.take_of_length_le (by omega)] at h; exact h)
       have q0:wr.cell? ⟨W.heap.size,8,none⟩ = some (.slice A8 T.pa.length n8):=by rw [cell_of_row _ _ _ _ _ _ (X3.out.row (i:=0) rfl)]; rfl
       clear HX hlt hk
       go_wp2_with fail
       clear q0 d
       go_loopw [99] (fun i wr=>∃ k:Nat,i = .int .i64 k∧k≤T.pa.length∧Hid (Wrx w F (R0 ++ T.fr.map (rFr F_ T) ++ T.th.map (rTh T) ++ T.gu.map (rGu T) ++ (T.pa.take k).map (rPa F_ T)) [(W.heap.size,.cells #[.slice A0 T.st.length n0,.slice A1 T.ro.length n1,.slice A2 T.ca.length n2,.slice A3 T.ex.length n3,.slice A4 T.tr.length n4,.slice A5 T.fr.length n5,.slice A6 T.th.length n6,.slice A7 T.gu.length n7,.slice A8 T.pa.length n8,.slice A9 T.pr.length n9,.int .i64 T.di,.int .i64 T.wi,.int .i64 T.cp] 36 (0,0))] wr)) (fun i _=>T.pa.length - (intOf i).toNat)
       case atStart=>exact ⟨0,rfl,Nat.zero_le _,Lib.hid (by rw [List.take_zero,List.map_nil,List.append_nil]; exact X3.out)⟩
       case round =>
        obtain ⟨k,rfl,hk,HX⟩:=hrel
        by_cases hlt:k < T.pa.length
        ·have gk:(k:Int) < (T.pa.length:Int):=by omega
         have lb:=L.pa
         have RLB:(R0 ++ T.fr.map (rFr F_ T) ++ T.th.map (rTh T) ++ T.gu.map (rGu T) ++ (T.pa.take k).map (rPa F_ T)).length≤1000000:=by
          have l0:=L.st
          have l1:=L.ro
          have l2:=L.ca
          have l3:=L.ex
          have l5:=L.fr
          have l6:=L.th
          have l7:=L.gu
          have l8:=L.pa
          have l9:=L.pr
          have lk:=List.length_take_le k T.pa
          simp only [List.length_append,List.length_map]
          omega
         obtain ⟨⟨sa,sb,se,f⟩,hx⟩:=at_lt hlt
         have hm:=List.mem_of_getElem? hx
         obtain ⟨⟨v0,v1⟩,⟨v2,v3⟩,v4,v5⟩:=V.pa _ hm
         dsimp only at v0 v1 v2 v3 v4 v5
         have SR:=Lib.hid (shr_pa V L SH hm)
         clear hm
         obtain ⟨m1,q1⟩:∃ m:Nat,sa = (m:Int):=⟨sa.toNat,by omega⟩
         subst q1
         obtain ⟨⟨z1_0,z1_1,z1_2,z1_3⟩,hx1⟩:=at_lt (l:=T.st) (k:=m1) (by omega)
         have a1:=atI_map (f:=fun x=>x.1) (rfl:(m1:Int) = (m1:Int)) hx1
         dsimp only at a1
         obtain ⟨nm1,hnm1⟩:∃ s,str z1_0 = s:=⟨_,rfl⟩
         obtain ⟨b1,o1,rfl,hb1,y1,-,-,-⟩:=S13.four_at HH.out.1 hx1 hnm1
         obtain ⟨m2,q2⟩:∃ m:Nat,sb = (m:Int):=⟨sb.toNat,by omega⟩
         subst q2
         obtain ⟨⟨z2_0,z2_1,z2_2,z2_3⟩,hx2⟩:=at_lt (l:=T.st) (k:=m2) (by omega)
         have a2:=atI_map (f:=fun x=>x.1) (rfl:(m2:Int) = (m2:Int)) hx2
         dsimp only at a2
         obtain ⟨nm2,hnm2⟩:∃ s,str z2_0 = s:=⟨_,rfl⟩
         obtain ⟨b2,o2,e2,hb2,y2,-,-,-⟩:=S13.four_at HH.out.1 hx2 hnm2
         obtain ⟨rfl,rfl⟩:=adr_inj e2
         obtain ⟨b,o,rfl,hb,r0,r1,r2,r3⟩:=S20.four_at ((HH.out.2.2.2.2.2.2.2.2.1).below HX.out.base) hx
         obtain ⟨w7,h7⟩:∃ X,wr.alloc (.cells #[.int .i64 (m1:Int),.int .i64 (m2:Int),.int .i64 se,.bool f] 63 (0,0)) = X:=⟨_,rfl⟩
         have b7:Below wr.heap.size wr w7:=by rw [← h7]; exact (Below.refl _ _).alloc (Nat.le_refl _) _
         have k7:w7.heap[wr.heap.size]? = some (.cells #[.int .i64 (m1:Int),.int .i64 (m2:Int),.int .i64 se,.bool f] 63 (0,0)):=by rw [← h7]; exact heap_alloc_new wr _
         have l7:wr.heap.size < w7.heap.size:=(Array.getElem?_eq_some_iff.1 k7).1
         have Xw7:Hid (Wrx w F _ ([(W.heap.size,.cells #[.slice (some ⟨b1,o1,none⟩) T.st.length n0,.slice A1 T.ro.length n1,.slice A2 T.ca.length n2,.slice A3 T.ex.length n3,.slice A4 T.tr.length n4,.slice A5 T.fr.length n5,.slice A6 T.th.length n6,.slice A7 T.gu.length n7,.slice (some ⟨b,o,none⟩) T.pa.length n8,.slice A9 T.pr.length n9,.int .i64 T.di,.int .i64 T.wi,.int .i64 T.cp] 36 (0,0))] ++ [(wr.heap.size,.cells #[.int .i64 (m1:Int),.int .i64 (m2:Int),.int .i64 se,.bool f] 63 (0,0))]) w7):=Lib.hid (HX.out.more b7 (Nat.le_refl _) k7)
         obtain ⟨w7d,hw7d⟩:∃ X,World.drew w7 = X:=⟨_,rfl⟩
         have dw7d:Below w7.heap.size w7 w7d:=by rw [← hw7d]; exact (Below.refl _ _).drew
         have Xw7d:=Lib.hid (Xw7.out.on dw7d)
         have SF:Hid (∀ (R:List (List Bs)) (X:World),Wrx w F R ([(W.heap.size,.cells #[.slice (some ⟨b1,o1,none⟩) T.st.length n0,.slice A1 T.ro.length n1,.slice A2 T.ca.length n2,.slice A3 T.ex.length n3,.slice A4 T.tr.length n4,.slice A5 T.fr.length n5,.slice A6 T.th.length n6,.slice A7 T.gu.length n7,.slice (some ⟨b,o,none⟩) T.pa.length n8,.slice A9 T.pr.length n9,.int .i64 T.di,.int .i64 T.wi,.int .i64 T.cp] 36 (0,0))] ++ [(wr.heap.size,.cells #[.int .i64 (m1:Int),.int .i64 (m2:Int),.int .i64 se,.bool f] 63 (0,0))]) X→X.cell? ⟨W.heap.size,0,none⟩ = some (.slice (some ⟨b1,o1,none⟩) T.st.length n0)∧X.cell? ⟨wr.heap.size,0,none⟩ = some (.int .i64 (m1:Int))∧X.cell? ⟨b1,o1 + m1 * 4,none⟩ = some (.string nm1)∧X.cell? ⟨wr.heap.size,1,none⟩ = some (.int .i64 (m2:Int))∧X.cell? ⟨b1,o1 + m2 * 4,none⟩ = some (.string nm2)∧X.cell? ⟨wr.heap.size,2,none⟩ = some (.int .i64 se)∧X.cell? ⟨wr.heap.size,3,none⟩ = some (.bool f)):=Lib.hid (fun R X hX=>⟨by rw [cell_of_row _ _ _ _ _ _ (hX.row (i:=0) rfl)]; rfl,by rw [cell_of_row _ _ _ _ _ _ (hX.row (i:=1) rfl)]; rfl,(hX.base.cell (p:=⟨b1,o1 + m1 * 4,none⟩) hb1).trans y1,by rw [cell_of_row _ _ _ _ _ _ (hX.row (i:=1) rfl)]; rfl,(hX.base.cell (p:=⟨b1,o1 + m2 * 4,none⟩) hb1).trans y2,by rw [cell_of_row _ _ _ _ _ _ (hX.row (i:=1) rfl)]; rfl,by rw [cell_of_row _ _ _ _ _ _ (hX.row (i:=1) rfl)]; rfl⟩)
         clear dw7d
         clear k7 b7
         go_wp2_with fail
         refine startT (S:=fun X=>X.cell? ⟨W.heap.size,0,none⟩ = some (.slice (some ⟨b1,o1,none⟩) T.st.length n0)∧X.cell? ⟨wr.heap.size,0,none⟩ = some (.int .i64 (m1:Int))∧X.cell? ⟨b1,o1 + m1 * 4,none⟩ = some (.string nm1)∧X.cell? ⟨wr.heap.size,1,none⟩ = some (.int .i64 (m2:Int))∧X.cell? ⟨b1,o1 + m2 * 4,none⟩ = some (.string nm2)∧X.cell? ⟨wr.heap.size,2,none⟩ = some (.int .i64 se)∧X.cell? ⟨wr.heap.size,3,none⟩ = some (.bool f)) _ 23 rfl (by kernel_rfl) (by kernel_rfl) (by kernel_rfl) (bitsL 23 0) (by kernel_rfl) (by (first | rw [hw7d] | rw [h3,hw7d]); exact SF.out _ _ Xw7d.out) (fun _=>?_)
         first | rw [hw7d] | rw [h3,hw7d]
         refine takesT (L:=[(0,103,pt F 0),(1,104,pt W.heap.size 0),(2,105,.slice (some ⟨b1,o1,none⟩) T.st.length n0),(3,106,pt wr.heap.size 0),(4,107,.int .i64 (m1:Int)),(5,108,pt b1 (o1 + m1 * 4)),(6,109,pt b1 (o1 + m1 * 4)),(7,110,.string nm1),(8,111,pt W.heap.size 0),(9,112,.slice (some ⟨b1,o1,none⟩) T.st.length n0),(10,113,pt wr.heap.size 1),(11,114,.int .i64 (m2:Int)),(12,115,pt b1 (o1 + m2 * 4)),(13,116,pt b1 (o1 + m2 * 4)),(14,117,.string nm2),(15,118,pt wr.heap.size 2),(16,119,.int .i64 se),(18,121,pt wr.heap.size 3),(19,122,.bool f)]) (.q (.q (.cons rfl rfl (.inl ⟨rfl,fun _ h=>by obtain ⟨y0,y1,y2,y3,y4,y5,y6⟩:=h; dsimp only [pt]; go_simp; try with_reducible rfl⟩) (.q (.cons rfl rfl (.inl ⟨rfl,fun _ h=>by obtain ⟨y0,y1,y2,y3,y4,y5,y6⟩:=h; dsimp only [pt]; go_simp; try with_reducible rfl⟩) (.cons rfl rfl (.inl ⟨rfl,fun _ _=>exec_ixaddr 23 112 (.tmp 105) (.tmp 107) (by kernel_rfl) b1 o1 T.st.length n0 m1 4 (by kernel_rfl) (by kernel_rfl) (by omega) Tryz.underlying23 (fun w=>by simp [Tryz.sizeOf112])⟩) (.q (.cons rfl rfl (.inl ⟨rfl,fun _ h=>by obtain ⟨y0,y1,y2,y3,y4,y5,y6⟩:=h; dsimp only [pt]; go_simp; try with_reducible rfl⟩) (.q (.cons rfl rfl (.inl ⟨rfl,fun _ h=>by obtain ⟨y0,y1,y2,y3,y4,y5,y6⟩:=h; dsimp only [pt]; go_simp; try with_reducible rfl⟩) (.q (.cons rfl rfl (.inl ⟨rfl,fun _ h=>by obtain ⟨y0,y1,y2,y3,y4,y5,y6⟩:=h; dsimp only [pt]; go_simp; try with_reducible rfl⟩) (.cons rfl rfl (.inl ⟨rfl,fun _ _=>exec_ixaddr 23 112 (.tmp 112) (.tmp 114) (by kernel_rfl) b1 o1 T.st.length n0 m2 4 (by kernel_rfl) (by kernel_rfl) (by omega) Tryz.underlying23 (fun w=>by simp [Tryz.sizeOf112])⟩) (.q (.cons rfl rfl (.inl ⟨rfl,fun _ h=>by obtain ⟨y0,y1,y2,y3,y4,y5,y6⟩:=h; dsimp only [pt]; go_simp; try with_reducible rfl⟩) (.q (.cons rfl rfl (.inl ⟨rfl,fun _ h=>by obtain ⟨y0,y1,y2,y3,y4,y5,y6⟩:=h; dsimp only [pt]; go_simp; try with_reducible rfl⟩) (.q (.cons rfl rfl (.inl ⟨rfl,fun _ h=>by obtain ⟨y0,y1,y2,y3,y4,y5,y6⟩:=h; dsimp only [pt]; go_simp; try with_reducible rfl⟩) .nil))))))))))))))))))) [0,1,2,3,4,5,6,7,8,9,10,11,12,13,14,15,16,18,19] rfl rfl (by kernel_rfl) (fun _ _ _ _ _ h=>h) (SF.out _ _ Xw7d.out) ?_
         have bw7d:=Below.refl w7d.heap.size w7d
         refine callT (i:=17) (R:=fun u X=>u = .string (str (F_.durT se))∧Below w7d.heap.size w7d X) 120 _ rfl (by kernel_rfl) rfl rfl rfl (by kernel_rfl) ((wduration_any (FW.out.dur se v4 v5 w7d (Xw7d.out.base.trans (bw7d.mono Xw7d.out.base.size)))).mono fun e w' h=>⟨_,h.1,rfl,h.2⟩) ?_
         rintro u w7d_0 ⟨rfl,cw7d_0⟩
         have bw7d_0:=bw7d.trans (cw7d_0.mono bw7d.size)
         refine ⟨SF.out _ _ (Xw7d.out.on bw7d_0),?_⟩
         refine callT (i:=20) (R:=fun u X=>u = .string (str (flgT f))∧Below w7d_0.heap.size w7d_0 X) 123 _ rfl (by kernel_rfl) rfl rfl rfl (by kernel_rfl) ((wflag_any f w7d_0).mono fun e w' h=>⟨_,h.1,rfl,by rw [h.2]; exact Below.refl _ _⟩) ?_
         rintro u w7d_1 ⟨rfl,cw7d_1⟩
         have bw7d_1:=bw7d_0.trans (cw7d_1.mono bw7d_0.size)
         refine ⟨SF.out _ _ (Xw7d.out.on bw7d_1),?_⟩
         obtain ⟨w7ds,hw7ds⟩:∃ X,w7d_1.alloc (.cells #[.string (str wPa),.string nm1,.string nm2,.string (str (F_.durT se)),.string (str (flgT f))] 9 (0,0)) = X:=⟨_,rfl⟩
         have cw7ds:Below w7d_1.heap.size w7d_1 w7ds:=by rw [← hw7ds]; exact (Below.refl _ _).alloc (Nat.le_refl _) _
         have bw7ds:=bw7d_1.trans (cw7ds.mono bw7d_1.size)
         have LL:Lst w7ds (.slice (some ⟨w7d_1.heap.size,0,none⟩) 5 5) (rPa F_ T ((m1:Int),(m2:Int),se,f)):=by
          rw [← hw7ds]
          exact lst_lits w7d_1 #[.string (str wPa),.string nm1,.string nm2,.string (str (F_.durT se)),.string (str (flgT f))] (rPa F_ T ((m1:Int),(m2:Int),se,f)) (by rw [← hnm1,← a1]; rw [← hnm2,← a2]; rfl) 5 rfl
         refine makeT (i:=21) (v:=.slice (some ⟨w7d_1.heap.size,0,none⟩) 5 5) (w':=w7ds) 124 _ rfl (by kernel_rfl) rfl rfl rfl (by rw [← hw7ds]; kernel_rfl) (SF.out _ _ (Xw7d.out.on bw7ds)) rfl ?_
         refine callW (i:=22) 125 _ rfl (by kernel_rfl) rfl rfl (by kernel_rfl) (by kernel_rfl) (wrx_rec (Xw7d.out.on bw7ds) RLB _ _ LL (SR.out)) ?_
         intro wz hz
         refine ⟨SF.out _ _ hz,?_⟩
         refine doneT (by kernel_rfl) ?_
         have HZ2:=Lib.hid hz.less
         clear hz
         go_wp2_with fail
         go_roundw
         case rel=>exact ⟨k + 1,by go_num,by omega,Lib.hid (by rw [take_map _ hx]; exact HZ2.out)⟩
         case measure=>simp [intOf]; omega
        ·have d:decide (k < T.pa.length) = false:=by rw [decide_eq_false_iff_not]; exact hlt
         have X4:Hid (Wrx w F (R0 ++ T.fr.map (rFr F_ T) ++ T.th.map (rTh T) ++ T.gu.map (rGu T) ++ T.pa.map (rPa F_ T)) [(W.heap.size,.cells #[.slice A0 T.st.length n0,.slice A1 T.ro.length n1,.slice A2 T.ca.length n2,.slice A3 T.ex.length n3,.slice A4 T.tr.length n4,.slice A5 T.fr.length n5,.slice A6 T.th.length n6,.slice A7 T.gu.length n7,.slice A8 T.pa.length n8,.slice A9 T.pr.length n9,.int .i64 T.di,.int .i64 T.wi,.int .i64 T.cp] 36 (0,0))] wr):=Lib.hid (by have h:=HX.out; rw [List.take_of_length_le (by omega)] at h; exact h)
         have HE:=Lib.hid (HZ.out _ X4.out.none)
         clear HX
         go_wp2_with fail
         go_end0
         exact ⟨rfl,HE.out⟩
end Go.Proofs.YtpifdbphmnifdaaGreatDoor
