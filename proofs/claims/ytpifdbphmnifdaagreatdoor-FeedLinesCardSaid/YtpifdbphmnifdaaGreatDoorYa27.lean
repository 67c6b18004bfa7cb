/-
  Facts about the program that the statement's proof uses. Condition: none beyond each theorem's own hypotheses.
-/
import Derived.Test.YtpifdbphmnifdaaGreatDoorYa25
set_option maxRecDepth 100000
set_option maxHeartbeats 8000000
namespace Go.Proofs.YtpifdbphmnifdaaGreatDoor
open Go.RowKit
theorem wtrips_any {F_:Fm} {w W:World} {F:Nat} {R0:List (List Bs)} {A0 A1 A2 A3 A4 A5 A6 A7 A8 A9:Option Addr} {n0 n1 n2 n3 n4 n5 n6 n7 n8 n9:Nat} {T:Tt} (FW:Fw F_ w)
  (HL:S13.LstS w (.slice A0 T.st.length n0) T.st∧S15.LstR w (.slice A1 T.ro.length n1) T.ro∧S14.LstC w (.slice A2 T.ca.length n2) T.ca∧S14.LstX w (.slice A3 T.ex.length n3) T.ex∧LstTp w (.slice A4 T.tr.length n4) T.tr∧LstF w (.slice A5 T.fr.length n5) T.fr∧S19.LstH w (.slice A6 T.th.length n6) T.th∧S19.LstU w (.slice A7 T.gu.length n7) T.gu∧S20.LstF w (.slice A8 T.pa.length n8) T.pa∧S21.LstPd w (.slice A9 T.pr.length n9) T.pr) (V:Val T) (L:Lim T) (SH:Sht F_) (hR:R0.length≤900000) (hW:Wrs w F R0 W) :
  Calls Tryz.prog 55 #[.pointer (some ⟨F,0,none⟩),.agg #[.slice A0 T.st.length n0,.slice A1 T.ro.length n1,.slice A2 T.ca.length n2,.slice A3 T.ex.length n3,.slice A4 T.tr.length n4,.slice A5 T.fr.length n5,.slice A6 T.th.length n6,.slice A7 T.gu.length n7,.slice A8 T.pa.length n8,.slice A9 T.pr.length n9,.int .i64 T.di,.int .i64 T.wi,.int .i64 T.cp]] W fun e w'=>e = .returned (.tuple #[])∧Wrs w F (R0 ++ T.tr.flatMap (bTr F_ T)) w':=by
 suffices hs:∀ Z:World→Prop,(∀ w',Wrs w F (R0 ++ T.tr.flatMap (bTr F_ T)) w'→Z w')→Calls Tryz.prog 55 #[.pointer (some ⟨F,0,none⟩),.agg #[.slice A0 T.st.length n0,.slice A1 T.ro.length n1,.slice A2 T.ca.length n2,.slice A3 T.ex.length n3,.slice A4 T.tr.length n4,.slice A5 T.fr.length n5,.slice A6 T.th.length n6,.slice A7 T.gu.length n7,.slice A8 T.pa.length n8,.slice A9 T.pr.length n9,.int .i64 T.di,.int .i64 T.wi,.int .i64 T.cp]] W fun e w'=>e = .returned (.tuple #[])∧Z w' from hs _ (fun _ h=>h)
 intro Z hZ
 have HZ:=Lib.hid hZ
 clear hZ
 have FW:=Lib.hid FW
 have HH:=Lib.hid HL
 clear HL
 obtain ⟨w3,h3⟩:∃ X,W.alloc (.cells #[.slice A0 T.st.length n0,.slice A1 T.ro.length n1,.slice A2 T.ca.length n2,.slice A3 T.ex.length n3,.slice A4 T.tr.length n4,.slice A5 T.fr.length n5,.slice A6 T.th.length n6,.slice A7 T.gu.length n7,.slice A8 T.pa.length n8,.slice A9 T.pr.length n9,.int .i64 T.di,.int .i64 T.wi,.int .i64 T.cp] 36 (0,0)) = X:=⟨_,rfl⟩
 have b3:Below W.heap.size W w3:=by rw [← h3]; exact (Below.refl _ _).alloc (Nat.le_refl _) _
 have k3:w3.heap[W.heap.size]? = some (.cells #[.slice A0 T.st.length n0,.slice A1 T.ro.length n1,.slice A2 T.ca.length n2,.slice A3 T.ex.length n3,.slice A4 T.tr.length n4,.slice A5 T.fr.length n5,.slice A6 T.th.length n6,.slice A7 T.gu.length n7,.slice A8 T.pa.length n8,.slice A9 T.pr.length n9,.int .i64 T.di,.int .i64 T.wi,.int .i64 T.cp] 36 (0,0)):=by rw [← h3]; exact heap_alloc_new W _
 have X0:Hid (Wrx w F R0 [(W.heap.size,.cells #[.slice A0 T.st.length n0,.slice A1 T.ro.length n1,.slice A2 T.ca.length n2,.slice A3 T.ex.length n3,.slice A4 T.tr.length n4,.slice A5 T.fr.length n5,.slice A6 T.th.length n6,.slice A7 T.gu.length n7,.slice A8 T.pa.length n8,.slice A9 T.pr.length n9,.int .i64 T.di,.int .i64 T.wi,.int .i64 T.cp] 36 (0,0))] w3):=Lib.hid (hW.x.more b3 (Nat.le_refl _) k3)
 have q0:w3.cell? ⟨W.heap.size,4,none⟩ = some (.slice A4 T.tr.length n4):=by rw [cell_of_row _ _ _ _ _ _ k3]; rfl
 clear b3 k3 hW
 go_enter Tryz.func55,Tryz.ntmps55
 go_wp2_with fail
 clear q0 h3
 go_loopw [11] (fun i wr=>∃ k:Nat,i = .int .i64 k∧k≤T.tr.length∧Hid (Wrx w F (R0 ++ (T.tr.take k).flatMap (bTr F_ T)) [(W.heap.size,.cells #[.slice A0 T.st.length n0,.slice A1 T.ro.length n1,.slice A2 T.ca.length n2,.slice A3 T.ex.length n3,.slice A4 T.tr.length n4,.slice A5 T.fr.length n5,.slice A6 T.th.length n6,.slice A7 T.gu.length n7,.slice A8 T.pa.length n8,.slice A9 T.pr.length n9,.int .i64 T.di,.int .i64 T.wi,.int .i64 T.cp] 36 (0,0))] wr)) (fun i _=>T.tr.length - (intOf i).toNat)
 case atStart=>exact ⟨0,rfl,Nat.zero_le _,Lib.hid (by rw [List.take_zero,List.flatMap_nil,List.append_nil]; exact X0.out)⟩
 case round =>
  obtain ⟨k,rfl,hk,HX⟩:=hrel
  by_cases hlt:k < T.tr.length
  ·have gk:(k:Int) < (T.tr.length:Int):=by omega
   have lb:=L.tr
   have RLA:(R0 ++ (T.tr.take k).flatMap (bTr F_ T)).length≤910000:=by
    have l4:=L.tr
    have lk:=List.length_take_le k T.tr
    have lb:=bTr_len (F:=F_) (T:=T) (T.tr.take k) (fun x hx=>L.cc x (List.mem_of_mem_take hx))
    rw [List.length_append]
    omega
   obtain ⟨⟨id,ri,ci,f,vv,cl⟩,hx⟩:=at_lt hlt
   have hm:=List.mem_of_getElem? hx
   have CL:=L.cc _ hm
   obtain ⟨⟨v0,v1⟩,v2,v3⟩:=V.tr _ hm
   dsimp only at v0 v1 v2 v3
   have SR:=Lib.hid (shr_tr L hm)
   have HC:=(HH.out.2.2.2.2.1.2 _ hm).1
   have CV:=Lib.hid (fun c (hmc:c∈cl)=>And.intro (V.cc _ hm c hmc) (shr_cc V L SH hm hmc))
   have CL:cl.length≤32:=CL
   clear hm
   obtain ⟨m1,q1⟩:∃ m:Nat,ri = (m:Int):=⟨ri.toNat,by omega⟩
   subst q1
   obtain ⟨⟨z1_0,z1_1,z1_2⟩,hx1⟩:=at_lt (l:=T.ro) (k:=m1) (by omega)
   have a1:=atI_map (f:=fun x=>x.1) (rfl:(m1:Int) = (m1:Int)) hx1
   dsimp only at a1
   obtain ⟨nm1,hnm1⟩:∃ s,str z1_0 = s:=⟨_,rfl⟩
   obtain ⟨b1,o1,rfl,hb1,y1,-,-⟩:=S15.three_at HH.out.2.1 hx1 hnm1
   obtain ⟨m2,q2⟩:∃ m:Nat,ci = (m:Int):=⟨ci.toNat,by omega⟩
   subst q2
   obtain ⟨⟨z2_0,z2_1,z2_2,z2_3⟩,hx2⟩:=at_lt (l:=T.ca) (k:=m2) (by omega)
   have a2:=atI_map (f:=fun x=>x.1) (rfl:(m2:Int) = (m2:Int)) hx2
   dsimp only at a2
   obtain ⟨nm2,hnm2⟩:∃ s,str z2_0 = s:=⟨_,rfl⟩
   obtain ⟨b2,o2,rfl,hb2,y2,-⟩:=S14.ten_at HH.out.2.2.1 hx2 hnm2
   obtain ⟨nm,hnm⟩:∃ s,str id = s:=⟨_,rfl⟩
   obtain ⟨b,o,B,m,rfl,rfl,hb,r0,r1,r2,r3,r4,-,hcn,-⟩:=trip_at (HH.out.2.2.2.2.1.below HX.out.base) hx hnm
   have HCL:=Lib.hid HC
   clear HC
   obtain ⟨w7,h7⟩:∃ X,wr.alloc (.cells #[.string nm,.int .i64 (m1:Int),.int .i64 (m2:Int),.bool f,.slice B cl.length m] 56 (0,0)) = X:=⟨_,rfl⟩
   have b7:Below wr.heap.size wr w7:=by rw [← h7]; exact (Below.refl _ _).alloc (Nat.le_refl _) _
   have k7:w7.heap[wr.heap.size]? = some (.cells #[.string nm,.int .i64 (m1:Int),.int .i64 (m2:Int),.bool f,.slice B cl.length m] 56 (0,0)):=by rw [← h7]; exact heap_alloc_new wr _
   have l7:wr.heap.size < w7.heap.size:=(Array.getElem?_eq_some_iff.1 k7).1
   have Xw7:Hid (Wrx w F (R0 ++ (T.tr.take k).flatMap (bTr F_ T)) ([(W.heap.size,.cells #[.slice A0 T.st.length n0,.slice (some ⟨b1,o1,none⟩) T.ro.length n1,.slice (some ⟨b2,o2,none⟩) T.ca.length n2,.slice A3 T.ex.length n3,.slice (some ⟨b,o,none⟩) T.tr.length n4,.slice A5 T.fr.length n5,.slice A6 T.th.length n6,.slice A7 T.gu.length n7,.slice A8 T.pa.length n8,.slice A9 T.pr.length n9,.int .i64 T.di,.int .i64 T.wi,.int .i64 T.cp] 36 (0,0))] ++ [(wr.heap.size,.cells #[.string nm,.int .i64 (m1:Int),.int .i64 (m2:Int),.bool f,.slice B cl.length m] 56 (0,0))]) w7):=Lib.hid (HX.out.more b7 (Nat.le_refl _) k7)
   obtain ⟨w7d,hw7d⟩:∃ X,World.drew w7 = X:=⟨_,rfl⟩
   have dw7d:Below w7.heap.size w7 w7d:=by rw [← hw7d]; exact (Below.refl _ _).drew
   have Xw7d:=Lib.hid (Xw7.out.on dw7d)
   have SF:Hid (∀ (R:List (List Bs)) (X:World),Wrx w F R ([(W.heap.size,.cells #[.slice A0 T.st.length n0,.slice (some ⟨b1,o1,none⟩) T.ro.length n1,.slice (some ⟨b2,o2,none⟩) T.ca.length n2,.slice A3 T.ex.length n3,.slice (some ⟨b,o,none⟩) T.tr.length n4,.slice A5 T.fr.length n5,.slice A6 T.th.length n6,.slice A7 T.gu.length n7,.slice A8 T.pa.length n8,.slice A9 T.pr.length n9,.int .i64 T.di,.int .i64 T.wi,.int .i64 T.cp] 36 (0,0))] ++ [(wr.heap.size,.cells #[.string nm,.int .i64 (m1:Int),.int .i64 (m2:Int),.bool f,.slice B cl.length m] 56 (0,0))]) X→X.cell? ⟨wr.heap.size,0,none⟩ = some (.string nm)∧X.cell? ⟨W.heap.size,1,none⟩ = some (.slice (some ⟨b1,o1,none⟩) T.ro.length n1)∧X.cell? ⟨wr.heap.size,1,none⟩ = some (.int .i64 (m1:Int))∧X.cell? ⟨b1,o1 + m1 * 3,none⟩ = some (.string nm1)∧X.cell? ⟨W.heap.size,2,none⟩ = some (.slice (some ⟨b2,o2,none⟩) T.ca.length n2)∧X.cell? ⟨wr.heap.size,2,none⟩ = some (.int .i64 (m2:Int))∧X.cell? ⟨b2,o2 + m2 * 10,none⟩ = some (.string nm2)∧X.cell? ⟨wr.heap.size,3,none⟩ = some (.bool f)):=Lib.hid (fun R X hX=>⟨by rw [cell_of_row _ _ _ _ _ _ (hX.row (i:=1) rfl)]; rfl,by rw [cell_of_row _ _ _ _ _ _ (hX.row (i:=0) rfl)]; rfl,by rw [cell_of_row _ _ _ _ _ _ (hX.row (i:=1) rfl)]; rfl,(hX.base.cell (p:=⟨b1,o1 + m1 * 3,none⟩) hb1).trans y1,by rw [cell_of_row _ _ _ _ _ _ (hX.row (i:=0) rfl)]; rfl,by rw [cell_of_row _ _ _ _ _ _ (hX.row (i:=1) rfl)]; rfl,(hX.base.cell (p:=⟨b2,o2 + m2 * 10,none⟩) hb2).trans y2,by rw [cell_of_row _ _ _ _ _ _ (hX.row (i:=1) rfl)]; rfl⟩)
   clear dw7d
   clear k7 b7
   go_wp2_with fail
   have RLB:(R0 ++ (T.tr.take k).flatMap (bTr F_ T)).length≤1000000:=Nat.le_trans RLA (by decide)
   refine startT (S:=fun X=>X.cell? ⟨wr.heap.size,0,none⟩ = some (.string nm)∧X.cell? ⟨W.heap.size,1,none⟩ = some (.slice (some ⟨b1,o1,none⟩) T.ro.length n1)∧X.cell? ⟨wr.heap.size,1,none⟩ = some (.int .i64 (m1:Int))∧X.cell? ⟨b1,o1 + m1 * 3,none⟩ = some (.string nm1)∧X.cell? ⟨W.heap.size,2,none⟩ = some (.slice (some ⟨b2,o2,none⟩) T.ca.length n2)∧X.cell? ⟨wr.heap.size,2,none⟩ = some (.int .i64 (m2:Int))∧X.cell? ⟨b2,o2 + m2 * 10,none⟩ = some (.string nm2)∧X.cell? ⟨wr.heap.size,3,none⟩ = some (.bool f)) _ 22 rfl (by kernel_rfl) (by kernel_rfl) (by kernel_rfl) (bitsL 22 0) (by kernel_rfl) (by (first | rw [hw7d] | rw [h3,hw7d]); exact SF.out _ _ Xw7d.out) (fun _=>?_)
   first | rw [hw7d] | rw [h3,hw7d]
   refine takesT (L:=[(0,15,pt F 0),(1,16,pt wr.heap.size 0),(2,17,.string nm),(3,18,pt W.heap.size 1),(4,19,.slice (some ⟨b1,o1,none⟩) T.ro.length n1),(5,20,pt wr.heap.size 1),(6,21,.int .i64 (m1:Int)),(7,22,pt b1 (o1 + m1 * 3)),(8,23,pt b1 (o1 + m1 * 3)),(9,24,.string nm1),(10,25,pt W.heap.size 2),(11,26,.slice (some ⟨b2,o2,none⟩) T.ca.length n2),(12,27,pt wr.heap.size 2),(13,28,.int .i64 (m2:Int)),(14,29,pt b2 (o2 + m2 * 10)),(15,30,pt b2 (o2 + m2 * 10)),(16,31,.string nm2),(17,32,pt wr.heap.size 3),(18,33,.bool f)]) (.q (.q (.cons rfl rfl (.inl ⟨rfl,fun _ h=>by obtain ⟨y0,y1,y2,y3,y4,y5,y6,y7⟩:=h; dsimp only [pt]; go_simp; try with_reducible rfl⟩) (.q (.cons rfl rfl (.inl ⟨rfl,fun _ h=>by obtain ⟨y0,y1,y2,y3,y4,y5,y6,y7⟩:=h; dsimp only [pt]; go_simp; try with_reducible rfl⟩) (.q (.cons rfl rfl (.inl ⟨rfl,fun _ h=>by obtain ⟨y0,y1,y2,y3,y4,y5,y6,y7⟩:=h; dsimp only [pt]; go_simp; try with_reducible rfl⟩) (.cons rfl rfl (.inl ⟨rfl,fun _ _=>exec_ixaddr 24 114 (.tmp 19) (.tmp 21) (by kernel_rfl) b1 o1 T.ro.length n1 m1 3 (by kernel_rfl) (by kernel_rfl) (by omega) Tryz.underlying24 (fun w=>by simp [Tryz.sizeOf114])⟩) (.q (.cons rfl rfl (.inl ⟨rfl,fun _ h=>by obtain ⟨y0,y1,y2,y3,y4,y5,y6,y7⟩:=h; dsimp only [pt]; go_simp; try with_reducible rfl⟩) (.q (.cons rfl rfl (.inl ⟨rfl,fun _ h=>by obtain ⟨y0,y1,y2,y3,y4,y5,y6,y7⟩:=h; dsimp only [pt]; go_simp; try with_reducible rfl⟩) (.q (.cons rfl rfl (.inl ⟨rfl,fun _ h=>by obtain ⟨y0,y1,y2,y3,y4,y5,y6,y7⟩:=h; dsimp only [pt]; go_simp; try with_reducible rfl⟩) (.cons rfl rfl (.inl ⟨rfl,fun _ _=>exec_ixaddr 25 61 (.tmp 26) (.tmp 28) (by kernel_rfl) b2 o2 T.ca.length n2 m2 10 (by kernel_rfl) (by kernel_rfl) (by omega) Tryz.underlying25 (fun w=>by simp [Tryz.sizeOf61])⟩) (.q (.cons rfl rfl (.inl ⟨rfl,fun _ h=>by obtain ⟨y0,y1,y2,y3,y4,y5,y6,y7⟩:=h; dsimp only [pt]; go_simp; try with_reducible rfl⟩) (.q (.cons rfl rfl (.inl ⟨rfl,fun _ h=>by obtain ⟨y0,y1,y2,y3,y4,y5,y6,y7⟩:=h; dsimp only [pt]; go_simp; try with_reducible rfl⟩) .nil))))))))))))))))))) [0,1,2,3,4,5,6,7,8,9,10,11,12,13,14,15,16,17,18] rfl rfl (by kernel_rfl) (fun _ _ _ _ _ h=>h) (SF.out _ _ Xw7d.out) ?_
   have bw7d:=Below.refl w7d.heap.size w7d
   refine callT (i:=19) (R:=fun u X=>u = .string (str (flgT f))∧Below w7d.heap.size w7d X) 34 _ rfl (by kernel_rfl) rfl rfl rfl (by kernel_rfl) ((wflag_any f w7d).mono fun e w' h=>⟨_,h.1,rfl,by rw [h.2]; exact Below.refl _ _⟩) ?_
   rintro u w7d_0 ⟨rfl,cw7d_0⟩
   have bw7d_0:=bw7d.trans (cw7d_0.mono bw7d.size)
   refine ⟨SF.out _ _ (Xw7d.out.on bw7d_0),?_⟩
   obtain ⟨w7ds,hw7ds⟩:∃ X,w7d_0.alloc (.cells #[.string (str wTr),.string nm,.string nm1,.string nm2,.string (str (flgT f))] 9 (0,0)) = X:=⟨_,rfl⟩
   have cw7ds:Below w7d_0.heap.size w7d_0 w7ds:=by rw [← hw7ds]; exact (Below.refl _ _).alloc (Nat.le_refl _) _
   have bw7ds:=bw7d_0.trans (cw7ds.mono bw7d_0.size)
   have LL:Lst w7ds (.slice (some ⟨w7d_0.heap.size,0,none⟩) 5 5) (rTr T (id,(m1:Int),(m2:Int),f,(.slice B cl.length m),cl)):=by
    rw [← hw7ds]
    exact lst_lits w7d_0 #[.string (str wTr),.string nm,.string nm1,.string nm2,.string (str (flgT f))] (rTr T (id,(m1:Int),(m2:Int),f,(.slice B cl.length m),cl)) (by rw [← hnm]; rw [← hnm1,← a1]; rw [← hnm2,← a2]; rfl) 5 rfl
   refine makeT (i:=20) (v:=.slice (some ⟨w7d_0.heap.size,0,none⟩) 5 5) (w':=w7ds) 35 _ rfl (by kernel_rfl) rfl rfl rfl (by rw [← hw7ds]; kernel_rfl) (SF.out _ _ (Xw7d.out.on bw7ds)) rfl ?_
   refine callW (i:=21) 36 _ rfl (by kernel_rfl) rfl rfl (by kernel_rfl) (by kernel_rfl) (wrx_rec (Xw7d.out.on bw7ds) RLB _ _ LL (SR.out)) ?_
   intro wz hz
   refine ⟨SF.out _ _ hz,?_⟩
   refine doneT (by kernel_rfl) ?_
   have q4:wz.cell? ⟨wr.heap.size,4,none⟩ = some (.slice B cl.length m):=by rw [cell_of_row _ _ _ _ _ _ (hz.row (i:=1) rfl)]; rfl
   have HZ2:=Lib.hid hz
   clear hz
   go_wp2_with fail
   clear q4
   clear SF LL
   obtain ⟨TB,hTB⟩:∃ n,wr.heap.size = n:=⟨_,rfl⟩
   rw [hTB] at HZ2
   clear hTB
   go_loopw [40] (fun i wq=>∃ j:Nat,i = .int .i64 j∧j≤cl.length∧Hid (Wrx w F ((R0 ++ (T.tr.take k).flatMap (bTr F_ T) ++ [rTr T (id,(m1:Int),(m2:Int),f,(.slice B cl.length m),cl)]) ++ (cl.take j).map (rCc F_ T)) ([(W.heap.size,.cells #[.slice A0 T.st.length n0,.slice (some ⟨b1,o1,none⟩) T.ro.length n1,.slice (some ⟨b2,o2,none⟩) T.ca.length n2,.slice A3 T.ex.length n3,.slice (some ⟨b,o,none⟩) T.tr.length n4,.slice A5 T.fr.length n5,.slice A6 T.th.length n6,.slice A7 T.gu.length n7,.slice A8 T.pa.length n8,.slice A9 T.pr.length n9,.int .i64 T.di,.int .i64 T.wi,.int .i64 T.cp] 36 (0,0))] ++ [(TB,.cells #[.string nm,.int .i64 (m1:Int),.int .i64 (m2:Int),.bool f,.slice B cl.length m] 56 (0,0))]) wq)) (fun i _=>cl.length - (intOf i).toNat)
   case atStart=>exact ⟨0,rfl,Nat.zero_le _,Lib.hid (by rw [List.take_zero,List.map_nil,List.append_nil]; exact HZ2.out)⟩
   case round =>
    obtain ⟨j,rfl,hj,HQ⟩:=hrel
    by_cases hjl:j < cl.length
    ·have gj:(j:Int) < (cl.length:Int):=by omega
     have RLB:((R0 ++ (T.tr.take k).flatMap (bTr F_ T) ++ [rTr T (id,(m1:Int),(m2:Int),f,(.slice B cl.length m),cl)]) ++ (cl.take j).map (rCc F_ T)).length≤1000000:=by
      have lj:=List.length_take_le j cl
      rw [List.length_append,List.length_append,List.length_map,List.length_singleton]
      omega
     obtain ⟨⟨si,ar,de,bo,al⟩,hxc⟩:=at_lt hjl
     obtain ⟨⟨⟨u0,u1⟩,⟨u2,u3⟩,u4,u5⟩,SC⟩:=CV.out _ (List.mem_of_getElem? hxc)
     dsimp only at u0 u1 u2 u3 u4 u5
     have SC:=Lib.hid SC
     obtain ⟨mc,qc⟩:∃ m:Nat,si = (m:Int):=⟨si.toNat,by omega⟩
     subst qc
     obtain ⟨⟨c_0,c_1,c_2,c_3⟩,hxs⟩:=at_lt (l:=T.st) (k:=mc) (by omega)
     have ac:=atI_map (f:=fun x=>x.1) (rfl:(mc:Int) = (mc:Int)) hxs
     dsimp only at ac
     obtain ⟨nmc,hnmc⟩:∃ s,str c_0 = s:=⟨_,rfl⟩
     obtain ⟨bc,oc,rfl,hbc,yc,-,-,-⟩:=S13.four_at HH.out.1 hxs hnmc
     obtain ⟨bq,oq,rfl,hbq,s0,s1,s2,s3,s4⟩:=five_at (HCL.out.below HQ.out.base) hxc
     obtain ⟨v7,g7⟩:∃ X,wr.alloc (.cells #[.int .i64 (mc:Int),.int .i64 ar,.int .i64 de,.bool bo,.bool al] 58 (0,0)) = X:=⟨_,rfl⟩
     have bv:Below wr.heap.size wr v7:=by rw [← g7]; exact (Below.refl _ _).alloc (Nat.le_refl _) _
     have kv:v7.heap[wr.heap.size]? = some (.cells #[.int .i64 (mc:Int),.int .i64 ar,.int .i64 de,.bool bo,.bool al] 58 (0,0)):=by rw [← g7]; exact heap_alloc_new wr _
     have lv:wr.heap.size < v7.heap.size:=(Array.getElem?_eq_some_iff.1 kv).1
     have Xv7:Hid (Wrx w F _ (([(W.heap.size,.cells #[.slice (some ⟨bc,oc,none⟩) T.st.length n0,.slice (some ⟨b1,o1,none⟩) T.ro.length n1,.slice (some ⟨b2,o2,none⟩) T.ca.length n2,.slice A3 T.ex.length n3,.slice (some ⟨b,o,none⟩) T.tr.length n4,.slice A5 T.fr.length n5,.slice A6 T.th.length n6,.slice A7 T.gu.length n7,.slice A8 T.pa.length n8,.slice A9 T.pr.length n9,.int .i64 T.di,.int .i64 T.wi,.int .i64 T.cp] 36 (0,0))] ++ [(TB,.cells #[.string nm,.int .i64 (m1:Int),.int .i64 (m2:Int),.bool f,.slice (some ⟨bq,oq,none⟩) cl.length m] 56 (0,0))]) ++ [(wr.heap.size,.cells #[.int .i64 (mc:Int),.int .i64 ar,.int .i64 de,.bool bo,.bool al] 58 (0,0))]) v7):=Lib.hid (HQ.out.more bv (Nat.le_refl _) kv)
     obtain ⟨v7d,hv7d⟩:∃ X,World.drew v7 = X:=⟨_,rfl⟩
     have dv7d:Below v7.heap.size v7 v7d:=by rw [← hv7d]; exact (Below.refl _ _).drew
     have Xv7d:=Lib.hid (Xv7.out.on dv7d)
     have SF:Hid (∀ (R:List (List Bs)) (X:World),Wrx w F R (([(W.heap.size,.cells #[.slice (some ⟨bc,oc,none⟩) T.st.length n0,.slice (some ⟨b1,o1,none⟩) T.ro.length n1,.slice (some ⟨b2,o2,none⟩) T.ca.length n2,.slice A3 T.ex.length n3,.slice (some ⟨b,o,none⟩) T.tr.length n4,.slice A5 T.fr.length n5,.slice A6 T.th.length n6,.slice A7 T.gu.length n7,.slice A8 T.pa.length n8,.slice A9 T.pr.length n9,.int .i64 T.di,.int .i64 T.wi,.int .i64 T.cp] 36 (0,0))] ++ [(TB,.cells #[.string nm,.int .i64 (m1:Int),.int .i64 (m2:Int),.bool f,.slice (some ⟨bq,oq,none⟩) cl.length m] 56 (0,0))]) ++ [(wr.heap.size,.cells #[.int .i64 (mc:Int),.int .i64 ar,.int .i64 de,.bool bo,.bool al] 58 (0,0))]) X→X.cell? ⟨W.heap.size,0,none⟩ = some (.slice (some ⟨bc,oc,none⟩) T.st.length n0)∧X.cell? ⟨wr.heap.size,0,none⟩ = some (.int .i64 (mc:Int))∧X.cell? ⟨bc,oc + mc * 4,none⟩ = some (.string nmc)∧X.cell? ⟨wr.heap.size,1,none⟩ = some (.int .i64 ar)∧X.cell? ⟨wr.heap.size,2,none⟩ = some (.int .i64 de)∧X.heap[wr.heap.size]? = some (.cells #[.int .i64 (mc:Int),.int .i64 ar,.int .i64 de,.bool bo,.bool al] 58 (0,0))):=Lib.hid (fun R X hX=>⟨by rw [cell_of_row _ _ _ _ _ _ (hX.row (i:=0) rfl)]; rfl,by rw [cell_of_row _ _ _ _ _ _ (hX.row (i:=2) rfl)]; rfl,(hX.base.cell (p:=⟨bc,oc + mc * 4,none⟩) hbc).trans yc,by rw [cell_of_row _ _ _ _ _ _ (hX.row (i:=2) rfl)]; rfl,by rw [cell_of_row _ _ _ _ _ _ (hX.row (i:=2) rfl)]; rfl,hX.row (i:=2) rfl⟩)
     clear dv7d
     clear kv bv
     go_wp2_with fail
     refine startT (S:=fun X=>X.cell? ⟨W.heap.size,0,none⟩ = some (.slice (some ⟨bc,oc,none⟩) T.st.length n0)∧X.cell? ⟨wr.heap.size,0,none⟩ = some (.int .i64 (mc:Int))∧X.cell? ⟨bc,oc + mc * 4,none⟩ = some (.string nmc)∧X.cell? ⟨wr.heap.size,1,none⟩ = some (.int .i64 ar)∧X.cell? ⟨wr.heap.size,2,none⟩ = some (.int .i64 de)∧X.heap[wr.heap.size]? = some (.cells #[.int .i64 (mc:Int),.int .i64 ar,.int .i64 de,.bool bo,.bool al] 58 (0,0))) _ 18 rfl (by kernel_rfl) (by kernel_rfl) (by kernel_rfl) (bitsL 18 0) (by kernel_rfl) (by (first | rw [hv7d] | rw [h3,hv7d]); exact SF.out _ _ Xv7d.out) (fun _=>?_)
     first | rw [hv7d] | rw [h3,hv7d]
     refine takesT (L:=[(0,44,pt F 0),(1,45,pt W.heap.size 0),(2,46,.slice (some ⟨bc,oc,none⟩) T.st.length n0),(3,47,pt wr.heap.size 0),(4,48,.int .i64 (mc:Int)),(5,49,pt bc (oc + mc * 4)),(6,50,pt bc (oc + mc * 4)),(7,51,.string nmc),(8,52,pt wr.heap.size 1),(9,53,.int .i64 ar),(11,55,pt wr.heap.size 2),(12,56,.int .i64 de),(14,58,.agg #[.int .i64 (mc:Int),.int .i64 ar,.int .i64 de,.bool bo,.bool al])]) (.q (.q (.cons rfl rfl (.inl ⟨rfl,fun _ h=>by obtain ⟨y0,y1,y2,y3,y4,y5⟩:=h; dsimp only [pt]; go_simp; try with_reducible rfl⟩) (.q (.cons rfl rfl (.inl ⟨rfl,fun _ h=>by obtain ⟨y0,y1,y2,y3,y4,y5⟩:=h; dsimp only [pt]; go_simp; try with_reducible rfl⟩) (.cons rfl rfl (.inl ⟨rfl,fun _ _=>exec_ixaddr 23 112 (.tmp 46) (.tmp 48) (by kernel_rfl) bc oc T.st.length n0 mc 4 (by kernel_rfl) (by kernel_rfl) (by omega) Tryz.underlying23 (fun w=>by simp [Tryz.sizeOf112])⟩) (.q (.cons rfl rfl (.inl ⟨rfl,fun _ h=>by obtain ⟨y0,y1,y2,y3,y4,y5⟩:=h; dsimp only [pt]; go_simp; try with_reducible rfl⟩) (.q (.cons rfl rfl (.inl ⟨rfl,fun _ h=>by obtain ⟨y0,y1,y2,y3,y4,y5⟩:=h; dsimp only [pt]; go_simp; try with_reducible rfl⟩) (.q (.cons rfl rfl (.inl ⟨rfl,fun _ h=>by obtain ⟨y0,y1,y2,y3,y4,y5⟩:=h; dsimp only [pt]; go_simp; try with_reducible rfl⟩) (.cons rfl rfl (.inl ⟨rfl,fun _ h=>by obtain ⟨y0,y1,y2,y3,y4,y5⟩:=h; exact exec_load_row 58 (.tmp 7) (by kernel_rfl) _ (by kernel_rfl) _ _ _ _ y5 Tryz.underlying58 rfl (by kernel_rfl)⟩) .nil))))))))))))) [0,1,2,3,4,5,6,7,8,9,11,12,14] rfl rfl (by kernel_rfl) (fun _ _ _ _ _ h=>h) (SF.out _ _ Xv7d.out) ?_
     have bv7d:=Below.refl v7d.heap.size v7d
     refine callT (i:=10) (R:=fun u X=>u = .string (str (F_.timT ar))∧Below v7d.heap.size v7d X) 54 _ rfl (by kernel_rfl) rfl rfl rfl (by kernel_rfl) ((wtime_any (FW.out.tim ar u2 u3 v7d (Xv7d.out.base.trans (bv7d.mono Xv7d.out.base.size)))).mono fun e w' h=>⟨_,h.1,rfl,h.2⟩) ?_
     rintro u v7d_0 ⟨rfl,cv7d_0⟩
     have bv7d_0:=bv7d.trans (cv7d_0.mono bv7d.size)
     refine ⟨SF.out _ _ (Xv7d.out.on bv7d_0),?_⟩
     refine callT (i:=13) (R:=fun u X=>u = .string (str (F_.timT de))∧Below v7d_0.heap.size v7d_0 X) 57 _ rfl (by kernel_rfl) rfl rfl rfl (by kernel_rfl) ((wtime_any (FW.out.tim de u4 u5 v7d_0 (Xv7d.out.base.trans (bv7d_0.mono Xv7d.out.base.size)))).mono fun e w' h=>⟨_,h.1,rfl,h.2⟩) ?_
     rintro u v7d_1 ⟨rfl,cv7d_1⟩
     have bv7d_1:=bv7d_0.trans (cv7d_1.mono bv7d_0.size)
     refine ⟨SF.out _ _ (Xv7d.out.on bv7d_1),?_⟩
     refine callT (i:=15) (R:=fun u X=>u = .string (str (prmT bo al))∧Below v7d_1.heap.size v7d_1 X) 59 _ rfl (by kernel_rfl) rfl rfl rfl (by kernel_rfl) ((wperm_any (mc:Int) ar de bo al v7d_1).mono fun e w' h=>⟨_,h.1,rfl,h.2⟩) ?_
     rintro u v7d_2 ⟨rfl,cv7d_2⟩
     have bv7d_2:=bv7d_1.trans (cv7d_2.mono bv7d_1.size)
     refine ⟨SF.out _ _ (Xv7d.out.on bv7d_2),?_⟩
     obtain ⟨v7ds,hv7ds⟩:∃ X,v7d_2.alloc (.cells #[.string (str wCc),.string nmc,.string (str (F_.timT ar)),.string (str (F_.timT de)),.string (str (prmT bo al))] 9 (0,0)) = X:=⟨_,rfl⟩
     have cv7ds:Below v7d_2.heap.size v7d_2 v7ds:=by rw [← hv7ds]; exact (Below.refl _ _).alloc (Nat.le_refl _) _
     have bv7ds:=bv7d_2.trans (cv7ds.mono bv7d_2.size)
     have LL:Lst v7ds (.slice (some ⟨v7d_2.heap.size,0,none⟩) 5 5) (rCc F_ T ((mc:Int),ar,de,bo,al)):=by
      rw [← hv7ds]
      exact lst_lits v7d_2 #[.string (str wCc),.string nmc,.string (str (F_.timT ar)),.string (str (F_.timT de)),.string (str (prmT bo al))] (rCc F_ T ((mc:Int),ar,de,bo,al)) (by rw [← hnmc,← ac]; rfl) 5 rfl
     refine makeT (i:=16) (v:=.slice (some ⟨v7d_2.heap.size,0,none⟩) 5 5) (w':=v7ds) 60 _ rfl (by kernel_rfl) rfl rfl rfl (by rw [← hv7ds]; kernel_rfl) (SF.out _ _ (Xv7d.out.on bv7ds)) rfl ?_
     refine callW (i:=17) 61 _ rfl (by kernel_rfl) rfl rfl (by kernel_rfl) (by kernel_rfl) (wrx_rec (Xv7d.out.on bv7ds) RLB _ _ LL (SC.out)) ?_
     intro wz hz
     refine ⟨SF.out _ _ hz,?_⟩
     refine doneT (by kernel_rfl) ?_
     have HZ3:=Lib.hid hz.less
     clear hz
     go_wp2_with fail
     go_roundw
     case rel=>exact ⟨j + 1,by go_num,by omega,Lib.hid (by rw [take_map _ hxc]; exact HZ3.out)⟩
     case measure=>simp [intOf]; omega
    ·have d:decide (j < cl.length) = false:=by rw [decide_eq_false_iff_not]; exact hjl
     have HE:=Lib.hid (by have h:=HQ.out; rw [show cl.take j = cl from List.take_of_length_le (by omega)] at h; exact h.less:Wrx w F ((R0 ++ (T.tr.take k).flatMap (bTr F_ T) ++ [rTr T (id,(m1:Int),(m2:Int),f,(.slice B cl.length m),cl)]) ++ cl.map (rCc F_ T)) [(W.heap.size,.cells #[.slice A0 T.st.length n0,.slice (some ⟨b1,o1,none⟩) T.ro.length n1,.slice (some ⟨b2,o2,none⟩) T.ca.length n2,.slice A3 T.ex.length n3,.slice (some ⟨b,o,none⟩) T.tr.length n4,.slice A5 T.fr.length n5,.slice A6 T.th.length n6,.slice A7 T.gu.length n7,.slice A8 T.pa.length n8,.slice A9 T.pr.length n9,.int .i64 T.di,.int .i64 T.wi,.int .i64 T.cp] 36 (0,0))] wr)
     clear HQ hjl hj
     go_wp2_with fail
     go_roundw
     case rel=>exact ⟨k + 1,by go_num,by omega,Lib.hid (by rw [take_flat _ hx]; have h:=HE.out; rw [List.append_assoc] at h; exact h)⟩
     case measure=>simp [intOf]; omega
  ·have d:decide (k < T.tr.length) = false:=by rw [decide_eq_false_iff_not]; exact hlt
   have X1:Hid (Wrx w F (R0 ++ T.tr.flatMap (bTr F_ T)) [(W.heap.size,.cells #[.slice A0 T.st.length n0,.slice A1 T.ro.length n1,.slice A2 T.ca.length n2,.slice A3 T.ex.length n3,.slice A4 T.tr.length n4,.slice A5 T.fr.length n5,.slice A6 T.th.length n6,.slice A7 T.gu.length n7,.slice A8 T.pa.length n8,.slice A9 T.pr.length n9,.int .i64 T.di,.int .i64 T.wi,.int .i64 T.cp] 36 (0,0))] wr):=Lib.hid (by have h:=HX.out; rw [List.take_of_length_le (by omega)] at h; exact h)
   have HE:=Lib.hid (HZ.out _ X1.out.none)
   clear HX
   go_wp2_with fail
   go_end0
   exact ⟨rfl,HE.out⟩
end Go.Proofs.YtpifdbphmnifdaaGreatDoor
