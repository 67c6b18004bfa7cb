/-
  Facts about the program that the statement's proof uses. Condition: none beyond each theorem's own hypotheses.
-/
import Derived.Test.YtpifdbphmnifdaaGreatDoorYa25
import Derived.Test.YtpifdbphmnifdaaGreatDoorYa26
import Derived.Test.YtpifdbphmnifdaaGreatDoorYa27
import Derived.Test.YtpifdbphmnifdaaGreatDoorYa28
set_option maxRecDepth 100000
set_option maxHeartbeats 8000000
namespace Go.Proofs.YtpifdbphmnifdaaGreatDoor
open Go.RowKit
theorem wfares_any {F_:Fm} {w W:World} {F:Nat} {R0:List (List Bs)} {A0:Option Addr} {n0:Nat} {T:Tt} (FW:Fw F_ w) (HL:S21.LstPd w (.slice A0 T.pr.length n0) T.pr) (V:Val T) (L:Lim T) (SH:Sht F_) (hR:R0.length≤900000) (hW:Wrs w F R0 W) :
  Calls Tryz.prog 57 #[.pointer (some ⟨F,0,none⟩),.agg #[.slice A0 T.pr.length n0,.int .i64 T.di,.int .i64 T.wi,.int .i64 T.cp]] W fun e w'=>e = .returned (.tuple #[])∧Wrs w F ((R0 ++ rFa F_ T) ++ T.pr.map (rPr F_)) w':=by
 suffices hs:∀ Z:World→Prop,(∀ w',Wrs w F ((R0 ++ rFa F_ T) ++ T.pr.map (rPr F_)) w'→Z w')→Calls Tryz.prog 57 #[.pointer (some ⟨F,0,none⟩),.agg #[.slice A0 T.pr.length n0,.int .i64 T.di,.int .i64 T.wi,.int .i64 T.cp]] W fun e w'=>e = .returned (.tuple #[])∧Z w' from hs _ (fun _ h=>h)
 intro Z hZ
 have HZ:=Lib.hid hZ
 clear hZ
 have FW:=Lib.hid FW
 have HH:=Lib.hid (And.intro HL trivial)
 clear HL
 obtain ⟨w3,h3⟩:∃ X,W.alloc (.cells #[.slice A0 T.pr.length n0,.int .i64 T.di,.int .i64 T.wi,.int .i64 T.cp] 34 (0,0)) = X:=⟨_,rfl⟩
 have b3:Below W.heap.size W w3:=by rw [← h3]; exact (Below.refl _ _).alloc (Nat.le_refl _) _
 have k3:w3.heap[W.heap.size]? = some (.cells #[.slice A0 T.pr.length n0,.int .i64 T.di,.int .i64 T.wi,.int .i64 T.cp] 34 (0,0)):=by rw [← h3]; exact heap_alloc_new W _
 have Xw3:Hid (Wrx w F R0 [(W.heap.size,.cells #[.slice A0 T.pr.length n0,.int .i64 T.di,.int .i64 T.wi,.int .i64 T.cp] 34 (0,0))] w3):=Lib.hid (hW.x.more b3 (Nat.le_refl _) k3)
 have q0:w3.cell? ⟨W.heap.size,0,none⟩ = some (.slice A0 T.pr.length n0):=by rw [cell_of_row _ _ _ _ _ _ k3]; rfl
 have q1:w3.cell? ⟨W.heap.size,1,none⟩ = some (.int .i64 T.di):=by rw [cell_of_row _ _ _ _ _ _ k3]; rfl
 have q2:w3.cell? ⟨W.heap.size,2,none⟩ = some (.int .i64 T.wi):=by rw [cell_of_row _ _ _ _ _ _ k3]; rfl
 have q3:w3.cell? ⟨W.heap.size,3,none⟩ = some (.int .i64 T.cp):=by rw [cell_of_row _ _ _ _ _ _ k3]; rfl
 clear b3 k3 hW
 have CS:((T.di != 0) = true∧rFa F_ T = [[wFa,F_.prcT T.di,F_.durT T.wi,F_.prcT T.cp]])∨((T.di != 0) = false∧(T.wi != 0) = true∧rFa F_ T = [[wFa,F_.prcT T.di,F_.durT T.wi,F_.prcT T.cp]])∨((T.di != 0) = false∧(T.wi != 0) = false∧(T.cp != 0) = true∧rFa F_ T = [[wFa,F_.prcT T.di,F_.durT T.wi,F_.prcT T.cp]])∨((T.di != 0) = false∧(T.wi != 0) = false∧(T.cp != 0) = false∧rFa F_ T = []):=by
  by_cases hd:T.di = 0
  ·by_cases hw:T.wi = 0
   ·by_cases hc:T.cp = 0
    ·exact .inr (.inr (.inr ⟨neq_false hd,neq_false hw,neq_false hc,by unfold rFa; rw [if_neg (by omega)]⟩))
    ·exact .inr (.inr (.inl ⟨neq_false hd,neq_false hw,bne_true hc,by unfold rFa; rw [if_pos (.inr (.inr hc))]⟩))
   ·exact .inr (.inl ⟨neq_false hd,bne_true hw,by unfold rFa; rw [if_pos (.inr (.inl hw))]⟩)
  ·exact .inl ⟨bne_true hd,by unfold rFa; rw [if_pos (.inl hd)]⟩
 rcases CS with ⟨t1,HF⟩ | ⟨t1,t2,HF⟩ | ⟨t1,t2,t3,HF⟩ | ⟨t1,t2,t3,HN⟩
 rotate_left 3
 have X0:Hid (Wrx w F (R0 ++ rFa F_ T) [(W.heap.size,.cells #[.slice A0 T.pr.length n0,.int .i64 T.di,.int .i64 T.wi,.int .i64 T.cp] 34 (0,0))] w3):=Lib.hid (by rw [HN,List.append_nil]; exact Xw3.out)
 clear HN
 go_enter Tryz.func57,Tryz.ntmps57
 go_wp2_with fail
 clear q0 q1 q2 q3 t1 t2 t3 h3
 rotate_left 1
 iterate 3
  have HF:=Lib.hid HF
  have SR:=Lib.hid (shr_fa V L SH (fs:=[wFa,F_.prcT T.di,F_.durT T.wi,F_.prcT T.cp]) (by rw [HF.out]; simp))
  obtain ⟨⟨v0,v1⟩,⟨v2,v3⟩,v4,v5⟩:=V.fa
  have RLB:R0.length≤1000000:=by omega
  obtain ⟨w3d,hw3d⟩:∃ X,World.drew w3 = X:=⟨_,rfl⟩
  have dw3d:Below w3.heap.size w3 w3d:=by rw [← hw3d]; exact (Below.refl _ _).drew
  have Xw3d:=Lib.hid (Xw3.out.on dw3d)
  have SF:Hid (∀ (R:List (List Bs)) (X:World),Wrx w F R ([(W.heap.size,.cells #[.slice A0 T.pr.length n0,.int .i64 T.di,.int .i64 T.wi,.int .i64 T.cp] 34 (0,0))]) X→X.cell? ⟨W.heap.size,1,none⟩ = some (.int .i64 T.di)∧X.cell? ⟨W.heap.size,2,none⟩ = some (.int .i64 T.wi)∧X.cell? ⟨W.heap.size,3,none⟩ = some (.int .i64 T.cp)):=Lib.hid (fun R X hX=>⟨by rw [cell_of_row _ _ _ _ _ _ (hX.row (i:=0) rfl)]; rfl,by rw [cell_of_row _ _ _ _ _ _ (hX.row (i:=0) rfl)]; rfl,by rw [cell_of_row _ _ _ _ _ _ (hX.row (i:=0) rfl)]; rfl⟩)
  clear dw3d
  go_enter Tryz.func57,Tryz.ntmps57
  go_wp2_with fail
  refine startT (S:=fun X=>X.cell? ⟨W.heap.size,1,none⟩ = some (.int .i64 T.di)∧X.cell? ⟨W.heap.size,2,none⟩ = some (.int .i64 T.wi)∧X.cell? ⟨W.heap.size,3,none⟩ = some (.int .i64 T.cp)) _ 12 rfl (by kernel_rfl) (by kernel_rfl) (by kernel_rfl) (bitsL 12 0) (by kernel_rfl) (by (first | rw [hw3d] | rw [h3,hw3d]); exact SF.out _ _ Xw3d.out) (fun _=>?_)
  first | rw [hw3d] | rw [h3,hw3d]
  refine takesT (L:=[(0,20,pt F 0),(1,21,pt W.heap.size 1),(2,22,.int .i64 T.di),(4,24,pt W.heap.size 2),(5,25,.int .i64 T.wi),(7,27,pt W.heap.size 3),(8,28,.int .i64 T.cp)]) (.q (.q (.cons rfl rfl (.inl ⟨rfl,fun _ h=>by obtain ⟨y0,y1,y2⟩:=h; dsimp only [pt]; go_simp; try with_reducible rfl⟩) (.q (.cons rfl rfl (.inl ⟨rfl,fun _ h=>by obtain ⟨y0,y1,y2⟩:=h; dsimp only [pt]; go_simp; try with_reducible rfl⟩) (.q (.cons rfl rfl (.inl ⟨rfl,fun _ h=>by obtain ⟨y0,y1,y2⟩:=h; dsimp only [pt]; go_simp; try with_reducible rfl⟩) .nil))))))) [0,1,2,4,5,7,8] rfl rfl (by kernel_rfl) (fun _ _ _ _ _ h=>h) (SF.out _ _ Xw3d.out) ?_
  have bw3d:=Below.refl w3d.heap.size w3d
  refine callT (i:=3) (R:=fun u X=>u = .string (str (F_.prcT T.di))∧Below w3d.heap.size w3d X) 23 _ rfl (by kernel_rfl) rfl rfl rfl (by kernel_rfl) ((wprice_any (FW.out.prc T.di v0 v1 w3d (Xw3d.out.base.trans (bw3d.mono Xw3d.out.base.size)))).mono fun e w' h=>⟨_,h.1,rfl,h.2⟩) ?_
  rintro u w3d_0 ⟨rfl,cw3d_0⟩
  have bw3d_0:=bw3d.trans (cw3d_0.mono bw3d.size)
  refine ⟨SF.out _ _ (Xw3d.out.on bw3d_0),?_⟩
  refine callT (i:=6) (R:=fun u X=>u = .string (str (F_.durT T.wi))∧Below w3d_0.heap.size w3d_0 X) 26 _ rfl (by kernel_rfl) rfl rfl rfl (by kernel_rfl) ((wduration_any (FW.out.dur T.wi v2 v3 w3d_0 (Xw3d.out.base.trans (bw3d_0.mono Xw3d.out.base.size)))).mono fun e w' h=>⟨_,h.1,rfl,h.2⟩) ?_
  rintro u w3d_1 ⟨rfl,cw3d_1⟩
  have bw3d_1:=bw3d_0.trans (cw3d_1.mono bw3d_0.size)
  refine ⟨SF.out _ _ (Xw3d.out.on bw3d_1),?_⟩
  refine callT (i:=9) (R:=fun u X=>u = .string (str (F_.prcT T.cp))∧Below w3d_1.heap.size w3d_1 X) 29 _ rfl (by kernel_rfl) rfl rfl rfl (by kernel_rfl) ((wprice_any (FW.out.prc T.cp v4 v5 w3d_1 (Xw3d.out.base.trans (bw3d_1.mono Xw3d.out.base.size)))).mono fun e w' h=>⟨_,h.1,rfl,h.2⟩) ?_
  rintro u w3d_2 ⟨rfl,cw3d_2⟩
  have bw3d_2:=bw3d_1.trans (cw3d_2.mono bw3d_1.size)
  refine ⟨SF.out _ _ (Xw3d.out.on bw3d_2),?_⟩
  obtain ⟨w3ds,hw3ds⟩:∃ X,w3d_2.alloc (.cells #[.string (str wFa),.string (str (F_.prcT T.di)),.string (str (F_.durT T.wi)),.string (str (F_.prcT T.cp))] 9 (0,0)) = X:=⟨_,rfl⟩
  have cw3ds:Below w3d_2.heap.size w3d_2 w3ds:=by rw [← hw3ds]; exact (Below.refl _ _).alloc (Nat.le_refl _) _
  have bw3ds:=bw3d_2.trans (cw3ds.mono bw3d_2.size)
  have LL:Lst w3ds (.slice (some ⟨w3d_2.heap.size,0,none⟩) 4 4) ([wFa,F_.prcT T.di,F_.durT T.wi,F_.prcT T.cp]):=by
   rw [← hw3ds]
   exact lst_lits w3d_2 #[.string (str wFa),.string (str (F_.prcT T.di)),.string (str (F_.durT T.wi)),.string (str (F_.prcT T.cp))] ([wFa,F_.prcT T.di,F_.durT T.wi,F_.prcT T.cp]) (by rfl) 4 rfl
  refine makeT (i:=10) (v:=.slice (some ⟨w3d_2.heap.size,0,none⟩) 4 4) (w':=w3ds) 30 _ rfl (by kernel_rfl) rfl rfl rfl (by rw [← hw3ds]; kernel_rfl) (SF.out _ _ (Xw3d.out.on bw3ds)) rfl ?_
  refine callW (i:=11) 31 _ rfl (by kernel_rfl) rfl rfl (by kernel_rfl) (by kernel_rfl) (wrx_rec (Xw3d.out.on bw3ds) RLB _ _ LL (SR.out)) ?_
  intro wz hz
  refine ⟨SF.out _ _ hz,?_⟩
  refine doneT (by kernel_rfl) ?_
  have X0:Hid (Wrx w F (R0 ++ rFa F_ T) [(W.heap.size,.cells #[.slice A0 T.pr.length n0,.int .i64 T.di,.int .i64 T.wi,.int .i64 T.cp] 34 (0,0))] wz):=Lib.hid (by rw [HF.out]; exact hz)
  have p0:wz.cell? ⟨W.heap.size,0,none⟩ = some (.slice A0 T.pr.length n0):=by rw [cell_of_row _ _ _ _ _ _ (hz.row (i:=0) rfl)]; rfl
  clear hz SF LL RLB HF v0 v1 v2 v3 v4 v5 Xw3
  go_wp2_with fail
  clear p0
  rotate_left 1
 all_goals
  go_loopw [35] (fun i wr=>∃ k:Nat,i = .int .i64 k∧k≤T.pr.length∧Hid (Wrx w F ((R0 ++ rFa F_ T) ++ (T.pr.take k).map (rPr F_)) [(W.heap.size,.cells #[.slice A0 T.pr.length n0,.int .i64 T.di,.int .i64 T.wi,.int .i64 T.cp] 34 (0,0))] wr)) (fun i _=>T.pr.length - (intOf i).toNat)
  case atStart=>exact ⟨0,rfl,Nat.zero_le _,Lib.hid (by rw [List.take_zero,List.map_nil,List.append_nil]; exact X0.out)⟩
  case round =>
   obtain ⟨k,rfl,hk,HX⟩:=hrel
   by_cases hlt:k < T.pr.length
   ·have gk:(k:Int) < (T.pr.length:Int):=by omega
    have lb:=L.pr
    have RLB:((R0 ++ rFa F_ T) ++ (T.pr.take k).map (rPr F_)).length≤1000000:=by
     have l0:=L.st
     have l1:=L.ro
     have l2:=L.ca
     have l3:=L.ex
     have l5:=L.fr
     have l6:=L.th
     have l7:=L.gu
     have l8:=L.pa
     have l9:=L.pr
     have lk:=List.length_take_le k T.pr
     have lf:(rFa F_ T).length≤1:=by unfold rFa; split <;> simp
     simp only [List.length_append,List.length_map]
     omega
    obtain ⟨⟨id,pc,ri,zo,se,mo⟩,hx⟩:=at_lt hlt
    have hm:=List.mem_of_getElem? hx
    obtain ⟨⟨v0,v1⟩,⟨v2,v3⟩,⟨v4,v5⟩,⟨v6,v7⟩,v8,v9⟩:=V.pr _ hm
    dsimp only at v0 v1 v2 v3 v4 v5 v6 v7 v8 v9
    have SR:=Lib.hid (shr_pr V L SH hm)
    clear hm
    obtain ⟨nm,hnm⟩:∃ s,str id = s:=⟨_,rfl⟩
    obtain ⟨b,o,rfl,hb,r0,r1,r2,r3,r4,r5⟩:=S21.six_at ((HH.out.1).below HX.out.base) hx hnm
    obtain ⟨w7,h7⟩:∃ X,wr.alloc (.cells #[.string nm,.int .i64 pc,.int .i64 ri,.int .i64 zo,.int .i64 se,.int .i64 mo] 65 (0,0)) = X:=⟨_,rfl⟩
    have b7:Below wr.heap.size wr w7:=by rw [← h7]; exact (Below.refl _ _).alloc (Nat.le_refl _) _
    have k7:w7.heap[wr.heap.size]? = some (.cells #[.string nm,.int .i64 pc,.int .i64 ri,.int .i64 zo,.int .i64 se,.int .i64 mo] 65 (0,0)):=by rw [← h7]; exact heap_alloc_new wr _
    have l7:wr.heap.size < w7.heap.size:=(Array.getElem?_eq_some_iff.1 k7).1
    have Xw7:Hid (Wrx w F _ ([(W.heap.size,.cells #[.slice (some ⟨b,o,none⟩) T.pr.length n0,.int .i64 T.di,.int .i64 T.wi,.int .i64 T.cp] 34 (0,0))] ++ [(wr.heap.size,.cells #[.string nm,.int .i64 pc,.int .i64 ri,.int .i64 zo,.int .i64 se,.int .i64 mo] 65 (0,0))]) w7):=Lib.hid (HX.out.more b7 (Nat.le_refl _) k7)
    have e1:w7.cell? ⟨wr.heap.size,5,none⟩ = some (.int .i64 mo):=by rw [cell_of_row _ _ _ _ _ _ k7]; rfl
    have CM:=Lib.hid (FW.out.mds mo v8 v9 w7 Xw7.out.base)
    have HK:=Lib.hid k7
    clear k7 b7
    go_wp2_with fail
    refine CM.out.mono ?_
    rintro e w8 ⟨rfl,b8⟩
    have CN:=Lib.hid (form_any (str (F_.mdsT mo)) 0 w8)
    have B8:=Lib.hid b8
    clear b8 CM e1
    go_wp2_with fail
    refine CN.out.mono ?_
    rintro e w9 ⟨rfl,rfl⟩
    have b9:=B8.out
    have k7:=(b9.block _ l7).trans HK.out
    have Xw9:=Lib.hid (Xw7.out.on b9)
    have l9:=Nat.lt_of_lt_of_le l7 b9.size
    clear b9 CN B8
    obtain ⟨w9d,hw9d⟩:∃ X,World.drew w9 = X:=⟨_,rfl⟩
    have dw9d:Below w9.heap.size w9 w9d:=by rw [← hw9d]; exact (Below.refl _ _).drew
    have Xw9d:=Lib.hid (Xw9.out.on dw9d)
    have SF:Hid (∀ (R:List (List Bs)) (X:World),Wrx w F R ([(W.heap.size,.cells #[.slice (some ⟨b,o,none⟩) T.pr.length n0,.int .i64 T.di,.int .i64 T.wi,.int .i64 T.cp] 34 (0,0))] ++ [(wr.heap.size,.cells #[.string nm,.int .i64 pc,.int .i64 ri,.int .i64 zo,.int .i64 se,.int .i64 mo] 65 (0,0))]) X→X.cell? ⟨wr.heap.size,0,none⟩ = some (.string nm)∧X.cell? ⟨wr.heap.size,1,none⟩ = some (.int .i64 pc)∧X.cell? ⟨wr.heap.size,2,none⟩ = some (.int .i64 ri)∧X.cell? ⟨wr.heap.size,3,none⟩ = some (.int .i64 zo)∧X.cell? ⟨wr.heap.size,4,none⟩ = some (.int .i64 se)):=Lib.hid (fun R X hX=>⟨by rw [cell_of_row _ _ _ _ _ _ (hX.row (i:=1) rfl)]; rfl,by rw [cell_of_row _ _ _ _ _ _ (hX.row (i:=1) rfl)]; rfl,by rw [cell_of_row _ _ _ _ _ _ (hX.row (i:=1) rfl)]; rfl,by rw [cell_of_row _ _ _ _ _ _ (hX.row (i:=1) rfl)]; rfl,by rw [cell_of_row _ _ _ _ _ _ (hX.row (i:=1) rfl)]; rfl⟩)
    clear dw9d
    clear k7
    go_wp2_with fail
    refine startT (S:=fun X=>X.cell? ⟨wr.heap.size,0,none⟩ = some (.string nm)∧X.cell? ⟨wr.heap.size,1,none⟩ = some (.int .i64 pc)∧X.cell? ⟨wr.heap.size,2,none⟩ = some (.int .i64 ri)∧X.cell? ⟨wr.heap.size,3,none⟩ = some (.int .i64 zo)∧X.cell? ⟨wr.heap.size,4,none⟩ = some (.int .i64 se)) _ 18 rfl (by kernel_rfl) (by kernel_rfl) (by kernel_rfl) (bitsL 18 0) (by kernel_rfl) (by (first | rw [hw9d] | rw [h3,hw9d]); exact SF.out _ _ Xw9d.out) (fun _=>?_)
    first | rw [hw9d] | rw [h3,hw9d]
    refine takesT (L:=[(0,45,pt F 0),(1,46,pt wr.heap.size 0),(2,47,.string nm),(3,48,pt wr.heap.size 1),(4,49,.int .i64 pc),(6,51,pt wr.heap.size 2),(7,52,.int .i64 ri),(9,54,pt wr.heap.size 3),(10,55,.int .i64 zo),(12,57,pt wr.heap.size 4),(13,58,.int .i64 se),(15,60,.string (str (F_.mdsT mo)))]) (.q (.q (.cons rfl rfl (.inl ⟨rfl,fun _ h=>by obtain ⟨y0,y1,y2,y3,y4⟩:=h; dsimp only [pt]; go_simp; try with_reducible rfl⟩) (.q (.cons rfl rfl (.inl ⟨rfl,fun _ h=>by obtain ⟨y0,y1,y2,y3,y4⟩:=h; dsimp only [pt]; go_simp; try with_reducible rfl⟩) (.q (.cons rfl rfl (.inl ⟨rfl,fun _ h=>by obtain ⟨y0,y1,y2,y3,y4⟩:=h; dsimp only [pt]; go_simp; try with_reducible rfl⟩) (.q (.cons rfl rfl (.inl ⟨rfl,fun _ h=>by obtain ⟨y0,y1,y2,y3,y4⟩:=h; dsimp only [pt]; go_simp; try with_reducible rfl⟩) (.q (.cons rfl rfl (.inl ⟨rfl,fun _ h=>by obtain ⟨y0,y1,y2,y3,y4⟩:=h; dsimp only [pt]; go_simp; try with_reducible rfl⟩) (.q .nil)))))))))))) [0,1,2,3,4,6,7,9,10,12,13,15] rfl rfl (by kernel_rfl) (fun _ _ _ _ _ h=>h) (SF.out _ _ Xw9d.out) ?_
    have bw9d:=Below.refl w9d.heap.size w9d
    refine callT (i:=5) (R:=fun u X=>u = .string (str (F_.prcT pc))∧Below w9d.heap.size w9d X) 50 _ rfl (by kernel_rfl) rfl rfl rfl (by kernel_rfl) ((wprice_any (FW.out.prc pc v0 v1 w9d (Xw9d.out.base.trans (bw9d.mono Xw9d.out.base.size)))).mono fun e w' h=>⟨_,h.1,rfl,h.2⟩) ?_
    rintro u w9d_0 ⟨rfl,cw9d_0⟩
    have bw9d_0:=bw9d.trans (cw9d_0.mono bw9d.size)
    refine ⟨SF.out _ _ (Xw9d.out.on bw9d_0),?_⟩
    refine callT (i:=8) (R:=fun u X=>u = .string (str (F_.numT ri))∧Below w9d_0.heap.size w9d_0 X) 53 _ rfl (by kernel_rfl) rfl rfl rfl (by kernel_rfl) ((FW.out.num ri v2 v3 w9d_0 (Xw9d.out.base.trans (bw9d_0.mono Xw9d.out.base.size))).mono fun e w' h=>⟨_,h.1,rfl,h.2⟩) ?_
    rintro u w9d_1 ⟨rfl,cw9d_1⟩
    have bw9d_1:=bw9d_0.trans (cw9d_1.mono bw9d_0.size)
    refine ⟨SF.out _ _ (Xw9d.out.on bw9d_1),?_⟩
    refine callT (i:=11) (R:=fun u X=>u = .string (str (F_.numT zo))∧Below w9d_1.heap.size w9d_1 X) 56 _ rfl (by kernel_rfl) rfl rfl rfl (by kernel_rfl) ((FW.out.num zo v4 v5 w9d_1 (Xw9d.out.base.trans (bw9d_1.mono Xw9d.out.base.size))).mono fun e w' h=>⟨_,h.1,rfl,h.2⟩) ?_
    rintro u w9d_2 ⟨rfl,cw9d_2⟩
    have bw9d_2:=bw9d_1.trans (cw9d_2.mono bw9d_1.size)
    refine ⟨SF.out _ _ (Xw9d.out.on bw9d_2),?_⟩
    refine callT (i:=14) (R:=fun u X=>u = .string (str (F_.durT se))∧Below w9d_2.heap.size w9d_2 X) 59 _ rfl (by kernel_rfl) rfl rfl rfl (by kernel_rfl) ((wduration_any (FW.out.dur se v6 v7 w9d_2 (Xw9d.out.base.trans (bw9d_2.mono Xw9d.out.base.size)))).mono fun e w' h=>⟨_,h.1,rfl,h.2⟩) ?_
    rintro u w9d_3 ⟨rfl,cw9d_3⟩
    have bw9d_3:=bw9d_2.trans (cw9d_3.mono bw9d_2.size)
    refine ⟨SF.out _ _ (Xw9d.out.on bw9d_3),?_⟩
    obtain ⟨w9ds,hw9ds⟩:∃ X,w9d_3.alloc (.cells #[.string (str wPr),.string nm,.string (str (F_.prcT pc)),.string (str (F_.numT ri)),.string (str (F_.numT zo)),.string (str (F_.durT se)),.string (str (F_.mdsT mo))] 9 (0,0)) = X:=⟨_,rfl⟩
    have cw9ds:Below w9d_3.heap.size w9d_3 w9ds:=by rw [← hw9ds]; exact (Below.refl _ _).alloc (Nat.le_refl _) _
    have bw9ds:=bw9d_3.trans (cw9ds.mono bw9d_3.size)
    have LL:Lst w9ds (.slice (some ⟨w9d_3.heap.size,0,none⟩) 7 7) (rPr F_ (id,pc,ri,zo,se,mo)):=by
     rw [← hw9ds]
     exact lst_lits w9d_3 #[.string (str wPr),.string nm,.string (str (F_.prcT pc)),.string (str (F_.numT ri)),.string (str (F_.numT zo)),.string (str (F_.durT se)),.string (str (F_.mdsT mo))] (rPr F_ (id,pc,ri,zo,se,mo)) (by rw [← hnm]; rfl) 7 rfl
    refine makeT (i:=16) (v:=.slice (some ⟨w9d_3.heap.size,0,none⟩) 7 7) (w':=w9ds) 61 _ rfl (by kernel_rfl) rfl rfl rfl (by rw [← hw9ds]; kernel_rfl) (SF.out _ _ (Xw9d.out.on bw9ds)) rfl ?_
    refine callW (i:=17) 62 _ rfl (by kernel_rfl) rfl rfl (by kernel_rfl) (by kernel_rfl) (wrx_rec (Xw9d.out.on bw9ds) RLB _ _ LL (SR.out)) ?_
    intro wz hz
    refine ⟨SF.out _ _ hz,?_⟩
    refine doneT (by kernel_rfl) ?_
    have HZ2:=Lib.hid hz.less
    clear hz
    go_wp2_with fail
    go_roundw
    case rel=>exact ⟨k + 1,by go_num,by omega,Lib.hid (by rw [take_map _ hx]; exact HZ2.out)⟩
    case measure=>simp [intOf]; omega
   ·have d:decide (k < T.pr.length) = false:=by rw [decide_eq_false_iff_not]; exact hlt
    have X1:Hid (Wrx w F ((R0 ++ rFa F_ T) ++ T.pr.map (rPr F_)) [(W.heap.size,.cells #[.slice A0 T.pr.length n0,.int .i64 T.di,.int .i64 T.wi,.int .i64 T.cp] 34 (0,0))] wr):=Lib.hid (by have h:=HX.out; rw [List.take_of_length_le (by omega)] at h; exact h)
    have HE:=Lib.hid (HZ.out _ X1.out.none)
    clear HX
    go_wp2_with fail
    go_end0
    exact ⟨rfl,HE.out⟩
theorem format_feed {w:World} (hg:GoodF w) {a:Nat→Option Addr} {c:Nat→Nat} {T:Tt} (h:TtL w a c T) (man:manT T = true) (ok:OkTt T) (ln:LnTt T) :
  Calls Tryz.prog 14 #[ttV a c T] w fun e w'=>e = .returned (.tuple #[.string (str (feedF fmR T).1),.int .i64 (feedF fmR T).2])∧Below w.heap.size w w':=by
 refine fmt_any fmR h man ok ln (fun w1 b1 h0=>?_) (fun h0=>rows_text (val_of h0) (lim_of h0) fmR_sht)
 have V:=val_of h0
 have L:=lim_of h0
 have hg1:GoodF w1:=hg.below b1
 have h1:=h.below b1
 have c0:=L.st
 have c1:=L.ro
 have c2:=L.ca
 have c3:=L.ex
 have c5:=L.fr
 have c6:=L.th
 have c7:=L.gu
 have c8:=L.pa
 have c9:=bTr_len (F:=fmR) (T:=T) T.tr L.cc
 have c4:=L.tr
 have e:=canon_any (w₀:=w1) (a:=a) (c:=c) (T:=T) (R1:=((([] ++ T.st.map (rSt fmR)) ++ T.ro.map rRo) ++ T.ca.map (rCa fmR)) ++ T.ex.map (rEx fmR T))
  (R2:=(((([] ++ T.st.map (rSt fmR)) ++ T.ro.map rRo) ++ T.ca.map (rCa fmR)) ++ T.ex.map (rEx fmR T)) ++ T.tr.flatMap (bTr fmR T))
  (R3:=(((((((([] ++ T.st.map (rSt fmR)) ++ T.ro.map rRo) ++ T.ca.map (rCa fmR)) ++ T.ex.map (rEx fmR T)) ++ T.tr.flatMap (bTr fmR T)) ++ T.fr.map (rFr fmR T)) ++ T.th.map (rTh T)) ++ T.gu.map (rGu T)) ++ T.pa.map (rPa fmR T))
  (R4:=((((((((((([] ++ T.st.map (rSt fmR)) ++ T.ro.map rRo) ++ T.ca.map (rCa fmR)) ++ T.ex.map (rEx fmR T)) ++ T.tr.flatMap (bTr fmR T)) ++ T.fr.map (rFr fmR T)) ++ T.th.map (rTh T)) ++ T.gu.map (rGu T)) ++ T.pa.map (rPa fmR T)) ++ rFa fmR T) ++ T.pr.map (rPr fmR)))
  (fun w F b hF=>by
   have FW:=fw_fmR (hg1.below b)
   have HL:=h1.below b
   refine ⟨fun W hW=>wservice_any FW HL V L fmR_sht (by simp) hW,fun W hW=>wtrips_any FW HL V L fmR_sht ?_ hW,fun W hW=>wconnections_any FW HL V L fmR_sht ?_ hW,fun W hW=>wfares_any FW HL.pr V L fmR_sht ?_ hW⟩
   all_goals
    simp only [List.length_append,List.length_map,List.length_nil]
    omega)
 refine e.mono fun r w2 q=>?_
 obtain ⟨v,hv,hl,hb⟩:=q
 refine ⟨v,hv,?_,hb⟩
 have er:rows fmR T = ((((((((((([] ++ T.st.map (rSt fmR)) ++ T.ro.map rRo) ++ T.ca.map (rCa fmR)) ++ T.ex.map (rEx fmR T)) ++ T.tr.flatMap (bTr fmR T)) ++ T.fr.map (rFr fmR T)) ++ T.th.map (rTh T)) ++ T.gu.map (rGu T)) ++ T.pa.map (rPa fmR T)) ++ rFa fmR T) ++ T.pr.map (rPr fmR)):=by
  unfold rows
  simp only [List.nil_append,List.append_assoc]
 rw [er]
 exact hl
def bgF (n:Int):Bs→Nat→Nat→Int
 | [],i,m=>if (m:Int) = n then (i:Int) else -1
 | b :: r,i,m=>if (m:Int) = n then (i:Int) else bgF n r (i + 1) (if b = 10 then m + 1 else m)
theorem bg_hit {n:Int} {l:Bs} {i m:Nat} (h:(m:Int) = n):bgF n l i m = (i:Int):=by
 cases l with
 | nil=>unfold bgF; rw [if_pos h]
 | cons b r=>unfold bgF; rw [if_pos h]
theorem bg_next {n:Int} {l:Bs} {b:UInt8} {r:Bs} {i m:Nat} (h:¬ (m:Int) = n) (hl:l = b :: r):bgF n l i m = bgF n r (i + 1) (if b = 10 then m + 1 else m):=by
 subst hl
 conv=>lhs; unfold bgF
 rw [if_neg h]
theorem bg_end {n:Int} {i m:Nat} (h:¬ (m:Int) = n):bgF n [] i m = -1:=by unfold bgF; rw [if_neg h]
theorem bg_go:∀ (P B:Bs) (i m n:Nat),(∀ j,j < P.length→m + cnt10 (P.take j) < n)→m + cnt10 P = n→bgF n (P ++ B) i m = ((i + P.length:Nat):Int)
 | [],B,i,m,n,_,h=>by
  have h0:m = n:=by simpa [cnt10] using h
  rw [List.nil_append,bg_hit (by omega)]
  simp
 | b :: P,B,i,m,n,hl,h=>by
  have h0:=hl 0 (by simp)
  have h0':m < n:=by simpa [cnt10] using h0
  have hc:∀ Q:Bs,cnt10 (b :: Q) = (if b = 10 then 1 else 0) + cnt10 Q:=fun Q=>by
   unfold cnt10
   rw [List.countP_cons]
   by_cases hb:b = 10 <;> simp [hb] <;> omega
  have ih:=bg_go P B (i + 1) (if b = 10 then m + 1 else m) n (fun j hj=>by
   have:=hl (j + 1) (by rw [List.length_cons]; omega)
   rw [List.take_succ_cons,hc] at this
   by_cases hb:b = 10
   ·rw [if_pos hb] at this ⊢; omega
   ·rw [if_neg hb] at this ⊢; omega) (by
   rw [hc] at h
   by_cases hb:b = 10
   ·rw [if_pos hb] at h ⊢; omega
   ·rw [if_neg hb] at h ⊢; omega)
  rw [bg_next (l:=b :: P ++ B) (b:=b) (r:=P ++ B) (by omega) rfl,ih,List.length_cons]
  congr 1
  omega
theorem bg_line {ls:List Bs} (h:∀ l∈ls,∀ b∈l,b≠10) {j:Nat} (hj:j≤ls.length):bgF (j:Int) (textL ls) 0 0 = ((textL (ls.take j)).length:Int):=by
 have e:textL ls = textL (ls.take j) ++ textL (ls.drop j):=by rw [← textL_app,List.take_append_drop]
 have hA:∀ l∈ls.take j,∀ b∈l,b≠10:=fun l hl=>h l (List.mem_of_mem_take hl)
 have lA:(ls.take j).length = j:=by rw [List.length_take]; omega
 rw [e,bg_go (textL (ls.take j)) (textL (ls.drop j)) 0 0 j (fun k hk=>by have:=cnt_less _ hA k hk; omega) (by rw [cnt_text _ hA]; omega)]
 simp
theorem begins_any (s:Bs) (n:Int) (hs:s.length≤1099511627776) (w:World):Calls Tryz.prog 17 #[.string (str s),.int .i64 n] w fun e w'=>e = .returned (.int .i64 (bgF n s 0 0))∧w' = w:=by
 obtain ⟨t,ht,htz,hts⟩:=as_str s
 rw [hts]
 obtain ⟨q,hq⟩:∃ q,bgF n s 0 0 = q:=⟨_,rfl⟩
 rw [hq]
 have HT:=Lib.hid ht
 have HQ:=Lib.hid hq
 have hz:t.size≤1099511627776:=by omega
 have HZ:=Lib.hid htz
 clear hts hq ht htz hs
 go_enter Tryz.func17,Tryz.ntmps17
 go_wp2_with fail
 go_loop [5,6] (fun u i=>∃ k m:Nat,u = .int .i64 (m:Int)∧i = .int .i64 (k:Int)∧k≤t.size∧m≤k∧Hid (q = bgF n (s.drop k) k m)) (fun _ i=>t.size - (intOf i).toNat)
 case atStart=>exact ⟨0,0,rfl,rfl,Nat.zero_le _,Nat.le_refl _,Lib.hid HQ.out.symm⟩
 case round =>
  obtain ⟨k,m,rfl,rfl,hk,hm,hr⟩:=hrel
  by_cases hlt:k < t.size
  ·have gk:(k:Int) < (t.size:Int):=by omega
   obtain ⟨b,hb⟩:=at_lt (l:=s) (k:=k) (by rw [← HZ.out]; exact hlt)
   have hd:s.drop k = b :: s.drop (k + 1):=by
    have hl:=(List.getElem?_eq_some_iff.1 hb)
    rw [← hl.2]
    exact List.drop_eq_getElem_cons hl.1
   by_cases he:(m:Int) = n
   ·have g:=beq_true he
    have R:Hid (q = (k:Int)):=Lib.hid (by rw [hr.out,bg_hit he])
    clear hb hd he hr hlt
    go_wp2_with fail
    go_ret
    exact ⟨ret_int R.out.symm,rfl⟩
   ·have g:=beq_false he
    have ar:=fun e he W=>at_run t k b (by rw [HT.out]; exact hb) e he W
    by_cases h10:b = 10
    ·have g2:((b.toNat:Int) == 10) = true:=by subst h10; rfl
     have N:Hid (q = bgF n (s.drop (k + 1)) (k + 1) (m + 1)):=Lib.hid (by rw [hr.out,bg_next he hd,if_pos h10])
     clear hb hd he hr h10
     go_wp2_with fail
     go_round
     case rel=>exact ⟨k + 1,m + 1,by go_num,by go_num,by omega,by omega,N⟩
     case measure=>simp [intOf]; omega
    ·have g2:((b.toNat:Int) == 10) = false:=by
      rw [beq_eq_false_iff_ne]
      intro e
      apply h10
      have:b.toNat = 10:=by omega
      exact UInt8.toNat_inj.1 this
     have N:Hid (q = bgF n (s.drop (k + 1)) (k + 1) m):=Lib.hid (by rw [hr.out,bg_next he hd,if_neg h10])
     clear hb hd he hr h10
     go_wp2_with fail
     go_round
     case rel=>exact ⟨k + 1,m,rfl,by go_num,by omega,by omega,N⟩
     case measure=>simp [intOf]; omega
  ·have d:decide (k < t.size) = false:=by rw [decide_eq_false_iff_not]; exact hlt
   have hd:s.drop k = []:=List.drop_eq_nil_of_le (by rw [← HZ.out]; omega)
   have hkz:k = t.size:=by omega
   by_cases he:(m:Int) = n
   ·have g:=beq_true he
    have R:Hid (q = (t.size:Int)):=Lib.hid (by rw [hr.out,bg_hit he,hkz])
    clear hd he hr hlt hkz
    go_wp2_with fail
    go_ret
    exact ⟨ret_int R.out.symm,rfl⟩
   ·have g:=beq_false he
    have R:Hid (q = -1):=Lib.hid (by rw [hr.out,hd,bg_end he])
    clear hd he hr hlt hkz
    go_wp2_with fail
    go_ret
    exact ⟨ret_int R.out.symm,rfl⟩
def ExH:Prop:=∀ w:World,GoodF w→Calls Tryz.prog 9 #[] w fun e w'=>e = .returned (.bool true)∧Below w.heap.size w w'
theorem byte_yes {b:UInt8} {n:Nat} (h:b.toNat≠n):((b.toNat:Int) != (n:Int)) = true:=by
 rw [bne_iff_ne]
 omega
theorem byte_no {b:UInt8} {n:Nat} (h:b.toNat = n):((b.toNat:Int) != (n:Int)) = false:=by
 rw [h]
 simp
theorem text_many:∀ ls:List Bs,ls.length≤(textL ls).length
 | []=>by simp [textL]
 | x :: ls=>by
  have e:textL (x :: ls) = x ++ [10] ++ textL ls:=rfl
  have:=text_many ls
  rw [e,List.length_append,List.length_append,List.length_cons,List.length_cons]
  omega
theorem line_told {s:Bs} {ls:List Bs} (ht:textL ls = s) (hf:∀ l∈ls,∀ b∈l,b≠10) {n:Int} (h:Okl ls n):∃ (p:Nat) (b:UInt8),bgF (n - 1) s 0 0 = (p:Int)∧s[p]? = some b∧b≠10∧b≠35∧1≤n∧n≤(s.length:Int):=by
 obtain ⟨h1,x,hx,hi⟩:=h
 have hl:=(List.getElem?_eq_some_iff.1 hx).1
 have hm:=List.mem_of_getElem? hx
 have e:n - 1 = ((n - 1).toNat:Int):=by omega
 have hb:=bg_line hf (Nat.le_of_lt hl)
 rw [ht] at hb
 have hmany:=text_many ls
 rw [ht] at hmany
 generalize (n - 1).toNat = j at hx hl hb e
 cases x with
 | nil=>unfold ign at hi; simp at hi
 | cons b r =>
  refine ⟨(textL (ls.take j)).length,b,by rw [e]; exact hb,?_,hf _ hm b (by simp),fun h35=>?_,h1,by omega⟩
  ·have e2:s = textL (ls.take j) ++ textL (ls.drop j):=by rw [← ht,← textL_app,List.take_append_drop]
   have e3:ls.drop j = (b :: r) :: ls.drop (j + 1):=by
    have hl:=(List.getElem?_eq_some_iff.1 hx)
    rw [← hl.2]
    exact List.drop_eq_getElem_cons hl.1
   rw [e2,List.getElem?_append_right (Nat.le_refl _),Nat.sub_self,e3]
   rfl
  ·subst h35
   unfold ign at hi
   simp at hi
theorem flines_law (EX:ExH) (s:Bs) (w:World) (hg:GoodF w):Calls Tryz.prog 8 #[.string (str s)] w fun e w'=>e = .returned (.bool true)∧Below w.heap.size w w':=by
 obtain ⟨t,ht,htz,hts⟩:=as_str s
 by_cases hL:8192 < s.length
 ·have g1:(8192:Int) < (t.size:Int):=by omega
  have C:=Lib.hid (EX w hg)
  rw [hts]
  clear hts ht htz hL
  go_enter Tryz.func8,Tryz.ntmps8
  go_wp2_with fail
  refine C.out.mono ?_
  rintro e w1 ⟨rfl,b1⟩
  have B:=Lib.hid b1
  clear b1 C
  go_wp2_with fail
  go_ret
  exact ⟨rfl,B.out⟩
 ·have g1:decide ((8192:Int) < (t.size:Int)) = false:=by rw [decide_eq_false_iff_not]; omega
  have C:=Lib.hid (parse_feed hg s (by omega))
  rw [hts] at C ⊢
  have key:∀ (a:Nat→Option Addr) (c:Nat→Nat) (U:Tt) (w1:World),Below w.heap.size w w1→Hid (GoodF (w1.alloc (boxTt a c U))∧Below w.heap.size w (w1.alloc (boxTt a c U))):=fun a c U w1 b=>Lib.hid (by
   have b2:=b.trans (((Below.refl w1.heap.size w1).alloc (Nat.le_refl _) (boxTt a c U)).mono b.size)
   exact ⟨hg.below b2,b2⟩)
  have KEY:=Lib.hid key
  clear key
  by_cases h0:s = []
  ·have n0:t.toList.isEmpty = true:=by rw [nil_iff,decide_eq_true_iff]; rw [htz,h0]; rfl
   have hl:(linR s).2 = 0:=by rw [h0]; rfl
   obtain ⟨f1,f2⟩:=feed_line (F:=fmR) hl
   have fe:(feedP fmR s).2.2 = 0:=by
    apply Decidable.byContradiction
    intro q
    obtain ⟨-,x,hx,-⟩:=f2 q
    rw [h0] at hx
    simp [linR] at hx
   have fn:=f1 fe
   unfold PaR at C
   rw [fe,fn] at C
   clear f1 f2 hl fe fn h0 ht htz hL hts hg
   go_enter Tryz.func8,Tryz.ntmps8
   go_wp2_with fail
   refine C.out.mono ?_
   rintro e w1 ⟨a,c,U,rfl,-,-,-,-,-,b1⟩
   have G2:=KEY.out a c U w1 b1
   obtain ⟨w2,h2⟩:∃ X,w1.alloc (boxTt a c U) = X:=⟨_,rfl⟩
   rw [h2] at G2
   have C2:=Lib.hid (EX w2 G2.out.1)
   clear b1 C
   go_wp2_with fail
   refine C2.out.mono ?_
   rintro e w3 ⟨rfl,b3⟩
   have B:=Lib.hid (G2.out.2.trans (b3.mono G2.out.2.size))
   clear b3 C2
   go_wp2_with fail
   go_ret
   exact ⟨rfl,B.out⟩
  ·have n0:t.toList.isEmpty = false:=by rw [nil_iff,decide_eq_false_iff_not]; rw [htz]; exact fun q=>h0 (List.length_eq_zero_iff.1 q)
   have hpos:0 < s.length:=List.length_pos_iff.2 h0
   obtain ⟨b,hb⟩:=at_lt (l:=s) (k:=s.length - 1) (by omega)
   have hz0:0 < t.size:=by omega
   have hz9:t.size≤8192:=by omega
   have ix:((t.size:Int) - 1) = ((t.size - 1:Nat):Int):=by omega
   have ar:=fun W=>at_run t (t.size - 1) b (by rw [ht,htz]; exact hb) ((t.size:Int) - 1) ix W
   by_cases h10:b.toNat = 10
   ·have g2:((b.toNat:Int) != 10) = false:=byte_no (n:=10) h10
    have hb10:b = 10:=UInt8.toNat_inj.1 h10
    obtain ⟨l1,l2,l3⟩:=lin_of h0 (by rw [← hb10]; exact hb) (by omega)
    have hl:(linR s).2 = 0:=by rw [l1]
    obtain ⟨f1,f2⟩:=feed_line (F:=fmR) hl
    by_cases fe:(feedP fmR s).2.2 = 0
    ·have fn:=f1 fe
     unfold PaR at C
     rw [fe,fn] at C
     clear f1 f2 hl fe fn h0 ht htz hL hts hg l1 l2 l3 hb10 h10 hb ix hpos
     go_enter Tryz.func8,Tryz.ntmps8
     go_wp2_with fail
     refine C.out.mono ?_
     rintro e w1 ⟨a,c,U,rfl,-,-,-,-,-,b1⟩
     have G2:=KEY.out a c U w1 b1
     obtain ⟨w2,h2⟩:∃ X,w1.alloc (boxTt a c U) = X:=⟨_,rfl⟩
     rw [h2] at G2
     have C2:=Lib.hid (EX w2 G2.out.1)
     clear b1 C
     go_wp2_with fail
     refine C2.out.mono ?_
     rintro e w3 ⟨rfl,b3⟩
     have B:=Lib.hid (G2.out.2.trans (b3.mono G2.out.2.size))
     clear b3 C2
     go_wp2_with fail
     go_ret
     exact ⟨rfl,B.out⟩
    ·obtain ⟨p,b2,hp,hpb,hn10,hn35,hn1,hn2⟩:=line_told l2 l3 (by have:=f2 fe; rw [l1] at this; exact this)
     have hpl:=(List.getElem?_eq_some_iff.1 hpb).1
     unfold PaR at C
     have BG:=Lib.hid (fun w=>begins_any s ((feedP fmR s).2.1 - 1) (by omega) w)
     rw [hts,hp] at BG
     generalize (feedP fmR s).2.1 = fn at C hn1 hn2 BG
     have hn3:fn≤8192:=by omega
     generalize (feedP fmR s).2.2 = fz at C fe
     have g3:=beq_false fe
     have g4:decide (fn < 1) = false:=by rw [decide_eq_false_iff_not]; omega
     have g5:(0:Int)≤(p:Int):=by omega
     have g6:(p:Int) < (t.size:Int):=by omega
     have ap:=fun W=>at_run t p b2 (by rw [ht]; exact hpb) (p:Int) rfl W
     have g7:((b2.toNat:Int) != 10) = true:=byte_yes (n:=10) (fun q=>hn10 (UInt8.toNat_inj.1 q))
     have g8:((b2.toNat:Int) != 35) = true:=byte_yes (n:=35) (fun q=>hn35 (UInt8.toNat_inj.1 q))
     clear f1 f2 hl fe h0 ht htz hL hts hg l1 l2 l3 hb10 h10 hb ix hpos hp hpb hn10 hn35 hn2
     go_enter Tryz.func8,Tryz.ntmps8
     go_wp2_with fail
     refine C.out.mono ?_
     rintro e w1 ⟨a,c,U,rfl,-,-,-,-,-,b1⟩
     have G2:=KEY.out a c U w1 b1
     obtain ⟨w2,h2⟩:∃ X,w1.alloc (boxTt a c U) = X:=⟨_,rfl⟩
     rw [h2] at G2
     have C2:=Lib.hid (EX w2 G2.out.1)
     clear b1 C
     go_wp2_with fail
     with_reducible refine (BG.out _).mono ?_
     rintro e w4 ⟨rfl,rfl⟩
     go_wp2_with fail
     refine C2.out.mono ?_
     rintro e w3 ⟨rfl,b3⟩
     have B:=Lib.hid (G2.out.2.trans (b3.mono G2.out.2.size))
     clear b3 C2
     go_wp2_with fail
     go_ret
     exact ⟨rfl,B.out⟩
   ·have g2:((b.toNat:Int) != 10) = true:=byte_yes (n:=10) h10
    have hP:feedP fmR s = (T0,0,4):=by
     have hl:linR s = ([],4):=by
      unfold linR
      rw [if_neg (by omega),if_neg h0,if_neg (by rw [hb]; intro q; apply h10; rw [Option.some.inj q]; rfl)]
     unfold feedP
     rw [hl]
     rfl
    unfold PaR at C
    rw [hP] at C
    clear hP h0 ht htz hL hts hg h10 hb ix hpos
    dsimp only at C
    go_enter Tryz.func8,Tryz.ntmps8
    go_wp2_with fail
    refine C.out.mono ?_
    rintro e w1 ⟨a,c,U,rfl,-,-,-,-,-,b1⟩
    have G2:=KEY.out a c U w1 b1
    obtain ⟨w2,h2⟩:∃ X,w1.alloc (boxTt a c U) = X:=⟨_,rfl⟩
    rw [h2] at G2
    have C2:=Lib.hid (EX w2 G2.out.1)
    clear b1 C
    go_wp2_with fail
    refine C2.out.mono ?_
    rintro e w3 ⟨rfl,b3⟩
    have B:=Lib.hid (G2.out.2.trans (b3.mono G2.out.2.size))
    clear b3 C2
    go_wp2_with fail
    go_ret
    exact ⟨rfl,B.out⟩
end Go.Proofs.YtpifdbphmnifdaaGreatDoor
