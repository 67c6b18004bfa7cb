/-
  Facts of the proof. Condition: each theorem's own.
-/
import Derived.Test.YtpifdbphmnifdaaGreatDoorYI27
import Derived.Test.YtpifdbphmnifdaaGreatDoorYI28
import Derived.Test.YtpifdbphmnifdaaGreatDoorYI29
set_option maxRecDepth 100000
set_option maxHeartbeats 8000000
open Go.Proofs.Tryz
namespace Go.Proofs.YtpifdbphmnifdaaGreatDoor
section
open Go.RowKit
theorem Js5 {F_:Fm} {w W:World} {F:Nat} {R0:List (List Bs)} {A0:Option Addr} {n0:Nat} {T:Tt} (FW:Fw F_ w) (HL:S21.LstPd w (.slice A0 T.pr.length n0) T.pr) (V:Val T) (L:Lim T) (SH:Sht F_) (hR:R0.length≤900000) (hW:Wrs w F R0 W) :
  Calls prog 57 #[.pointer (some ⟨F,0,none⟩),.agg #[.slice A0 T.pr.length n0,.int .i64 T.di,.int .i64 T.wi,.int .i64 T.cp]] W fun e w'=>e=.returned (.tuple #[])∧Wrs w F ((R0++rFa F_ T)++T.pr.map (rPr F_)) w':=by
 suffices hs:∀Z:World→Prop,(∀w',Wrs w F ((R0++rFa F_ T)++T.pr.map (rPr F_)) w'→Z w')→Calls prog 57 #[.pointer (some ⟨F,0,none⟩),.agg #[.slice A0 T.pr.length n0,.int .i64 T.di,.int .i64 T.wi,.int .i64 T.cp]] W fun e w'=>e=.returned (.tuple #[])∧Z w' from hs _ (fun _ h=>h)
 intro Z hZ;have HZ:=Lib.hid hZ;clear hZ;have FW:=Lib.hid FW;have HH:=Lib.hid (And.intro HL trivial);clear HL;obtain⟨w3,h3⟩:∃X,W.alloc (.cells #[.slice A0 T.pr.length n0,.int .i64 T.di,.int .i64 T.wi,.int .i64 T.cp] 34 (0,0))=X:=⟨_,rfl⟩;have b3:Below W.heap.size W w3:=by rw [←h3];exact (Below.refl _ _).alloc (Nat.le_refl _) _
 have k3:w3.heap[W.heap.size]?=some (.cells #[.slice A0 T.pr.length n0,.int .i64 T.di,.int .i64 T.wi,.int .i64 T.cp] 34 (0,0)):=by rw [←h3];exact heap_alloc_new W _
 have Xw3:Hid (Wrx w F R0 [(W.heap.size,.cells #[.slice A0 T.pr.length n0,.int .i64 T.di,.int .i64 T.wi,.int .i64 T.cp] 34 (0,0))] w3):=Lib.hid (hW.x.more b3 (Nat.le_refl _) k3);have q0:w3.cell? ⟨W.heap.size,0,none⟩=some (.slice A0 T.pr.length n0):=by rw [cell_of_row _ _ _ _ _ _ k3];rfl
 have q1:w3.cell? ⟨W.heap.size,1,none⟩=some (.int .i64 T.di):=by rw [cell_of_row _ _ _ _ _ _ k3];rfl
 have q2:w3.cell? ⟨W.heap.size,2,none⟩=some (.int .i64 T.wi):=by rw [cell_of_row _ _ _ _ _ _ k3];rfl
 have q3:w3.cell? ⟨W.heap.size,3,none⟩=some (.int .i64 T.cp):=by rw [cell_of_row _ _ _ _ _ _ k3];rfl
 clear b3 k3 hW;have CS:((T.di != 0)=true∧rFa F_ T=[[wFa,F_.prcT T.di,F_.durT T.wi,F_.prcT T.cp]])∨((T.di != 0)=false∧(T.wi != 0)=true∧rFa F_ T=[[wFa,F_.prcT T.di,F_.durT T.wi,F_.prcT T.cp]])∨((T.di != 0)=false∧(T.wi != 0)=false∧(T.cp != 0)=true∧rFa F_ T=[[wFa,F_.prcT T.di,F_.durT T.wi,F_.prcT T.cp]])∨((T.di != 0)=false∧(T.wi != 0)=false∧(T.cp != 0)=false∧rFa F_ T=[]):=by
  by_cases hd:T.di=0
  ·by_cases hw:T.wi=0
   ·by_cases hc:T.cp=0
    ·exact .inr (.inr (.inr ⟨Jar hd,Jar hw,Jar hc,by unfold rFa;rw [if_neg (by omega)]⟩))
    ·exact .inr (.inr (.inl ⟨Jar hd,Jar hw,Jae hc,by unfold rFa;rw [if_pos (.inr (.inr hc))]⟩))
   ·exact .inr (.inl ⟨Jar hd,Jae hw,by unfold rFa;rw [if_pos (.inr (.inl hw))]⟩)
  ·exact .inl ⟨Jae hd,by unfold rFa;rw [if_pos (.inl hd)]⟩
 rcases CS with ⟨t1,HF⟩ | ⟨t1,t2,HF⟩ | ⟨t1,t2,t3,HF⟩ | ⟨t1,t2,t3,HN⟩
 rotate_left 3
 have X0:Hid (Wrx w F (R0++rFa F_ T) [(W.heap.size,.cells #[.slice A0 T.pr.length n0,.int .i64 T.di,.int .i64 T.wi,.int .i64 T.cp] 34 (0,0))] w3):=Lib.hid (by rw [HN,List.append_nil];exact Xw3.out);clear HN;go_enter func57,ntmps57
 go_wp2_with fail
 clear q0 q1 q2 q3 t1 t2 t3 h3;rotate_left 1
 iterate 3
  have HF:=Lib.hid HF;have SR:=Lib.hid (J4m V L SH (fs:=[wFa,F_.prcT T.di,F_.durT T.wi,F_.prcT T.cp]) (by rw [HF.out];simp));obtain⟨⟨v0,v1⟩,⟨v2,v3⟩,v4,v5⟩:=V.fa;have RLB:R0.length≤1000000:=by omega
  obtain⟨w3d,hw3d⟩:∃X,World.drew w3=X:=⟨_,rfl⟩;have dw3d:Below w3.heap.size w3 w3d:=by rw [←hw3d];exact (Below.refl _ _).drew
  have Xw3d:=Lib.hid (Xw3.out.on dw3d);have SF:Hid (∀(R:List (List Bs)) (X:World),Wrx w F R ([(W.heap.size,.cells #[.slice A0 T.pr.length n0,.int .i64 T.di,.int .i64 T.wi,.int .i64 T.cp] 34 (0,0))]) X→X.cell? ⟨W.heap.size,1,none⟩=some (.int .i64 T.di)∧X.cell? ⟨W.heap.size,2,none⟩=some (.int .i64 T.wi)∧X.cell? ⟨W.heap.size,3,none⟩=some (.int .i64 T.cp)):=Lib.hid (fun R X hX=>⟨by rw [cell_of_row _ _ _ _ _ _ (hX.row (i:=0) rfl)];rfl,by rw [cell_of_row _ _ _ _ _ _ (hX.row (i:=0) rfl)];rfl,by rw [cell_of_row _ _ _ _ _ _ (hX.row (i:=0) rfl)];rfl⟩);clear dw3d;go_enter func57,ntmps57
  go_wp2_with fail
  refine Ja6 (S:=fun X=>X.cell? ⟨W.heap.size,1,none⟩=some (.int .i64 T.di)∧X.cell? ⟨W.heap.size,2,none⟩=some (.int .i64 T.wi)∧X.cell? ⟨W.heap.size,3,none⟩=some (.int .i64 T.cp)) _ 12 rfl (by kernel_rfl) (by kernel_rfl) (by kernel_rfl) (Jba 12 0) (by kernel_rfl) (by (first | rw [hw3d] | rw [h3,hw3d]);exact SF.out _ _ Xw3d.out) (fun _=>?_);first | rw [hw3d] | rw [h3,hw3d]
  refine Ja3 (L:=[(0,20,pt F 0),(1,21,pt W.heap.size 1),(2,22,.int .i64 T.di),(4,24,pt W.heap.size 2),(5,25,.int .i64 T.wi),(7,27,pt W.heap.size 3),(8,28,.int .i64 T.cp)]) (.q (.q (.cons rfl rfl (.inl ⟨rfl,fun _ h=>by obtain⟨y0,y1,y2⟩:=h;dsimp only [pt];go_simp;try with_reducible rfl⟩) (.q (.cons rfl rfl (.inl ⟨rfl,fun _ h=>by obtain⟨y0,y1,y2⟩:=h;dsimp only [pt];go_simp;try with_reducible rfl⟩) (.q (.cons rfl rfl (.inl ⟨rfl,fun _ h=>by obtain⟨y0,y1,y2⟩:=h;dsimp only [pt];go_simp;try with_reducible rfl⟩) .nil))))))) [0,1,2,4,5,7,8] rfl rfl (by kernel_rfl) (fun _ _ _ _ _ h=>h) (SF.out _ _ Xw3d.out) ?_;have bw3d:=Below.refl w3d.heap.size w3d;refine Jbr (i:=3) (R:=fun u X=>u=.string (str (F_.prcT T.di))∧Below w3d.heap.size w3d X) 23 _ rfl (by kernel_rfl) rfl rfl rfl (by kernel_rfl) ((Jgj (FW.out.prc T.di v0 v1 w3d (Xw3d.out.base.trans (bw3d.mono Xw3d.out.base.size)))).mono fun e w' h=>⟨_,h.1,rfl,h.2⟩) ?_;rintro u w3d_0 ⟨rfl,cw3d_0⟩;have bw3d_0:=bw3d.trans (cw3d_0.mono bw3d.size);refine⟨SF.out _ _ (Xw3d.out.on bw3d_0),?_⟩;refine Jbr (i:=6) (R:=fun u X=>u=.string (str (F_.durT T.wi))∧Below w3d_0.heap.size w3d_0 X) 26 _ rfl (by kernel_rfl) rfl rfl rfl (by kernel_rfl) ((Jcx (FW.out.dur T.wi v2 v3 w3d_0 (Xw3d.out.base.trans (bw3d_0.mono Xw3d.out.base.size)))).mono fun e w' h=>⟨_,h.1,rfl,h.2⟩) ?_;rintro u w3d_1 ⟨rfl,cw3d_1⟩;have bw3d_1:=bw3d_0.trans (cw3d_1.mono bw3d_0.size);refine⟨SF.out _ _ (Xw3d.out.on bw3d_1),?_⟩;refine Jbr (i:=9) (R:=fun u X=>u=.string (str (F_.prcT T.cp))∧Below w3d_1.heap.size w3d_1 X) 29 _ rfl (by kernel_rfl) rfl rfl rfl (by kernel_rfl) ((Jgj (FW.out.prc T.cp v4 v5 w3d_1 (Xw3d.out.base.trans (bw3d_1.mono Xw3d.out.base.size)))).mono fun e w' h=>⟨_,h.1,rfl,h.2⟩) ?_;rintro u w3d_2 ⟨rfl,cw3d_2⟩;have bw3d_2:=bw3d_1.trans (cw3d_2.mono bw3d_1.size);refine⟨SF.out _ _ (Xw3d.out.on bw3d_2),?_⟩;obtain⟨w3ds,hw3ds⟩:∃X,w3d_2.alloc (.cells #[.string (str wFa),.string (str (F_.prcT T.di)),.string (str (F_.durT T.wi)),.string (str (F_.prcT T.cp))] 9 (0,0))=X:=⟨_,rfl⟩;have cw3ds:Below w3d_2.heap.size w3d_2 w3ds:=by rw [←hw3ds];exact (Below.refl _ _).alloc (Nat.le_refl _) _
  have bw3ds:=bw3d_2.trans (cw3ds.mono bw3d_2.size);have LL:Lst w3ds (.slice (some ⟨w3d_2.heap.size,0,none⟩) 4 4) ([wFa,F_.prcT T.di,F_.durT T.wi,F_.prcT T.cp]):=by
   rw [←hw3ds];exact Jb7 w3d_2 #[.string (str wFa),.string (str (F_.prcT T.di)),.string (str (F_.durT T.wi)),.string (str (F_.prcT T.cp))] ([wFa,F_.prcT T.di,F_.durT T.wi,F_.prcT T.cp]) (by rfl) 4 rfl
  refine Jdh (i:=10) (v:=.slice (some ⟨w3d_2.heap.size,0,none⟩) 4 4) (w':=w3ds) 30 _ rfl (by kernel_rfl) rfl rfl rfl (by rw [←hw3ds];kernel_rfl) (SF.out _ _ (Xw3d.out.on bw3ds)) rfl ?_;refine Jgt (i:=11) 31 _ rfl (by kernel_rfl) rfl rfl (by kernel_rfl) (by kernel_rfl) (Jcu (Xw3d.out.on bw3ds) RLB _ _ LL (SR.out)) ?_;intro wz hz;refine⟨SF.out _ _ hz,?_⟩;refine Jb2 (by kernel_rfl) ?_;have X0:Hid (Wrx w F (R0++rFa F_ T) [(W.heap.size,.cells #[.slice A0 T.pr.length n0,.int .i64 T.di,.int .i64 T.wi,.int .i64 T.cp] 34 (0,0))] wz):=Lib.hid (by rw [HF.out];exact hz);have p0:wz.cell? ⟨W.heap.size,0,none⟩=some (.slice A0 T.pr.length n0):=by rw [cell_of_row _ _ _ _ _ _ (hz.row (i:=0) rfl)];rfl
  clear hz SF LL RLB HF v0 v1 v2 v3 v4 v5 Xw3;go_wp2_with fail
  clear p0;rotate_left 1
 all_goals
  go_loopw [35] (fun i wr=>∃k:Nat,i=.int .i64 k∧k≤T.pr.length∧Hid (Wrx w F ((R0++rFa F_ T)++(T.pr.take k).map (rPr F_)) [(W.heap.size,.cells #[.slice A0 T.pr.length n0,.int .i64 T.di,.int .i64 T.wi,.int .i64 T.cp] 34 (0,0))] wr)) (fun i _=>T.pr.length - (intOf i).toNat)
  case atStart=>exact⟨0,rfl,Nat.zero_le _,Lib.hid (by rw [List.take_zero,List.map_nil,List.append_nil];exact X0.out)⟩
  case round =>
   obtain⟨k,rfl,hk,HX⟩:=hrel;by_cases hlt:k<T.pr.length
   ·have gk:(k:Int)<(T.pr.length:Int):=by omega
    have lb:=L.pr;have RLB:((R0++rFa F_ T)++(T.pr.take k).map (rPr F_)).length≤1000000:=by
     have l0:=L.st;have l1:=L.ro;have l2:=L.ca;have l3:=L.ex;have l5:=L.fr;have l6:=L.th;have l7:=L.gu;have l8:=L.pa;have l9:=L.pr;have lk:=List.length_take_le k T.pr;have lf:(rFa F_ T).length≤1:=by unfold rFa;split <;> simp
     simp only [List.length_append,List.length_map];omega
    obtain⟨⟨id,pc,ri,zo,se,mo⟩,hx⟩:=Jao hlt;have hm:=List.mem_of_getElem? hx;obtain⟨⟨v0,v1⟩,⟨v2,v3⟩,⟨v4,v5⟩,⟨v6,v7⟩,v8,v9⟩:=V.pr _ hm;dsimp only at v0 v1 v2 v3 v4 v5 v6 v7 v8 v9;have SR:=Lib.hid (J4l V L SH hm);clear hm;obtain⟨nm,hnm⟩:∃s,str id=s:=⟨_,rfl⟩;obtain⟨b,o,rfl,hb,r0,r1,r2,r3,r4,r5⟩:=S21.six_at ((HH.out.1).below HX.out.base) hx hnm;obtain⟨w7,h7⟩:∃X,wr.alloc (.cells #[.string nm,.int .i64 pc,.int .i64 ri,.int .i64 zo,.int .i64 se,.int .i64 mo] 65 (0,0))=X:=⟨_,rfl⟩;have b7:Below wr.heap.size wr w7:=by rw [←h7];exact (Below.refl _ _).alloc (Nat.le_refl _) _
    have k7:w7.heap[wr.heap.size]?=some (.cells #[.string nm,.int .i64 pc,.int .i64 ri,.int .i64 zo,.int .i64 se,.int .i64 mo] 65 (0,0)):=by rw [←h7];exact heap_alloc_new wr _
    have l7:wr.heap.size<w7.heap.size:=(Array.getElem?_eq_some_iff.1 k7).1;have Xw7:Hid (Wrx w F _ ([(W.heap.size,.cells #[.slice (some ⟨b,o,none⟩) T.pr.length n0,.int .i64 T.di,.int .i64 T.wi,.int .i64 T.cp] 34 (0,0))]++[(wr.heap.size,.cells #[.string nm,.int .i64 pc,.int .i64 ri,.int .i64 zo,.int .i64 se,.int .i64 mo] 65 (0,0))]) w7):=Lib.hid (HX.out.more b7 (Nat.le_refl _) k7);have e1:w7.cell? ⟨wr.heap.size,5,none⟩=some (.int .i64 mo):=by rw [cell_of_row _ _ _ _ _ _ k7];rfl
    have CM:=Lib.hid (FW.out.mds mo v8 v9 w7 Xw7.out.base);have HK:=Lib.hid k7;clear k7 b7;go_wp2_with fail
    refine CM.out.mono ?_;rintro e w8 ⟨rfl,b8⟩;have CN:=Lib.hid (Jeo (str (F_.mdsT mo)) 0 w8);have B8:=Lib.hid b8;clear b8 CM e1;go_wp2_with fail
    refine CN.out.mono ?_;rintro e w9 ⟨rfl,rfl⟩;have b9:=B8.out;have k7:=(b9.block _ l7).trans HK.out;have Xw9:=Lib.hid (Xw7.out.on b9);have l9:=Nat.lt_of_lt_of_le l7 b9.size;clear b9 CN B8;obtain⟨w9d,hw9d⟩:∃X,World.drew w9=X:=⟨_,rfl⟩;have dw9d:Below w9.heap.size w9 w9d:=by rw [←hw9d];exact (Below.refl _ _).drew
    have Xw9d:=Lib.hid (Xw9.out.on dw9d);have SF:Hid (∀(R:List (List Bs)) (X:World),Wrx w F R ([(W.heap.size,.cells #[.slice (some ⟨b,o,none⟩) T.pr.length n0,.int .i64 T.di,.int .i64 T.wi,.int .i64 T.cp] 34 (0,0))]++[(wr.heap.size,.cells #[.string nm,.int .i64 pc,.int .i64 ri,.int .i64 zo,.int .i64 se,.int .i64 mo] 65 (0,0))]) X→X.cell? ⟨wr.heap.size,0,none⟩=some (.string nm)∧X.cell? ⟨wr.heap.size,1,none⟩=some (.int .i64 pc)∧X.cell? ⟨wr.heap.size,2,none⟩=some (.int .i64 ri)∧X.cell? ⟨wr.heap.size,3,none⟩=some (.int .i64 zo)∧X.cell? ⟨wr.heap.size,4,none⟩=some (.int .i64 se)):=Lib.hid (fun R X hX=>⟨by rw [cell_of_row _ _ _ _ _ _ (hX.row (i:=1) rfl)];rfl,by rw [cell_of_row _ _ _ _ _ _ (hX.row (i:=1) rfl)];rfl,by rw [cell_of_row _ _ _ _ _ _ (hX.row (i:=1) rfl)];rfl,by rw [cell_of_row _ _ _ _ _ _ (hX.row (i:=1) rfl)];rfl,by rw [cell_of_row _ _ _ _ _ _ (hX.row (i:=1) rfl)];rfl⟩);clear dw9d;clear k7;go_wp2_with fail
    refine Ja6 (S:=fun X=>X.cell? ⟨wr.heap.size,0,none⟩=some (.string nm)∧X.cell? ⟨wr.heap.size,1,none⟩=some (.int .i64 pc)∧X.cell? ⟨wr.heap.size,2,none⟩=some (.int .i64 ri)∧X.cell? ⟨wr.heap.size,3,none⟩=some (.int .i64 zo)∧X.cell? ⟨wr.heap.size,4,none⟩=some (.int .i64 se)) _ 18 rfl (by kernel_rfl) (by kernel_rfl) (by kernel_rfl) (Jba 18 0) (by kernel_rfl) (by (first | rw [hw9d] | rw [h3,hw9d]);exact SF.out _ _ Xw9d.out) (fun _=>?_);first | rw [hw9d] | rw [h3,hw9d]
    refine Ja3 (L:=[(0,45,pt F 0),(1,46,pt wr.heap.size 0),(2,47,.string nm),(3,48,pt wr.heap.size 1),(4,49,.int .i64 pc),(6,51,pt wr.heap.size 2),(7,52,.int .i64 ri),(9,54,pt wr.heap.size 3),(10,55,.int .i64 zo),(12,57,pt wr.heap.size 4),(13,58,.int .i64 se),(15,60,.string (str (F_.mdsT mo)))]) (.q (.q (.cons rfl rfl (.inl ⟨rfl,fun _ h=>by obtain⟨y0,y1,y2,y3,y4⟩:=h;dsimp only [pt];go_simp;try with_reducible rfl⟩) (.q (.cons rfl rfl (.inl ⟨rfl,fun _ h=>by obtain⟨y0,y1,y2,y3,y4⟩:=h;dsimp only [pt];go_simp;try with_reducible rfl⟩) (.q (.cons rfl rfl (.inl ⟨rfl,fun _ h=>by obtain⟨y0,y1,y2,y3,y4⟩:=h;dsimp only [pt];go_simp;try with_reducible rfl⟩) (.q (.cons rfl rfl (.inl ⟨rfl,fun _ h=>by obtain⟨y0,y1,y2,y3,y4⟩:=h;dsimp only [pt];go_simp;try with_reducible rfl⟩) (.q (.cons rfl rfl (.inl ⟨rfl,fun _ h=>by obtain⟨y0,y1,y2,y3,y4⟩:=h;dsimp only [pt];go_simp;try with_reducible rfl⟩) (.q .nil)))))))))))) [0,1,2,3,4,6,7,9,10,12,13,15] rfl rfl (by kernel_rfl) (fun _ _ _ _ _ h=>h) (SF.out _ _ Xw9d.out) ?_;have bw9d:=Below.refl w9d.heap.size w9d;refine Jbr (i:=5) (R:=fun u X=>u=.string (str (F_.prcT pc))∧Below w9d.heap.size w9d X) 50 _ rfl (by kernel_rfl) rfl rfl rfl (by kernel_rfl) ((Jgj (FW.out.prc pc v0 v1 w9d (Xw9d.out.base.trans (bw9d.mono Xw9d.out.base.size)))).mono fun e w' h=>⟨_,h.1,rfl,h.2⟩) ?_;rintro u w9d_0 ⟨rfl,cw9d_0⟩;have bw9d_0:=bw9d.trans (cw9d_0.mono bw9d.size);refine⟨SF.out _ _ (Xw9d.out.on bw9d_0),?_⟩;refine Jbr (i:=8) (R:=fun u X=>u=.string (str (F_.numT ri))∧Below w9d_0.heap.size w9d_0 X) 53 _ rfl (by kernel_rfl) rfl rfl rfl (by kernel_rfl) ((FW.out.num ri v2 v3 w9d_0 (Xw9d.out.base.trans (bw9d_0.mono Xw9d.out.base.size))).mono fun e w' h=>⟨_,h.1,rfl,h.2⟩) ?_;rintro u w9d_1 ⟨rfl,cw9d_1⟩;have bw9d_1:=bw9d_0.trans (cw9d_1.mono bw9d_0.size);refine⟨SF.out _ _ (Xw9d.out.on bw9d_1),?_⟩;refine Jbr (i:=11) (R:=fun u X=>u=.string (str (F_.numT zo))∧Below w9d_1.heap.size w9d_1 X) 56 _ rfl (by kernel_rfl) rfl rfl rfl (by kernel_rfl) ((FW.out.num zo v4 v5 w9d_1 (Xw9d.out.base.trans (bw9d_1.mono Xw9d.out.base.size))).mono fun e w' h=>⟨_,h.1,rfl,h.2⟩) ?_;rintro u w9d_2 ⟨rfl,cw9d_2⟩;have bw9d_2:=bw9d_1.trans (cw9d_2.mono bw9d_1.size);refine⟨SF.out _ _ (Xw9d.out.on bw9d_2),?_⟩;refine Jbr (i:=14) (R:=fun u X=>u=.string (str (F_.durT se))∧Below w9d_2.heap.size w9d_2 X) 59 _ rfl (by kernel_rfl) rfl rfl rfl (by kernel_rfl) ((Jcx (FW.out.dur se v6 v7 w9d_2 (Xw9d.out.base.trans (bw9d_2.mono Xw9d.out.base.size)))).mono fun e w' h=>⟨_,h.1,rfl,h.2⟩) ?_;rintro u w9d_3 ⟨rfl,cw9d_3⟩;have bw9d_3:=bw9d_2.trans (cw9d_3.mono bw9d_2.size);refine⟨SF.out _ _ (Xw9d.out.on bw9d_3),?_⟩;obtain⟨w9ds,hw9ds⟩:∃X,w9d_3.alloc (.cells #[.string (str wPr),.string nm,.string (str (F_.prcT pc)),.string (str (F_.numT ri)),.string (str (F_.numT zo)),.string (str (F_.durT se)),.string (str (F_.mdsT mo))] 9 (0,0))=X:=⟨_,rfl⟩;have cw9ds:Below w9d_3.heap.size w9d_3 w9ds:=by rw [←hw9ds];exact (Below.refl _ _).alloc (Nat.le_refl _) _
    have bw9ds:=bw9d_3.trans (cw9ds.mono bw9d_3.size);have LL:Lst w9ds (.slice (some ⟨w9d_3.heap.size,0,none⟩) 7 7) (rPr F_ (id,pc,ri,zo,se,mo)):=by
     rw [←hw9ds];exact Jb7 w9d_3 #[.string (str wPr),.string nm,.string (str (F_.prcT pc)),.string (str (F_.numT ri)),.string (str (F_.numT zo)),.string (str (F_.durT se)),.string (str (F_.mdsT mo))] (rPr F_ (id,pc,ri,zo,se,mo)) (by rw [←hnm];rfl) 7 rfl
    refine Jdh (i:=16) (v:=.slice (some ⟨w9d_3.heap.size,0,none⟩) 7 7) (w':=w9ds) 61 _ rfl (by kernel_rfl) rfl rfl rfl (by rw [←hw9ds];kernel_rfl) (SF.out _ _ (Xw9d.out.on bw9ds)) rfl ?_;refine Jgt (i:=17) 62 _ rfl (by kernel_rfl) rfl rfl (by kernel_rfl) (by kernel_rfl) (Jcu (Xw9d.out.on bw9ds) RLB _ _ LL (SR.out)) ?_;intro wz hz;refine⟨SF.out _ _ hz,?_⟩;refine Jb2 (by kernel_rfl) ?_;have HZ2:=Lib.hid hz.less;clear hz;go_wp2_with fail
    go_roundw
    case rel=>exact⟨k+1,by go_num,by omega,Lib.hid (by rw [Jcl _ hx];exact HZ2.out)⟩
    case measure=>simp [intOf];omega
   ·have d:decide (k<T.pr.length)=false:=by rw [decide_eq_false_iff_not];exact hlt
    have X1:Hid (Wrx w F ((R0++rFa F_ T)++T.pr.map (rPr F_)) [(W.heap.size,.cells #[.slice A0 T.pr.length n0,.int .i64 T.di,.int .i64 T.wi,.int .i64 T.cp] 34 (0,0))] wr):=Lib.hid (by have h:=HX.out;rw [List.take_of_length_le (by omega)] at h;exact h);have HE:=Lib.hid (HZ.out _ X1.out.none);clear HX;go_wp2_with fail
    go_end0;exact⟨rfl,HE.out⟩
theorem Jos {w:World} (hg:Jcq w) {a:Nat→Option Addr} {c:Nat→Nat} {T:Tt} (h:TtL w a c T) (man:manT T=true) (ok:OkTt T) (ln:LnTt T) :
  Calls prog 14 #[ttV a c T] w fun e w'=>e=.returned (.tuple #[.string (str (feedF fmR T).1),.int .i64 (feedF fmR T).2])∧Below w.heap.size w w':=by
 refine J8j fmR h man ok ln (fun w1 b1 h0=>?_) (fun h0=>Jyt (J3y h0) (J4d h0) Jh9);have V:=J3y h0;have L:=J4d h0;have hg1:Jcq w1:=hg.below b1;have h1:=h.below b1;have c0:=L.st;have c1:=L.ro;have c2:=L.ca;have c3:=L.ex;have c5:=L.fr;have c6:=L.th;have c7:=L.gu;have c8:=L.pa;have c9:=Jkp (F:=fmR) (T:=T) T.tr L.cc;have c4:=L.tr;have e:=Jyr (w₀:=w1) (a:=a) (c:=c) (T:=T) (R1:=((([]++T.st.map (rSt fmR))++T.ro.map rRo)++T.ca.map (rCa fmR))++T.ex.map (rEx fmR T))
  (R2:=(((([]++T.st.map (rSt fmR))++T.ro.map rRo)++T.ca.map (rCa fmR))++T.ex.map (rEx fmR T))++T.tr.flatMap (bTr fmR T))
  (R3:=(((((((([]++T.st.map (rSt fmR))++T.ro.map rRo)++T.ca.map (rCa fmR))++T.ex.map (rEx fmR T))++T.tr.flatMap (bTr fmR T))++T.fr.map (rFr fmR T))++T.th.map (rTh T))++T.gu.map (rGu T))++T.pa.map (rPa fmR T))
  (R4:=((((((((((([]++T.st.map (rSt fmR))++T.ro.map rRo)++T.ca.map (rCa fmR))++T.ex.map (rEx fmR T))++T.tr.flatMap (bTr fmR T))++T.fr.map (rFr fmR T))++T.th.map (rTh T))++T.gu.map (rGu T))++T.pa.map (rPa fmR T))++rFa fmR T)++T.pr.map (rPr fmR)))
  (fun w F b hF=>by
   have FW:=Qb0 (hg1.below b);have HL:=h1.below b;refine⟨fun W hW=>Jms FW HL V L Jh9 (by simp) hW,fun W hW=>Js4 FW HL V L Jh9 ?_ hW,fun W hW=>Jgu FW HL V L Jh9 ?_ hW,fun W hW=>Js5 FW HL.pr V L Jh9 ?_ hW⟩;all_goals
    simp only [List.length_append,List.length_map,List.length_nil];omega)
 refine e.mono fun r w2 q=>?_
 obtain⟨v,hv,hl,hb⟩:=q;refine⟨v,hv,?_,hb⟩;have er:rows fmR T=((((((((((([]++T.st.map (rSt fmR))++T.ro.map rRo)++T.ca.map (rCa fmR))++T.ex.map (rEx fmR T))++T.tr.flatMap (bTr fmR T))++T.fr.map (rFr fmR T))++T.th.map (rTh T))++T.gu.map (rGu T))++T.pa.map (rPa fmR T))++rFa fmR T)++T.pr.map (rPr fmR)):=by
  unfold rows;simp only [List.nil_append,List.append_assoc]
 rw [er];exact hl
def bgF (n:Int):Bs→Nat→Nat→Int
 | [],i,m=>if (m:Int)=n then (i:Int) else -1
 | b::r,i,m=>if (m:Int)=n then (i:Int) else bgF n r (i+1) (if b=10 then m+1 else m)
theorem Jmt {n:Int} {l:Bs} {i m:Nat} (h:(m:Int)=n):bgF n l i m=(i:Int):=by
 cases l with
 | nil=>unfold bgF;rw [if_pos h]
 | cons b r=>unfold bgF;rw [if_pos h]
theorem Jia {n:Int} {l:Bs} {b:UInt8} {r:Bs} {i m:Nat} (h:¬(m:Int)=n) (hl:l=b::r):bgF n l i m=bgF n r (i+1) (if b=10 then m+1 else m):=by
 subst hl;conv=>lhs;unfold bgF
 rw [if_neg h]
theorem J4r {n:Int} {i m:Nat} (h:¬(m:Int)=n):bgF n [] i m=-1:=by unfold bgF;rw [if_neg h]
theorem Qb4:∀(P B:Bs) (i m n:Nat),(∀j,j<P.length→m+Jc7 (P.take j)<n)→m+Jc7 P=n→bgF n (P++B) i m=((i+P.length:Nat):Int)
 | [],B,i,m,n,_,h=>by
  have h0:m=n:=by simpa [Jc7] using h
  rw [List.nil_append,Jmt (by omega)];simp
 | b::P,B,i,m,n,hl,h=>by
  have h0:=hl 0 (by simp);have h0':m<n:=by simpa [Jc7] using h0
  have hc:∀Q:Bs,Jc7 (b::Q)=(if b=10 then 1 else 0)+Jc7 Q:=fun Q=>by
   unfold Jc7;rw [List.countP_cons];by_cases hb:b=10 <;> simp [hb] <;> omega
  have ih:=Qb4 P B (i+1) (if b=10 then m+1 else m) n (fun j hj=>by
   have:=hl (j+1) (by rw [List.length_cons];omega);rw [List.take_succ_cons,hc] at this;by_cases hb:b=10
   ·rw [if_pos hb] at this ⊢;omega
   ·rw [if_neg hb] at this ⊢;omega) (by
   rw [hc] at h;by_cases hb:b=10
   ·rw [if_pos hb] at h ⊢;omega
   ·rw [if_neg hb] at h ⊢;omega)
  rw [Jia (l:=b::P++B) (b:=b) (r:=P++B) (by omega) rfl,ih,List.length_cons];congr 1
  omega
theorem J8n {ls:List Bs} (h:∀l∈ls,∀b∈l,b≠10) {j:Nat} (hj:j≤ls.length):bgF (j:Int) (Jag ls) 0 0=((Jag (ls.take j)).length:Int):=by
 have e:Jag ls=Jag (ls.take j)++Jag (ls.drop j):=by rw [←Jhn,List.take_append_drop]
 have hA:∀l∈ls.take j,∀b∈l,b≠10:=fun l hl=>h l (List.mem_of_mem_take hl)
 have lA:(ls.take j).length=j:=by rw [List.length_take];omega
 rw [e,Qb4 (Jag (ls.take j)) (Jag (ls.drop j)) 0 0 j (fun k hk=>by have:=Jp2 _ hA k hk;omega) (by rw [Jjs _ hA];omega)];simp
theorem Ji9 (s:Bs) (n:Int) (hs:s.length≤1099511627776) (w:World):Calls prog 17 #[.string (str s),.int .i64 n] w fun e w'=>e=.returned (.int .i64 (bgF n s 0 0))∧w'=w:=by
 obtain⟨t,ht,htz,hts⟩:=Jcm s;rw [hts];obtain⟨q,hq⟩:∃q,bgF n s 0 0=q:=⟨_,rfl⟩;rw [hq];have HT:=Lib.hid ht;have HQ:=Lib.hid hq;have hz:t.size≤1099511627776:=by omega
 have HZ:=Lib.hid htz;clear hts hq ht htz hs;go_enter func17,ntmps17
 go_wp2_with fail
 go_loop [5,6] (fun u i=>∃k m:Nat,u=.int .i64 (m:Int)∧i=.int .i64 (k:Int)∧k≤t.size∧m≤k∧Hid (q=bgF n (s.drop k) k m)) (fun _ i=>t.size - (intOf i).toNat)
 case atStart=>exact⟨0,0,rfl,rfl,Nat.zero_le _,Nat.le_refl _,Lib.hid HQ.out.symm⟩
 case round =>
  obtain⟨k,m,rfl,rfl,hk,hm,hr⟩:=hrel;by_cases hlt:k<t.size
  ·have gk:(k:Int)<(t.size:Int):=by omega
   obtain⟨b,hb⟩:=Jao (l:=s) (k:=k) (by rw [←HZ.out];exact hlt);have hd:s.drop k=b::s.drop (k+1):=by
    have hl:=(List.getElem?_eq_some_iff.1 hb);rw [←hl.2];exact List.drop_eq_getElem_cons hl.1
   by_cases he:(m:Int)=n
   ·have g:=Jaq he
    have R:Hid (q=(k:Int)):=Lib.hid (by rw [hr.out,Jmt he]);clear hb hd he hr hlt;go_wp2_with fail
    go_ret;exact⟨Jad R.out.symm,rfl⟩
   ·have g:=Jac he
    have ar:=fun e he W=>Jbo t k b (by rw [HT.out];exact hb) e he W
    by_cases h10:b=10
    ·have g2:((b.toNat:Int)==10)=true:=by subst h10;rfl
     have N:Hid (q=bgF n (s.drop (k+1)) (k+1) (m+1)):=Lib.hid (by rw [hr.out,Jia he hd,if_pos h10]);clear hb hd he hr h10;go_wp2_with fail
     go_round
     case rel=>exact⟨k+1,m+1,by go_num,by go_num,by omega,by omega,N⟩
     case measure=>simp [intOf];omega
    ·have g2:((b.toNat:Int)==10)=false:=by
      rw [beq_eq_false_iff_ne];intro e;apply h10
      have:b.toNat=10:=by omega
      exact UInt8.toNat_inj.1 this
     have N:Hid (q=bgF n (s.drop (k+1)) (k+1) m):=Lib.hid (by rw [hr.out,Jia he hd,if_neg h10]);clear hb hd he hr h10;go_wp2_with fail
     go_round
     case rel=>exact⟨k+1,m,rfl,by go_num,by omega,by omega,N⟩
     case measure=>simp [intOf];omega
  ·have d:decide (k<t.size)=false:=by rw [decide_eq_false_iff_not];exact hlt
   have hd:s.drop k=[]:=List.drop_eq_nil_of_le (by rw [←HZ.out];omega);have hkz:k=t.size:=by omega
   by_cases he:(m:Int)=n
   ·have g:=Jaq he
    have R:Hid (q=(t.size:Int)):=Lib.hid (by rw [hr.out,Jmt he,hkz]);clear hd he hr hlt hkz;go_wp2_with fail
    go_ret;exact⟨Jad R.out.symm,rfl⟩
   ·have g:=Jac he
    have R:Hid (q=-1):=Lib.hid (by rw [hr.out,hd,J4r he]);clear hd he hr hlt hkz;go_wp2_with fail
    go_ret;exact⟨Jad R.out.symm,rfl⟩
def ExH:Prop:=∀w:World,Jcq w→Calls prog 9 #[] w fun e w'=>e=.returned (.bool true)∧Below w.heap.size w w'
theorem Jqx {b:UInt8} {n:Nat} (h:b.toNat≠n):((b.toNat:Int) != (n:Int))=true:=by
 rw [bne_iff_ne];omega
theorem Jmu:∀ls:List Bs,ls.length≤(Jag ls).length
 | []=>by simp [Jag]
 | x::ls=>by
  have e:Jag (x::ls)=x++[10]++Jag ls:=rfl;have:=Jmu ls;rw [e,List.length_append,List.length_append,List.length_cons,List.length_cons];omega
theorem J8o (w:World):Calls prog 18 #[] w fun e w'=>e=.returned (.string (str exB))∧w'=w:=by
 go_enter func18,ntmps18
 go_wp2_with fail
 go_ret;exact⟨by kernel_rfl,rfl⟩
def ExC (b2 o2 b4 o4 bc oc mm b8 o8 b9 o9:Nat) (X:World):Prop:=(b2<X.heap.size∧b4<X.heap.size∧bc<X.heap.size∧b8<X.heap.size∧b9<X.heap.size)∧X.cell? ⟨b2,o2+5,none⟩=some (.bool true)∧X.cell? ⟨b2,o2+6,none⟩=some (.bool false)∧X.cell? ⟨b2,o2+8,none⟩=some (.int .i64 9132)∧X.cell? ⟨b2,o2+9,none⟩=some (.int .i64 9496)∧X.cell? ⟨b4,o4+4,none⟩=some (.slice (some ⟨bc,oc,none⟩) 2 mm)∧X.cell? ⟨bc,oc,none⟩=some (.int .i64 0)∧X.cell? ⟨bc,oc+1,none⟩=some (.int .i64 28800)∧X.cell? ⟨bc,oc+2,none⟩=some (.int .i64 28800)∧X.cell? ⟨bc,oc+3,none⟩=some (.bool true)∧X.cell? ⟨bc,oc+4,none⟩=some (.bool false)∧X.cell? ⟨bc,oc+5,none⟩=some (.int .i64 1)∧X.cell? ⟨bc,oc+6,none⟩=some (.int .i64 30600)∧X.cell? ⟨bc,oc+7,none⟩=some (.int .i64 30660)∧X.cell? ⟨bc,oc+8,none⟩=some (.bool false)∧X.cell? ⟨bc,oc+9,none⟩=some (.bool true)∧X.cell? ⟨b8,o8,none⟩=some (.int .i64 0)∧X.cell? ⟨b8,o8+1,none⟩=some (.int .i64 1)∧X.cell? ⟨b8,o8+2,none⟩=some (.int .i64 600)∧X.cell? ⟨b8,o8+3,none⟩=some (.bool false)∧X.cell? ⟨b9,o9+1,none⟩=some (.int .i64 250)∧X.cell? ⟨b9,o9+5,none⟩=some (.int .i64 3)
theorem ExC.below {b2 o2 b4 o4 bc oc mm b8 o8 b9 o9:Nat} {X Y:World} (h:ExC b2 o2 b4 o4 bc oc mm b8 o8 b9 o9 X) (b:Below X.heap.size X Y):ExC b2 o2 b4 o4 bc oc mm b8 o8 b9 o9 Y:=by
 obtain⟨⟨l2,l4,lc,l8,l9⟩,h0,h1,h2,h3,h4,h5,h6,h7,h8,h9,h10,h11,h12,h13,h14,h15,h16,h17,h18,h19,h20⟩:=h;have hz:=b.size;exact⟨⟨by omega,by omega,by omega,by omega,by omega⟩,(b.cell (p:=⟨b2,o2+5,none⟩) l2).trans h0,(b.cell (p:=⟨b2,o2+6,none⟩) l2).trans h1,(b.cell (p:=⟨b2,o2+8,none⟩) l2).trans h2,(b.cell (p:=⟨b2,o2+9,none⟩) l2).trans h3,(b.cell (p:=⟨b4,o4+4,none⟩) l4).trans h4,(b.cell (p:=⟨bc,oc,none⟩) lc).trans h5,(b.cell (p:=⟨bc,oc+1,none⟩) lc).trans h6,(b.cell (p:=⟨bc,oc+2,none⟩) lc).trans h7,(b.cell (p:=⟨bc,oc+3,none⟩) lc).trans h8,(b.cell (p:=⟨bc,oc+4,none⟩) lc).trans h9,(b.cell (p:=⟨bc,oc+5,none⟩) lc).trans h10,(b.cell (p:=⟨bc,oc+6,none⟩) lc).trans h11,(b.cell (p:=⟨bc,oc+7,none⟩) lc).trans h12,(b.cell (p:=⟨bc,oc+8,none⟩) lc).trans h13,(b.cell (p:=⟨bc,oc+9,none⟩) lc).trans h14,(b.cell (p:=⟨b8,o8,none⟩) l8).trans h15,(b.cell (p:=⟨b8,o8+1,none⟩) l8).trans h16,(b.cell (p:=⟨b8,o8+2,none⟩) l8).trans h17,(b.cell (p:=⟨b8,o8+3,none⟩) l8).trans h18,(b.cell (p:=⟨b9,o9+1,none⟩) l9).trans h19,(b.cell (p:=⟨b9,o9+5,none⟩) l9).trans h20⟩
theorem Qb5 {w:World} (hg:Jcq w):Calls prog 10 #[.string (str exB)] w fun e w'=>∃(A0 A1 A3 A5 A6 A7:Option Addr) (n0 n1 n2 n3 n4 n5 n6 n7 n8 n9 b2 o2 b4 o4 bc oc mm b8 o8 b9 o9:Nat),e=.returned (.tuple #[.agg #[.slice A0 2 n0,.slice A1 1 n1,.slice (some ⟨b2,o2,none⟩) 1 n2,.slice A3 0 n3,.slice (some ⟨b4,o4,none⟩) 1 n4,.slice A5 0 n5,.slice A6 0 n6,.slice A7 0 n7,.slice (some ⟨b8,o8,none⟩) 1 n8,.slice (some ⟨b9,o9,none⟩) 1 n9,.int .i64 0,.int .i64 0,.int .i64 0],.int .i64 0,.int .i64 0])∧ExC b2 o2 b4 o4 bc oc mm b8 o8 b9 o9 w'∧(∀W:World,Below w'.heap.size w' W→Calls prog 14 #[.agg #[.slice A0 2 n0,.slice A1 1 n1,.slice (some ⟨b2,o2,none⟩) 1 n2,.slice A3 0 n3,.slice (some ⟨b4,o4,none⟩) 1 n4,.slice A5 0 n5,.slice A6 0 n6,.slice A7 0 n7,.slice (some ⟨b8,o8,none⟩) 1 n8,.slice (some ⟨b9,o9,none⟩) 1 n9,.int .i64 0,.int .i64 0,.int .i64 0]] W fun e W'=>e=.returned (.tuple #[.string (str exB),.int .i64 0])∧Below W.heap.size W W')∧Below w.heap.size w w':=by
 refine (Jgi hg exB (by decide)).mono ?_;rintro e w' ⟨a,c,U,he,cop,tl,man,ok,ln,b⟩;rw [J1h] at he cop;obtain⟨v,rfl⟩:=Qak cop;obtain⟨b2,o2,e2,l2,-,k,k8,k9⟩:=S14.ten_at tl.ca (i:=0) rfl rfl;obtain⟨b4,o4,B,mm,e4,ev,l4,-,-,-,-,y4,hl,-,-⟩:=Jb8 tl.tr (i:=0) rfl rfl;obtain⟨bc,oc,eB,lc,p0,p1,p2,p3,p4⟩:=Jbp hl (i:=0) rfl;obtain⟨bd,od,eD,-,q0,q1,q2,q3,q4⟩:=Jbp hl (i:=1) rfl;rw [eB] at eD;obtain⟨rfl,rfl⟩:bc=bd∧oc=od:=by
  have:=Option.some.inj eD;injection this with h1 h2
  exact⟨h1,h2⟩
 obtain⟨b8,o8,e8,l8,s0,s1,s2,s3⟩:=S20.four_at tl.pa (i:=0) rfl;obtain⟨b9,o9,e9,l9,-,t1,-,-,-,t5⟩:=S21.six_at tl.pr (i:=0) rfl rfl;rw [eB] at y4;have hv:ttV a c (exU v)=.agg #[.slice (a 0) 2 (c 0),.slice (a 1) 1 (c 1),.slice (some ⟨b2,o2,none⟩) 1 (c 2),.slice (a 3) 0 (c 3),.slice (some ⟨b4,o4,none⟩) 1 (c 4),.slice (a 5) 0 (c 5),.slice (a 6) 0 (c 6),.slice (a 7) 0 (c 7),.slice (some ⟨b8,o8,none⟩) 1 (c 8),.slice (some ⟨b9,o9,none⟩) 1 (c 9),.int .i64 0,.int .i64 0,.int .i64 0]:=by
  rw [←e2,←e4,←e8,←e9];rfl
 refine⟨a 0,a 1,a 3,a 5,a 6,a 7,c 0,c 1,c 2,c 3,c 4,c 5,c 6,c 7,c 8,c 9,b2,o2,b4,o4,bc,oc,mm,b8,o8,b9,o9,?_,⟨⟨l2,l4,lc,l8,l9⟩,k 4 (by decide),k 5 (by decide),k8,k9,y4,p0,p1,p2,p3,p4,q0,q1,q2,q3,q4,s0,s1,s2,s3,t1,t5⟩,fun W bW=>?_,b⟩
 ·rw [he,←hv]
 ·rw [←hv]
  have:=Jos (hg.below (b.trans (bW.mono b.size))) (tl.below bW) man ok ln;rwa [Jso] at this
theorem Jqy {w:World} (hg:Jcq w) (x:Bs) (hx:x.length≤100) (n z:Int) (h:(Jbe fmR x).2=(n,z)):Calls prog 10 #[.string (str x)] w fun e w'=>∃a c U,e=.returned (.tuple #[ttV a c U,.int .i64 n,.int .i64 z])∧Below w.heap.size w w':=by
 refine (Jgi hg x (by omega)).mono ?_;rintro e w' ⟨a,c,U,he,-,-,-,-,-,b⟩;rw [h] at he;exact⟨a,c,U,he,b⟩
theorem Jqz:ExH:=fun w hg=>by
 have C0:=Lib.hid J8o;have C1:=Lib.hid (Qb5 hg);have E2:Hid (∀X:World,Jcq X→Calls prog 10 #[.string (str ex2)] X fun e w'=>∃a c U,e=.returned (.tuple #[ttV a c U,.int .i64 4,.int .i64 9])∧Below X.heap.size X w'):=Lib.hid (fun X h=>Jqy h ex2 (by decide) 4 9 Qaj);have E3:Hid (∀X:World,Jcq X→Calls prog 10 #[.string (str ex3)] X fun e w'=>∃a c U,e=.returned (.tuple #[ttV a c U,.int .i64 2,.int .i64 6])∧Below X.heap.size X w'):=Lib.hid (fun X h=>Jqy h ex3 (by decide) 2 6 J1i);have E4:Hid (∀X:World,Jcq X→Calls prog 10 #[.string (str ex4)] X fun e w'=>∃a c U,e=.returned (.tuple #[ttV a c U,.int .i64 3,.int .i64 8])∧Below X.heap.size X w'):=Lib.hid (fun X h=>Jqy h ex4 (by decide) 3 8 J7m);have E5:Hid (∀X:World,Jcq X→Calls prog 10 #[.string (str ex5)] X fun e w'=>∃a c U,e=.returned (.tuple #[ttV a c U,.int .i64 0,.int .i64 4])∧Below X.heap.size X w'):=Lib.hid (fun X h=>Jqy h ex5 (by decide) 0 4 J7n);have GB:Hid (∀X:World,Below w.heap.size w X→Jcq X):=Lib.hid (fun X b=>hg.below b);obtain⟨sB,hB⟩:∃s,str exB=s:=⟨_,rfl⟩;rw [hB] at C0 C1;clear hg hB;go_enter func9,ntmps9
 go_wp2_with fail
 refine (C0.out _).mono ?_;rintro e w0 ⟨rfl,rfl⟩;go_wp2_with fail
 refine C1.out.mono ?_;rintro e w1 ⟨A0,A1,A3,A5,A6,A7,n0,n1,n2,n3,n4,n5,n6,n7,n8,n9,b2,o2,b4,o4,bc,oc,mm,b8,o8,b9,o9,rfl,K1,FT,b1⟩;clear C1;obtain⟨w2,h2⟩:∃X,w1.alloc (.cells #[.slice A0 2 n0,.slice A1 1 n1,.slice (some ⟨b2,o2,none⟩) 1 n2,.slice A3 0 n3,.slice (some ⟨b4,o4,none⟩) 1 n4,.slice A5 0 n5,.slice A6 0 n6,.slice A7 0 n7,.slice (some ⟨b8,o8,none⟩) 1 n8,.slice (some ⟨b9,o9,none⟩) 1 n9,.int .i64 0,.int .i64 0,.int .i64 0] 36 (0,0))=X:=⟨_,rfl⟩;have c2:Below w1.heap.size w1 w2:=by rw [←h2];exact (Below.refl _ _).alloc (Nat.le_refl _) _
 have k2:w2.heap[w1.heap.size]?=some (.cells #[.slice A0 2 n0,.slice A1 1 n1,.slice (some ⟨b2,o2,none⟩) 1 n2,.slice A3 0 n3,.slice (some ⟨b4,o4,none⟩) 1 n4,.slice A5 0 n5,.slice A6 0 n6,.slice A7 0 n7,.slice (some ⟨b8,o8,none⟩) 1 n8,.slice (some ⟨b9,o9,none⟩) 1 n9,.int .i64 0,.int .i64 0,.int .i64 0] 36 (0,0)):=by rw [←h2];exact heap_alloc_new w1 _
 obtain⟨z10,z11,z12,s10,s11,s12⟩:w2.frozen? ⟨w1.heap.size,10,none⟩=false∧w2.frozen? ⟨w1.heap.size,11,none⟩=false∧w2.frozen? ⟨w1.heap.size,12,none⟩=false∧w2.setCell ⟨w1.heap.size,10,none⟩ (.int .i64 0)=w2∧w2.setCell ⟨w1.heap.size,11,none⟩ (.int .i64 0)=w2∧w2.setCell ⟨w1.heap.size,12,none⟩ (.int .i64 0)=w2:=⟨frozen_of_row _ _ 10 _ _ k2,frozen_of_row _ _ 11 _ _ k2,frozen_of_row _ _ 12 _ _ k2,Jg0 k2 rfl,Jg0 k2 rfl,Jg0 k2 rfl⟩;have F2:=Lib.hid (FT w2 c2);have B2:=Lib.hid (b1.trans (c2.mono b1.size));have KB:Hid (∀X:World,Below w2.heap.size w2 X→ExC b2 o2 b4 o4 bc oc mm b8 o8 b9 o9 X∧X.cell? ⟨w1.heap.size,0,none⟩=some (.slice A0 2 n0)∧X.cell? ⟨w1.heap.size,1,none⟩=some (.slice A1 1 n1)∧X.cell? ⟨w1.heap.size,2,none⟩=some (.slice (some ⟨b2,o2,none⟩) 1 n2)∧X.cell? ⟨w1.heap.size,3,none⟩=some (.slice A3 0 n3)∧X.cell? ⟨w1.heap.size,4,none⟩=some (.slice (some ⟨b4,o4,none⟩) 1 n4)∧X.cell? ⟨w1.heap.size,5,none⟩=some (.slice A5 0 n5)∧X.cell? ⟨w1.heap.size,6,none⟩=some (.slice A6 0 n6)∧X.cell? ⟨w1.heap.size,7,none⟩=some (.slice A7 0 n7)∧X.cell? ⟨w1.heap.size,8,none⟩=some (.slice (some ⟨b8,o8,none⟩) 1 n8)∧X.cell? ⟨w1.heap.size,9,none⟩=some (.slice (some ⟨b9,o9,none⟩) 1 n9)∧X.cell? ⟨w1.heap.size,10,none⟩=some (.int .i64 0)∧X.cell? ⟨w1.heap.size,11,none⟩=some (.int .i64 0)∧X.cell? ⟨w1.heap.size,12,none⟩=some (.int .i64 0)):=Lib.hid (fun X b=>by
  refine⟨(K1.below c2).below b,?_⟩;have hX:=(b.block _ (Array.getElem?_eq_some_iff.1 k2).1).trans k2;exact⟨by rw [cell_of_row _ _ _ _ _ _ hX];rfl,by rw [cell_of_row _ _ _ _ _ _ hX];rfl,by rw [cell_of_row _ _ _ _ _ _ hX];rfl,by rw [cell_of_row _ _ _ _ _ _ hX];rfl,by rw [cell_of_row _ _ _ _ _ _ hX];rfl,by rw [cell_of_row _ _ _ _ _ _ hX];rfl,by rw [cell_of_row _ _ _ _ _ _ hX];rfl,by rw [cell_of_row _ _ _ _ _ _ hX];rfl,by rw [cell_of_row _ _ _ _ _ _ hX];rfl,by rw [cell_of_row _ _ _ _ _ _ hX];rfl,by rw [cell_of_row _ _ _ _ _ _ hX];rfl,by rw [cell_of_row _ _ _ _ _ _ hX];rfl,by rw [cell_of_row _ _ _ _ _ _ hX];rfl⟩)
 clear FT K1 c2 k2 b1;obtain⟨⟨-,h0,h1,h2,h3,h4,h5,h6,h7,h8,h9,h10,h11,h12,h13,h14,h15,h16,h17,h18,h19,h20⟩,t0,t1,t2,t3,t4,t5,t6,t7,t8,t9,t10,t11,t12⟩:=KB.out w2 (Below.refl _ _);go_wp2_with fail
 refine F2.out.mono ?_;rintro e w3 ⟨rfl,b3⟩;have Z3:=Lib.hid b3;have G3:=Lib.hid (GB.out _ (B2.out.trans (b3.mono B2.out.size)));clear b3 F2 h2 z10 z11 z12 s10 s11 s12;clear h0 h1 h2 h3 h4 h5 h6 h7 h8 h9 h10 h11 h12 h13 h14 h15 h16 h17 h18 h19 h20 t0 t1 t2 t3 t4 t5 t6 t7 t8 t9 t10 t11 t12;go_wp2_with fail
 refine (E2.out _ G3.out).mono ?_;rintro e v4 ⟨a4,c4,U4,rfl,d4⟩;obtain⟨w4,h4⟩:∃X,v4.alloc (Jbu a4 c4 U4)=X:=⟨_,rfl⟩;have Z4:=Lib.hid (by have e:=(Jfs h4).1;have f:=d4.trans (e.mono d4.size);exact Z3.out.trans (f.mono Z3.out.size):Below w2.heap.size w2 w4);have G4:=Lib.hid (GB.out _ (B2.out.trans (Z4.out.mono B2.out.size)));clear d4 E2 G3 Z3;go_wp2_with fail
 refine (E3.out _ G4.out).mono ?_;rintro e v5 ⟨a5,c5,U5,rfl,d5⟩;obtain⟨w5,h5⟩:∃X,v5.alloc (Jbu a5 c5 U5)=X:=⟨_,rfl⟩;have Z5:=Lib.hid (by have e:=(Jfs h5).1;have f:=d5.trans (e.mono d5.size);exact Z4.out.trans (f.mono Z4.out.size):Below w2.heap.size w2 w5);have G5:=Lib.hid (GB.out _ (B2.out.trans (Z5.out.mono B2.out.size)));clear d5 E3 G4 Z4;go_wp2_with fail
 refine (E4.out _ G5.out).mono ?_;rintro e v6 ⟨a6,c6,U6,rfl,d6⟩;obtain⟨w6,h6⟩:∃X,v6.alloc (Jbu a6 c6 U6)=X:=⟨_,rfl⟩;have Z6:=Lib.hid (by have e:=(Jfs h6).1;have f:=d6.trans (e.mono d6.size);exact Z5.out.trans (f.mono Z5.out.size):Below w2.heap.size w2 w6);have G6:=Lib.hid (GB.out _ (B2.out.trans (Z6.out.mono B2.out.size)));clear d6 E4 G5 Z5;go_wp2_with fail
 refine (E5.out _ G6.out).mono ?_;rintro e v7 ⟨a7,c7,U7,rfl,d7⟩;obtain⟨w7,h7⟩:∃X,v7.alloc (Jbu a7 c7 U7)=X:=⟨_,rfl⟩;have Z7:=Lib.hid (by have e:=(Jfs h7).1;have f:=d7.trans (e.mono d7.size);exact Z6.out.trans (f.mono Z6.out.size):Below w2.heap.size w2 w7);have G7:=Lib.hid (GB.out _ (B2.out.trans (Z7.out.mono B2.out.size)));clear d7 E5 G6 Z6;go_wp2_with fail
 obtain⟨wd,hd⟩:∃X,World.drew w7=X:=⟨_,rfl⟩;have ed:Below w7.heap.size w7 wd:=by rw [←hd];exact (Below.refl _ _).drew
 have ZD:Hid (Below w2.heap.size w2 wd):=Lib.hid (Z7.out.trans (ed.mono Z7.out.size));clear ed;have SF:Hid (∀X:World,Below wd.heap.size wd X→X.cell? ⟨w1.heap.size,4,none⟩=some (.slice (some ⟨b4,o4,none⟩) 1 n4)∧X.cell? ⟨b4,o4+4,none⟩=some (.slice (some ⟨bc,oc,none⟩) 2 mm)∧X.cell? ⟨bc,oc,none⟩=some (.int .i64 0)∧X.cell? ⟨bc,oc+1,none⟩=some (.int .i64 28800)∧X.cell? ⟨bc,oc+2,none⟩=some (.int .i64 28800)∧X.cell? ⟨bc,oc+3,none⟩=some (.bool true)∧X.cell? ⟨bc,oc+4,none⟩=some (.bool false)∧X.cell? ⟨bc,oc+5,none⟩=some (.int .i64 1)∧X.cell? ⟨bc,oc+6,none⟩=some (.int .i64 30600)∧X.cell? ⟨bc,oc+7,none⟩=some (.int .i64 30660)∧X.cell? ⟨bc,oc+8,none⟩=some (.bool false)∧X.cell? ⟨bc,oc+9,none⟩=some (.bool true)):=Lib.hid (fun X b=>by
  obtain⟨⟨-,h0,h1,h2,h3,h4,h5,h6,h7,h8,h9,h10,h11,h12,h13,h14,h15,h16,h17,h18,h19,h20⟩,t0,t1,t2,t3,t4,t5,t6,t7,t8,t9,t10,t11,t12⟩:=KB.out X (ZD.out.trans (b.mono ZD.out.size));exact⟨t4,h4,h5,h6,h7,h8,h9,h10,h11,h12,h13,h14⟩)
 refine Ja6 (S:=fun X=>X.cell? ⟨w1.heap.size,4,none⟩=some (.slice (some ⟨b4,o4,none⟩) 1 n4)∧X.cell? ⟨b4,o4+4,none⟩=some (.slice (some ⟨bc,oc,none⟩) 2 mm)∧X.cell? ⟨bc,oc,none⟩=some (.int .i64 0)∧X.cell? ⟨bc,oc+1,none⟩=some (.int .i64 28800)∧X.cell? ⟨bc,oc+2,none⟩=some (.int .i64 28800)∧X.cell? ⟨bc,oc+3,none⟩=some (.bool true)∧X.cell? ⟨bc,oc+4,none⟩=some (.bool false)∧X.cell? ⟨bc,oc+5,none⟩=some (.int .i64 1)∧X.cell? ⟨bc,oc+6,none⟩=some (.int .i64 30600)∧X.cell? ⟨bc,oc+7,none⟩=some (.int .i64 30660)∧X.cell? ⟨bc,oc+8,none⟩=some (.bool false)∧X.cell? ⟨bc,oc+9,none⟩=some (.bool true)) _ 18 rfl (by kernel_rfl) (by kernel_rfl) (by kernel_rfl) (Jba 18 0) (by kernel_rfl) (by rw [hd];exact SF.out _ (Below.refl _ _)) (fun _=>?_);rw [hd];refine Ja3 (L:=[(0,93,pt w1.heap.size 4),(1,94,.slice (some ⟨b4,o4,none⟩) 1 n4),(2,95,pt b4 o4),(3,96,pt b4 (o4+4)),(4,97,.slice (some ⟨bc,oc,none⟩) 2 mm),(5,98,pt bc oc),(6,99,.agg #[.int .i64 0,.int .i64 28800,.int .i64 28800,.bool true,.bool false]),(7,100,pt w1.heap.size 4),(8,101,.slice (some ⟨b4,o4,none⟩) 1 n4),(9,102,pt b4 o4),(10,103,pt b4 (o4+4)),(11,104,.slice (some ⟨bc,oc,none⟩) 2 mm),(12,105,pt bc (oc+5)),(13,106,.agg #[.int .i64 1,.int .i64 30600,.int .i64 30660,.bool false,.bool true])]) (.q (.cons rfl rfl (.inl ⟨rfl,fun _ h=>by obtain⟨y0,y1,y2,y3,y4,y5,y6,y7,y8,y9,y10,y11⟩:=h;dsimp only [pt];go_simp;try with_reducible rfl⟩) (.cons rfl rfl (.inl ⟨rfl,fun W _=>Jas (w:=W) 27 56 (.tmp 94) (.const (.int .i64 0)) (by kernel_rfl) b4 o4 1 n4 0 5 (by kernel_rfl) (by kernel_rfl) (by decide) underlying27 (fun w=>by simp [sizeOf56])⟩) (.q (.cons rfl rfl (.inl ⟨rfl,fun _ h=>by obtain⟨y0,y1,y2,y3,y4,y5,y6,y7,y8,y9,y10,y11⟩:=h;dsimp only [pt];go_simp;try with_reducible rfl⟩) (.cons rfl rfl (.inl ⟨rfl,fun W _=>Jas (w:=W) 54 58 (.tmp 97) (.const (.int .i64 0)) (by kernel_rfl) bc oc 2 mm 0 5 (by kernel_rfl) (by kernel_rfl) (by decide) underlying54 (fun w=>by simp [sizeOf58])⟩) (.cons rfl rfl (.inl ⟨rfl,fun _ h=>by obtain⟨y0,y1,y2,y3,y4,y5,y6,y7,y8,y9,y10,y11⟩:=h;dsimp only [pt];go_simp;try with_reducible rfl⟩) (.q (.cons rfl rfl (.inl ⟨rfl,fun _ h=>by obtain⟨y0,y1,y2,y3,y4,y5,y6,y7,y8,y9,y10,y11⟩:=h;dsimp only [pt];go_simp;try with_reducible rfl⟩) (.cons rfl rfl (.inl ⟨rfl,fun W _=>Jas (w:=W) 27 56 (.tmp 101) (.const (.int .i64 0)) (by kernel_rfl) b4 o4 1 n4 0 5 (by kernel_rfl) (by kernel_rfl) (by decide) underlying27 (fun w=>by simp [sizeOf56])⟩) (.q (.cons rfl rfl (.inl ⟨rfl,fun _ h=>by obtain⟨y0,y1,y2,y3,y4,y5,y6,y7,y8,y9,y10,y11⟩:=h;dsimp only [pt];go_simp;try with_reducible rfl⟩) (.cons rfl rfl (.inl ⟨rfl,fun W _=>Jas (w:=W) 54 58 (.tmp 104) (.const (.int .i64 1)) (by kernel_rfl) bc oc 2 mm 1 5 (by kernel_rfl) (by kernel_rfl) (by decide) underlying54 (fun w=>by simp [sizeOf58])⟩) (.cons rfl rfl (.inl ⟨rfl,fun _ h=>by obtain⟨y0,y1,y2,y3,y4,y5,y6,y7,y8,y9,y10,y11⟩:=h;dsimp only [pt];go_simp;try with_reducible rfl⟩) .nil)))))))))))))) [0,1,2,3,4,5,6,7,8,9,10,11,12,13] rfl rfl (by kernel_rfl) (fun _ _ _ _ _ h=>h) (SF.out _ (Below.refl _ _)) ?_
 have al:∀X:World,Below wd.heap.size wd X→Below wd.heap.size wd (X.alloc (.cells #[.int .i64 0,.int .i64 0,.int .i64 0,.bool false,.bool false] 58 (0,0))):=fun X b=>b.alloc b.size _
 refine twoT (i:=14) (j:=15) 18 19 _ rfl (by kernel_rfl) (by kernel_rfl) (by kernel_rfl) (by decide) rfl rfl (by kernel_rfl) (by kernel_rfl) (fun _=>by kernel_rfl) (fun _=>by kernel_rfl) (by decide)
  (fun W u q=>∃x y,u=pt x 0∧q=pt y 0∧x≠y∧W.heap[x]?=some (.cells #[.int .i64 0,.int .i64 0,.int .i64 0,.bool false,.bool false] 58 (0,0))∧W.heap[y]?=some (.cells #[.int .i64 0,.int .i64 0,.int .i64 0,.bool false,.bool false] 58 (0,0))∧Below wd.heap.size wd W∧wd.heap.size≤x∧wd.heap.size≤y)
  (fun W u=>u=pt wd.heap.size 0∧W=wd.alloc (.cells #[.int .i64 0,.int .i64 0,.int .i64 0,.bool false,.bool false] 58 (0,0))) (fun W q=>q=pt wd.heap.size 0∧W=wd.alloc (.cells #[.int .i64 0,.int .i64 0,.int .i64 0,.bool false,.bool false] 58 (0,0))) ?_ ?_ ?_ ?_ ?_
 ·intro K hK
  exact Jgr 18 rfl (by kernel_rfl) (hK.out _ _ _ rfl (SF.out _ (al _ (Below.refl _ _))) ⟨rfl,rfl⟩)
 ·rintro u W _ ⟨rfl,rfl⟩ K hK
  refine Jgr 19 rfl (by kernel_rfl) (hK.out _ _ _ rfl (SF.out _ (al _ (al _ (Below.refl _ _)))) ⟨wd.heap.size,(wd.alloc (.cells #[.int .i64 0,.int .i64 0,.int .i64 0,.bool false,.bool false] 58 (0,0))).heap.size,rfl,rfl,by simp,?_,heap_alloc_new _ _,al _ (al _ (Below.refl _ _)),Nat.le_refl _,by simp⟩);exact Jh6 _ _ (heap_alloc_new _ _)
 ·intro K hK
  exact Jgr 19 rfl (by kernel_rfl) (hK.out _ _ _ rfl (SF.out _ (al _ (Below.refl _ _))) ⟨rfl,rfl⟩)
 ·rintro u W _ ⟨rfl,rfl⟩ K hK
  refine Jgr 18 rfl (by kernel_rfl) (hK.out _ _ _ rfl (SF.out _ (al _ (al _ (Below.refl _ _)))) ⟨(wd.alloc (.cells #[.int .i64 0,.int .i64 0,.int .i64 0,.bool false,.bool false] 58 (0,0))).heap.size,wd.heap.size,rfl,rfl,by simp,heap_alloc_new _ _,?_,al _ (al _ (Below.refl _ _)),by simp,Nat.le_refl _⟩);exact Jh6 _ _ (heap_alloc_new _ _)
 rintro u q wx _ ⟨x,y,rfl,rfl,hxy,hx,hy,bx,lx,ly⟩;obtain⟨wy,hwy⟩:∃X,wx.setRow x #[.int .i64 0,.int .i64 28800,.int .i64 28800,.bool true,.bool false]=X:=⟨_,rfl⟩;have by1:Below wd.heap.size wd wy:=by rw [←hwy];exact Jby bx (Jcp wx x _) (fun k e=>by cases e;exact lx)
 have hx1:wy.heap[x]?=some (.cells #[.int .i64 0,.int .i64 28800,.int .i64 28800,.bool true,.bool false] 58 (0,0)):=by rw [←hwy];exact setRow_heap wx x _ _ _ (0,0) hx
 have hy1:wy.heap[y]?=some (.cells #[.int .i64 0,.int .i64 0,.int .i64 0,.bool false,.bool false] 58 (0,0)):=by rw [←hwy,setRow_other wx x y _ (fun e=>hxy e.symm)];exact hy
 refine Jco (i:=16) (w':=wy) _ rfl (by kernel_rfl) rfl rfl (by kernel_rfl) (by rw [←hwy];exact Jan 58 (.tmp 18) (.tmp 99) (by kernel_rfl) x #[.int .i64 0,.int .i64 28800,.int .i64 28800,.bool true,.bool false] (by kernel_rfl) (by kernel_rfl) _ _ hx (by kernel_rfl) (by kernel_rfl) (by kernel_rfl)) (SF.out _ by1) ?_;obtain⟨wz,hwz⟩:∃X,wy.setRow y #[.int .i64 1,.int .i64 30600,.int .i64 30660,.bool false,.bool true]=X:=⟨_,rfl⟩;have bz1:Below wd.heap.size wd wz:=by rw [←hwz];exact Jby by1 (Jcp wy y _) (fun k e=>by cases e;exact ly)
 have hy2:wz.heap[y]?=some (.cells #[.int .i64 1,.int .i64 30600,.int .i64 30660,.bool false,.bool true] 58 (0,0)):=by rw [←hwz];exact setRow_heap wy y _ _ _ (0,0) hy1
 have hx2:wz.heap[x]?=some (.cells #[.int .i64 0,.int .i64 28800,.int .i64 28800,.bool true,.bool false] 58 (0,0)):=by rw [←hwz,setRow_other wy y x _ hxy];exact hx1
 refine Jco (i:=17) (w':=wz) _ rfl (by kernel_rfl) rfl rfl (by kernel_rfl) (by rw [←hwz];exact Jan 58 (.tmp 19) (.tmp 106) (by kernel_rfl) y #[.int .i64 1,.int .i64 30600,.int .i64 30660,.bool false,.bool true] (by kernel_rfl) (by kernel_rfl) _ _ hy1 (by kernel_rfl) (by kernel_rfl) (by kernel_rfl)) (SF.out _ bz1) ?_;refine Jb2 (by kernel_rfl) ?_;have x_0:wz.cell? ⟨x,0,none⟩=some (.int .i64 0):=by rw [cell_of_row _ _ _ _ _ _ hx2];rfl
 have x_1:wz.cell? ⟨x,1,none⟩=some (.int .i64 28800):=by rw [cell_of_row _ _ _ _ _ _ hx2];rfl
 have x_2:wz.cell? ⟨x,2,none⟩=some (.int .i64 28800):=by rw [cell_of_row _ _ _ _ _ _ hx2];rfl
 have x_3:wz.cell? ⟨x,3,none⟩=some (.bool true):=by rw [cell_of_row _ _ _ _ _ _ hx2];rfl
 have x_4:wz.cell? ⟨x,4,none⟩=some (.bool false):=by rw [cell_of_row _ _ _ _ _ _ hx2];rfl
 have y_0:wz.cell? ⟨y,0,none⟩=some (.int .i64 1):=by rw [cell_of_row _ _ _ _ _ _ hy2];rfl
 have y_1:wz.cell? ⟨y,1,none⟩=some (.int .i64 30600):=by rw [cell_of_row _ _ _ _ _ _ hy2];rfl
 have y_2:wz.cell? ⟨y,2,none⟩=some (.int .i64 30660):=by rw [cell_of_row _ _ _ _ _ _ hy2];rfl
 have y_3:wz.cell? ⟨y,3,none⟩=some (.bool false):=by rw [cell_of_row _ _ _ _ _ _ hy2];rfl
 have y_4:wz.cell? ⟨y,4,none⟩=some (.bool true):=by rw [cell_of_row _ _ _ _ _ _ hy2];rfl
 have ZZ:=Lib.hid (ZD.out.trans (bz1.mono ZD.out.size));obtain⟨⟨-,h0,h1,h2,h3,h4,h5,h6,h7,h8,h9,h10,h11,h12,h13,h14,h15,h16,h17,h18,h19,h20⟩,t0,t1,t2,t3,t4,t5,t6,t7,t8,t9,t10,t11,t12⟩:=KB.out wz ZZ.out;have sq:=Jc9 (a:=sB) (b:=sB) rfl;have q1:=fun W=>Jh8 0 28800 28800 true false W
 have q2:=fun W=>Jh8 1 30600 30660 false true W
 have q3:=fun W=>Joo 0 1 600 false W
 clear SF hx hy bx lx ly hwy by1 hx1 hy1 hwz bz1 hy2 hx2 al hxy hd;go_wp2_with fail
 refine (C0.out _).mono ?_;rintro e w9 ⟨rfl,rfl⟩;go_wp2_with fail
 go_ret;exact⟨rfl,B2.out.trans (ZZ.out.mono B2.out.size)⟩
open Go
theorem Jyv {x y y':Tp} (h:noV y'=noV y):eTr x y'=eTr x y:=by
 obtain⟨a,b,c,d,v,l⟩:=y;obtain⟨a',b',c',d',v',l'⟩:=y';simp only [noV,Prod.mk.injEq] at h;obtain⟨rfl,rfl,rfl,rfl,rfl⟩:=h;rfl
theorem J8p {l m m':List Tp} (h:m'.map noV=m.map noV):eqB eTr l m'=eqB eTr l m:=by
 have hl:m'.length=m.length:=by have:=congrArg List.length h;simpa using this
 unfold eqB;rw [hl];congr 2
 funext i
 have hi:(m'.map noV)[i]?=(m.map noV)[i]?:=by rw [h]
 rw [List.getElem?_map,List.getElem?_map] at hi;cases h1:m'[i]? with
 | none =>
  cases h2:m[i]? with
  | none=>rfl
  | some y=>rw [h1,h2] at hi;cases hi
 | some y' =>
  cases h2:m[i]? with
  | none=>rw [h1,h2] at hi;cases hi
  | some y =>
   rw [h1,h2] at hi;cases l[i]? with
   | none=>rfl
   | some x=>exact Jyv (Option.some.inj hi)
theorem J8q {X V U:Tt} (h:CopT V U) (e:eqT X V=true):eqT X U=true:=by
 unfold eqT hdT tlT at e ⊢;rw [h.st,h.ro,h.ca,h.ex,h.fr,h.th,h.gu,h.pa,h.pr,h.di,h.wi,h.cp,J8p h.tr];exact e
theorem Jq0 (b:UInt8) (Q:Bs):Jc7 (b::Q)=(if b=10 then 1 else 0)+Jc7 Q:=by
 unfold Jc7;rw [List.countP_cons];by_cases hb:b=10 <;> simp [hb] <;> omega
theorem Jot:∀(l:Bs) (i m n:Nat),m+Jc7 l<n→bgF n l i m=-1
 | [],i,m,n,h=>by
  have h0:m<n:=by simpa [Jc7] using h
  exact J4r (by omega)
 | b::r,i,m,n,h=>by
  rw [Jq0] at h;rw [Jia (b:=b) (r:=r) (by omega) rfl];by_cases hb:b=10
  ·rw [if_pos hb] at h ⊢;exact Jot r _ _ n (by omega)
  ·rw [if_neg hb] at h ⊢;exact Jot r _ _ n (by omega)
theorem Jyw:∀(l:Bs) (i m n:Nat),m≤n→n≤m+Jc7 l→0≤bgF n l i m
 | [],i,m,n,h1,h2=>by
  have h0:n≤m:=by simpa [Jc7] using h2
  rw [Jmt (by omega)];omega
 | b::r,i,m,n,h1,h2=>by
  by_cases h:m=n
  ·rw [Jmt (by omega)];omega
  ·rw [Jq0] at h2
   rw [Jia (b:=b) (r:=r) (by omega) rfl];by_cases hb:b=10
   ·rw [if_pos hb] at h2 ⊢;exact Jyw r _ _ n (by omega) (by omega)
   ·rw [if_neg hb] at h2 ⊢;exact Jyw r _ _ n (by omega) (by omega)
theorem J8r {r:Bs} (h:bgF (1:Nat) r 0 0<0):∀b∈r,b≠10:=by
 intro b hb e;subst e;have:0<Jc7 r:=by unfold Jc7;rw [List.countP_pos_iff];exact⟨10,hb,rfl⟩
 have:=Jyw r 0 0 1 (by omega) (by omega);omega
theorem J21 {s r:Bs} {n:Nat} (h0:s≠[]) (h10:s[s.length - 1]?=some 10) (hl:s.length≤8192) (hr:r.length≤1024) (hi:ign r=true) (hf:∀b∈r,b≠10) (ha:0≤bgF (n:Int) s 0 0) :
  ∃p:Nat,bgF (n:Int) s 0 0=(p:Int)∧p≤s.length∧Jbe fmR (s.take p++r++[10]++s.drop p)=((Jbe fmR s).1,sh (n:Int) (Jbe fmR s).2.1,(Jbe fmR s).2.2):=by
 obtain⟨l1,l2,l3⟩:=Jwd h0 h10 (by omega);generalize (cutL s).1=ls at l1 l2 l3;have hn:n≤ls.length:=by
  apply Decidable.byContradiction
  intro q;have:=Jot s 0 0 n (by rw [←l2,Jjs ls l3];omega);omega
 have hb:=J8n l3 hn;rw [l2] at hb;have e:s=Jag (ls.take n)++Jag (ls.drop n):=by rw [←l2,←Jhn,List.take_append_drop]
 refine⟨(Jag (ls.take n)).length,hb,by (conv=>rhs;rw [e];rw [List.length_append]);omega,?_⟩;have ht:s.take (Jag (ls.take n)).length=Jag (ls.take n):=by (conv=>lhs;rw [e]);exact List.take_left
 have hd:s.drop (Jag (ls.take n)).length=Jag (ls.drop n):=by (conv=>lhs;rw [e]);exact List.drop_left
 rw [ht,hd];have e2:Jag (ls.take n)++r++[10]++Jag (ls.drop n)=Jag (ls.take n++r::ls.drop n):=by
  rw [Jhn];show _=Jag (ls.take n)++((r++[10])++Jag (ls.drop n))
  simp only [List.append_assoc]
 have hall:∀l∈ls.take n++r::ls.drop n,∀b∈l,b≠10:=by
  intro l hm;rw [List.mem_append,List.mem_cons] at hm;rcases hm with hm | rfl | hm
  ·exact l3 l (List.mem_of_mem_take hm)
  ·exact hf
  ·exact l3 l (List.mem_of_mem_drop hm)
 have hlen:(Jag (ls.take n++r::ls.drop n)).length≤65536:=by
  rw [←e2];have:=congrArg List.length e;simp only [List.length_append,List.length_cons,List.length_nil] at this ⊢;omega
 have lt:=J0v hall hlen;rw [e2,Jhm (by rw [lt]),Jhm (by rw [l1]),lt,l1];have:=Jwb fmR (ls.take n) (ls.drop n) r hi;rw [List.take_append_drop,List.length_take,Nat.min_eq_left hn] at this;exact this
end
end Go.Proofs.YtpifdbphmnifdaaGreatDoor
