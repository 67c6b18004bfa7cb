/-
  Facts about the program that the statement's proof uses. Condition: none beyond each theorem's own hypotheses.
-/
import Derived.Test.YtpifdbphmnifdaaGreatDoorRows
import Derived.Stop.LaidErr
import Derived.Lib.LaidTab
import Derived.ProofKit
import Derived.Test.YtpifdbphmnifdaaGreatDoorYa14
import Derived.Test.YtpifdbphmnifdaaGreatDoorYa24
import Derived.Test.YtpifdbphmnifdaaGreatDoorYa29
set_option maxRecDepth 100000
set_option maxHeartbeats 8000000
namespace Go.Proofs.YtpifdbphmnifdaaGreatDoor
open Go.RowKit
theorem exm_any (w:World):Calls Tryz.prog 18 #[] w fun e w'=>e = .returned (.string (str exB))∧w' = w:=by
 go_enter Tryz.func18,Tryz.ntmps18
 go_wp2_with fail
 go_ret
 exact ⟨by kernel_rfl,rfl⟩
def ExC (b2 o2 b4 o4 bc oc mm b8 o8 b9 o9:Nat) (X:World):Prop:=(b2 < X.heap.size∧b4 < X.heap.size∧bc < X.heap.size∧b8 < X.heap.size∧b9 < X.heap.size)∧X.cell? ⟨b2,o2 + 5,none⟩ = some (.bool true)∧X.cell? ⟨b2,o2 + 6,none⟩ = some (.bool false)∧X.cell? ⟨b2,o2 + 8,none⟩ = some (.int .i64 9132)∧X.cell? ⟨b2,o2 + 9,none⟩ = some (.int .i64 9496)∧X.cell? ⟨b4,o4 + 4,none⟩ = some (.slice (some ⟨bc,oc,none⟩) 2 mm)∧X.cell? ⟨bc,oc,none⟩ = some (.int .i64 0)∧X.cell? ⟨bc,oc + 1,none⟩ = some (.int .i64 28800)∧X.cell? ⟨bc,oc + 2,none⟩ = some (.int .i64 28800)∧X.cell? ⟨bc,oc + 3,none⟩ = some (.bool true)∧X.cell? ⟨bc,oc + 4,none⟩ = some (.bool false)∧X.cell? ⟨bc,oc + 5,none⟩ = some (.int .i64 1)∧X.cell? ⟨bc,oc + 6,none⟩ = some (.int .i64 30600)∧X.cell? ⟨bc,oc + 7,none⟩ = some (.int .i64 30660)∧X.cell? ⟨bc,oc + 8,none⟩ = some (.bool false)∧X.cell? ⟨bc,oc + 9,none⟩ = some (.bool true)∧X.cell? ⟨b8,o8,none⟩ = some (.int .i64 0)∧X.cell? ⟨b8,o8 + 1,none⟩ = some (.int .i64 1)∧X.cell? ⟨b8,o8 + 2,none⟩ = some (.int .i64 600)∧X.cell? ⟨b8,o8 + 3,none⟩ = some (.bool false)∧X.cell? ⟨b9,o9 + 1,none⟩ = some (.int .i64 250)∧X.cell? ⟨b9,o9 + 5,none⟩ = some (.int .i64 3)
theorem ExC.below {b2 o2 b4 o4 bc oc mm b8 o8 b9 o9:Nat} {X Y:World} (h:ExC b2 o2 b4 o4 bc oc mm b8 o8 b9 o9 X) (b:Below X.heap.size X Y):ExC b2 o2 b4 o4 bc oc mm b8 o8 b9 o9 Y:=by
 obtain ⟨⟨l2,l4,lc,l8,l9⟩,h0,h1,h2,h3,h4,h5,h6,h7,h8,h9,h10,h11,h12,h13,h14,h15,h16,h17,h18,h19,h20⟩:=h
 have hz:=b.size
 exact ⟨⟨by omega,by omega,by omega,by omega,by omega⟩,(b.cell (p:=⟨b2,o2 + 5,none⟩) l2).trans h0,(b.cell (p:=⟨b2,o2 + 6,none⟩) l2).trans h1,(b.cell (p:=⟨b2,o2 + 8,none⟩) l2).trans h2,(b.cell (p:=⟨b2,o2 + 9,none⟩) l2).trans h3,(b.cell (p:=⟨b4,o4 + 4,none⟩) l4).trans h4,(b.cell (p:=⟨bc,oc,none⟩) lc).trans h5,(b.cell (p:=⟨bc,oc + 1,none⟩) lc).trans h6,(b.cell (p:=⟨bc,oc + 2,none⟩) lc).trans h7,(b.cell (p:=⟨bc,oc + 3,none⟩) lc).trans h8,(b.cell (p:=⟨bc,oc + 4,none⟩) lc).trans h9,(b.cell (p:=⟨bc,oc + 5,none⟩) lc).trans h10,(b.cell (p:=⟨bc,oc + 6,none⟩) lc).trans h11,(b.cell (p:=⟨bc,oc + 7,none⟩) lc).trans h12,(b.cell (p:=⟨bc,oc + 8,none⟩) lc).trans h13,(b.cell (p:=⟨bc,oc + 9,none⟩) lc).trans h14,(b.cell (p:=⟨b8,o8,none⟩) l8).trans h15,(b.cell (p:=⟨b8,o8 + 1,none⟩) l8).trans h16,(b.cell (p:=⟨b8,o8 + 2,none⟩) l8).trans h17,(b.cell (p:=⟨b8,o8 + 3,none⟩) l8).trans h18,(b.cell (p:=⟨b9,o9 + 1,none⟩) l9).trans h19,(b.cell (p:=⟨b9,o9 + 5,none⟩) l9).trans h20⟩
theorem px_one {w:World} (hg:GoodF w):Calls Tryz.prog 10 #[.string (str exB)] w fun e w'=>∃ (A0 A1 A3 A5 A6 A7:Option Addr) (n0 n1 n2 n3 n4 n5 n6 n7 n8 n9 b2 o2 b4 o4 bc oc mm b8 o8 b9 o9:Nat),e = .returned (.tuple #[.agg #[.slice A0 2 n0,.slice A1 1 n1,.slice (some ⟨b2,o2,none⟩) 1 n2,.slice A3 0 n3,.slice (some ⟨b4,o4,none⟩) 1 n4,.slice A5 0 n5,.slice A6 0 n6,.slice A7 0 n7,.slice (some ⟨b8,o8,none⟩) 1 n8,.slice (some ⟨b9,o9,none⟩) 1 n9,.int .i64 0,.int .i64 0,.int .i64 0],.int .i64 0,.int .i64 0])∧ExC b2 o2 b4 o4 bc oc mm b8 o8 b9 o9 w'∧(∀ W:World,Below w'.heap.size w' W→Calls Tryz.prog 14 #[.agg #[.slice A0 2 n0,.slice A1 1 n1,.slice (some ⟨b2,o2,none⟩) 1 n2,.slice A3 0 n3,.slice (some ⟨b4,o4,none⟩) 1 n4,.slice A5 0 n5,.slice A6 0 n6,.slice A7 0 n7,.slice (some ⟨b8,o8,none⟩) 1 n8,.slice (some ⟨b9,o9,none⟩) 1 n9,.int .i64 0,.int .i64 0,.int .i64 0]] W fun e W'=>e = .returned (.tuple #[.string (str exB),.int .i64 0])∧Below W.heap.size W W')∧Below w.heap.size w w':=by
 refine (parse_feed hg exB (by decide)).mono ?_
 rintro e w' ⟨a,c,U,he,cop,tl,man,ok,ln,b⟩
 rw [ex_parse] at he cop
 obtain ⟨v,rfl⟩:=ex_cop cop
 obtain ⟨b2,o2,e2,l2,-,k,k8,k9⟩:=S14.ten_at tl.ca (i:=0) rfl rfl
 obtain ⟨b4,o4,B,mm,e4,ev,l4,-,-,-,-,y4,hl,-,-⟩:=trip_at tl.tr (i:=0) rfl rfl
 obtain ⟨bc,oc,eB,lc,p0,p1,p2,p3,p4⟩:=five_at hl (i:=0) rfl
 obtain ⟨bd,od,eD,-,q0,q1,q2,q3,q4⟩:=five_at hl (i:=1) rfl
 rw [eB] at eD
 obtain ⟨rfl,rfl⟩:bc = bd∧oc = od:=by
  have:=Option.some.inj eD
  injection this with h1 h2
  exact ⟨h1,h2⟩
 obtain ⟨b8,o8,e8,l8,s0,s1,s2,s3⟩:=S20.four_at tl.pa (i:=0) rfl
 obtain ⟨b9,o9,e9,l9,-,t1,-,-,-,t5⟩:=S21.six_at tl.pr (i:=0) rfl rfl
 rw [eB] at y4
 have hv:ttV a c (exU v) = .agg #[.slice (a 0) 2 (c 0),.slice (a 1) 1 (c 1),.slice (some ⟨b2,o2,none⟩) 1 (c 2),.slice (a 3) 0 (c 3),.slice (some ⟨b4,o4,none⟩) 1 (c 4),.slice (a 5) 0 (c 5),.slice (a 6) 0 (c 6),.slice (a 7) 0 (c 7),.slice (some ⟨b8,o8,none⟩) 1 (c 8),.slice (some ⟨b9,o9,none⟩) 1 (c 9),.int .i64 0,.int .i64 0,.int .i64 0]:=by
  rw [← e2,← e4,← e8,← e9]
  rfl
 refine ⟨a 0,a 1,a 3,a 5,a 6,a 7,c 0,c 1,c 2,c 3,c 4,c 5,c 6,c 7,c 8,c 9,b2,o2,b4,o4,bc,oc,mm,b8,o8,b9,o9,?_,⟨⟨l2,l4,lc,l8,l9⟩,k 4 (by decide),k 5 (by decide),k8,k9,y4,p0,p1,p2,p3,p4,q0,q1,q2,q3,q4,s0,s1,s2,s3,t1,t5⟩,fun W bW=>?_,b⟩
 ·rw [he,← hv]
 ·rw [← hv]
  have:=format_feed (hg.below (b.trans (bW.mono b.size))) (tl.below bW) man ok ln
  rwa [ex_written] at this
theorem px_err {w:World} (hg:GoodF w) (x:Bs) (hx:x.length≤100) (n z:Int) (h:(feedP fmR x).2 = (n,z)):Calls Tryz.prog 10 #[.string (str x)] w fun e w'=>∃ a c U,e = .returned (.tuple #[ttV a c U,.int .i64 n,.int .i64 z])∧Below w.heap.size w w':=by
 refine (parse_feed hg x (by omega)).mono ?_
 rintro e w' ⟨a,c,U,he,-,-,-,-,-,b⟩
 rw [h] at he
 exact ⟨a,c,U,he,b⟩
theorem ex_holds:ExH:=fun w hg=>by
 have C0:=Lib.hid exm_any
 have C1:=Lib.hid (px_one hg)
 have E2:Hid (∀ X:World,GoodF X→Calls Tryz.prog 10 #[.string (str ex2)] X fun e w'=>∃ a c U,e = .returned (.tuple #[ttV a c U,.int .i64 4,.int .i64 9])∧Below X.heap.size X w'):=Lib.hid (fun X h=>px_err h ex2 (by decide) 4 9 ex_two)
 have E3:Hid (∀ X:World,GoodF X→Calls Tryz.prog 10 #[.string (str ex3)] X fun e w'=>∃ a c U,e = .returned (.tuple #[ttV a c U,.int .i64 2,.int .i64 6])∧Below X.heap.size X w'):=Lib.hid (fun X h=>px_err h ex3 (by decide) 2 6 ex_three)
 have E4:Hid (∀ X:World,GoodF X→Calls Tryz.prog 10 #[.string (str ex4)] X fun e w'=>∃ a c U,e = .returned (.tuple #[ttV a c U,.int .i64 3,.int .i64 8])∧Below X.heap.size X w'):=Lib.hid (fun X h=>px_err h ex4 (by decide) 3 8 ex_four)
 have E5:Hid (∀ X:World,GoodF X→Calls Tryz.prog 10 #[.string (str ex5)] X fun e w'=>∃ a c U,e = .returned (.tuple #[ttV a c U,.int .i64 0,.int .i64 4])∧Below X.heap.size X w'):=Lib.hid (fun X h=>px_err h ex5 (by decide) 0 4 ex_five)
 have GB:Hid (∀ X:World,Below w.heap.size w X→GoodF X):=Lib.hid (fun X b=>hg.below b)
 obtain ⟨sB,hB⟩:∃ s,str exB = s:=⟨_,rfl⟩
 rw [hB] at C0 C1
 clear hg hB
 go_enter Tryz.func9,Tryz.ntmps9
 go_wp2_with fail
 refine (C0.out _).mono ?_
 rintro e w0 ⟨rfl,rfl⟩
 go_wp2_with fail
 refine C1.out.mono ?_
 rintro e w1 ⟨A0,A1,A3,A5,A6,A7,n0,n1,n2,n3,n4,n5,n6,n7,n8,n9,b2,o2,b4,o4,bc,oc,mm,b8,o8,b9,o9,rfl,K1,FT,b1⟩
 clear C1
 obtain ⟨w2,h2⟩:∃ X,w1.alloc (.cells #[.slice A0 2 n0,.slice A1 1 n1,.slice (some ⟨b2,o2,none⟩) 1 n2,.slice A3 0 n3,.slice (some ⟨b4,o4,none⟩) 1 n4,.slice A5 0 n5,.slice A6 0 n6,.slice A7 0 n7,.slice (some ⟨b8,o8,none⟩) 1 n8,.slice (some ⟨b9,o9,none⟩) 1 n9,.int .i64 0,.int .i64 0,.int .i64 0] 36 (0,0)) = X:=⟨_,rfl⟩
 have c2:Below w1.heap.size w1 w2:=by rw [← h2]; exact (Below.refl _ _).alloc (Nat.le_refl _) _
 have k2:w2.heap[w1.heap.size]? = some (.cells #[.slice A0 2 n0,.slice A1 1 n1,.slice (some ⟨b2,o2,none⟩) 1 n2,.slice A3 0 n3,.slice (some ⟨b4,o4,none⟩) 1 n4,.slice A5 0 n5,.slice A6 0 n6,.slice A7 0 n7,.slice (some ⟨b8,o8,none⟩) 1 n8,.slice (some ⟨b9,o9,none⟩) 1 n9,.int .i64 0,.int .i64 0,.int .i64 0] 36 (0,0)):=by rw [← h2]; exact heap_alloc_new w1 _
 obtain ⟨z10,z11,z12,s10,s11,s12⟩:w2.frozen? ⟨w1.heap.size,10,none⟩ = false∧w2.frozen? ⟨w1.heap.size,11,none⟩ = false∧w2.frozen? ⟨w1.heap.size,12,none⟩ = false∧w2.setCell ⟨w1.heap.size,10,none⟩ (.int .i64 0) = w2∧w2.setCell ⟨w1.heap.size,11,none⟩ (.int .i64 0) = w2∧w2.setCell ⟨w1.heap.size,12,none⟩ (.int .i64 0) = w2:=⟨frozen_of_row _ _ 10 _ _ k2,frozen_of_row _ _ 11 _ _ k2,frozen_of_row _ _ 12 _ _ k2,set_same k2 rfl,set_same k2 rfl,set_same k2 rfl⟩
 have F2:=Lib.hid (FT w2 c2)
 have B2:=Lib.hid (b1.trans (c2.mono b1.size))
 have KB:Hid (∀ X:World,Below w2.heap.size w2 X→ExC b2 o2 b4 o4 bc oc mm b8 o8 b9 o9 X∧X.cell? ⟨w1.heap.size,0,none⟩ = some (.slice A0 2 n0)∧X.cell? ⟨w1.heap.size,1,none⟩ = some (.slice A1 1 n1)∧X.cell? ⟨w1.heap.size,2,none⟩ = some (.slice (some ⟨b2,o2,none⟩) 1 n2)∧X.cell? ⟨w1.heap.size,3,none⟩ = some (.slice A3 0 n3)∧X.cell? ⟨w1.heap.size,4,none⟩ = some (.slice (some ⟨b4,o4,none⟩) 1 n4)∧X.cell? ⟨w1.heap.size,5,none⟩ = some (.slice A5 0 n5)∧X.cell? ⟨w1.heap.size,6,none⟩ = some (.slice A6 0 n6)∧X.cell? ⟨w1.heap.size,7,none⟩ = some (.slice A7 0 n7)∧X.cell? ⟨w1.heap.size,8,none⟩ = some (.slice (some ⟨b8,o8,none⟩) 1 n8)∧X.cell? ⟨w1.heap.size,9,none⟩ = some (.slice (some ⟨b9,o9,none⟩) 1 n9)∧X.cell? ⟨w1.heap.size,10,none⟩ = some (.int .i64 0)∧X.cell? ⟨w1.heap.size,11,none⟩ = some (.int .i64 0)∧X.cell? ⟨w1.heap.size,12,none⟩ = some (.int .i64 0)):=Lib.hid (fun X b=>by
  refine ⟨(K1.below c2).below b,?_⟩
  have hX:=(b.block _ (Array.getElem?_eq_some_iff.1 k2).1).trans k2
  exact ⟨by rw [cell_of_row _ _ _ _ _ _ hX]; rfl,by rw [cell_of_row _ _ _ _ _ _ hX]; rfl,by rw [cell_of_row _ _ _ _ _ _ hX]; rfl,by rw [cell_of_row _ _ _ _ _ _ hX]; rfl,by rw [cell_of_row _ _ _ _ _ _ hX]; rfl,by rw [cell_of_row _ _ _ _ _ _ hX]; rfl,by rw [cell_of_row _ _ _ _ _ _ hX]; rfl,by rw [cell_of_row _ _ _ _ _ _ hX]; rfl,by rw [cell_of_row _ _ _ _ _ _ hX]; rfl,by rw [cell_of_row _ _ _ _ _ _ hX]; rfl,by rw [cell_of_row _ _ _ _ _ _ hX]; rfl,by rw [cell_of_row _ _ _ _ _ _ hX]; rfl,by rw [cell_of_row _ _ _ _ _ _ hX]; rfl⟩)
 clear FT K1 c2 k2 b1
 obtain ⟨⟨-,h0,h1,h2,h3,h4,h5,h6,h7,h8,h9,h10,h11,h12,h13,h14,h15,h16,h17,h18,h19,h20⟩,t0,t1,t2,t3,t4,t5,t6,t7,t8,t9,t10,t11,t12⟩:=KB.out w2 (Below.refl _ _)
 go_wp2_with fail
 refine F2.out.mono ?_
 rintro e w3 ⟨rfl,b3⟩
 have Z3:=Lib.hid b3
 have G3:=Lib.hid (GB.out _ (B2.out.trans (b3.mono B2.out.size)))
 clear b3 F2 h2 z10 z11 z12 s10 s11 s12
 clear h0 h1 h2 h3 h4 h5 h6 h7 h8 h9 h10 h11 h12 h13 h14 h15 h16 h17 h18 h19 h20 t0 t1 t2 t3 t4 t5 t6 t7 t8 t9 t10 t11 t12
 go_wp2_with fail
 refine (E2.out _ G3.out).mono ?_
 rintro e v4 ⟨a4,c4,U4,rfl,d4⟩
 obtain ⟨w4,h4⟩:∃ X,v4.alloc (boxTt a4 c4 U4) = X:=⟨_,rfl⟩
 have Z4:=Lib.hid (by have e:=(box_tt h4).1; have f:=d4.trans (e.mono d4.size); exact Z3.out.trans (f.mono Z3.out.size):Below w2.heap.size w2 w4)
 have G4:=Lib.hid (GB.out _ (B2.out.trans (Z4.out.mono B2.out.size)))
 clear d4 E2 G3 Z3
 go_wp2_with fail
 refine (E3.out _ G4.out).mono ?_
 rintro e v5 ⟨a5,c5,U5,rfl,d5⟩
 obtain ⟨w5,h5⟩:∃ X,v5.alloc (boxTt a5 c5 U5) = X:=⟨_,rfl⟩
 have Z5:=Lib.hid (by have e:=(box_tt h5).1; have f:=d5.trans (e.mono d5.size); exact Z4.out.trans (f.mono Z4.out.size):Below w2.heap.size w2 w5)
 have G5:=Lib.hid (GB.out _ (B2.out.trans (Z5.out.mono B2.out.size)))
 clear d5 E3 G4 Z4
 go_wp2_with fail
 refine (E4.out _ G5.out).mono ?_
 rintro e v6 ⟨a6,c6,U6,rfl,d6⟩
 obtain ⟨w6,h6⟩:∃ X,v6.alloc (boxTt a6 c6 U6) = X:=⟨_,rfl⟩
 have Z6:=Lib.hid (by have e:=(box_tt h6).1; have f:=d6.trans (e.mono d6.size); exact Z5.out.trans (f.mono Z5.out.size):Below w2.heap.size w2 w6)
 have G6:=Lib.hid (GB.out _ (B2.out.trans (Z6.out.mono B2.out.size)))
 clear d6 E4 G5 Z5
 go_wp2_with fail
 refine (E5.out _ G6.out).mono ?_
 rintro e v7 ⟨a7,c7,U7,rfl,d7⟩
 obtain ⟨w7,h7⟩:∃ X,v7.alloc (boxTt a7 c7 U7) = X:=⟨_,rfl⟩
 have Z7:=Lib.hid (by have e:=(box_tt h7).1; have f:=d7.trans (e.mono d7.size); exact Z6.out.trans (f.mono Z6.out.size):Below w2.heap.size w2 w7)
 have G7:=Lib.hid (GB.out _ (B2.out.trans (Z7.out.mono B2.out.size)))
 clear d7 E5 G6 Z6
 go_wp2_with fail
 obtain ⟨wd,hd⟩:∃ X,World.drew w7 = X:=⟨_,rfl⟩
 have ed:Below w7.heap.size w7 wd:=by rw [← hd]; exact (Below.refl _ _).drew
 have ZD:Hid (Below w2.heap.size w2 wd):=Lib.hid (Z7.out.trans (ed.mono Z7.out.size))
 clear ed
 have SF:Hid (∀ X:World,Below wd.heap.size wd X→X.cell? ⟨w1.heap.size,4,none⟩ = some (.slice (some ⟨b4,o4,none⟩) 1 n4)∧X.cell? ⟨b4,o4 + 4,none⟩ = some (.slice (some ⟨bc,oc,none⟩) 2 mm)∧X.cell? ⟨bc,oc,none⟩ = some (.int .i64 0)∧X.cell? ⟨bc,oc + 1,none⟩ = some (.int .i64 28800)∧X.cell? ⟨bc,oc + 2,none⟩ = some (.int .i64 28800)∧X.cell? ⟨bc,oc + 3,none⟩ = some (.bool true)∧X.cell? ⟨bc,oc + 4,none⟩ = some (.bool false)∧X.cell? ⟨bc,oc + 5,none⟩ = some (.int .i64 1)∧X.cell? ⟨bc,oc + 6,none⟩ = some (.int .i64 30600)∧X.cell? ⟨bc,oc + 7,none⟩ = some (.int .i64 30660)∧X.cell? ⟨bc,oc + 8,none⟩ = some (.bool false)∧X.cell? ⟨bc,oc + 9,none⟩ = some (.bool true)):=Lib.hid (fun X b=>by
  obtain ⟨⟨-,h0,h1,h2,h3,h4,h5,h6,h7,h8,h9,h10,h11,h12,h13,h14,h15,h16,h17,h18,h19,h20⟩,t0,t1,t2,t3,t4,t5,t6,t7,t8,t9,t10,t11,t12⟩:=KB.out X (ZD.out.trans (b.mono ZD.out.size))
  exact ⟨t4,h4,h5,h6,h7,h8,h9,h10,h11,h12,h13,h14⟩)
 refine startT (S:=fun X=>X.cell? ⟨w1.heap.size,4,none⟩ = some (.slice (some ⟨b4,o4,none⟩) 1 n4)∧X.cell? ⟨b4,o4 + 4,none⟩ = some (.slice (some ⟨bc,oc,none⟩) 2 mm)∧X.cell? ⟨bc,oc,none⟩ = some (.int .i64 0)∧X.cell? ⟨bc,oc + 1,none⟩ = some (.int .i64 28800)∧X.cell? ⟨bc,oc + 2,none⟩ = some (.int .i64 28800)∧X.cell? ⟨bc,oc + 3,none⟩ = some (.bool true)∧X.cell? ⟨bc,oc + 4,none⟩ = some (.bool false)∧X.cell? ⟨bc,oc + 5,none⟩ = some (.int .i64 1)∧X.cell? ⟨bc,oc + 6,none⟩ = some (.int .i64 30600)∧X.cell? ⟨bc,oc + 7,none⟩ = some (.int .i64 30660)∧X.cell? ⟨bc,oc + 8,none⟩ = some (.bool false)∧X.cell? ⟨bc,oc + 9,none⟩ = some (.bool true)) _ 18 rfl (by kernel_rfl) (by kernel_rfl) (by kernel_rfl) (bitsL 18 0) (by kernel_rfl) (by rw [hd]; exact SF.out _ (Below.refl _ _)) (fun _=>?_)
 rw [hd]
 refine takesT (L:=[(0,93,pt w1.heap.size 4),(1,94,.slice (some ⟨b4,o4,none⟩) 1 n4),(2,95,pt b4 o4),(3,96,pt b4 (o4 + 4)),(4,97,.slice (some ⟨bc,oc,none⟩) 2 mm),(5,98,pt bc oc),(6,99,.agg #[.int .i64 0,.int .i64 28800,.int .i64 28800,.bool true,.bool false]),(7,100,pt w1.heap.size 4),(8,101,.slice (some ⟨b4,o4,none⟩) 1 n4),(9,102,pt b4 o4),(10,103,pt b4 (o4 + 4)),(11,104,.slice (some ⟨bc,oc,none⟩) 2 mm),(12,105,pt bc (oc + 5)),(13,106,.agg #[.int .i64 1,.int .i64 30600,.int .i64 30660,.bool false,.bool true])]) (.q (.cons rfl rfl (.inl ⟨rfl,fun _ h=>by obtain ⟨y0,y1,y2,y3,y4,y5,y6,y7,y8,y9,y10,y11⟩:=h; dsimp only [pt]; go_simp; try with_reducible rfl⟩) (.cons rfl rfl (.inl ⟨rfl,fun W _=>exec_ixaddr (w:=W) 27 56 (.tmp 94) (.const (.int .i64 0)) (by kernel_rfl) b4 o4 1 n4 0 5 (by kernel_rfl) (by kernel_rfl) (by decide) Tryz.underlying27 (fun w=>by simp [Tryz.sizeOf56])⟩) (.q (.cons rfl rfl (.inl ⟨rfl,fun _ h=>by obtain ⟨y0,y1,y2,y3,y4,y5,y6,y7,y8,y9,y10,y11⟩:=h; dsimp only [pt]; go_simp; try with_reducible rfl⟩) (.cons rfl rfl (.inl ⟨rfl,fun W _=>exec_ixaddr (w:=W) 54 58 (.tmp 97) (.const (.int .i64 0)) (by kernel_rfl) bc oc 2 mm 0 5 (by kernel_rfl) (by kernel_rfl) (by decide) Tryz.underlying54 (fun w=>by simp [Tryz.sizeOf58])⟩) (.cons rfl rfl (.inl ⟨rfl,fun _ h=>by obtain ⟨y0,y1,y2,y3,y4,y5,y6,y7,y8,y9,y10,y11⟩:=h; dsimp only [pt]; go_simp; try with_reducible rfl⟩) (.q (.cons rfl rfl (.inl ⟨rfl,fun _ h=>by obtain ⟨y0,y1,y2,y3,y4,y5,y6,y7,y8,y9,y10,y11⟩:=h; dsimp only [pt]; go_simp; try with_reducible rfl⟩) (.cons rfl rfl (.inl ⟨rfl,fun W _=>exec_ixaddr (w:=W) 27 56 (.tmp 101) (.const (.int .i64 0)) (by kernel_rfl) b4 o4 1 n4 0 5 (by kernel_rfl) (by kernel_rfl) (by decide) Tryz.underlying27 (fun w=>by simp [Tryz.sizeOf56])⟩) (.q (.cons rfl rfl (.inl ⟨rfl,fun _ h=>by obtain ⟨y0,y1,y2,y3,y4,y5,y6,y7,y8,y9,y10,y11⟩:=h; dsimp only [pt]; go_simp; try with_reducible rfl⟩) (.cons rfl rfl (.inl ⟨rfl,fun W _=>exec_ixaddr (w:=W) 54 58 (.tmp 104) (.const (.int .i64 1)) (by kernel_rfl) bc oc 2 mm 1 5 (by kernel_rfl) (by kernel_rfl) (by decide) Tryz.underlying54 (fun w=>by simp [Tryz.sizeOf58])⟩) (.cons rfl rfl (.inl ⟨rfl,fun _ h=>by obtain ⟨y0,y1,y2,y3,y4,y5,y6,y7,y8,y9,y10,y11⟩:=h; dsimp only [pt]; go_simp; try with_reducible rfl⟩) .nil)))))))))))))) [0,1,2,3,4,5,6,7,8,9,10,11,12,13] rfl rfl (by kernel_rfl) (fun _ _ _ _ _ h=>h) (SF.out _ (Below.refl _ _)) ?_
 have al:∀ X:World,Below wd.heap.size wd X→Below wd.heap.size wd (X.alloc (.cells #[.int .i64 0,.int .i64 0,.int .i64 0,.bool false,.bool false] 58 (0,0))):=fun X b=>b.alloc b.size _
 refine twoT (i:=14) (j:=15) 18 19 _ rfl (by kernel_rfl) (by kernel_rfl) (by kernel_rfl) (by decide) rfl rfl (by kernel_rfl) (by kernel_rfl) (fun _=>by kernel_rfl) (fun _=>by kernel_rfl) (by decide)
  (fun W u q=>∃ x y,u = pt x 0∧q = pt y 0∧x≠y∧W.heap[x]? = some (.cells #[.int .i64 0,.int .i64 0,.int .i64 0,.bool false,.bool false] 58 (0,0))∧W.heap[y]? = some (.cells #[.int .i64 0,.int .i64 0,.int .i64 0,.bool false,.bool false] 58 (0,0))∧Below wd.heap.size wd W∧wd.heap.size≤x∧wd.heap.size≤y)
  (fun W u=>u = pt wd.heap.size 0∧W = wd.alloc (.cells #[.int .i64 0,.int .i64 0,.int .i64 0,.bool false,.bool false] 58 (0,0))) (fun W q=>q = pt wd.heap.size 0∧W = wd.alloc (.cells #[.int .i64 0,.int .i64 0,.int .i64 0,.bool false,.bool false] 58 (0,0))) ?_ ?_ ?_ ?_ ?_
 ·intro K hK
  exact operV 18 rfl (by kernel_rfl) (hK.out _ _ _ rfl (SF.out _ (al _ (Below.refl _ _))) ⟨rfl,rfl⟩)
 ·rintro u W _ ⟨rfl,rfl⟩ K hK
  refine operV 19 rfl (by kernel_rfl) (hK.out _ _ _ rfl (SF.out _ (al _ (al _ (Below.refl _ _)))) ⟨wd.heap.size,(wd.alloc (.cells #[.int .i64 0,.int .i64 0,.int .i64 0,.bool false,.bool false] 58 (0,0))).heap.size,rfl,rfl,by simp,?_,heap_alloc_new _ _,al _ (al _ (Below.refl _ _)),Nat.le_refl _,by simp⟩)
  exact alloc_old _ _ (heap_alloc_new _ _)
 ·intro K hK
  exact operV 19 rfl (by kernel_rfl) (hK.out _ _ _ rfl (SF.out _ (al _ (Below.refl _ _))) ⟨rfl,rfl⟩)
 ·rintro u W _ ⟨rfl,rfl⟩ K hK
  refine operV 18 rfl (by kernel_rfl) (hK.out _ _ _ rfl (SF.out _ (al _ (al _ (Below.refl _ _)))) ⟨(wd.alloc (.cells #[.int .i64 0,.int .i64 0,.int .i64 0,.bool false,.bool false] 58 (0,0))).heap.size,wd.heap.size,rfl,rfl,by simp,heap_alloc_new _ _,?_,al _ (al _ (Below.refl _ _)),by simp,Nat.le_refl _⟩)
  exact alloc_old _ _ (heap_alloc_new _ _)
 rintro u q wx _ ⟨x,y,rfl,rfl,hxy,hx,hy,bx,lx,ly⟩
 obtain ⟨wy,hwy⟩:∃ X,wx.setRow x #[.int .i64 0,.int .i64 28800,.int .i64 28800,.bool true,.bool false] = X:=⟨_,rfl⟩
 have by1:Below wd.heap.size wd wy:=by rw [← hwy]; exact grown_up bx (grown_row wx x _) (fun k e=>by cases e; exact lx)
 have hx1:wy.heap[x]? = some (.cells #[.int .i64 0,.int .i64 28800,.int .i64 28800,.bool true,.bool false] 58 (0,0)):=by rw [← hwy]; exact setRow_heap wx x _ _ _ (0,0) hx
 have hy1:wy.heap[y]? = some (.cells #[.int .i64 0,.int .i64 0,.int .i64 0,.bool false,.bool false] 58 (0,0)):=by rw [← hwy,setRow_other wx x y _ (fun e=>hxy e.symm)]; exact hy
 refine storeT (i:=16) (w':=wy) _ rfl (by kernel_rfl) rfl rfl (by kernel_rfl) (by rw [← hwy]; exact exec_store_row 58 (.tmp 18) (.tmp 99) (by kernel_rfl) x #[.int .i64 0,.int .i64 28800,.int .i64 28800,.bool true,.bool false] (by kernel_rfl) (by kernel_rfl) _ _ hx (by kernel_rfl) (by kernel_rfl) (by kernel_rfl)) (SF.out _ by1) ?_
 obtain ⟨wz,hwz⟩:∃ X,wy.setRow y #[.int .i64 1,.int .i64 30600,.int .i64 30660,.bool false,.bool true] = X:=⟨_,rfl⟩
 have bz1:Below wd.heap.size wd wz:=by rw [← hwz]; exact grown_up by1 (grown_row wy y _) (fun k e=>by cases e; exact ly)
 have hy2:wz.heap[y]? = some (.cells #[.int .i64 1,.int .i64 30600,.int .i64 30660,.bool false,.bool true] 58 (0,0)):=by rw [← hwz]; exact setRow_heap wy y _ _ _ (0,0) hy1
 have hx2:wz.heap[x]? = some (.cells #[.int .i64 0,.int .i64 28800,.int .i64 28800,.bool true,.bool false] 58 (0,0)):=by rw [← hwz,setRow_other wy y x _ hxy]; exact hx1
 refine storeT (i:=17) (w':=wz) _ rfl (by kernel_rfl) rfl rfl (by kernel_rfl) (by rw [← hwz]; exact exec_store_row 58 (.tmp 19) (.tmp 106) (by kernel_rfl) y #[.int .i64 1,.int .i64 30600,.int .i64 30660,.bool false,.bool true] (by kernel_rfl) (by kernel_rfl) _ _ hy1 (by kernel_rfl) (by kernel_rfl) (by kernel_rfl)) (SF.out _ bz1) ?_
 refine doneT (by kernel_rfl) ?_
 have x_0:wz.cell? ⟨x,0,none⟩ = some (.int .i64 0):=by rw [cell_of_row _ _ _ _ _ _ hx2]; rfl
 have x_1:wz.cell? ⟨x,1,none⟩ = some (.int .i64 28800):=by rw [cell_of_row _ _ _ _ _ _ hx2]; rfl
 have x_2:wz.cell? ⟨x,2,none⟩ = some (.int .i64 28800):=by rw [cell_of_row _ _ _ _ _ _ hx2]; rfl
 have x_3:wz.cell? ⟨x,3,none⟩ = some (.bool true):=by rw [cell_of_row _ _ _ _ _ _ hx2]; rfl
 have x_4:wz.cell? ⟨x,4,none⟩ = some (.bool false):=by rw [cell_of_row _ _ _ _ _ _ hx2]; rfl
 have y_0:wz.cell? ⟨y,0,none⟩ = some (.int .i64 1):=by rw [cell_of_row _ _ _ _ _ _ hy2]; rfl
 have y_1:wz.cell? ⟨y,1,none⟩ = some (.int .i64 30600):=by rw [cell_of_row _ _ _ _ _ _ hy2]; rfl
 have y_2:wz.cell? ⟨y,2,none⟩ = some (.int .i64 30660):=by rw [cell_of_row _ _ _ _ _ _ hy2]; rfl
 have y_3:wz.cell? ⟨y,3,none⟩ = some (.bool false):=by rw [cell_of_row _ _ _ _ _ _ hy2]; rfl
 have y_4:wz.cell? ⟨y,4,none⟩ = some (.bool true):=by rw [cell_of_row _ _ _ _ _ _ hy2]; rfl
 have ZZ:=Lib.hid (ZD.out.trans (bz1.mono ZD.out.size))
 obtain ⟨⟨-,h0,h1,h2,h3,h4,h5,h6,h7,h8,h9,h10,h11,h12,h13,h14,h15,h16,h17,h18,h19,h20⟩,t0,t1,t2,t3,t4,t5,t6,t7,t8,t9,t10,t11,t12⟩:=KB.out wz ZZ.out
 have sq:=bytes_eq (a:=sB) (b:=sB) rfl
 have q1:=fun W=>eql_cc_same 0 28800 28800 true false W
 have q2:=fun W=>eql_cc_same 1 30600 30660 false true W
 have q3:=fun W=>eql_pa_same 0 1 600 false W
 clear SF hx hy bx lx ly hwy by1 hx1 hy1 hwz bz1 hy2 hx2 al hxy hd
 go_wp2_with fail
 refine (C0.out _).mono ?_
 rintro e w9 ⟨rfl,rfl⟩
 go_wp2_with fail
 go_ret
 exact ⟨rfl,B2.out.trans (ZZ.out.mono B2.out.size)⟩
open Go Go.RowKit Go.ChangeShapes Go.WideShapes Go.Deep
theorem star_err:"*" ++ "errors.errorString" = "*errors.errorString":=by decide
theorem row_err (u:TypeId) (h:Tryz.prog.typeName? 3 u = some "*errors.errorString"):u = 330 :=
 typeName_ptr_named (nm:="errors.errorString") (by rw [star_err]; kernel_rfl) (by kernel_rfl) (by decide) u (by rw [star_err]; exact h)
theorem cells_of_strs {H:Type} {enc:TypeId × Value→H} {W:World} {base:Nat} {sp:Nat→Bool} {held:Bool} {fuel:Nat} {t e:TypeId} {n:Nat} {cs:List Value} {ls:List (List UInt8)} {p:List MemPlace}
  (ht:Tryz.prog.underlying t = some (.array n e)) (he:Tryz.prog.underlying e = some .string) (hce:Tryz.prog.cellsOf e = 1) (hct:Tryz.prog.cellsOf t = n)
  (h:DataW.trod enc Tryz.prog W base sp held fuel t cs = some (.agg (ls.map fun l=>(.lit (.string l):DataW H)),p)):cs = ls.map fun l=>Value.string (str l):=by
 cases fuel with
 | zero=>simp [DataW.trod] at h
 | succ fuel =>
  simp only [DataW.trod,ht,hce,hct,Nat.mul_one] at h
  split at h
  ·next hl =>
   obtain ⟨xs,hm,hx⟩:=Option.map_eq_some_iff.1 h
   have hxs:xs.map (·.1) = ls.map fun l=>(DataW.lit (.string l):DataW H):=by
    have:=congrArg Prod.fst hx
    simpa using this
   have hxl:xs.length = n:=by simpa using Lib.mapM_length hm
   have hzl:ls.length = n:=by
    have:=congrArg List.length hxs
    simp at this
    omega
   apply List.ext_getElem?
   intro i
   by_cases hi:i < n
   ·obtain ⟨b,hb,hf⟩:=Lib.mapM_at hm i i (by simp [hi])
    obtain ⟨s,hc,rfl,-⟩:=DataW.trod_string he hf
    have h1:cs[i]? = some (.string s):=by
     have:=congrArg (·[0]?) hc
     simpa [List.getElem?_take,List.getElem?_drop] using this
    have h2:(xs.map (·.1))[i]? = some (DataW.lit (.string s.data.toList):DataW H):=by simp [hb]
    rw [hxs] at h2
    simp only [List.getElem?_map,Option.map_eq_some_iff,DataW.lit.injEq,Lit.string.injEq] at h2
    obtain ⟨l,hl2,rfl⟩:=h2
    simp [h1,hl2,str_list]
   ·rw [List.getElem?_eq_none (by omega),List.getElem?_eq_none (by simp; omega)]
  ·cases h
theorem strs_of_laid {W:World} {nm:String} {d:DataW Unit} {r:List (String × DataW Unit)} {g:Nat} {t:TypeId} {n:Nat} {ls:List Bs} (hd0:d = .agg (ls.map fun l=>.lit (.string l))) (hg:Tryz.prog.globalNamed nm = some g) (ht:(Tryz.prog.globals[g]?).map (·.type) = some t)
  (hu:Tryz.prog.underlying t = some (.array n 9)) (hct:Tryz.prog.cellsOf t = n) (h:laidMet Tryz.prog ((nm,d) :: r) W):W.var? Tryz.prog nm = some (ls.map fun k=>Value.string (str k)).toArray:=by
 subst hd0
 obtain ⟨ps,⟨g',t',cs,fuel,p,q,hg',ht',hvar,hd,_,_⟩,_⟩:=h
 obtain rfl:=Option.some.inj (hg.symm.trans hg')
 obtain rfl:=Option.some.inj (ht.symm.trans ht')
 have e:=cells_of_strs (ls:=ls) hu Tryz.underlying9 (by kernel_rfl) hct hd
 rw [hvar,show cs = (ls.map fun k=>Value.string (str k)).toArray from Array.toList_inj.1 (by rw [e])]
theorem good_of_laid {W:World} (h:laidMet Tryz.prog [("math/bits.deBruijn32tab",Rows.laid_math_bits_deBruijn32tab),("math/bits.deBruijn64tab",Rows.laid_math_bits_deBruijn64tab),("internal/strconv.uint64pow10",Rows.laid_internal_strconv_uint64pow10),("unicode/utf8.acceptRanges",Rows.laid_unicode_utf8_acceptRanges),("strconv.ErrRange",Rows.laid_strconv_ErrRange),("strconv.ErrSyntax",Rows.laid_strconv_ErrSyntax),("transit/date.monthLengths",Rows.laid_transit_date_monthLengths),("transit/route.names",Rows.laid_transit_route_names),("transit/feed.kinds",Rows.laid_transit_feed_kinds),("unicode/utf8.first",Rows.laid_unicode_utf8_first)] W):GoodF W:=by
 have h2:=h.tail
 have h3:=h2.tail
 have h5:=h3.tail.tail
 have h7:=h5.tail.tail
 have h8:=h7.tail
 have h9:=h8.tail
 obtain ⟨a,_,hv,_⟩:=laid_sentinel h5 S3.gRange (by kernel_rfl) Tryz.underlying220 row_err Tryz.underlying330 Tryz.underlying332 rfl rfl Tryz.underlying9 (by kernel_rfl) (by kernel_rfl)
 exact ⟨⟨Lib.tabIs_of_head (k:=.i64) (zs:=S2.lens) (t:=295) (e:=3) (n:=12) S2.gLens (by kernel_rfl) (by kernel_rfl) (by kernel_rfl) (by kernel_rfl) (by kernel_rfl) h7,
  Lib.tabIs_of_head (k:=.u64) (zs:=Lib.pow10Tab) (t:=328) (e:=225) (n:=20) S2.gPow (by kernel_rfl) (by kernel_rfl) (by kernel_rfl) (by kernel_rfl) (by kernel_rfl) h3⟩,⟨_,_,hv⟩,
  ⟨Lib.tabIs_of_head (k:=.u8) (zs:=tab64) (t:=297) (e:=5) (n:=64) gTab (by kernel_rfl) (by kernel_rfl) (by kernel_rfl) (by kernel_rfl) (by kernel_rfl) h2,strs_of_laid (ls:=nmL) (t:=227) (n:=8) rfl S15.gNames (by kernel_rfl) Tryz.underlying227 (by kernel_rfl) h8⟩,
  strs_of_laid (ls:=kinds.take 10) (t:=105) (n:=10) rfl gKinds (by kernel_rfl) Tryz.underlying105 (by kernel_rfl) h9⟩
theorem flines_fin (x:ByteArray) (W:World) (hg:GoodF W):Calls Tryz.prog 8 #[.string x] W fun e W'=>e = .returned (.bool true)∧Below W.heap.size W W':=by
 have:=flines_law ex_holds x.data.toList W hg
 rwa [show str x.data.toList = x from rfl] at this
end Go.Proofs.YtpifdbphmnifdaaGreatDoor
